/-
  DERIVED. GIVEN WITH THE SEED: THE CARDS: each row of YtjdbapkmaggllaaDoorRows.lean that lists a variable, with what it lists TIED to the program's text (the seventh form; the later family's looks); each row that meets fmt, with fmt's text TOLD by the authors' own Lean function (tested against real Go, not proved from fmt's source: count such statements apart). THE CARD IS WHAT COUNTS. Prove the row's statement (the work); the ties are given (YtjdbapkmaggllaaDoorTie.lean); close each card by the builder's one call (the guide's Derived/Test/ToyasCard.lean, 'card_holds'). Laid BY PROGRAM, IN A SANDBOX (cutbox-door.mjs). By AI agents, Wed Nov 11 2026. No macro, syntax, notation, axiom, sorry.
-/
import Derived.Test.YtjdbapkmaggllaaDoorRows
import GoSem.ClaimSeven
namespace Go.Proofs.YtjdbapkmaggllaaDoor
namespace Rows

/-- THE TIED CARD OF 'tansylaw4.SemiStars'. -/
def semiStarsCard : Claim7 := { stood := { row := semiStarsRow, standIns := [], harness := (true, "33c9b3133033f0fafa1135f8219bcec63a1c1d1f22bc98a313d00f153ce104ff"), looks := false }, kinds := [], alts := [], laidByText := true, laidKinds := [.data, .data, .data], laidTests := true, laidLooks := .later }
def SemiStarsCardSaid : Prop := Claim7.holds Tryd.pinned (.plain (OpenSpec.ofChange semiStarsSpec)) semiStarsCard

/-- THE TIED CARD OF 'tansylaw4.SemiBetter'. -/
def semiBetterCard : Claim7 := { stood := { row := semiBetterRow, standIns := [], harness := (true, "33c9b3133033f0fafa1135f8219bcec63a1c1d1f22bc98a313d00f153ce104ff"), looks := false }, kinds := [], alts := [], laidByText := true, laidKinds := [.data, .data, .data], laidTests := true, laidLooks := .later }
def SemiBetterCardSaid : Prop := Claim7.holds Tryd.pinned (.plain (OpenSpec.ofChange semiBetterSpec)) semiBetterCard

/-- THE TIED CARD OF 'tansylaw4.SemiMixed'. -/
def semiMixedCard : Claim7 := { stood := { row := semiMixedRow, standIns := [], harness := (true, "33c9b3133033f0fafa1135f8219bcec63a1c1d1f22bc98a313d00f153ce104ff"), looks := false }, kinds := [], alts := [], laidByText := true, laidKinds := [.data, .data, .data], laidTests := true, laidLooks := .later }
def SemiMixedCardSaid : Prop := Claim7.holds Tryd.pinned (.plain (OpenSpec.ofChange semiMixedSpec)) semiMixedCard

/-- THE SECOND FORM's CARD OF 'tansylaw4.SemiStars'. -/
def semiStarsUptoCard : Claim7 := { stood := { row := semiStarsUptoRow, standIns := [], harness := (true, "33c9b3133033f0fafa1135f8219bcec63a1c1d1f22bc98a313d00f153ce104ff"), looks := false }, kinds := [], alts := [], laidByText := true, laidKinds := [.data, .data, .data], laidTests := true, laidLooks := .later }
def SemiStarsUptoCardSaid : Prop := Claim7.holds Tryd.pinned (.plain (OpenSpec.upto semiStarsSpec)) semiStarsUptoCard

/-- THE SECOND FORM's CARD OF 'tansylaw4.SemiBetter'. -/
def semiBetterUptoCard : Claim7 := { stood := { row := semiBetterUptoRow, standIns := [], harness := (true, "33c9b3133033f0fafa1135f8219bcec63a1c1d1f22bc98a313d00f153ce104ff"), looks := false }, kinds := [], alts := [], laidByText := true, laidKinds := [.data, .data, .data], laidTests := true, laidLooks := .later }
def SemiBetterUptoCardSaid : Prop := Claim7.holds Tryd.pinned (.plain (OpenSpec.upto semiBetterSpec)) semiBetterUptoCard

/-- THE SECOND FORM's CARD OF 'tansylaw4.SemiMixed'. -/
def semiMixedUptoCard : Claim7 := { stood := { row := semiMixedUptoRow, standIns := [], harness := (true, "33c9b3133033f0fafa1135f8219bcec63a1c1d1f22bc98a313d00f153ce104ff"), looks := false }, kinds := [], alts := [], laidByText := true, laidKinds := [.data, .data, .data], laidTests := true, laidLooks := .later }
def SemiMixedUptoCardSaid : Prop := Claim7.holds Tryd.pinned (.plain (OpenSpec.upto semiMixedSpec)) semiMixedUptoCard
end Rows
end Go.Proofs.YtjdbapkmaggllaaDoor
