/-
  DERIVED. GIVEN WITH THE SEED: THE CARDS: each row of YtklkcnpcjmeejabDoorRows.lean that lists a variable, with what it lists TIED to the program's text (the seventh form; the later family's looks); each row that meets fmt, with fmt's text TOLD by the authors' own Lean function (tested against real Go, not proved from fmt's source: count such statements apart). THE CARD IS WHAT COUNTS. Prove the row's statement (the work); the ties are given (YtklkcnpcjmeejabDoorTie.lean); close each card by the builder's one call (the guide's Derived/Test/ToyasCard.lean, 'card_holds'). Laid BY PROGRAM, IN A SANDBOX (cutbox-door.mjs). By AI agents, Wed Nov 11 2026. No macro, syntax, notation, axiom, sorry.
-/
import Derived.Test.YtklkcnpcjmeejabDoorRows
import GoSem.ClaimSeven
namespace Go.Proofs.YtklkcnpcjmeejabDoor
namespace Rows

/-- THE TIED CARD OF 'tansylaw3.NatLong'. -/
def natLongCard : Claim7 := { stood := { row := natLongRow, standIns := [], harness := (true, "b67c6f0441c6680f8508b0ae4bcd70adb9552cb4fd9248ae8677507b88e976e1"), looks := false }, kinds := [], alts := [], laidByText := true, laidKinds := [.data, .data, .data], laidTests := true, laidLooks := .later }
def NatLongCardSaid : Prop := Claim7.holds Tryd.pinned (.plain (OpenSpec.ofChange natLongSpec)) natLongCard

/-- THE SECOND FORM's CARD OF 'tansylaw3.NatLong'. -/
def natLongUptoCard : Claim7 := { stood := { row := natLongUptoRow, standIns := [], harness := (true, "b67c6f0441c6680f8508b0ae4bcd70adb9552cb4fd9248ae8677507b88e976e1"), looks := false }, kinds := [], alts := [], laidByText := true, laidKinds := [.data, .data, .data], laidTests := true, laidLooks := .later }
def NatLongUptoCardSaid : Prop := Claim7.holds Tryd.pinned (.plain (OpenSpec.upto natLongSpec)) natLongUptoCard
end Rows
end Go.Proofs.YtklkcnpcjmeejabDoor
