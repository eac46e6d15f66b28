/-
  DERIVED. GIVEN WITH THE SEED: THE CARDS: each row of YtbgkfjelgnbfmaaGreatDoorRows.lean that lists a variable, with what it lists TIED to the program's text (the seventh form; the later family's looks); each row that meets fmt, with fmt's text TOLD by the authors' own Lean function (tested against real Go, not proved from fmt's source: count such statements apart). THE CARD IS WHAT COUNTS. Prove the row's statement (the work); the ties are given (YtbgkfjelgnbfmaaGreatDoorTie.lean); close each card by the builder's one call (the guide's Derived/Test/ToyasCard.lean, 'card_holds'). Laid BY PROGRAM, IN A SANDBOX (cutbox-door.mjs). By AI agents, Wed Nov 11 2026. No macro, syntax, notation, axiom, sorry.
-/
import Derived.Test.YtbgkfjelgnbfmaaGreatDoorRows
import GoSem.ClaimSeven
namespace Go.Proofs.YtbgkfjelgnbfmaaGreatDoor
namespace Rows

/-- THE TIED CARD OF 'tansylaw7.PathReads'. -/
def pathReadsCard : Claim7 := { stood := { row := pathReadsRow, standIns := [], harness := (true, "be49d32e3a655149da1d65f5ee763ce17c2e007e18352ff8e1ec11330a3bafec"), looks := true }, kinds := [], alts := [], laidByText := true, laidKinds := [.data, .data, .data, .sentinel, .sentinel], laidTests := true, laidLooks := .later }
def PathReadsCardSaid : Prop := Claim7.holds Tryz.pinned (.plain (OpenSpec.ofChange pathReadsSpec)) pathReadsCard

/-- THE TIED CARD OF 'tansylaw7.PathBack'. -/
def pathBackCard : Claim7 := { stood := { row := pathBackRow, standIns := [], harness := (true, "be49d32e3a655149da1d65f5ee763ce17c2e007e18352ff8e1ec11330a3bafec"), looks := true }, kinds := [], alts := [], laidByText := true, laidKinds := [.data, .data, .data, .sentinel, .sentinel], laidTests := true, laidLooks := .later }
def PathBackCardSaid : Prop := Claim7.holds Tryz.pinned (.plain (OpenSpec.ofChange pathBackSpec)) pathBackCard

/-- THE TIED CARD OF 'tansylaw7.PathGrows'. -/
def pathGrowsCard : Claim7 := { stood := { row := pathGrowsRow, standIns := [], harness := (true, "be49d32e3a655149da1d65f5ee763ce17c2e007e18352ff8e1ec11330a3bafec"), looks := true }, kinds := [], alts := [], laidByText := true, laidKinds := [.data, .data, .data, .sentinel, .sentinel], laidTests := true, laidLooks := .later }
def PathGrowsCardSaid : Prop := Claim7.holds Tryz.pinned (.plain (OpenSpec.ofChange pathGrowsSpec)) pathGrowsCard

/-- THE TIED CARD OF 'tansylaw7.PathBinds'. -/
def pathBindsCard : Claim7 := { stood := { row := pathBindsRow, standIns := [], harness := (true, "be49d32e3a655149da1d65f5ee763ce17c2e007e18352ff8e1ec11330a3bafec"), looks := true }, kinds := [], alts := [], laidByText := true, laidKinds := [.data, .data, .data, .sentinel, .sentinel], laidTests := true, laidLooks := .later }
def PathBindsCardSaid : Prop := Claim7.holds Tryz.pinned (.plain (OpenSpec.ofChange pathBindsSpec)) pathBindsCard

/-- THE TIED CARD OF 'tansylaw7.PathBrackets'. -/
def pathBracketsCard : Claim7 := { stood := { row := pathBracketsRow, standIns := [], harness := (true, "be49d32e3a655149da1d65f5ee763ce17c2e007e18352ff8e1ec11330a3bafec"), looks := true }, kinds := [], alts := [], laidByText := true, laidKinds := [.data, .data, .data, .sentinel, .sentinel], laidTests := true, laidLooks := .later }
def PathBracketsCardSaid : Prop := Claim7.holds Tryz.pinned (.plain (OpenSpec.ofChange pathBracketsSpec)) pathBracketsCard

/-- THE SECOND FORM's CARD OF 'tansylaw7.PathReads'. -/
def pathReadsUptoCard : Claim7 := { stood := { row := pathReadsUptoRow, standIns := [], harness := (true, "be49d32e3a655149da1d65f5ee763ce17c2e007e18352ff8e1ec11330a3bafec"), looks := true }, kinds := [], alts := [], laidByText := true, laidKinds := [.data, .data, .data, .sentinel, .sentinel], laidTests := true, laidLooks := .later }
def PathReadsUptoCardSaid : Prop := Claim7.holds Tryz.pinned (.plain (OpenSpec.upto pathReadsSpec)) pathReadsUptoCard

/-- THE SECOND FORM's CARD OF 'tansylaw7.PathBack'. -/
def pathBackUptoCard : Claim7 := { stood := { row := pathBackUptoRow, standIns := [], harness := (true, "be49d32e3a655149da1d65f5ee763ce17c2e007e18352ff8e1ec11330a3bafec"), looks := true }, kinds := [], alts := [], laidByText := true, laidKinds := [.data, .data, .data, .sentinel, .sentinel], laidTests := true, laidLooks := .later }
def PathBackUptoCardSaid : Prop := Claim7.holds Tryz.pinned (.plain (OpenSpec.upto pathBackSpec)) pathBackUptoCard

/-- THE SECOND FORM's CARD OF 'tansylaw7.PathGrows'. -/
def pathGrowsUptoCard : Claim7 := { stood := { row := pathGrowsUptoRow, standIns := [], harness := (true, "be49d32e3a655149da1d65f5ee763ce17c2e007e18352ff8e1ec11330a3bafec"), looks := true }, kinds := [], alts := [], laidByText := true, laidKinds := [.data, .data, .data, .sentinel, .sentinel], laidTests := true, laidLooks := .later }
def PathGrowsUptoCardSaid : Prop := Claim7.holds Tryz.pinned (.plain (OpenSpec.upto pathGrowsSpec)) pathGrowsUptoCard

/-- THE SECOND FORM's CARD OF 'tansylaw7.PathBinds'. -/
def pathBindsUptoCard : Claim7 := { stood := { row := pathBindsUptoRow, standIns := [], harness := (true, "be49d32e3a655149da1d65f5ee763ce17c2e007e18352ff8e1ec11330a3bafec"), looks := true }, kinds := [], alts := [], laidByText := true, laidKinds := [.data, .data, .data, .sentinel, .sentinel], laidTests := true, laidLooks := .later }
def PathBindsUptoCardSaid : Prop := Claim7.holds Tryz.pinned (.plain (OpenSpec.upto pathBindsSpec)) pathBindsUptoCard

/-- THE SECOND FORM's CARD OF 'tansylaw7.PathBrackets'. -/
def pathBracketsUptoCard : Claim7 := { stood := { row := pathBracketsUptoRow, standIns := [], harness := (true, "be49d32e3a655149da1d65f5ee763ce17c2e007e18352ff8e1ec11330a3bafec"), looks := true }, kinds := [], alts := [], laidByText := true, laidKinds := [.data, .data, .data, .sentinel, .sentinel], laidTests := true, laidLooks := .later }
def PathBracketsUptoCardSaid : Prop := Claim7.holds Tryz.pinned (.plain (OpenSpec.upto pathBracketsSpec)) pathBracketsUptoCard
end Rows
end Go.Proofs.YtbgkfjelgnbfmaaGreatDoor
