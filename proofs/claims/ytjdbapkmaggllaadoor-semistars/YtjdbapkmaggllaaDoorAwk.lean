/- What the laws ask of the program besides: awake. -/
import Derived.Test.YtjdbapkmaggllaaDoorTxt
import Derived.Test.YtjdbapkmaggllaaDoorMln
import Derived.Test.YtjdbapkmaggllaaDoorLaw
import Derived.Deep.RegionHeld3
namespace Go.Proofs.YtjdbapkmaggllaaDoor
open Go.RowKit Fo
set_option maxRecDepth 100000

theorem text_big : otext (some (4294967296 * 4294967296)) = [49, 56, 52, 52, 54, 55, 52, 52, 48, 55, 51, 55, 48, 57, 53, 53, 49, 54, 49, 54] := by
  show Lib.decDigits 18446744073709551616 = _
  repeat rw [dec_big _ (by decide)]
  rw [Lib.decDigits_one (by decide)]
  decide
theorem text_zero : otext (some 0) = [48] := by
  show Lib.decDigits 0 = _
  rw [Lib.decDigits_one (by decide)]
  decide
theorem text_at (w : World) (v : Value) (X : Option Nat) (l : List UInt8) (h : NIn w v X) (henv : Env w) (hl : otext X = l) : Calls Tryd.prog 39 #[v] w fun e w' => e = .returned (.string ⟨l.toArray⟩) ∧ Below w.heap.size w w' := by
  rw [← hl]; exact text_any w v X h henv
theorem mul_at (w : World) (v1 v2 : Value) (X1 X2 X : Option Nat) (h1 : NIn w v1 X1) (h2 : NIn w v2 X2) (hb1 : ∀ N, X1 = some N → ln N ≤ 10000) (hb2 : ∀ N, X2 = some N → ln N ≤ 10000) (e : omul X1 X2 = X) :
    Calls Tryd.prog 44 #[v1, v2] w fun e w' => (∃ u, e = .returned u ∧ NOut w' u X) ∧ Below w.heap.size w w' := by
  rw [← e]; exact mul_any w v1 v2 X1 X2 h1 h2 hb1 hb2
theorem nin_inf (w : World) : NIn w (.agg #[.bool true, .slice none 0 0]) none := (nout_inf w).nin fun _ e => by cases e
theorem ln_big : ln (4294967296 * 4294967296) ≤ 100000 := Nat.le_trans (ln_le 3 _ (by decide)) (by decide)
theorem compare_at (w : World) (v1 v2 : Value) (X1 X2 : Option Nat) (q : Int) (h1 : NIn w v1 X1) (h2 : NIn w v2 X2) (e : ocmp X1 X2 = q) : Calls Tryd.prog 32 #[v1, v2] w fun e w' => e = .returned (.int .i64 q) ∧ Below w.heap.size w w' := by
  rw [← e]; exact compare_any w v1 v2 X1 X2 h1 h2
end Go.Proofs.YtjdbapkmaggllaaDoor
