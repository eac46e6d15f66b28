/- The document's own Compare, OfNat and May. -/
import Derived.Test.YtjdbapkmaggllaaDoorMem
import Derived.BigQuiet
namespace Go.Proofs.YtjdbapkmaggllaaDoor
open Go.RowKit Fo
set_option maxRecDepth 100000

namespace Fo
/-- Compare, on what numbers are worth. -/
def ocmp : Option Nat → Option Nat → Int
  | none, none => 0
  | none, some _ => 1
  | some _, none => -1
  | some m, some n => if m < n then -1 else if m = n then 0 else 1
theorem NOut.form {w : World} {v : Value} {X : Option Nat} (h : NOut w v X) : ∃ (i : Bool) (a : Option Addr) (n c : Nat), v = .agg #[.bool i, .slice a n c] ∧ n ≤ c ∧ c ≤ 9223372036854775807 ∧ ((i = true ∧ n = 0 ∧ X = none) ∨ ∃ N, i = false ∧ X = some N ∧ n = ln N ∧ Rd w a n c (u32s (dg N))) := by
  rcases h with ⟨rfl, a, c, rfl, hc⟩ | ⟨N, a, c, rfl, rfl, h3⟩
  · exact ⟨true, a, 0, c, rfl, Nat.zero_le _, hc, Or.inl ⟨rfl, rfl, rfl⟩⟩
  · exact ⟨false, a, ln N, c, rfl, h3.1, h3.2.1, Or.inr ⟨N, rfl, rfl, rfl, h3⟩⟩
end Fo
/-- A struct of two cells that was put into a block of its own is still there behind a call. -/
theorem box_cell {W w2 : World} {g : Nat} {x y : Value} {t : TypeId} (h : W.heap[g]? = some (.cells #[x, y] t)) (hB : Below W.heap.size W w2) : w2.cell? ⟨g, 0, none⟩ = some x ∧ w2.cell? ⟨g, 1, none⟩ = some y := by
  have hlt : g < W.heap.size := (Array.getElem?_eq_some_iff.1 h).1
  have h2 : w2.heap[g]? = some (.cells #[x, y] t) := (hB.block g hlt).trans h
  constructor <;> simp [World.cell?, h2]
theorem heap_2nd (w : World) (o1 o2 : Obj) : ((w.alloc o1).alloc o2).heap[w.heap.size + 1]? = some o2 := by
  rw [← (show (w.alloc o1).heap.size = w.heap.size + 1 by simp), heap_alloc_new]
theorem heap_1st (w : World) (o1 o2 : Obj) : ((w.alloc o1).alloc o2).heap[w.heap.size]? = some o1 := by
  rw [Below.heap_alloc _ _ _ (by simp), heap_alloc_new]
/-- What Compare comes to where both numbers have as many digits. -/
theorem cmp_top (M N k : Nat) (hk : k < ln M) (hl : ln M = ln N) (he : ∀ j, k < j → j < ln M → dg M j = dg N j) (h : dg M k < dg N k) : M < N := by
  have h1 := lv_lt_of (dg M) (dg N) k (fun j _ => dg_lt M j) h (ln M) hk he
  rw [lv_ln] at h1
  rw [hl, lv_ln] at h1
  exact h1
theorem cmp_all (M N : Nat) (hl : ln M = ln N) (he : ∀ j, j < ln M → dg M j = dg N j) : M = N := by
  have h1 := lv_congr (ln M) he
  rw [lv_ln] at h1
  rw [hl, lv_ln] at h1
  exact h1
theorem ret_cmp {a b : Int} (h : a = b) : Ending.returned (.int .i64 a) = .returned (.int .i64 b) := by rw [h]
end Go.Proofs.YtjdbapkmaggllaaDoor
