/- The document's own Add. -/
import Derived.Test.YtjdbapkmaggllaaDoorAdd
import Derived.Deep.DeepCutAuto
namespace Go.Proofs.YtjdbapkmaggllaaDoor
open Go.RowKit Fo
set_option maxRecDepth 100000

namespace Fo
/-- Add, on what numbers are worth. -/
def oadd : Option Nat → Option Nat → Option Nat
  | some m, some n => some (m + n)
  | _, _ => none
/-- What is carried into a place. -/
def cy (A B k : Nat) : Nat := (A % 4294967296 ^ k + B % 4294967296 ^ k) / 4294967296 ^ k
theorem cy_zero (A B : Nat) : cy A B 0 = 0 := by simp [cy, Nat.mod_one]
theorem mod_succ (A k : Nat) : A % 4294967296 ^ (k + 1) = A % 4294967296 ^ k + 4294967296 ^ k * dg A k := by
  rw [Nat.pow_succ, Nat.mod_mul, dg]
theorem add_top (A B k : Nat) : cy A B k + dg A k + dg B k = (A % 4294967296 ^ (k + 1) + B % 4294967296 ^ (k + 1)) / 4294967296 ^ k := by
  rw [mod_succ, mod_succ, cy, show A % 4294967296 ^ k + 4294967296 ^ k * dg A k + (B % 4294967296 ^ k + 4294967296 ^ k * dg B k) = A % 4294967296 ^ k + B % 4294967296 ^ k + 4294967296 ^ k * (dg A k + dg B k) by rw [Nat.mul_add]; omega, Nat.add_mul_div_left _ _ (bp k)]
  omega
theorem add_carry (A B k : Nat) : (cy A B k + dg A k + dg B k) / 4294967296 = cy A B (k + 1) := by
  rw [add_top, Nat.div_div_eq_div_mul, cy, Nat.pow_succ]
theorem add_digit (A B k : Nat) : (cy A B k + dg A k + dg B k) % 4294967296 = dg (A + B) k := by
  rw [add_top]
  have hA := Nat.div_add_mod A (4294967296 ^ (k + 1))
  have hB := Nat.div_add_mod B (4294967296 ^ (k + 1))
  have e : A + B = A % 4294967296 ^ (k + 1) + B % 4294967296 ^ (k + 1) + 4294967296 ^ k * (4294967296 * (A / 4294967296 ^ (k + 1) + B / 4294967296 ^ (k + 1))) := by
    have hp : 4294967296 ^ k * 4294967296 = 4294967296 ^ (k + 1) := (Nat.pow_succ ..).symm
    rw [← Nat.mul_assoc, hp, Nat.mul_add]; omega
  unfold dg
  rw [e, Nat.add_mul_div_left _ _ (bp k), Nat.add_mul_mod_self_left]
theorem cy_le (A B k : Nat) : cy A B k ≤ 1 := by
  unfold cy
  have h1 := Nat.mod_lt A (bp k)
  have h2 := Nat.mod_lt B (bp k)
  have : (A % 4294967296 ^ k + B % 4294967296 ^ k) / 4294967296 ^ k < 2 := Nat.div_lt_of_lt_mul (by omega)
  omega
theorem lt_of_ln {N k : Nat} (h : ln N ≤ k) : N < 4294967296 ^ k := Nat.lt_of_lt_of_le (lt_ln _ N rfl) (Nat.pow_le_pow_right (by decide) h)
theorem dg_high {N k : Nat} (h : ln N ≤ k) : dg N k = 0 := by unfold dg; rw [Nat.div_eq_of_lt (lt_of_ln h)]
theorem cy_end {A B k : Nat} (hA : ln A ≤ k) (hB : ln B ≤ k) (h : cy A B k = 0) : lv (dg (A + B)) k = A + B := by
  unfold cy at h
  rw [Nat.mod_eq_of_lt (lt_of_ln hA), Nat.mod_eq_of_lt (lt_of_ln hB)] at h
  refine lv_dg_of _ _ ?_
  rcases Nat.lt_or_ge (A + B) (4294967296 ^ k) with h' | h'
  · exact h'
  · have := Nat.div_pos h' (bp k)
    omega
theorem cy_past {A B k : Nat} (hA : ln A ≤ k) (hB : ln B ≤ k) : cy A B (k + 1) = 0 := by
  rw [← add_carry, dg_high hA, dg_high hB]
  have := cy_le A B k
  exact Nat.div_eq_of_lt (by omega)
end Fo
theorem below3' (w : World) (o1 o2 o3 : Obj) : Below w.heap.size w (((w.alloc o1).alloc o2).alloc o3) := below3 w o1 o2 o3
theorem heap3_1 (w : World) (o1 o2 o3 : Obj) : (((w.alloc o1).alloc o2).alloc o3).heap[w.heap.size + 1]? = some o2 := by
  rw [Below.heap_alloc _ _ _ (by simp), heap_2nd]
theorem heap3_2 (w : World) (o1 o2 o3 : Obj) : (((w.alloc o1).alloc o2).alloc o3).heap[w.heap.size + 1 + 1]? = some o3 := by
  rw [← (show ((w.alloc o1).alloc o2).heap.size = w.heap.size + 1 + 1 by simp), heap_alloc_new]
/-- One value in a new block. -/
theorem rd_one (w : World) (v : Value) (t : TypeId) : Rd (w.alloc (.cells #[v] t)) (some ⟨w.heap.size, 0, none⟩) 1 1 (fun _ => v) := by
  refine ⟨by decide, by decide, Or.inr ⟨_, _, rfl, fun j hj => ?_⟩⟩
  obtain rfl : j = 0 := by omega
  rw [World.cell?_alloc_new]; rfl
theorem one_more (V : Nat → Value) (k : Nat) (v : Value) (h : v = V k) : ∀ j, j < k + 1 → catV V k (fun _ => v) j = V j := fun j hj => by
  unfold catV; split
  · rfl
  · rw [h, show j = k by omega]
end Go.Proofs.YtjdbapkmaggllaaDoor
