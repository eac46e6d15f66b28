/- The document's own Mul. -/
import Derived.Test.YtjdbapkmaggllaaDoorAdb
import Derived.Deep.OwnRows
namespace Go.Proofs.YtjdbapkmaggllaaDoor
open Go.RowKit Fo
set_option maxRecDepth 100000

namespace Fo
/-- Mul, on what numbers are worth. -/
def omul : Option Nat → Option Nat → Option Nat
  | some m, some n => some (m * n)
  | some m, none => if m = 0 then some 0 else none
  | none, some n => if n = 0 then some 0 else none
  | none, none => none
def upd (f : Nat → Nat) (p v j : Nat) : Nat := if j = p then v else f j
theorem upd_at (f : Nat → Nat) (p v : Nat) : upd f p v p = v := by simp [upd]
theorem upd_ne (f : Nat → Nat) (p v j : Nat) (h : j ≠ p) : upd f p v j = f j := by simp [upd, h]
theorem lv_upd (L : Nat → Nat) (p v : Nat) : ∀ n, p < n → lv (upd L p v) n + L p * 4294967296 ^ p = lv L n + v * 4294967296 ^ p
  | 0, h => by omega
  | n + 1, h => by
    rw [lv, lv]
    by_cases e : p = n
    · subst e
      rw [upd_at, lv_congr (L := upd L p v) (K := L) p (fun j hj => upd_ne L p v j (by omega))]
      omega
    · have ih := lv_upd L p v n (by omega)
      rw [upd_ne L p v n (by omega)]
      omega
theorem mul_step (L : Nat → Nat) (n p c x y P Q : Nat) (hp : p < n) (h : lv L n + c * 4294967296 ^ p = P + Q) :
    lv (upd L p ((c + x * y + L p) % 4294967296)) n + (c + x * y + L p) / 4294967296 * 4294967296 ^ (p + 1) = P + (Q + x * y * 4294967296 ^ p) := by
  have h1 := lv_upd L p ((c + x * y + L p) % 4294967296) n hp
  have h2 := Nat.div_add_mod (c + x * y + L p) 4294967296
  have h3 : (c + x * y + L p) / 4294967296 * 4294967296 ^ (p + 1) + (c + x * y + L p) % 4294967296 * 4294967296 ^ p = (c + x * y + L p) * 4294967296 ^ p := by
    rw [Nat.pow_succ, Nat.mul_comm (4294967296 ^ p), ← Nat.mul_assoc, ← Nat.add_mul, Nat.mul_comm _ 4294967296, h2]
  rw [Nat.add_mul, Nat.add_mul] at h3
  omega
theorem mul_q (B x i k : Nat) : x * 4294967296 ^ i * (B % 4294967296 ^ k) + x * dg B k * 4294967296 ^ (i + k) = x * 4294967296 ^ i * (B % 4294967296 ^ (k + 1)) := by
  rw [mod_succ, Nat.mul_add, Nat.pow_add]
  congr 1
  rw [Nat.mul_assoc x (dg B k), Nat.mul_assoc x, Nat.mul_comm (dg B k), Nat.mul_assoc]
theorem mul_row (A B i : Nat) : A % 4294967296 ^ i * B + dg A i * 4294967296 ^ i * B = A % 4294967296 ^ (i + 1) * B := by
  rw [mod_succ, Nat.add_mul, Nat.mul_comm (dg A i)]
theorem fl_upd (L : Nat → Nat) (n p v : Nat) (hp : p < n) : (fl (u32s L) n).toArray.setIfInBounds p (.int .u32 (v : Int)) = (fl (u32s (upd L p v)) n).toArray := by
  apply Array.ext'
  simp only [Array.toList_setIfInBounds]
  apply List.ext_getElem?
  intro j
  by_cases hj : j < n
  · rw [fl_get _ n j hj, List.getElem?_set]
    by_cases e : p = j
    · subst e
      rw [if_pos rfl, if_pos (by simp [fl_len, hp])]
      unfold u32s; rw [upd_at]
    · rw [if_neg e, fl_get _ n j hj]
      unfold u32s; rw [upd_ne L p v j (by omega)]
  · rw [List.getElem?_eq_none (by simp [fl_len]; omega), List.getElem?_eq_none (by simp [fl_len]; omega)]
end Fo
/-- A whole block of digits. -/
def Bk (w : World) (g n : Nat) (L : Nat → Nat) : Prop := w.heap[g]? = some (.cells (fl (u32s L) n).toArray 59)
theorem Bk.cell {w : World} {g n : Nat} {L : Nat → Nat} (h : Bk w g n L) (j : Nat) (hj : j < n) : w.cell? ⟨g, j, none⟩ = some (.int .u32 (L j)) := by
  have h' : w.heap[g]? = some (.cells (fl (u32s L) n).toArray 59) := h
  rw [cell_of_row w g j _ _ _ h']
  simp only [List.getElem?_toArray]
  rw [fl_get _ n j hj]; rfl
theorem Bk.frozen {w : World} {g n : Nat} {L : Nat → Nat} (h : Bk w g n L) (j : Nat) : w.frozen? ⟨g, j, none⟩ = false := by
  have h' : w.heap[g]? = some (.cells (fl (u32s L) n).toArray 59) := h
  simp [World.frozen?, h']
theorem Bk.set {w : World} {g n : Nat} {L : Nat → Nat} (h : Bk w g n L) (p v : Nat) (hp : p < n) : Bk (w.setCell ⟨g, p, none⟩ (.int .u32 (v : Int))) g n (upd L p v) := by
  have h' : w.heap[g]? = some (.cells (fl (u32s L) n).toArray 59) := h
  unfold Bk
  rw [← fl_upd L n p v hp]
  simp [World.setCell, Array.getElem?_modify, h']
theorem Bk.rd {w : World} {g n : Nat} {L : Nat → Nat} (h : Bk w g n L) (hn : n ≤ 1000000) : Rd w (some ⟨g, 0, none⟩) n n (u32s L) :=
  ⟨Nat.le_refl _, by omega, Or.inr ⟨g, 0, rfl, fun j hj => by rw [Nat.zero_add]; exact h.cell j hj⟩⟩
theorem bk_made (w : World) (n : Nat) : Bk (w.alloc (.cells (madeCells #[.int .u32 0] n) 59)) w.heap.size n (fun _ => 0) := by
  unfold Bk
  rw [heap_alloc_new]
  congr 2
  apply Array.ext'
  rw [toList_madeCells_one]
  apply List.ext_getElem?
  intro j
  by_cases hj : j < n
  · simp [hj, fl, u32s]
  · rw [List.getElem?_eq_none (by simp; omega), List.getElem?_eq_none (by simp [fl]; omega)]
/-- 0 as an answer. -/
theorem nout_zero (w : World) : NOut w (.agg #[.bool false, .slice none 0 0]) (some 0) := Or.inr ⟨0, none, 0, rfl, by rw [ln_zero], by rw [ln_zero]; exact Rd.empty _ _ _ (by decide) _⟩
theorem nout_inf (w : World) : NOut w (.agg #[.bool true, .slice none 0 0]) none := Or.inl ⟨rfl, none, 0, rfl, by decide⟩
theorem ln_eq_zero {N : Nat} (h : ln N = 0) : N = 0 := by
  have := lt_ln 0 N h
  simpa using this
end Go.Proofs.YtjdbapkmaggllaaDoor
