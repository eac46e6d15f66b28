/- Numbers without an end in memory: what comes in, what is answered. -/
import Derived.Test.YtjdbapkmaggllaaDoorRows
import Derived.Test.YtjdbapkmaggllaaDoorLim
import Derived.Test.YtjdbapkmaggllaaDoorRow
import Derived.WalkKit
import Derived.WalkLawsBesides
import Derived.OwnWalk
import Derived.KernelRfl
namespace Go.Proofs.YtjdbapkmaggllaaDoor
open Go.RowKit Fo
set_option maxRecDepth 100000

theorem ret_bool {a b : Bool} (h : a = b) : Ending.returned (.bool a) = .returned (.bool b) := by rw [h]
theorem ret_int {k : IntKind} {a b : Int} (h : a = b) : Ending.returned (.int k a) = .returned (.int k b) := by rw [h]
namespace Fo
def u32s (L : Nat → Nat) (j : Nat) : Value := .int .u32 (L j)
theorem u32s_one (L : Nat → Nat) (n j : Nat) (_ : j < n) : (u32s L j).oneCell' = true := rfl
/-- A number that comes in: infinity, or what its digits are worth. -/
def NIn (w : World) (v : Value) (X : Option Nat) : Prop :=
  ∃ (i : Bool) (a : Option Addr) (n c : Nat) (L : Nat → Nat), v = .agg #[.bool i, .slice a n c] ∧ Rd w a n c (u32s L) ∧ (∀ j, L j < 4294967296) ∧ n ≤ 100000 ∧ X = if i then none else some (lv L n)
/-- A number that is answered. -/
def NOut (w : World) (v : Value) (X : Option Nat) : Prop :=
  (X = none ∧ ∃ a c, v = .agg #[.bool true, .slice a 0 c] ∧ c ≤ 9223372036854775807) ∨ ∃ N a c, X = some N ∧ v = .agg #[.bool false, .slice a (ln N) c] ∧ Rd w a (ln N) c (u32s (dg N))
theorem NIn.below {w w1 : World} {v : Value} {X : Option Nat} (h : NIn w v X) (hb : Below w.heap.size w w1) : NIn w1 v X := by
  obtain ⟨i, a, n, c, L, h1, h2, h3⟩ := h
  exact ⟨i, a, n, c, L, h1, h2.below hb, h3⟩
theorem NOut.below {w w1 : World} {v : Value} {X : Option Nat} (h : NOut w v X) (hb : Below w.heap.size w w1) : NOut w1 v X := by
  rcases h with h | ⟨N, a, c, h1, h2, h3⟩
  · exact Or.inl h
  · exact Or.inr ⟨N, a, c, h1, h2, h3.below hb⟩
theorem NOut.nin {w : World} {v : Value} {X : Option Nat} (h : NOut w v X) (hX : ∀ N, X = some N → ln N ≤ 100000) : NIn w v X := by
  rcases h with ⟨rfl, a, c, rfl, hc⟩ | ⟨N, a, c, rfl, rfl, h3⟩
  · exact ⟨true, a, 0, c, fun _ => 0, rfl, Rd.empty _ _ _ hc _, fun _ => by show 0 < 4294967296; decide, by decide, rfl⟩
  · exact ⟨false, a, ln N, c, dg N, rfl, h3, dg_lt N, hX N rfl, by rw [lv_ln]; rfl⟩
end Fo
theorem t22 : Tryd.prog.underlying 22 = some (.slice 59) := Tryd.underlying22
noncomputable def eU32 : Elt Tryd.prog 22 59 := ⟨Tryd.t59, .int .u32 0, 4, Tryd.underlying22, by kernel_rfl, by kernel_rfl, by kernel_rfl, by kernel_rfl, rfl, by decide⟩
/-- A slice's length: for a loop's measure. -/
def sLen : Value → Nat | .slice _ k _ => k | _ => 0
theorem made_at (E : TypeId) (B : Nat) (w : World) (V : Nat → Value) (g : Nat) (hg : w.heap.size = g) (hB : B ≤ w.heap.size) : Ow E B (w.alloc (.cells #[] E)) (.slice (some ⟨g, 0, none⟩) 0 0) 0 V := hg ▸ Ow.made E B w V hB
theorem below3 (w : World) (o1 o2 o3 : Obj) : Below w.heap.size w (((w.alloc o1).alloc o2).alloc o3) := (((below_refl w).alloc (Nat.le_refl _) _).alloc (by simp) _).alloc (by simp; omega) _
theorem below2 (w : World) (o1 o2 : Obj) : Below w.heap.size w ((w.alloc o1).alloc o2) := ((below_refl w).alloc (Nat.le_refl _) _).alloc (by simp) _
theorem catV_zero (X V : Nat → Value) : ∀ j, catV X 0 V j = V j := fun j => by unfold catV; rw [if_neg (by omega)]; rfl
theorem Fo.Ow.setCell {E : TypeId} {B : Nat} {w : World} {v : Value} {n : Nat} {V : Nat → Value} (h : Ow E B w v n V) (p : Addr) (hp : p.block < B) (u : Value) : Ow E B (w.setCell p u) v n V := by
  refine ⟨h.1, ?_⟩
  rcases h.2 with hn | ⟨g, cap, cur, rfl, hb, hgg, rest⟩
  · exact Or.inl hn
  · exact Or.inr ⟨g, cap, cur, rfl, hb, by rw [Below.heap_setCell w p u g (by omega)]; exact hgg, rest⟩
theorem clean_worth (L : Nat → Nat) (n k M : Nat) (hL : ∀ j, L j < 4294967296) (hM : lv L n = M) (hk : k ≤ n) (h0 : ∀ j, k ≤ j → j < n → L j = 0) (ht : k = 0 ∨ L (k - 1) ≠ 0) : k = ln M ∧ ∀ j, j < k → L j = dg M j := by
  have h1 := lv_noughts L k n hk h0
  have h2 := ln_of L k (fun j _ => hL j) ht
  rw [← h1, hM] at h2
  refine ⟨h2.symm, fun j hj => ?_⟩
  rw [← hM, h1, dg_lv L k (fun j _ => hL j) j hj]
theorem clean_end (a1 : Option Addr) (n k c1 M : Nat) (L : Nat → Nat) (w w1 : World) (x y : Value) (HB : Below w.heap.size w w1) (HO : Ow 59 (w.heap.size + 1 + 1) w1 (.slice a1 n c1) n (u32s L)) (hL : ∀ j, L j < 4294967296) (hM : lv L n = M) (hk : k ≤ n) (h0 : ∀ j, k ≤ j → j < n → L j = 0) (ht : k = 0 ∨ L (k - 1) ≠ 0) (e : Ending) (he : e = .returned (.agg #[.bool false, .slice a1 k c1])) :
    (∃ a' c', e = .returned (.agg #[.bool false, .slice a' (ln M) c']) ∧ Rd ((w1.setCell ⟨w.heap.size + 1, 0, none⟩ x).setCell ⟨w.heap.size + 1, 1, none⟩ y) a' (ln M) c' (u32s (dg M))) ∧ Below w.heap.size w ((w1.setCell ⟨w.heap.size + 1, 0, none⟩ x).setCell ⟨w.heap.size + 1, 1, none⟩ y) := by
  obtain ⟨rfl, hd⟩ := clean_worth L n k M hL hM hk h0 ht
  refine ⟨⟨a1, c1, he, ?_⟩, (HB.setCell (by show w.heap.size ≤ w.heap.size + 1; omega) _).setCell (by show w.heap.size ≤ w.heap.size + 1; omega) _⟩
  have h2 := (HO.setCell ⟨w.heap.size + 1, 0, none⟩ (by show w.heap.size + 1 < _; omega) x).setCell ⟨w.heap.size + 1, 1, none⟩ (by show w.heap.size + 1 < _; omega) y
  refine (h2.rd1.head _ hk).congr fun j hj => ?_
  unfold u32s; rw [hd j hj]
end Go.Proofs.YtjdbapkmaggllaaDoor
