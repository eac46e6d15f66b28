/- A variable of five cells that is read and written; values that are answered. -/
import Derived.Test.YtjdbapkmaggllaaGreatDoorS21
import Derived.Test.YtjdbapkmaggllaaGreatDoorS25
import Derived.Test.YtjdbapkmaggllaaGreatDoorS26
namespace Go.Proofs.YtjdbapkmaggllaaGreatDoor
open Go.RowKit Fo
set_option maxRecDepth 100000

/-- A variable of five cells: it may be read and written. -/
theorem box5_facts {w : World} {g : Nat} {x0 x1 x2 x3 x4 : Value} {t : TypeId} (hg : w.heap[g]? = some (.cells #[x0, x1, x2, x3, x4] t)) :
    (w.cell? ⟨g, 0, none⟩ = some x0 ∧ w.cell? ⟨g, 1, none⟩ = some x1 ∧ w.cell? ⟨g, 2, none⟩ = some x2 ∧ w.cell? ⟨g, 3, none⟩ = some x3 ∧ w.cell? ⟨g, 4, none⟩ = some x4) ∧
    (w.frozen? ⟨g, 0, none⟩ = false ∧ w.frozen? ⟨g, 1, none⟩ = false ∧ w.frozen? ⟨g, 2, none⟩ = false ∧ w.frozen? ⟨g, 3, none⟩ = false ∧ w.frozen? ⟨g, 4, none⟩ = false) ∧
    (∀ u, (w.setCell ⟨g, 0, none⟩ u).cell? ⟨g, 0, none⟩ = some u) ∧
    (∀ u v, ((w.setCell ⟨g, 0, none⟩ u).setCell ⟨g, 1, none⟩ v).cell? ⟨g, 1, none⟩ = some v) ∧
    (∀ u v y, (((w.setCell ⟨g, 0, none⟩ u).setCell ⟨g, 1, none⟩ v).setCell ⟨g, 2, none⟩ y).cell? ⟨g, 2, none⟩ = some y) ∧
    (∀ u v y z, ((((w.setCell ⟨g, 0, none⟩ u).setCell ⟨g, 1, none⟩ v).setCell ⟨g, 2, none⟩ y).setCell ⟨g, 3, none⟩ z).cell? ⟨g, 3, none⟩ = some z) ∧
    (∀ u v y z q, (((((w.setCell ⟨g, 0, none⟩ u).setCell ⟨g, 1, none⟩ v).setCell ⟨g, 2, none⟩ y).setCell ⟨g, 3, none⟩ z).setCell ⟨g, 4, none⟩ q).cell? ⟨g, 4, none⟩ = some q) := by
  have h0 : w.cell? ⟨g, 0, none⟩ = some x0 := by simp [World.cell?, hg]
  have h1 : w.cell? ⟨g, 1, none⟩ = some x1 := by simp [World.cell?, hg]
  have h2 : w.cell? ⟨g, 2, none⟩ = some x2 := by simp [World.cell?, hg]
  have h3 : w.cell? ⟨g, 3, none⟩ = some x3 := by simp [World.cell?, hg]
  have h4 : w.cell? ⟨g, 4, none⟩ = some x4 := by simp [World.cell?, hg]
  exact ⟨⟨h0, h1, h2, h3, h4⟩, ⟨by simp [World.frozen?, hg], by simp [World.frozen?, hg], by simp [World.frozen?, hg], by simp [World.frozen?, hg], by simp [World.frozen?, hg]⟩,
    fun u => World.cell?_setCell_same' w _ u (by rw [h0]; rfl), fun u v => World.cell?_setCell_same' _ _ v (by simp [h1, go_sem]), fun u v y => World.cell?_setCell_same' _ _ y (by simp [h2, go_sem]),
    fun u v y z => World.cell?_setCell_same' _ _ z (by simp [h3, go_sem]), fun u v y z q => World.cell?_setCell_same' _ _ q (by simp [h4, go_sem])⟩
theorem below_set5 {w w2 : World} {g : Nat} (h : Below w.heap.size w w2) (hg : w.heap.size ≤ g) (u v y z q : Value) :
    Below w.heap.size w (((((w2.setCell ⟨g, 0, none⟩ u).setCell ⟨g, 1, none⟩ v).setCell ⟨g, 2, none⟩ y).setCell ⟨g, 3, none⟩ z).setCell ⟨g, 4, none⟩ q) :=
  ((((h.setCell hg _).setCell hg _).setCell hg _).setCell hg _).setCell hg _
theorem set5_other (w : World) (g b k : Nat) (hb : b ≠ g) (u v y z q : Value) :
    (((((w.setCell ⟨g, 0, none⟩ u).setCell ⟨g, 1, none⟩ v).setCell ⟨g, 2, none⟩ y).setCell ⟨g, 3, none⟩ z).setCell ⟨g, 4, none⟩ q).cell? ⟨b, k, none⟩ = w.cell? ⟨b, k, none⟩ := by
  have e : ∀ (w : World) (o : Nat) (x : Value), (w.setCell ⟨g, o, none⟩ x).cell? ⟨b, k, none⟩ = w.cell? ⟨b, k, none⟩ := fun w o x => by
    unfold World.cell?
    rw [Below.heap_setCell w ⟨g, o, none⟩ x b (by exact hb)]
  rw [e, e, e, e, e]
/-- Digits lie in no variable of a value's kind. -/
theorem Fo.Rd.set5 {w : World} {a : Option Addr} {n c : Nat} {L : Nat → Nat} {g : Nat} {s l : Int} {i : Bool} {a0 : Option Addr} {n0 c0 x : Nat} {t : TypeId} (h : Rd w a n c (u32s L))
    (hg : w.heap[g]? = some (.cells #[.int .i64 s, .bool i, .slice a0 n0 c0, .int .i64 l, .float .f64 x] t)) (u v y z q : Value) :
    Rd (((((w.setCell ⟨g, 0, none⟩ u).setCell ⟨g, 1, none⟩ v).setCell ⟨g, 2, none⟩ y).setCell ⟨g, 3, none⟩ z).setCell ⟨g, 4, none⟩ q) a n c (u32s L) := by
  obtain ⟨h1, h2, h3⟩ := h
  refine ⟨h1, h2, ?_⟩
  rcases h3 with h3 | ⟨b, off, rfl, hc⟩
  · exact Or.inl h3
  · refine Or.inr ⟨b, off, rfl, fun j hj => ?_⟩
    have hcj := hc j hj
    by_cases e : b = g
    · exfalso
      subst e
      unfold u32s at hcj
      simp only [World.cell?, hg] at hcj
      match hoj : off + j with
      | 0 => rw [hoj] at hcj; simp at hcj
      | 1 => rw [hoj] at hcj; simp at hcj
      | 2 => rw [hoj] at hcj; simp at hcj
      | 3 => rw [hoj] at hcj; simp at hcj
      | 4 => rw [hoj] at hcj; simp at hcj
      | k + 5 => rw [hoj] at hcj; simp at hcj
    · rw [set5_other w g b _ e]; exact hcj
theorem Fo.NOut.set5 {w : World} {g : Nat} {s l : Int} {i : Bool} {a0 : Option Addr} {n0 c0 x : Nat} {t : TypeId} {nv : Value} {X : Option Nat} (h : NOut w nv X)
    (hg : w.heap[g]? = some (.cells #[.int .i64 s, .bool i, .slice a0 n0 c0, .int .i64 l, .float .f64 x] t)) (u v y z q : Value) :
    NOut (((((w.setCell ⟨g, 0, none⟩ u).setCell ⟨g, 1, none⟩ v).setCell ⟨g, 2, none⟩ y).setCell ⟨g, 3, none⟩ z).setCell ⟨g, 4, none⟩ q) nv X := by
  rcases h with h | ⟨N, a, c, h1, h2, h3⟩
  · exact Or.inl h
  · exact Or.inr ⟨N, a, c, h1, h2, h3.set5 hg u v y z q⟩
namespace Fo
/-- What a value is worth in its semiring. -/
def denV (V : Vl) : Option Nat := if V.s = 1 ∨ V.s = 3 then (if V.i then none else some (lv V.L V.n)) else if V.s = 2 ∨ V.s = 4 then some V.l.toNat else some V.x
/-- A value that may be, of a semiring, with its worth. -/
def VOk (w : World) (v : Value) (s : Int) (P : Option Nat) : Prop := ∃ V, VIn w v V ∧ mayV V = 0 ∧ V.s = s ∧ denV V = P
def topL (s : Int) : Nat := if s = 2 then 1 else 7
def topX (s : Int) : Nat := if s = 5 then 4607182418800017408 else 9218868437227405312
/-- A value that is answered. -/
def VOut (w : World) (v : Value) (s : Int) (P : Option Nat) : Prop :=
  ((s = 1 ∨ s = 3) ∧ ∃ i a n c, v = .agg #[.int .i64 s, .bool i, .slice a n c, .int .i64 0, .float .f64 0] ∧ NOut w (.agg #[.bool i, .slice a n c]) P)
  ∨ ((s = 2 ∨ s = 4) ∧ ∃ l : Nat, P = some l ∧ l ≤ topL s ∧ v = .agg #[.int .i64 s, .bool false, .slice none 0 0, .int .i64 (l : Int), .float .f64 0])
  ∨ ((s = 5 ∨ s = 6) ∧ ∃ x : Nat, P = some x ∧ x ≤ topX s ∧ v = .agg #[.int .i64 s, .bool false, .slice none 0 0, .int .i64 0, .float .f64 x])
def noV : Value := .agg #[.int .i64 0, .bool false, .slice none 0 0, .int .i64 0, .float .f64 0]
theorem VOk.below {w w1 : World} {v : Value} {s : Int} {P : Option Nat} (h : VOk w v s P) (hb : Below w.heap.size w w1) : VOk w1 v s P := by
  obtain ⟨V, h1, h2⟩ := h
  exact ⟨V, h1.below hb, h2⟩
theorem VOut.below {w w1 : World} {v : Value} {s : Int} {P : Option Nat} (h : VOut w v s P) (hb : Below w.heap.size w w1) : VOut w1 v s P := by
  rcases h with ⟨hs, i, a, n, c, rfl, h⟩ | h | h
  · exact Or.inl ⟨hs, i, a, n, c, rfl, h.below hb⟩
  · exact Or.inr (Or.inl h)
  · exact Or.inr (Or.inr h)
def Short (k : Nat) (P : Option Nat) : Prop := ∀ N, P = some N → ln N ≤ k
theorem VOut.ok {w : World} {v : Value} {s : Int} {P : Option Nat} (h : VOut w v s P) (hP : (s = 1 ∨ s = 3) → Short 10000 P) : VOk w v s P := by
  rcases h with ⟨hs, i, a, n, c, rfl, h⟩ | ⟨hs, l, rfl, hl, rfl⟩ | ⟨hs, x, rfl, hx, rfl⟩
  · have hsb : -9223372036854775808 ≤ s ∧ s ≤ 9223372036854775807 := by omega
    rcases h with ⟨rfl, a', c', e, hc⟩ | ⟨N, a', c', rfl, e, hr⟩
    · simp at e
      obtain ⟨rfl, rfl, rfl, rfl⟩ := e
      refine ⟨⟨s, true, 0, fun _ => 0, 0, 0⟩, ⟨a, c, rfl, Rd.empty _ _ _ hc _, fun _ => by show 0 < 4294967296; decide, by dsimp only; omega, by dsimp only; omega, by dsimp only; omega, hsb⟩, ?_, rfl, ?_⟩
      · unfold mayV; rw [if_pos hs]; rfl
      · unfold denV; rw [if_pos hs]; rfl
    · simp at e
      obtain ⟨rfl, rfl, rfl, rfl⟩ := e
      have hN := hP hs N rfl
      refine ⟨⟨s, false, ln N, dg N, 0, 0⟩, ⟨a, c, rfl, hr, dg_lt N, hN, by dsimp only; omega, by dsimp only; omega, hsb⟩, ?_, rfl, ?_⟩
      · have : mayB false (ln N) (dg N) = true := by
          unfold mayB
          rw [if_neg (by decide)]
          by_cases h0 : ln N = 0
          · simp [h0]
          · have := top_ne N (by omega)
            simp [this]
        unfold mayV; rw [if_pos hs, this]; rfl
      · unfold denV; rw [if_pos hs]
        show some (lv (dg N) (ln N)) = some N
        rw [lv_ln]
  · have hsb : -9223372036854775808 ≤ s ∧ s ≤ 9223372036854775807 := by omega
    have hl7 : l ≤ 7 := by unfold topL at hl; split at hl <;> omega
    refine ⟨⟨s, false, 0, fun _ => 0, l, 0⟩, ⟨none, 0, rfl, Rd.empty _ _ _ (by decide) _, fun _ => by show 0 < 4294967296; decide, by dsimp only; omega, by dsimp only; omega, by dsimp only; omega, hsb⟩, ?_, rfl, ?_⟩
    · unfold mayV topL at *
      rcases hs with rfl | rfl
      · rw [if_neg (by dsimp only; omega), if_pos rfl, if_pos]
        simp at hl ⊢; omega
      · rw [if_neg (by dsimp only; omega), if_neg (by dsimp only; omega), if_pos rfl, if_pos]
        simp at hl ⊢; omega
    · unfold denV
      rw [if_neg (by show ¬ (s = 1 ∨ s = 3); omega), if_pos hs]
      rfl
  · have hsb : -9223372036854775808 ≤ s ∧ s ≤ 9223372036854775807 := by omega
    have hx7 : x ≤ 9218868437227405312 := by unfold topX at hx; split at hx <;> omega
    refine ⟨⟨s, false, 0, fun _ => 0, 0, x⟩, ⟨none, 0, rfl, Rd.empty _ _ _ (by decide) _, fun _ => by show 0 < 4294967296; decide, by dsimp only; omega, by dsimp only; omega, by dsimp only; omega, hsb⟩, ?_, rfl, ?_⟩
    · unfold mayV topX at *
      rcases hs with rfl | rfl
      · rw [if_neg (by dsimp only; omega), if_neg (by dsimp only; omega), if_neg (by dsimp only; omega), if_pos rfl, if_pos]
        simpa using hx
      · rw [if_neg (by dsimp only; omega), if_neg (by dsimp only; omega), if_neg (by dsimp only; omega), if_neg (by dsimp only; omega), if_pos rfl, if_pos]
        simpa using hx
    · unfold denV
      rw [if_neg (by show ¬ (s = 1 ∨ s = 3); omega), if_neg (by show ¬ (s = 2 ∨ s = 4); omega)]
end Fo
end Go.Proofs.YtjdbapkmaggllaaGreatDoor
