/- What the laws of the semirings say of worths. A variable of a value's kind whose fields are written one by one. -/
import Derived.Test.YtjdbapkmaggllaaGreatDoorS41
import Derived.Test.YtjdbapkmaggllaaGreatDoorS23
import Derived.Laws.Rows
namespace Go.Proofs.YtjdbapkmaggllaaGreatDoor
open Go.RowKit Fo
set_option maxRecDepth 100000

theorem blk_below {w1 w2 : World} {g : Nat} {o : Obj} (h : w1.heap[g]? = some o) (b : Below w1.heap.size w1 w2) : w2.heap[g]? = some o := (b.block g (Array.getElem?_eq_some_iff.1 h).1).trans h
theorem blk_lt {w1 : World} {g : Nat} {o : Obj} (h : w1.heap[g]? = some o) : g < w1.heap.size := (Array.getElem?_eq_some_iff.1 h).1
namespace Fo
/-- A worth that may be. -/
def okP (s : Int) (P : Option Nat) : Prop := (s = 1 ∨ s = 3) ∨ ((s = 2 ∨ s = 4) ∧ ∃ l, P = some l ∧ l ≤ topL s) ∨ ((s = 5 ∨ s = 6) ∧ ∃ x, P = some x ∧ x ≤ topX s)
theorem okP_of {V : Vl} (h : mayV V = 0) : okP V.s (denV V) := by
  rcases may_range h with ⟨hs, -⟩ | ⟨hs, ha⟩ | ⟨hs, ha⟩ | ⟨hs, hx⟩ | ⟨hs, hx⟩
  · exact Or.inl hs
  · exact Or.inr (Or.inl ⟨Or.inl hs, _, den_lev (Or.inl hs), by rw [hs]; show _ ≤ 1; omega⟩)
  · exact Or.inr (Or.inl ⟨Or.inr hs, _, den_lev (Or.inr hs), by rw [hs]; show _ ≤ 7; omega⟩)
  · exact Or.inr (Or.inr ⟨Or.inl hs, _, den_flo (Or.inl hs), by rw [hs]; exact hx⟩)
  · exact Or.inr (Or.inr ⟨Or.inr hs, _, den_flo (Or.inr hs), by rw [hs]; exact hx⟩)
theorem omin_eq (P Q : Option Nat) : omin P Q = match P, Q with | none, Q => Q | P, none => P | some p, some q => some (min p q) := by
  cases P <;> cases Q <;> simp [omin, ocmp]
  rename_i p q
  by_cases h : q < p
  · simp [h]; omega
  · by_cases e : q = p
    · simp [e]
    · simp [h, e]; omega
theorem omin_none_left (Q : Option Nat) : omin none Q = Q := by rw [omin_eq]
theorem omin_some (p q : Nat) : omin (some p) (some q) = some (min p q) := by rw [omin_eq]
theorem omin_none_right (p : Nat) : omin (some p) none = some p := by rw [omin_eq]
theorem tm_to_one (x : Nat) (hx : x ≤ 4607182418800017408) : Fl.Fo.tm x 4607182418800017408 = x := by
  have := (Fl.Fo.tm_one x (by omega) (Fl.Fo.in_of _ x (by decide) hx)).1
  rwa [Nat.mod_eq_of_lt (by omega)] at this
theorem ps_to_zero (x : Nat) (hx : x ≤ 9218868437227405312) : Fl.Fo.ps x 0 = x := by
  have := (Fl.Fo.ps_zero x (by omega) (Fl.Fo.in_of _ x (by decide) hx)).1
  rwa [Nat.mod_eq_of_lt (by omega)] at this
theorem star_rule (s : Int) (P : Option Nat) (h : okP s P) : padd s (pone s) (pmul s P (pstar s P)) = pstar s P := by
  rcases h with (rfl | rfl) | ⟨rfl | rfl, l, rfl, hl⟩ | ⟨rfl | rfl, x, rfl, hx⟩
  · by_cases h0 : P = some 0
    · subst h0; rfl
    · have e : pstar 1 P = none := by unfold pstar; rw [if_pos ⟨rfl, h0⟩]
      rw [e]
      show oadd (some 1) (omul P none) = none
      cases P with
      | none => rfl
      | some p =>
        have : p ≠ 0 := fun e => h0 (by rw [e])
        simp [omul, this, oadd]
  · show omin (some 0) (oadd P (some 0)) = some 0
    cases P with
    | none => rfl
    | some p => show omin (some 0) (some (p + 0)) = _; rw [omin_some]; simp
  · replace hl : l ≤ 1 := hl
    show some (max 1 (min l 1)) = some 1
    exact congrArg some (by omega)
  · replace hl : l ≤ 7 := hl
    show some (max 7 (min l 7)) = some 7
    exact congrArg some (by omega)
  · replace hx : x ≤ 4607182418800017408 := hx
    show some (max 4607182418800017408 (Fl.Fo.tm x 4607182418800017408)) = some 4607182418800017408
    rw [tm_to_one x hx]; exact congrArg some (by omega)
  · replace hx : x ≤ 9218868437227405312 := hx
    show some (min 0 (Fl.Fo.ps x 0)) = some 0
    rw [Nat.zero_min]
theorem plus_self (s : Int) (P : Option Nat) (h : okP s P) (h1 : s ≠ 1) : padd s P P = P := by
  rcases h with (rfl | rfl) | ⟨rfl | rfl, l, rfl, hl⟩ | ⟨rfl | rfl, x, rfl, hx⟩
  · exact absurd rfl h1
  · show omin P P = P
    cases P with
    | none => rfl
    | some p => rw [omin_some, Nat.min_self]
  · show some (max l l) = _; rw [Nat.max_self]
  · show some (max l l) = _; rw [Nat.max_self]
  · show some (max x x) = _; rw [Nat.max_self]
  · show some (min x x) = _; rw [Nat.min_self]
theorem den_short {w : World} {v : Value} {V : Vl} {k : Nat} (h : VIn w v V) (hk : V.n ≤ k) (hs : V.s = 1 ∨ V.s = 3) : Short k (denV V) := by
  rw [den_nat hs]; exact h.shortn hk
theorem pstar_short (s : Int) (P : Option Nat) (hs : s = 1 ∨ s = 3) : Short 2 (pstar s P) := by
  unfold pstar
  split
  · exact fun N e => by cases e
  · intro N e
    rcases hs with rfl | rfl
    · obtain rfl : 1 = N := Option.some.inj e
      exact Nat.le_trans (ln_le 1 1 (by decide)) (by decide)
    · obtain rfl : 0 = N := Option.some.inj e
      rw [ln_zero]; decide
end Fo
theorem vsame_yes (w : World) (v1 v2 : Value) (V1 V2 : Vl) (h1 : VIn w v1 V1) (h2 : VIn w v2 V2) (m1 : mayV V1 = 0) (m2 : mayV V2 = 0) (es : V1.s = V2.s) (ed : denV V1 = denV V2) : Calls Tryz.prog 23 #[v1, v2] w fun e w' => e = .returned (.bool true) ∧ Below w.heap.size w w' := by
  refine calls_bool (vsame_any w v1 v2 V1 V2 h1 h2) ?_
  unfold sameV
  rw [ok_err m1 m2 es, ed]; simp
theorem vplus_at (w : World) (v1 v2 : Value) (V1 V2 : Vl) (s : Int) (P Q : Option Nat) (h1 : VIn w v1 V1) (h2 : VIn w v2 V2) (m1 : mayV V1 = 0) (m2 : mayV V2 = 0) (e1 : V1.s = s) (e2 : V2.s = s) (d1 : denV V1 = P) (d2 : denV V2 = Q) :
    Calls Tryz.prog 12 #[v1, v2] w fun e w' => (∃ u, e = .returned (.tuple #[u, .int .i64 0]) ∧ VOut w' u s (padd s P Q)) ∧ Below w.heap.size w w' := by
  have := plus_ok w v1 v2 V1 V2 h1 h2 (ok_err m1 m2 (e1.trans e2.symm)) m1 m2 (e1.trans e2.symm)
  rwa [e1, d1, d2] at this
theorem vtimes_at (w : World) (v1 v2 : Value) (V1 V2 : Vl) (s : Int) (P Q : Option Nat) (h1 : VIn w v1 V1) (h2 : VIn w v2 V2) (m1 : mayV V1 = 0) (m2 : mayV V2 = 0) (e1 : V1.s = s) (e2 : V2.s = s) (d1 : denV V1 = P) (d2 : denV V2 = Q) :
    Calls Tryz.prog 14 #[v1, v2] w fun e w' => (∃ u, e = .returned (.tuple #[u, .int .i64 0]) ∧ VOut w' u s (pmul s P Q)) ∧ Below w.heap.size w w' := by
  have := times_ok w v1 v2 V1 V2 h1 h2 (ok_err m1 m2 (e1.trans e2.symm)) m1 m2 (e1.trans e2.symm)
  rwa [e1, d1, d2] at this
end Go.Proofs.YtjdbapkmaggllaaGreatDoor

namespace Go.Proofs.YtjdbapkmaggllaaGreatDoor
open Go.RowKit Fo
set_option maxRecDepth 100000

theorem put_nat {w : World} {g : Nat} {x0 x1 x2 x3 x4 : Value} {t : TypeId} (hg : w.heap[g]? = some (.cells #[x0, x1, x2, x3, x4] t)) (u v : Value) :
    ((w.setCell ⟨g, 1, none⟩ u).setCell ⟨g, 2, none⟩ v).heap[g]? = some (.cells #[x0, u, v, x3, x4] t) := by
  have h1 := Go.heap_setCell_same w g 1 _ t u hg
  have h2 := Go.heap_setCell_same _ g 2 _ t v h1
  exact h2
theorem put_lev {w : World} {g : Nat} {x0 x1 x2 x3 x4 : Value} {t : TypeId} (hg : w.heap[g]? = some (.cells #[x0, x1, x2, x3, x4] t)) (u : Value) :
    (w.setCell ⟨g, 3, none⟩ u).heap[g]? = some (.cells #[x0, x1, x2, u, x4] t) := Go.heap_setCell_same w g 3 _ t u hg
theorem put_flo {w : World} {g : Nat} {x0 x1 x2 x3 x4 : Value} {t : TypeId} (hg : w.heap[g]? = some (.cells #[x0, x1, x2, x3, x4] t)) (u : Value) :
    (w.setCell ⟨g, 4, none⟩ u).heap[g]? = some (.cells #[x0, x1, x2, x3, u] t) := Go.heap_setCell_same w g 4 _ t u hg
theorem put_far1 (w : World) (g b o : Nat) (u : Value) (hb : b ≠ g) : (w.setCell ⟨g, o, none⟩ u).heap[b]? = w.heap[b]? := Below.heap_setCell w ⟨g, o, none⟩ u b (by exact hb)
theorem put_far2 (w : World) (g b o p : Nat) (u v : Value) (hb : b ≠ g) : ((w.setCell ⟨g, o, none⟩ u).setCell ⟨g, p, none⟩ v).heap[b]? = w.heap[b]? := by
  rw [put_far1 _ g b p v hb, put_far1 w g b o u hb]
/-- Digits lie in no variable of a value's kind. -/
theorem Fo.Rd.putn {w : World} {a : Option Addr} {n c : Nat} {L : Nat → Nat} {g : Nat} {s l : Int} {i : Bool} {a0 : Option Addr} {n0 c0 x : Nat} {t : TypeId} (h : Rd w a n c (u32s L))
    (hg : w.heap[g]? = some (.cells #[.int .i64 s, .bool i, .slice a0 n0 c0, .int .i64 l, .float .f64 x] t)) (u v : Value) :
    Rd ((w.setCell ⟨g, 1, none⟩ u).setCell ⟨g, 2, none⟩ v) a n c (u32s L) := by
  obtain ⟨h1, h2, h3⟩ := h
  refine ⟨h1, h2, ?_⟩
  rcases h3 with h3 | ⟨b, off, rfl, hc⟩
  · exact Or.inl h3
  · refine Or.inr ⟨b, off, rfl, fun j hj => ?_⟩
    have hcj := hc j hj
    by_cases e : b = g
    · exfalso
      subst e
      unfold u32s at hcj
      simp only [World.cell?, hg] at hcj
      match hoj : off + j with
      | 0 => rw [hoj] at hcj; simp at hcj
      | 1 => rw [hoj] at hcj; simp at hcj
      | 2 => rw [hoj] at hcj; simp at hcj
      | 3 => rw [hoj] at hcj; simp at hcj
      | 4 => rw [hoj] at hcj; simp at hcj
      | k + 5 => rw [hoj] at hcj; simp at hcj
    · unfold World.cell? at hcj ⊢
      rw [put_far2 w g b 1 2 u v e]; exact hcj
theorem Fo.NOut.putn {w : World} {g : Nat} {s l : Int} {i : Bool} {a0 : Option Addr} {n0 c0 x : Nat} {t : TypeId} {nv : Value} {X : Option Nat} (h : NOut w nv X)
    (hg : w.heap[g]? = some (.cells #[.int .i64 s, .bool i, .slice a0 n0 c0, .int .i64 l, .float .f64 x] t)) (u v : Value) : NOut ((w.setCell ⟨g, 1, none⟩ u).setCell ⟨g, 2, none⟩ v) nv X := by
  rcases h with h | ⟨N, a, c, h1, h2, h3⟩
  · exact Or.inl h
  · exact Or.inr ⟨N, a, c, h1, h2, h3.putn hg u v⟩
theorem Fo.VIn.putn {w : World} {g : Nat} {s l : Int} {i : Bool} {a0 : Option Addr} {n0 c0 x : Nat} {t : TypeId} {v0 : Value} {V : Vl} (h : VIn w v0 V)
    (hg : w.heap[g]? = some (.cells #[.int .i64 s, .bool i, .slice a0 n0 c0, .int .i64 l, .float .f64 x] t)) (u v : Value) : VIn ((w.setCell ⟨g, 1, none⟩ u).setCell ⟨g, 2, none⟩ v) v0 V := by
  obtain ⟨a, c, h1, h2, h3⟩ := h
  exact ⟨a, c, h1, h2.putn hg u v, h3⟩
theorem rcompare_to (w : World) (v1 v2 : Value) (X1 X2 : Option Nat) (q : Int) (h1 : NIn w v1 X1) (h2 : NIn w v2 X2) (e : ocmp X1 X2 = q) : Calls Tryz.prog 47 #[v1, v2] w fun e w' => e = .returned (.int .i64 q) ∧ Below w.heap.size w w' := by
  rw [← e]; exact rcompare_any w v1 v2 X1 X2 h1 h2
end Go.Proofs.YtjdbapkmaggllaaGreatDoor
