/- What Better says of worths. -/
import Derived.Test.YtjdbapkmaggllaaDoorLab
namespace Go.Proofs.YtjdbapkmaggllaaDoor
open Go.RowKit Fo
set_option maxRecDepth 100000

namespace Fo
/-- Whether a worth is no worse than another one. -/
def bet (s : Int) (P Q : Option Nat) : Bool := if s = 1 then decide (0 ≤ ocmp P Q) else decide (padd s P Q = P)
/-- The order of numbers, infinity above all. -/
def ole : Option Nat → Option Nat → Prop
  | _, none => True
  | none, some _ => False
  | some p, some q => p ≤ q
theorem cmp_ole (P Q : Option Nat) : 0 ≤ ocmp P Q ↔ ole Q P := by
  cases P <;> cases Q <;> simp [ocmp, ole]
  rename_i p q
  by_cases h : p < q
  · rw [if_pos h]; omega
  · rw [if_neg h]; by_cases e : p = q
    · rw [if_pos e]; omega
    · rw [if_neg e]; omega
theorem omin_ole (P Q : Option Nat) : omin P Q = P ↔ ole P Q := by
  rw [omin_eq]
  cases P <;> cases Q <;> simp [ole]
  omega
theorem ole_trans {P Q R : Option Nat} (h : ole P Q) (h2 : ole Q R) : ole P R := by
  cases P <;> cases Q <;> cases R <;> simp [ole] at *
  omega
theorem ole_total (P Q : Option Nat) : ole P Q ∨ ole Q P := by
  cases P <;> cases Q <;> simp [ole]
  omega
theorem ole_anti {P Q : Option Nat} (h : ole P Q) (h2 : ole Q P) : P = Q := by
  cases P <;> cases Q <;> simp [ole] at *
  omega
theorem ole_add (P Q : Option Nat) : ole P (oadd P Q) := by
  cases P <;> cases Q <;> simp [ole, oadd]
theorem ole_min (P Q : Option Nat) : ole (omin P Q) P := by
  rw [omin_eq]
  cases P <;> cases Q <;> simp [ole]
  omega
/-- How worths of a semiring stand to each other. -/
def sle (s : Int) (P Q : Option Nat) : Prop := if s = 1 then ole Q P else if s = 3 ∨ s = 6 then ole P Q else ole Q P
theorem bet_sle (s : Int) (P Q : Option Nat) (hP : okP s P) (hQ : okP s Q) : bet s P Q = true ↔ sle s P Q := by
  unfold bet sle
  by_cases h1 : s = 1
  · rw [if_pos h1, if_pos h1, decide_eq_true_iff]; exact cmp_ole P Q
  rw [if_neg h1, if_neg h1, decide_eq_true_iff]
  rcases hP with h | ⟨h, p, rfl, -⟩ | ⟨h, p, rfl, -⟩
  · obtain rfl : s = 3 := by omega
    rw [if_pos (Or.inl rfl)]; exact omin_ole P Q
  · rcases hQ with hq | ⟨-, q, rfl, -⟩ | ⟨hq, -⟩
    · omega
    · rw [if_neg (by omega)]
      unfold padd
      rw [if_neg h1, if_neg (by omega), if_neg (by omega)]
      simp [o2, ole]; omega
    · omega
  · rcases hQ with hq | ⟨hq, -⟩ | ⟨-, q, rfl, -⟩
    · omega
    · omega
    · unfold padd
      rw [if_neg h1, if_neg (by omega)]
      rcases h with rfl | rfl
      · rw [if_neg (by decide), if_neg (by decide)]
        simp [o2, ole]; omega
      · rw [if_pos rfl, if_pos (Or.inr rfl)]
        simp [o2, ole]; omega
theorem sle_trans {s : Int} {P Q R : Option Nat} (h : sle s P Q) (h2 : sle s Q R) : sle s P R := by
  unfold sle at *
  split <;> rename_i h1
  · rw [if_pos h1] at h h2; exact ole_trans h2 h
  rw [if_neg h1] at h h2
  split <;> rename_i h3
  · rw [if_pos h3] at h h2; exact ole_trans h h2
  · rw [if_neg h3] at h h2; exact ole_trans h2 h
theorem sle_total (s : Int) (P Q : Option Nat) : sle s P Q ∨ sle s Q P := by
  unfold sle
  split
  · exact ole_total Q P
  split
  · exact ole_total P Q
  · exact ole_total Q P
theorem sle_anti {s : Int} {P Q : Option Nat} (h : sle s P Q) (h2 : sle s Q P) : P = Q := by
  unfold sle at *
  by_cases h1 : s = 1
  · rw [if_pos h1] at h h2; exact ole_anti h2 h
  rw [if_neg h1] at h h2
  by_cases h3 : s = 3 ∨ s = 6
  · rw [if_pos h3] at h h2; exact ole_anti h h2
  · rw [if_neg h3] at h h2; exact ole_anti h2 h
theorem ok_padd {s : Int} {P Q : Option Nat} (hP : okP s P) (hQ : okP s Q) : okP s (padd s P Q) := by
  rcases hP with h | ⟨h, p, rfl, hp⟩ | ⟨h, p, rfl, hp⟩
  · exact Or.inl h
  · rcases hQ with hq | ⟨-, q, rfl, hq⟩ | ⟨hq, -⟩
    · omega
    · refine Or.inr (Or.inl ⟨h, max p q, ?_, Nat.max_le.2 ⟨hp, hq⟩⟩)
      unfold padd; rw [if_neg (by omega), if_neg (by omega), if_neg (by omega)]; rfl
    · omega
  · rcases hQ with hq | ⟨hq, -⟩ | ⟨-, q, rfl, hq⟩
    · omega
    · omega
    · unfold padd; rw [if_neg (by omega), if_neg (by omega)]
      rcases h with rfl | rfl
      · exact Or.inr (Or.inr ⟨Or.inl rfl, max p q, rfl, Nat.max_le.2 ⟨hp, hq⟩⟩)
      · exact Or.inr (Or.inr ⟨Or.inr rfl, min p q, rfl, Nat.le_trans (Nat.min_le_left p q) hp⟩)
theorem tm_below (x y : Nat) (hx : x ≤ 4607182418800017408) (hy : y ≤ 4607182418800017408) : Fl.Fo.tm x y ≤ x := by
  have hk : Fl.Fo.tmOk x y = true := by unfold Fl.Fo.tmOk; rw [Fl.Fo.in_of _ x (by decide) hx, Fl.Fo.in_of _ y (by decide) hy]; rfl
  have := (Fl.Fo.tm_spec x y (by omega) (by omega) hk).2.1
  rwa [Nat.mod_eq_of_lt (by omega)] at this
theorem ps_above (x y : Nat) (hx : x ≤ 9218868437227405312) (hy : y ≤ 9218868437227405312) : x ≤ Fl.Fo.ps x y ∧ Fl.Fo.ps x y ≤ 9218868437227405312 := by
  have hk : Fl.Fo.psOk x y = true := by unfold Fl.Fo.psOk; rw [Fl.Fo.in_of _ x (by decide) hx, Fl.Fo.in_of _ y (by decide) hy]; rfl
  have := (Fl.Fo.ps_spec x y (by omega) (by omega) hk).2
  rw [Nat.mod_eq_of_lt (by omega)] at this
  exact ⟨this.1, this.2.2⟩
theorem ok_pmul {s : Int} {P Q : Option Nat} (hP : okP s P) (hQ : okP s Q) : okP s (pmul s P Q) := by
  rcases hP with h | ⟨h, p, rfl, hp⟩ | ⟨h, p, rfl, hp⟩
  · exact Or.inl h
  · rcases hQ with hq | ⟨-, q, rfl, hq⟩ | ⟨hq, -⟩
    · omega
    · refine Or.inr (Or.inl ⟨h, min p q, ?_, Nat.le_trans (Nat.min_le_left p q) hp⟩)
      unfold pmul; rw [if_neg (by omega), if_neg (by omega), if_neg (by omega), if_neg (by omega)]; rfl
    · omega
  · rcases hQ with hq | ⟨hq, -⟩ | ⟨-, q, rfl, hq⟩
    · omega
    · omega
    · unfold pmul; rw [if_neg (by omega), if_neg (by omega)]
      rcases h with rfl | rfl
      · exact Or.inr (Or.inr ⟨Or.inl rfl, Fl.Fo.tm p q, rfl, Nat.le_trans (tm_below p q hp hq) hp⟩)
      · exact Or.inr (Or.inr ⟨Or.inr rfl, Fl.Fo.ps p q, rfl, (ps_above p q hp hq).2⟩)
/-- A sum is no worse than its parts. -/
theorem sle_sum {s : Int} {P Q : Option Nat} (hP : okP s P) (hQ : okP s Q) : sle s (padd s P Q) P := by
  unfold sle padd
  rcases hP with h | ⟨h, p, rfl, hp⟩ | ⟨h, p, rfl, hp⟩
  · rcases h with rfl | rfl
    · exact ole_add P Q
    · exact ole_min P Q
  · rcases hQ with hq | ⟨-, q, rfl, hq⟩ | ⟨hq, -⟩
    · omega
    · rw [if_neg (by omega), if_neg (by omega), if_neg (by omega), if_neg (by omega), if_neg (by omega)]
      exact Nat.le_max_left p q
    · omega
  · rcases hQ with hq | ⟨hq, -⟩ | ⟨-, q, rfl, hq⟩
    · omega
    · omega
    · rcases h with rfl | rfl
      · exact Nat.le_max_left p q
      · exact Nat.min_le_left p q
/-- But in Count, a product is no better than its parts. -/
theorem sle_prod {s : Int} {P Q : Option Nat} (hP : okP s P) (hQ : okP s Q) (h1 : s ≠ 1) : sle s P (pmul s P Q) := by
  unfold sle pmul
  rcases hP with h | ⟨h, p, rfl, hp⟩ | ⟨h, p, rfl, hp⟩
  · obtain rfl : s = 3 := by omega
    exact ole_add P Q
  · rcases hQ with hq | ⟨-, q, rfl, hq⟩ | ⟨hq, -⟩
    · omega
    · rw [if_neg (by omega), if_neg (by omega), if_neg (by omega), if_neg (by omega), if_neg (by omega), if_neg (by omega)]
      exact Nat.min_le_left p q
    · omega
  · rcases hQ with hq | ⟨hq, -⟩ | ⟨-, q, rfl, hq⟩
    · omega
    · omega
    · rcases h with rfl | rfl
      · exact tm_below p q hp hq
      · exact (ps_above p q hp hq).1
end Fo
theorem better_at (w : World) (v1 v2 : Value) (V1 V2 : Vl) (s : Int) (P Q : Option Nat) (bb : Bool) (h1 : VIn w v1 V1) (h2 : VIn w v2 V2) (m1 : mayV V1 = 0) (m2 : mayV V2 = 0) (e1 : V1.s = s) (e2 : V2.s = s) (d1 : denV V1 = P) (d2 : denV V2 = Q)
    (hb : bet s P Q = bb) (hP : (s = 1 ∨ s = 3) → Short 10000 (padd s P Q)) :
    Calls Tryd.prog 14 #[v1, v2] w fun e w' => e = .returned (.tuple #[.bool bb, .int .i64 0]) ∧ Below w.heap.size w w' := by
  have e := ok_err m1 m2 (e1.trans e2.symm)
  subst e1 d1 d2
  by_cases h : V1.s = 1
  · unfold bet at hb
    rw [if_pos h] at hb
    rw [den_nat (Or.inl h), den_nat (Or.inl (by rw [e2]; exact h))] at hb
    rw [← hb]
    exact better_cmp w v1 v2 V1 V2 h1 h2 h (by rw [e2]; exact h) e _ rfl
  · unfold bet at hb
    rw [if_neg h] at hb
    exact better_sum w v1 v2 V1 V2 h1 h2 bb (by simp [h]) e m1 m2 e2.symm hb hP
/-- Better of any two: what is told, and why not. -/
theorem better_any (w : World) (v1 v2 : Value) (V1 V2 : Vl) (r : Int) (h1 : VIn w v1 V1) (h2 : VIn w v2 V2) (k : Nat) (hk : k ≤ 4000) (n1 : V1.n ≤ k) (n2 : V2.n ≤ k) (e : errV V1 V2 = r) :
    Calls Tryd.prog 14 #[v1, v2] w fun e w' => (∃ bb, e = .returned (.tuple #[.bool bb, .int .i64 r])) ∧ Below w.heap.size w w' := by
  by_cases hr : r = 0
  · subst hr
    refine (better_ok w v1 v2 V1 V2 h1 h2 k hk n1 n2 e).mono ?_
    rintro e w' ⟨rfl, b⟩; exact ⟨⟨_, rfl⟩, b⟩
  · refine (better_err w v1 v2 V1 V2 h1 h2 r e (by simp [hr])).mono ?_
    rintro e w' ⟨rfl, b⟩; exact ⟨⟨_, rfl⟩, b⟩
end Go.Proofs.YtjdbapkmaggllaaDoor
