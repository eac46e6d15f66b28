/- May a value be: semi's answer and the document's own. -/
import Derived.Test.YtjdbapkmaggllaaGreatDoorS20
namespace Go.Proofs.YtjdbapkmaggllaaGreatDoor
open Go.RowKit Fo
set_option maxRecDepth 100000

theorem in_low (t x : Nat) (ht : t ≤ 9218868437227405312) (hx : x < 18446744073709551616) : (Fl.inTo t x = true ∧ x < 9223372036854775808) ↔ x ≤ t := by
  constructor
  · rintro ⟨h, hlt⟩
    have := (Fl.Fo.in_key t x hx (by omega) h).2.2
    rwa [Nat.mod_eq_of_lt hlt] at this
  · intro h
    exact ⟨Fl.Fo.in_of t x ht h, by omega⟩
theorem weight_fact (t x : Nat) (ht : t ≤ 9218868437227405312) (hx : x < 18446744073709551616) (v : Nat) (er : Int) (hv : v = if Fl.inTo t x then x % 9223372036854775808 else 0) (he : er = if Fl.inTo t x then 0 else 16) :
    (er = 0 ∧ decide (Fl.Fo.bitsOf v = Fl.Fo.bitsOf x) = decide (x ≤ t)) ∨ (er = 16 ∧ decide (x ≤ t) = false) := by
  cases h : Fl.inTo t x
  · rw [h] at hv he
    refine Or.inr ⟨he, decide_eq_false fun hh => ?_⟩
    rw [((in_low t x ht hx).2 hh).1] at h
    cases h
  · rw [h] at hv he
    have hk := Fl.Fo.in_key t x hx (by omega) h
    refine Or.inl ⟨he, ?_⟩
    rw [if_pos rfl] at hv
    have hn : Fl.Fo.isN v = false := by
      unfold Fl.Fo.isN
      rw [hv]
      exact decide_eq_false (by omega)
    unfold Fl.Fo.bitsOf
    rw [hn, hk.1, Bool.eq_iff_iff, decide_eq_true_eq, decide_eq_true_eq, ← in_low t x ht hx, h, hv]
    simp only [Bool.false_eq_true, if_false, true_and]
    omega
theorem unit_w (x : Nat) (hx : x < 18446744073709551616) (w : World) : Calls Tryz.prog 50 #[.func (.func 51) #[] #[], .float .f64 x] w fun e w' => e = .returned (.bool (decide (x ≤ 4607182418800017408))) ∧ w' = w :=
  weight_core 51 (Or.inl rfl) x (Fl.Fo.uOf x) (Fl.Fo.uErr x) _ w hx (by unfold Fl.Fo.uOf; split <;> omega) (fun w => Fl.unit_any x hx w) (weight_fact 4607182418800017408 x (by decide) hx _ _ rfl rfl)
theorem price_w (x : Nat) (hx : x < 18446744073709551616) (w : World) : Calls Tryz.prog 50 #[.func (.func 52) #[] #[], .float .f64 x] w fun e w' => e = .returned (.bool (decide (x ≤ 9218868437227405312))) ∧ w' = w :=
  weight_core 52 (Or.inr rfl) x (Fl.Fo.pcOf x) (Fl.Fo.pcErr x) _ w hx (by unfold Fl.Fo.pcOf; split <;> omega) (fun w => Fl.price_any x hx w) (weight_fact 9218868437227405312 x (by decide) hx _ _ rfl rfl)
/-- SEMI's MAY. -/
theorem vmay_any (w : World) (v : Value) (V : Vl) (h : VIn w v V) : Calls Tryz.prog 21 #[v] w fun e w' => e = .returned (.int .i64 (mayV V)) ∧ Below w.heap.size w w' := by
  obtain ⟨a, c, rfl, hr, hL, hn, hx, hl, hs⟩ := h
  unfold mayV
  by_cases h13 : V.s = 1 ∨ V.s = 3
  · rw [if_pos h13]; exact vmay_nat V.s h13 V.i a V.n c V.L V.l V.x w hr hL
  rw [if_neg h13]
  by_cases h2 : V.s = 2
  · rw [if_pos h2]
    refine vmay_lev V.s (Or.inl h2) V.i a V.n c V.l V.x w _ ?_
    rw [if_pos h2]
    by_cases hh : 0 ≤ V.l ∧ V.l ≤ 1
    · rw [if_pos hh]; exact Or.inl ⟨hh.1, hh.2, rfl⟩
    · rw [if_neg hh]; omega
  rw [if_neg h2]
  by_cases h4 : V.s = 4
  · rw [if_pos h4]
    refine vmay_lev V.s (Or.inr h4) V.i a V.n c V.l V.x w _ ?_
    rw [if_neg h2]
    by_cases hh : 0 ≤ V.l ∧ V.l ≤ 7
    · rw [if_pos hh]; exact Or.inl ⟨hh.1, hh.2, rfl⟩
    · rw [if_neg hh]; omega
  rw [if_neg h4]
  by_cases h5 : V.s = 5
  · rw [if_pos h5]
    have := vmay_flo V.s V.i a V.n c V.l V.x w _ (Or.inl ⟨h5, unit_w V.x hx⟩)
    simpa only [decide_eq_true_eq] using this
  rw [if_neg h5]
  by_cases h6 : V.s = 6
  · rw [if_pos h6]
    have := vmay_flo V.s V.i a V.n c V.l V.x w _ (Or.inr ⟨h6, price_w V.x hx⟩)
    simpa only [decide_eq_true_eq] using this
  rw [if_neg h6]
  have h1 : V.s ≠ 1 := fun e => h13 (Or.inl e)
  have h3 : V.s ≠ 3 := fun e => h13 (Or.inr e)
  exact vmay_no V.s V.i a V.n c V.l V.x w (by simp [h1]) (by simp [h2]) (by simp [h3]) (by simp [h4]) (by simp [h5]) (by simp [h6])
end Go.Proofs.YtjdbapkmaggllaaGreatDoor
