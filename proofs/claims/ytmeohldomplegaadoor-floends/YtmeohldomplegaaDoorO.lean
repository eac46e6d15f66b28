/- The walk of FloOrder: it answers true at every three numbers. -/
import Derived.Test.YtmeohldomplegaaDoorH
namespace Go.Proofs.YtmeohldomplegaaDoor
open Go.RowKit Fo Go.Sort
set_option maxRecDepth 100000

theorem order_ahead (x y z : Nat) (hx : x < 18446744073709551616) (hy : y < 18446744073709551616) (hz : z < 18446744073709551616) (lt sm : Nat → Nat → Bool)
    (c15 : ∀ a b, a < 18446744073709551616 → b < 18446744073709551616 → ∀ w, Calls Tryd.prog 15 #[.float .f64 a, .float .f64 b] w fun e w' => e = .returned (.bool (lt a b)) ∧ w' = w)
    (c17 : ∀ a b, a < 18446744073709551616 → b < 18446744073709551616 → ∀ w, Calls Tryd.prog 17 #[.float .f64 a, .float .f64 b] w fun e w' => e = .returned (.bool (sm a b)) ∧ w' = w)
    (h1 : lt x y = true) (h2 : lt y x = false) (h3 : sm x y = false) (h4 : lt x x = false) (h5 : lt y z = false ∨ (lt y z = true ∧ lt x z = true)) (w : World) (henv : Env w) :
    Calls Tryd.prog 6 #[.float .f64 x, .float .f64 y, .float .f64 z] w fun r w' => r = .returned (.bool true) ∧ Below w.heap.size w w' := by
  rcases h5 with h5 | ⟨h5, h6⟩
  all_goals
    go_enter Tryd.func6, Tryd.ntmps6
    go_wp2_with (first
      | (go_at_call 15; refine (c15 _ _ (by assumption) (by assumption) _).mono ?_; rintro e w' ⟨rfl, rfl⟩)
      | (go_at_call 17; refine (c17 _ _ (by assumption) (by assumption) _).mono ?_; rintro e w' ⟨rfl, rfl⟩)
      | (go_at_call 23; refine (awake_true _ henv).mono ?_; rintro e w' ⟨rfl, hb⟩))
  all_goals
    go_ret
    exact ⟨rfl, hb⟩
theorem order_not (x y z : Nat) (hx : x < 18446744073709551616) (hy : y < 18446744073709551616) (lt sm : Nat → Nat → Bool)
    (c15 : ∀ a b, a < 18446744073709551616 → b < 18446744073709551616 → ∀ w, Calls Tryd.prog 15 #[.float .f64 a, .float .f64 b] w fun e w' => e = .returned (.bool (lt a b)) ∧ w' = w)
    (c17 : ∀ a b, a < 18446744073709551616 → b < 18446744073709551616 → ∀ w, Calls Tryd.prog 17 #[.float .f64 a, .float .f64 b] w fun e w' => e = .returned (.bool (sm a b)) ∧ w' = w)
    (h1 : lt x y = false) (h2 : (lt y x = true ∧ sm x y = false) ∨ (lt y x = false ∧ sm x y = true)) (h4 : lt x x = false)
    (o1 : (FloatKind.f64.format.order x y == some .lt) = false) (o2 : FloatKind.f64.format.order x x = some .eq ∨ (FloatKind.f64.format.order x x = none ∧ FloatKind.f64.format.order y y = none)) (w : World) (henv : Env w) :
    Calls Tryd.prog 6 #[.float .f64 x, .float .f64 y, .float .f64 z] w fun r w' => r = .returned (.bool true) ∧ Below w.heap.size w w' := by
  rcases h2 with ⟨h2, h3⟩ | ⟨h2, h3⟩ <;> rcases o2 with o2 | ⟨o2, o3⟩
  all_goals
    go_enter Tryd.func6, Tryd.ntmps6
    go_wp2_with (first
      | (go_at_call 15; refine (c15 _ _ (by assumption) (by assumption) _).mono ?_; rintro e w' ⟨rfl, rfl⟩)
      | (go_at_call 17; refine (c17 _ _ (by assumption) (by assumption) _).mono ?_; rintro e w' ⟨rfl, rfl⟩)
      | (go_at_call 23; refine (awake_true _ henv).mono ?_; rintro e w' ⟨rfl, hb⟩))
  all_goals
    go_ret
    exact ⟨rfl, hb⟩

theorem plc_inj (a b : Nat) (ha : a < 18446744073709551616) (hb : b < 18446744073709551616) : plc a = plc b ↔ bitsOf a = bitsOf b := by
  unfold plc bitsOf
  cases na : isN a <;> cases nb : isN b
  · simp only [Bool.false_eq_true, if_false]; split <;> split <;> omega
  · have n : a ≠ 9221120237041090560 := by rintro rfl; revert na; decide
    simp only [Bool.false_eq_true, if_false, if_true]
    have h : ¬ (9218868437227405312 < a % 9223372036854775808) := by simpa [isN] using na
    split <;> omega
  · have n : b ≠ 9221120237041090560 := by rintro rfl; revert nb; decide
    simp only [Bool.false_eq_true, if_false, if_true]
    have h : ¬ (9218868437227405312 < b % 9223372036854775808) := by simpa [isN] using nb
    split <;> omega
  · simp
theorem plc_of_lt (a b : Nat) (ha : a < 18446744073709551616) (hb : b < 18446744073709551616) (h : (FloatKind.f64.format.order a b == some .lt) = true) : plc a < plc b := by
  have := (ord_lt a b ha hb).symm.trans h
  simp only [Bool.and_eq_true, Bool.not_eq_true', decide_eq_true_eq] at this
  obtain ⟨⟨na, nb⟩, hk⟩ := this
  unfold plc
  rw [na, nb]
  simp only [Bool.false_eq_true, if_false]
  unfold key at hk
  split at hk <;> split at hk <;> (first | rw [if_pos (by assumption)] | rw [if_neg (by assumption)]) <;> (first | rw [if_pos (by assumption)] | rw [if_neg (by assumption)]) <;> omega
theorem plc_nan (a b : Nat) (hb : b < 18446744073709551616) (na : isN a = true) (nb : isN b = false) : plc a < plc b := by
  unfold plc
  rw [na, nb]
  simp only [Bool.false_eq_true, if_false, if_true]
  have h : ¬ (9218868437227405312 < b % 9223372036854775808) := by simpa [isN] using nb
  split <;> omega

theorem order_any (x y z : Nat) (hx : x < 18446744073709551616) (hy : y < 18446744073709551616) (hz : z < 18446744073709551616) (w : World) (henv : Env w) :
    Calls Tryd.prog 6 #[.float .f64 x, .float .f64 y, .float .f64 z] w fun r w' => r = .returned (.bool true) ∧ Below w.heap.size w w' := by
  have i := plc_inj x y hx hy
  by_cases h : plc x < plc y
  · refine order_ahead x y z hx hy hz (fun a b => decide (plc a < plc b)) (fun a b => decide (bitsOf a = bitsOf b)) (fun a b ha hb w => less_any a b ha hb w) (fun a b ha hb w => same_any a b ha hb w)
      (by simpa using h) (by simp; omega) (by simp only [decide_eq_false_iff_not]; omega) (by simp) ?_ w henv
    by_cases h5 : plc y < plc z
    · exact Or.inr ⟨by simpa using h5, by simp only [decide_eq_true_eq]; omega⟩
    · exact Or.inl (by simp only [decide_eq_false_iff_not]; omega)
  · refine order_not x y z hx hy (fun a b => decide (plc a < plc b)) (fun a b => decide (bitsOf a = bitsOf b)) (fun a b ha hb w => less_any a b ha hb w) (fun a b ha hb w => same_any a b ha hb w)
      (by simp only [decide_eq_false_iff_not]; omega) ?_ (by simp) ?_ ?_ w henv
    · by_cases h2 : plc y < plc x
      · exact Or.inl ⟨by simpa using h2, by simp only [decide_eq_false_iff_not]; omega⟩
      · exact Or.inr ⟨by simp only [decide_eq_false_iff_not]; omega, by simp only [decide_eq_true_eq]; omega⟩
    · rw [Bool.eq_false_iff]; intro hc; exact h (plc_of_lt x y hx hy hc)
    · cases nx : isN x
      · exact Or.inl (by rw [ord_of x x hx hx nx nx, cmp_of_eq rfl])
      · cases ny : isN y
        · exact absurd (plc_nan x y hy nx ny) h
        · exact Or.inr ⟨ord_none x x hx hx nx, ord_none y y hy hy ny⟩
end Go.Proofs.YtmeohldomplegaaDoor
