/- Contracts of Times and Plus, the program's and the document's own. -/
import Derived.Test.YtjdbapkmaggllaaGreatDoorS11
import Derived.Test.YtjdbapkmaggllaaGreatDoorS14
import Derived.OwnWalk
namespace Go.Proofs.YtjdbapkmaggllaaGreatDoor.Fl
open Go.RowKit Fo
set_option maxRecDepth 100000

theorem bunit_ok0 (a b : Nat) (ha : a < 18446744073709551616) (hb : b < 18446744073709551616) (V : Nat → Nat) (E : Nat → Int) (w : World)
    (c : ∀ a, a < 18446744073709551616 → ∀ w, Calls Tryz.prog 51 #[.float .f64 a] w fun e w' => e = .returned (.tuple #[.float .f64 (V a), .int .i64 (E a)]) ∧ w' = w) (ea : E a = 0) (eb : E b = 0) :
    Calls Tryz.prog 93 #[.func (.func 51) #[] #[], .float .f64 a, .float .f64 b] w fun e w' => e = .returned (.tuple #[.float .f64 (V a), .float .f64 (V b), .int .i64 0]) ∧ w' = w := by
  go_enter Tryz.func93, Tryz.ntmps93
  go_wp2_with (go_at_call 51; refine (c _ (by assumption) _).mono ?_; rintro e w' ⟨rfl, rfl⟩)
  go_ret3
  exact ⟨rfl, rfl⟩
theorem bunit_no1 (a b : Nat) (ha : a < 18446744073709551616) (_hb : b < 18446744073709551616) (V : Nat → Nat) (E : Nat → Int) (w : World)
    (c : ∀ a, a < 18446744073709551616 → ∀ w, Calls Tryz.prog 51 #[.float .f64 a] w fun e w' => e = .returned (.tuple #[.float .f64 (V a), .int .i64 (E a)]) ∧ w' = w) (ea : E a = 16) :
    Calls Tryz.prog 93 #[.func (.func 51) #[] #[], .float .f64 a, .float .f64 b] w fun e w' => e = .returned (.tuple #[.float .f64 0, .float .f64 0, .int .i64 16]) ∧ w' = w := by
  go_enter Tryz.func93, Tryz.ntmps93
  go_wp2_with (go_at_call 51; refine (c _ (by assumption) _).mono ?_; rintro e w' ⟨rfl, rfl⟩)
  go_ret3
  exact ⟨rfl, rfl⟩
theorem bunit_no2 (a b : Nat) (ha : a < 18446744073709551616) (hb : b < 18446744073709551616) (V : Nat → Nat) (E : Nat → Int) (w : World)
    (c : ∀ a, a < 18446744073709551616 → ∀ w, Calls Tryz.prog 51 #[.float .f64 a] w fun e w' => e = .returned (.tuple #[.float .f64 (V a), .int .i64 (E a)]) ∧ w' = w) (ea : E a = 0) (eb : E b = 16) :
    Calls Tryz.prog 93 #[.func (.func 51) #[] #[], .float .f64 a, .float .f64 b] w fun e w' => e = .returned (.tuple #[.float .f64 0, .float .f64 0, .int .i64 16]) ∧ w' = w := by
  go_enter Tryz.func93, Tryz.ntmps93
  go_wp2_with (go_at_call 51; refine (c _ (by assumption) _).mono ?_; rintro e w' ⟨rfl, rfl⟩)
  go_ret3
  exact ⟨rfl, rfl⟩

theorem unit_in (a b : Nat) (h : tmOk a b = true) : uOf a = a % 9223372036854775808 ∧ uOf b = b % 9223372036854775808 ∧ uErr a = 0 ∧ uErr b = 0 := by
  unfold tmOk at h
  simp only [Bool.and_eq_true] at h
  unfold uOf uErr
  rw [h.1, h.2]
  exact ⟨rfl, rfl, rfl, rfl⟩
theorem unit_out (a b : Nat) (h : tmOk a b = false) : uErr a = 16 ∨ (uErr a = 0 ∧ uErr b = 16) := by
  unfold tmOk at h
  unfold uErr
  cases h1 : inTo 4607182418800017408 a
  · exact Or.inl rfl
  · rw [h1, Bool.true_and] at h
    rw [h]
    exact Or.inr ⟨rfl, rfl⟩
theorem times_ok (a b A B V : Nat) (w : World) (m : floatBits .mul .f64 A B = some V)
    (c : ∀ w, Calls Tryz.prog 93 #[.func (.func 51) #[] #[], .float .f64 a, .float .f64 b] w fun e w' => e = .returned (.tuple #[.float .f64 A, .float .f64 B, .int .i64 0]) ∧ w' = w) :
    Calls Tryz.prog 68 #[.float .f64 a, .float .f64 b] w fun e w' => e = .returned (.tuple #[.float .f64 V, .int .i64 0]) ∧ w' = w := by
  have hm : ∀ w t, (binOp .mul t (.float .f64 A) (.float .f64 B)).run Tryz.prog w = .ok (.float .f64 V) w := fun w t => run_float_arith w .mul t .f64 _ _ _ m
  clear m
  go_enter Tryz.func68, Tryz.ntmps68
  go_wp2_with (go_at_call 93; refine (c _).mono ?_; rintro e w' ⟨rfl, rfl⟩)
  go_ret2
  exact ⟨rfl, rfl⟩
theorem times_no (a b : Nat) (w : World)
    (c : ∀ w, Calls Tryz.prog 93 #[.func (.func 51) #[] #[], .float .f64 a, .float .f64 b] w fun e w' => e = .returned (.tuple #[.float .f64 0, .float .f64 0, .int .i64 16]) ∧ w' = w) :
    Calls Tryz.prog 68 #[.float .f64 a, .float .f64 b] w fun e w' => e = .returned (.tuple #[.float .f64 0, .int .i64 16]) ∧ w' = w := by
  go_enter Tryz.func68, Tryz.ntmps68
  go_wp2_with (go_at_call 93; refine (c _).mono ?_; rintro e w' ⟨rfl, rfl⟩)
  go_ret2
  exact ⟨rfl, rfl⟩
theorem times_any (a b : Nat) (ha : a < 18446744073709551616) (hb : b < 18446744073709551616) (w : World) :
    Calls Tryz.prog 68 #[.float .f64 a, .float .f64 b] w fun e w' => e = .returned (.tuple #[.float .f64 (tm a b), .int .i64 (tmE a b)]) ∧ w' = w := by
  cases h : tmOk a b
  · have e1 : tm a b = 0 := by unfold tm; rw [h]; rfl
    have e2 : tmE a b = 16 := by unfold tmE; rw [h]; rfl
    rw [e1, e2]
    rcases unit_out a b h with ea | ⟨ea, eb⟩
    · exact times_no a b w fun w => bunit_no1 a b ha hb _ _ w unit_any ea
    · exact times_no a b w fun w => bunit_no2 a b ha hb _ _ w unit_any ea eb
  · have e2 : tmE a b = 0 := by unfold tmE; rw [h]; rfl
    rw [e2]
    obtain ⟨va, vb, ea, eb⟩ := unit_in a b h
    have m := (tm_spec a b ha hb h).1
    rw [← va, ← vb] at m
    exact times_ok a b _ _ _ w m fun w => bunit_ok0 a b ha hb _ _ w unit_any ea eb
theorem bprice_ok0 (a b : Nat) (ha : a < 18446744073709551616) (hb : b < 18446744073709551616) (V : Nat → Nat) (E : Nat → Int) (w : World)
    (c : ∀ a, a < 18446744073709551616 → ∀ w, Calls Tryz.prog 52 #[.float .f64 a] w fun e w' => e = .returned (.tuple #[.float .f64 (V a), .int .i64 (E a)]) ∧ w' = w) (ea : E a = 0) (eb : E b = 0) :
    Calls Tryz.prog 93 #[.func (.func 52) #[] #[], .float .f64 a, .float .f64 b] w fun e w' => e = .returned (.tuple #[.float .f64 (V a), .float .f64 (V b), .int .i64 0]) ∧ w' = w := by
  go_enter Tryz.func93, Tryz.ntmps93
  go_wp2_with (go_at_call 52; refine (c _ (by assumption) _).mono ?_; rintro e w' ⟨rfl, rfl⟩)
  go_ret3
  exact ⟨rfl, rfl⟩
theorem bprice_no1 (a b : Nat) (ha : a < 18446744073709551616) (_hb : b < 18446744073709551616) (V : Nat → Nat) (E : Nat → Int) (w : World)
    (c : ∀ a, a < 18446744073709551616 → ∀ w, Calls Tryz.prog 52 #[.float .f64 a] w fun e w' => e = .returned (.tuple #[.float .f64 (V a), .int .i64 (E a)]) ∧ w' = w) (ea : E a = 16) :
    Calls Tryz.prog 93 #[.func (.func 52) #[] #[], .float .f64 a, .float .f64 b] w fun e w' => e = .returned (.tuple #[.float .f64 0, .float .f64 0, .int .i64 16]) ∧ w' = w := by
  go_enter Tryz.func93, Tryz.ntmps93
  go_wp2_with (go_at_call 52; refine (c _ (by assumption) _).mono ?_; rintro e w' ⟨rfl, rfl⟩)
  go_ret3
  exact ⟨rfl, rfl⟩
theorem bprice_no2 (a b : Nat) (ha : a < 18446744073709551616) (hb : b < 18446744073709551616) (V : Nat → Nat) (E : Nat → Int) (w : World)
    (c : ∀ a, a < 18446744073709551616 → ∀ w, Calls Tryz.prog 52 #[.float .f64 a] w fun e w' => e = .returned (.tuple #[.float .f64 (V a), .int .i64 (E a)]) ∧ w' = w) (ea : E a = 0) (eb : E b = 16) :
    Calls Tryz.prog 93 #[.func (.func 52) #[] #[], .float .f64 a, .float .f64 b] w fun e w' => e = .returned (.tuple #[.float .f64 0, .float .f64 0, .int .i64 16]) ∧ w' = w := by
  go_enter Tryz.func93, Tryz.ntmps93
  go_wp2_with (go_at_call 52; refine (c _ (by assumption) _).mono ?_; rintro e w' ⟨rfl, rfl⟩)
  go_ret3
  exact ⟨rfl, rfl⟩

theorem price_in (a b : Nat) (h : psOk a b = true) : pcOf a = a % 9223372036854775808 ∧ pcOf b = b % 9223372036854775808 ∧ pcErr a = 0 ∧ pcErr b = 0 := by
  unfold psOk at h
  simp only [Bool.and_eq_true] at h
  unfold pcOf pcErr
  rw [h.1, h.2]
  exact ⟨rfl, rfl, rfl, rfl⟩
theorem price_out (a b : Nat) (h : psOk a b = false) : pcErr a = 16 ∨ (pcErr a = 0 ∧ pcErr b = 16) := by
  unfold psOk at h
  unfold pcErr
  cases h1 : inTo 9218868437227405312 a
  · exact Or.inl rfl
  · rw [h1, Bool.true_and] at h
    rw [h]
    exact Or.inr ⟨rfl, rfl⟩
theorem plus_ok (a b A B V : Nat) (w : World) (m : floatBits .add .f64 A B = some V)
    (c : ∀ w, Calls Tryz.prog 93 #[.func (.func 52) #[] #[], .float .f64 a, .float .f64 b] w fun e w' => e = .returned (.tuple #[.float .f64 A, .float .f64 B, .int .i64 0]) ∧ w' = w) :
    Calls Tryz.prog 69 #[.float .f64 a, .float .f64 b] w fun e w' => e = .returned (.tuple #[.float .f64 V, .int .i64 0]) ∧ w' = w := by
  have hm : ∀ w t, (binOp .add t (.float .f64 A) (.float .f64 B)).run Tryz.prog w = .ok (.float .f64 V) w := fun w t => run_float_arith w .add t .f64 _ _ _ m
  clear m
  go_enter Tryz.func69, Tryz.ntmps69
  go_wp2_with (go_at_call 93; refine (c _).mono ?_; rintro e w' ⟨rfl, rfl⟩)
  go_ret2
  exact ⟨rfl, rfl⟩
theorem plus_no (a b : Nat) (w : World)
    (c : ∀ w, Calls Tryz.prog 93 #[.func (.func 52) #[] #[], .float .f64 a, .float .f64 b] w fun e w' => e = .returned (.tuple #[.float .f64 0, .float .f64 0, .int .i64 16]) ∧ w' = w) :
    Calls Tryz.prog 69 #[.float .f64 a, .float .f64 b] w fun e w' => e = .returned (.tuple #[.float .f64 0, .int .i64 16]) ∧ w' = w := by
  go_enter Tryz.func69, Tryz.ntmps69
  go_wp2_with (go_at_call 93; refine (c _).mono ?_; rintro e w' ⟨rfl, rfl⟩)
  go_ret2
  exact ⟨rfl, rfl⟩
theorem plus_any (a b : Nat) (ha : a < 18446744073709551616) (hb : b < 18446744073709551616) (w : World) :
    Calls Tryz.prog 69 #[.float .f64 a, .float .f64 b] w fun e w' => e = .returned (.tuple #[.float .f64 (ps a b), .int .i64 (psE a b)]) ∧ w' = w := by
  cases h : psOk a b
  · have e1 : ps a b = 0 := by unfold ps; rw [h]; rfl
    have e2 : psE a b = 16 := by unfold psE; rw [h]; rfl
    rw [e1, e2]
    rcases price_out a b h with ea | ⟨ea, eb⟩
    · exact plus_no a b w fun w => bprice_no1 a b ha hb _ _ w price_any ea
    · exact plus_no a b w fun w => bprice_no2 a b ha hb _ _ w price_any ea eb
  · have e2 : psE a b = 0 := by unfold psE; rw [h]; rfl
    rw [e2]
    obtain ⟨va, vb, ea, eb⟩ := price_in a b h
    have m := (ps_spec a b ha hb h).1
    rw [← va, ← vb] at m
    exact plus_ok a b _ _ _ w m fun w => bprice_ok0 a b ha hb _ _ w price_any ea eb
end Go.Proofs.YtjdbapkmaggllaaGreatDoor.Fl
