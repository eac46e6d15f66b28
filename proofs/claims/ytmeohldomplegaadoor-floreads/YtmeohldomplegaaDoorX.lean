/- Contracts of the document's own End: the first and the last of a list. -/
import Derived.Test.YtmeohldomplegaaDoorM
import Derived.Test.YtmeohldomplegaaDoorR
namespace Go.Proofs.YtmeohldomplegaaDoor
open Go.RowKit Fo Go.Sort
set_option maxRecDepth 100000
theorem rend_none (a : Option Addr) (cap : Nat) (l : Bool) (w : World) :
    Calls Tryd.prog 27 #[.slice a 0 cap, .bool l] w fun r w' => r = .returned (.tuple #[.float .f64 0, .int .i64 15]) ∧ w' = w := by
  go_enter Tryd.func27, Tryd.ntmps27
  go_wp2
  go_ret2
  exact ⟨rfl, rfl⟩
theorem fore_none (a : Option Addr) (cap : Nat) (g : Value) (w : World) :
    Calls Tryd.prog 45 #[.slice a 0 cap, g] w fun r w' => r = .returned (.tuple #[.float .f64 0, .int .i64 15]) ∧ w' = w := by
  go_enter Tryd.func45, Tryd.ntmps45
  go_wp2
  go_ret2
  exact ⟨rfl, rfl⟩
theorem least_nil (a : Option Addr) (cap : Nat) (w : World) :
    Calls Tryd.prog 26 #[.slice a 0 cap] w fun r w' => r = .returned (.tuple #[.float .f64 0, .int .i64 15]) ∧ w' = w := by
  go_enter Tryd.func26, Tryd.ntmps26
  go_wp2_with (go_at_call 45; refine (fore_none _ _ _ _).mono ?_; rintro e w' ⟨rfl, rfl⟩)
  go_ret2
  exact ⟨rfl, rfl⟩
theorem most_nil (a : Option Addr) (cap : Nat) (w : World) :
    Calls Tryd.prog 28 #[.slice a 0 cap] w fun r w' => r = .returned (.tuple #[.float .f64 0, .int .i64 15]) ∧ w' = w := by
  go_enter Tryd.func28, Tryd.ntmps28
  go_wp2_with (go_at_call 45; refine (fore_none _ _ _ _).mono ?_; rintro e w' ⟨rfl, rfl⟩)
  go_ret2
  exact ⟨rfl, rfl⟩
theorem rless_ah (a b : Nat) (ha : a < 18446744073709551616) (hb : b < 18446744073709551616) (w : World) :
    Calls Tryd.prog 16 #[.float .f64 a, .float .f64 b] w fun e w' => e = .returned (.bool (ahLeast a b)) ∧ w' = w := rless_any a b ha hb w
theorem rless_ah' (a b : Nat) (ha : a < 18446744073709551616) (hb : b < 18446744073709551616) (w : World) :
    Calls Tryd.prog 16 #[.float .f64 a, .float .f64 b] w fun e w' => e = .returned (.bool (ahMost b a)) ∧ w' = w := rless_any a b ha hb w
theorem rofbits (a R : Nat) (hR : bitsOf a = R) (ha : a < 18446744073709551616) (w : World) : Calls Tryd.prog 20 #[.int .u64 (bitsOf a : Int)] w fun e w' => e = .returned (.float .f64 R) ∧ w' = w := by
  have := rof_any (bitsOf a) (bitsOf_lt a ha) w
  have e : bitsOf (bitsOf a) = R := by
    rw [← hR]; unfold bitsOf; cases h : isN a
    · simp [h]
    · simp
  rw [e] at this; exact this

theorem rend_least (b off n cap : Nat) (w : World) (hn : 1 ≤ n) (hmax : n ≤ 9223372036854775806) (X : Nat → Nat) (hX : ∀ j, X j < 18446744073709551616)
    (hc : ∀ j, j < n → w.cell? ⟨b, off + j, none⟩ = some (.float .f64 (X j))) :
    Calls Tryd.prog 27 #[.slice (some ⟨b, off, none⟩) n cap, .bool false] w fun r w' => r = .returned (.tuple #[.float .f64 (bitsOf (best ahLeast X (n - 1))), .int .i64 0]) ∧ w' = w := by
  have hc0 := hc 0 (by omega)
  rw [Nat.add_zero] at hc0
  have hb := best_lt ahLeast X hX
  have c14 := fun w => rbits_any (best ahLeast X (n - 1)) (hb (n - 1)) w
  have c20 := fun w => rofbits (best ahLeast X (n - 1)) _ rfl (hb (n - 1)) w
  have cg := fun i w => rless_ah (X i) (best ahLeast X (i - 1)) (hX _) (hb _) w
  obtain ⟨B, hB⟩ : ∃ B : Nat → Nat, B = fun i => best ahLeast X (i - 1) := ⟨_, rfl⟩
  have hB1 : B 1 = X 0 := by rw [hB]; rfl
  have hBn1 : B n = best ahLeast X (n - 1) := by rw [hB]
  have hBy : ∀ i, 1 ≤ i → ahLeast (X i) (B i) = true → B (i + 1) = X i := fun i h1 h => by
    rw [hB] at h ⊢
    obtain ⟨k, rfl⟩ : ∃ k, i = k + 1 := ⟨i - 1, by omega⟩
    exact best_yes h
  have hBn : ∀ i, 1 ≤ i → ahLeast (X i) (B i) = false → B (i + 1) = B i := fun i h1 h => by
    rw [hB] at h ⊢
    obtain ⟨k, rfl⟩ : ∃ k, i = k + 1 := ⟨i - 1, by omega⟩
    exact best_not h
  have cg' : ∀ i w, Calls Tryd.prog 16 #[.float .f64 (X i), .float .f64 (B i)] w fun e w' => e = .returned (.bool (ahLeast (X i) (B i))) ∧ w' = w := fun i w => by rw [hB]; exact cg i w
  rw [← hBn1] at c14 c20 ⊢
  clear hB hb cg hBn1
  have hn0 : ((n : Int) == 0) = false := by simp; omega
  go_enter Tryd.func27, Tryd.ntmps27
  go_wp2
  go_loop [6, 7] (fun vx vi => ∃ i : Nat, 1 ≤ i ∧ i ≤ n ∧ vi = .int .i64 i ∧ vx = .float .f64 (B i)) (fun _ vi => n - (intOf vi).toNat)
  case atStart => exact ⟨1, by omega, by omega, rfl, by rw [hB1]⟩
  case round =>
    obtain ⟨i, hi1, hin, rfl, rfl⟩ := hrel
    by_cases hlt : i < n
    · have hck := hc i hlt
      have cgi := cg' i
      cases hah : ahLeast (X i) (B i)
      · have HH : Hid (B (i + 1) = B i) := hBn i hi1 hah
        rw [hah] at cgi
        clear hBn hBy cg' hc c14 c20 hah
        go_wp2_with (go_at_call 16; refine (cgi _).mono ?_; rintro e w' ⟨rfl, rfl⟩)
        go_round
        case rel => exact ⟨i + 1, by omega, by omega, by go_num, float_eq HH.out.symm⟩
        case measure => simp [intOf]; omega
      · have HH : Hid (B (i + 1) = X i) := hBy i hi1 hah
        rw [hah] at cgi
        clear hBn hBy cg' hc c14 c20 hah
        go_wp2_with (go_at_call 16; refine (cgi _).mono ?_; rintro e w' ⟨rfl, rfl⟩)
        go_round
        case rel => exact ⟨i + 1, by omega, by omega, by go_num, float_eq HH.out.symm⟩
        case measure => simp [intOf]; omega
    · obtain rfl : i = n := by omega
      clear hBn hBy cg' hc
      go_wp2_with (first | (go_at_call 14; refine (c14 _).mono ?_; rintro e w' ⟨rfl, rfl⟩) | (go_at_call 20; refine (c20 _).mono ?_; rintro e w' ⟨rfl, rfl⟩))
      go_ret2
      exact ⟨rfl, rfl⟩

theorem rend_most (b off n cap : Nat) (w : World) (hn : 1 ≤ n) (hmax : n ≤ 9223372036854775806) (X : Nat → Nat) (hX : ∀ j, X j < 18446744073709551616)
    (hc : ∀ j, j < n → w.cell? ⟨b, off + j, none⟩ = some (.float .f64 (X j))) :
    Calls Tryd.prog 27 #[.slice (some ⟨b, off, none⟩) n cap, .bool true] w fun r w' => r = .returned (.tuple #[.float .f64 (bitsOf (best ahMost X (n - 1))), .int .i64 0]) ∧ w' = w := by
  have hc0 := hc 0 (by omega)
  rw [Nat.add_zero] at hc0
  have hb := best_lt ahMost X hX
  have c14 := fun w => rbits_any (best ahMost X (n - 1)) (hb (n - 1)) w
  have c20 := fun w => rofbits (best ahMost X (n - 1)) _ rfl (hb (n - 1)) w
  have cg := fun i w => rless_ah' (best ahMost X (i - 1)) (X i) (hb _) (hX _) w
  obtain ⟨B, hB⟩ : ∃ B : Nat → Nat, B = fun i => best ahMost X (i - 1) := ⟨_, rfl⟩
  have hB1 : B 1 = X 0 := by rw [hB]; rfl
  have hBn1 : B n = best ahMost X (n - 1) := by rw [hB]
  have hBy : ∀ i, 1 ≤ i → ahMost (X i) (B i) = true → B (i + 1) = X i := fun i h1 h => by
    rw [hB] at h ⊢
    obtain ⟨k, rfl⟩ : ∃ k, i = k + 1 := ⟨i - 1, by omega⟩
    exact best_yes h
  have hBn : ∀ i, 1 ≤ i → ahMost (X i) (B i) = false → B (i + 1) = B i := fun i h1 h => by
    rw [hB] at h ⊢
    obtain ⟨k, rfl⟩ : ∃ k, i = k + 1 := ⟨i - 1, by omega⟩
    exact best_not h
  have cg' : ∀ i w, Calls Tryd.prog 16 #[.float .f64 (B i), .float .f64 (X i)] w fun e w' => e = .returned (.bool (ahMost (X i) (B i))) ∧ w' = w := fun i w => by rw [hB]; exact cg i w
  rw [← hBn1] at c14 c20 ⊢
  clear hB hb cg hBn1
  have hn0 : ((n : Int) == 0) = false := by simp; omega
  go_enter Tryd.func27, Tryd.ntmps27
  go_wp2
  go_loop [6, 7] (fun vx vi => ∃ i : Nat, 1 ≤ i ∧ i ≤ n ∧ vi = .int .i64 i ∧ vx = .float .f64 (B i)) (fun _ vi => n - (intOf vi).toNat)
  case atStart => exact ⟨1, by omega, by omega, rfl, by rw [hB1]⟩
  case round =>
    obtain ⟨i, hi1, hin, rfl, rfl⟩ := hrel
    by_cases hlt : i < n
    · have hck := hc i hlt
      have cgi := cg' i
      cases hah : ahMost (X i) (B i)
      · have HH : Hid (B (i + 1) = B i) := hBn i hi1 hah
        rw [hah] at cgi
        clear hBn hBy cg' hc c14 c20 hah
        go_wp2_with (go_at_call 16; refine (cgi _).mono ?_; rintro e w' ⟨rfl, rfl⟩)
        go_round
        case rel => exact ⟨i + 1, by omega, by omega, by go_num, float_eq HH.out.symm⟩
        case measure => simp [intOf]; omega
      · have HH : Hid (B (i + 1) = X i) := hBy i hi1 hah
        rw [hah] at cgi
        clear hBn hBy cg' hc c14 c20 hah
        go_wp2_with (go_at_call 16; refine (cgi _).mono ?_; rintro e w' ⟨rfl, rfl⟩)
        go_round
        case rel => exact ⟨i + 1, by omega, by omega, by go_num, float_eq HH.out.symm⟩
        case measure => simp [intOf]; omega
    · obtain rfl : i = n := by omega
      clear hBn hBy cg' hc
      go_wp2_with (first | (go_at_call 14; refine (c14 _).mono ?_; rintro e w' ⟨rfl, rfl⟩) | (go_at_call 20; refine (c20 _).mono ?_; rintro e w' ⟨rfl, rfl⟩))
      go_ret2
      exact ⟨rfl, rfl⟩
end Go.Proofs.YtmeohldomplegaaDoor
