/- Contracts of Ldexp at a normal number above 0. -/
import Derived.Test.YtjdbapkmaggllaaGreatDoorR42
namespace Go.Proofs.YtjdbapkmaggllaaGreatDoor.Fl
open Go.RowKit Fo Go.Sort
set_option maxRecDepth 100000

theorem isinf_zero (b : Nat) (hb : b < 18446744073709551616) (w : World) :
    Calls Tryz.prog 86 #[.float .f64 b, .int .i64 0] w fun e w' => e = .returned (.bool (decide (b % 9223372036854775808 = 9218868437227405312))) ∧ w' = w := by
  have ha := abs_any b hb
  obtain ⟨c, hc⟩ : ∃ c, c = b % 9223372036854775808 := ⟨_, rfl⟩
  rw [← hc] at ha ⊢
  have hk := key_inf_pos c (by omega)
  clear hc
  generalize decide (c = 9218868437227405312) = d at hk ⊢
  go_enter Tryz.func86, Tryz.ntmps86
  go_wp2_with (go_at_call 97; refine (ha _).mono ?_; rintro e w' ⟨rfl, rfl⟩)
  go_ret
  exact ⟨rfl, rfl⟩
theorem norm_id (x : Nat) (hx1 : 4503599627370496 ≤ x) (hx2 : x < 9218868437227405312) (w : World) :
    Calls Tryz.prog 157 #[.float .f64 x] w fun e w' => e = .returned (.tuple #[.float .f64 x, .int .i64 0]) ∧ w' = w := by
  have ha := abs_any x (by omega)
  rw [show x % 9223372036854775808 = x by omega] at ha
  have o : (FloatKind.f64.format.order x 4503599627370496 == some .lt) = false := by
    have := ord_lt x 4503599627370496 (by omega) (by omega)
    refine this.trans ?_
    have k1 : key x = x := by unfold key; rw [if_pos (by omega)]
    have k2 : key 4503599627370496 = 4503599627370496 := by decide
    rw [k1, k2]; simp; omega
  go_enter Tryz.func157, Tryz.ntmps157
  go_wp2_with (go_at_call 97; refine (ha _).mono ?_; rintro e w' ⟨rfl, rfl⟩)
  go_ret2
  exact ⟨rfl, rfl⟩
theorem and_i64_2047 (a : Nat) (h : a < 2048) : bits .and .i64 (a : Int) 2047 = (a : Int) := by
  have := bits_mask .i64 63 (by decide) (fun n h0 h1 => by rw [IntKind.wrap_i64]; omega) 11 (by decide) (a : Int) (by omega) (by omega)
  refine Eq.trans this ?_
  omega
theorem andNot_exp (x : Nat) (hx : x < 9223372036854775808) : bits .andNot .u64 (x : Int) 9218868437227405312 = ((x % 4503599627370496 : Nat) : Int) := by
  have := u64_andNot_nat x 9218868437227405312 (by omega) (by omega)
  rw [show 18446744073709551615 - 9218868437227405312 = 9223372036854775808 ||| 4503599627370495 by decide, Nat.and_or_distrib_left, nat_bit63, nat_mask52, show x / 9223372036854775808 = 0 by omega] at this
  refine this.trans ?_
  simp
theorem or_exp (f k : Nat) (hf : f < 4503599627370496) (hk : k < 2048) : bits .or .u64 (f : Int) ((k : Int) * 4503599627370496) = ((f + k * 4503599627370496 : Nat) : Int) := by
  have := u64_or_nat f (4503599627370496 * k) (by omega) (by omega)
  have e := Nat.two_pow_add_eq_or_of_lt (i := 52) (b := f) (by omega) k
  simp only [Nat.reducePow] at e
  rw [Nat.or_comm, ← e] at this
  rw [show (k : Int) * 4503599627370496 = ((4503599627370496 * k : Nat) : Int) by omega]
  refine this.trans ?_
  congr 1
  omega
theorem copysign0 (x : Nat) (hx : x < 9223372036854775808) (w : World) :
    Calls Tryz.prog 132 #[.float .f64 0, .float .f64 x] w fun e w' => e = .returned (.float .f64 0) ∧ w' = w := by
  have k32 := c32
  have k36 := c36
  have b1 := and63_lo x hx
  have b2 : bits .andNot .u64 0 9223372036854775808 = 0 := by decide +kernel
  have b3 : bits .or .u64 0 0 = 0 := by decide +kernel
  go_enter Tryz.func132, Tryz.ntmps132
  go_wp2
  go_ret
  exact ⟨rfl, rfl⟩
theorem ldexp_mid (x : Nat) (n : Int) (f k : Nat) (hx1 : 4503599627370496 ≤ x) (hx2 : x < 9218868437227405312) (hf : x % 4503599627370496 = f) (hk : x / 4503599627370496 = k) (hn : -40000 ≤ n) (hn2 : n ≤ 40000) (he1 : -1022 ≤ n + (k - 1023)) (he2 : n + (k - 1023) ≤ 1023) (r : Nat) (hm : floatBits .mul .f64 4607182418800017408 (f + (n + k).toNat * 4503599627370496) = some r) (w : World) :
    Calls Tryz.prog 146 #[.float .f64 x, .int .i64 n] w fun e w' => e = .returned (.float .f64 r) ∧ w' = w := by
  have k32 := c32
  have k36 := c36
  have ni : isN x = false := by simp [isN]; omega
  have o1 : FloatKind.f64.format.order x 0 = some .gt := by
    rw [ord_of x 0 (by omega) (by omega) ni isN0, key0, cmp_of_gt]
    unfold key; rw [if_pos (by omega)]; omega
  have di : decide (x % 9223372036854775808 = 9218868437227405312) = false := by simp; omega
  have hkd : (x : Int) / 4503599627370496 = (k : Int) := by omega
  have b1 := and_i64_2047 k (by omega)
  have b2 := andNot_exp x (by omega)
  rw [hf] at b2
  have b3 := or_exp f (n + k).toNat (by omega) (by omega)
  rw [show ((n + k).toNat : Int) = n + (k - 1023) + 1023 by omega] at b3
  generalize f + (n + k).toNat * 4503599627370496 = Y at hm b3
  have m1 : ∀ (w : World) t, (binOp .mul t (.float .f64 4607182418800017408) (.float .f64 Y)).run Tryz.prog w = .ok (.float .f64 r) w :=
    fun w t => run_float_arith w .mul t .f64 _ _ _ hm
  clear hf hk hm
  go_enter Tryz.func146, Tryz.ntmps146
  go_wp2_with (first
      | (go_at_call 86; refine (isinf_zero _ (by omega) _).mono ?_; rintro e w' ⟨rfl, rfl⟩)
      | (go_at_call 85; refine (isnan_any _ (by omega) _).mono ?_; rintro e w' ⟨rfl, rfl⟩)
      | (go_at_call 157; refine (norm_id _ hx1 hx2 _).mono ?_; rintro e w' ⟨rfl, rfl⟩))
  go_ret
  exact ⟨rfl, rfl⟩
theorem ldexp_sub (x : Nat) (n : Int) (f k : Nat) (hx1 : 4503599627370496 ≤ x) (hx2 : x < 9218868437227405312) (hf : x % 4503599627370496 = f) (hk : x / 4503599627370496 = k) (hn : -40000 ≤ n) (hn2 : n ≤ 40000) (he1 : -1075 ≤ n + (k - 1023)) (he2 : n + (k - 1023) < -1022) (r : Nat) (hm : floatBits .mul .f64 4368491638549381120 (f + (n + k + 53).toNat * 4503599627370496) = some r) (w : World) :
    Calls Tryz.prog 146 #[.float .f64 x, .int .i64 n] w fun e w' => e = .returned (.float .f64 r) ∧ w' = w := by
  have k32 := c32
  have k36 := c36
  have ni : isN x = false := by simp [isN]; omega
  have o1 : FloatKind.f64.format.order x 0 = some .gt := by
    rw [ord_of x 0 (by omega) (by omega) ni isN0, key0, cmp_of_gt]
    unfold key; rw [if_pos (by omega)]; omega
  have di : decide (x % 9223372036854775808 = 9218868437227405312) = false := by simp; omega
  have hkd : (x : Int) / 4503599627370496 = (k : Int) := by omega
  have b1 := and_i64_2047 k (by omega)
  have b2 := andNot_exp x (by omega)
  rw [hf] at b2
  have b3 := or_exp f (n + k + 53).toNat (by omega) (by omega)
  rw [show ((n + k + 53).toNat : Int) = n + (k - 1023) + 53 + 1023 by omega] at b3
  generalize f + (n + k + 53).toNat * 4503599627370496 = Y at hm b3
  have m1 : ∀ (w : World) t, (binOp .mul t (.float .f64 4368491638549381120) (.float .f64 Y)).run Tryz.prog w = .ok (.float .f64 r) w :=
    fun w t => run_float_arith w .mul t .f64 _ _ _ hm
  clear hf hk hm
  have he3 : n + (k - 1023) ≤ 1023 := by omega
  go_enter Tryz.func146, Tryz.ntmps146
  go_wp2_with (first
      | (go_at_call 86; refine (isinf_zero _ (by omega) _).mono ?_; rintro e w' ⟨rfl, rfl⟩)
      | (go_at_call 85; refine (isnan_any _ (by omega) _).mono ?_; rintro e w' ⟨rfl, rfl⟩)
      | (go_at_call 157; refine (norm_id _ hx1 hx2 _).mono ?_; rintro e w' ⟨rfl, rfl⟩))
  go_ret
  exact ⟨rfl, rfl⟩
theorem ldexp_under (x : Nat) (n : Int) (f k : Nat) (hx1 : 4503599627370496 ≤ x) (hx2 : x < 9218868437227405312) (hf : x % 4503599627370496 = f) (hk : x / 4503599627370496 = k) (hn : -40000 ≤ n) (hn2 : n ≤ 40000) (he : n + (k - 1023) < -1075) (w : World) :
    Calls Tryz.prog 146 #[.float .f64 x, .int .i64 n] w fun e w' => e = .returned (.float .f64 0) ∧ w' = w := by
  have k32 := c32
  have ni : isN x = false := by simp [isN]; omega
  have o1 : FloatKind.f64.format.order x 0 = some .gt := by
    rw [ord_of x 0 (by omega) (by omega) ni isN0, key0, cmp_of_gt]
    unfold key; rw [if_pos (by omega)]; omega
  have di : decide (x % 9223372036854775808 = 9218868437227405312) = false := by simp; omega
  have hkd : (x : Int) / 4503599627370496 = (k : Int) := by omega
  have b1 := and_i64_2047 k (by omega)
  clear hf hk
  go_enter Tryz.func146, Tryz.ntmps146
  go_wp2_with (first
      | (go_at_call 86; refine (isinf_zero _ (by omega) _).mono ?_; rintro e w' ⟨rfl, rfl⟩)
      | (go_at_call 85; refine (isnan_any _ (by omega) _).mono ?_; rintro e w' ⟨rfl, rfl⟩)
      | (go_at_call 132; refine (copysign0 _ (by omega) _).mono ?_; rintro e w' ⟨rfl, rfl⟩)
      | (go_at_call 157; refine (norm_id _ hx1 hx2 _).mono ?_; rintro e w' ⟨rfl, rfl⟩))
  go_ret
  exact ⟨rfl, rfl⟩
theorem ldexp_over (x : Nat) (n : Int) (f k : Nat) (hx1 : 4503599627370496 ≤ x) (hx2 : x < 9218868437227405312) (hf : x % 4503599627370496 = f) (hk : x / 4503599627370496 = k) (hn : -40000 ≤ n) (hn2 : n ≤ 40000) (he : 1023 < n + (k - 1023)) (w : World) :
    Calls Tryz.prog 146 #[.float .f64 x, .int .i64 n] w fun e w' => e = .returned (.float .f64 9218868437227405312) ∧ w' = w := by
  have k32 := c32
  have ni : isN x = false := by simp [isN]; omega
  have o1 : FloatKind.f64.format.order x 0 = some .gt := by
    rw [ord_of x 0 (by omega) (by omega) ni isN0, key0, cmp_of_gt]
    unfold key; rw [if_pos (by omega)]; omega
  have di : decide (x % 9223372036854775808 = 9218868437227405312) = false := by simp; omega
  have hkd : (x : Int) / 4503599627370496 = (k : Int) := by omega
  have b1 := and_i64_2047 k (by omega)
  have he2 : ¬ n + (k - 1023) < -1075 := by omega
  clear hf hk
  go_enter Tryz.func146, Tryz.ntmps146
  go_wp2_with (first
      | (go_at_call 86; refine (isinf_zero _ (by omega) _).mono ?_; rintro e w' ⟨rfl, rfl⟩)
      | (go_at_call 85; refine (isnan_any _ (by omega) _).mono ?_; rintro e w' ⟨rfl, rfl⟩)
      | (go_at_call 37; refine (inf1 _).mono ?_; rintro e w' ⟨rfl, rfl⟩)
      | (go_at_call 157; refine (norm_id _ hx1 hx2 _).mono ?_; rintro e w' ⟨rfl, rfl⟩))
  go_ret
  exact ⟨rfl, rfl⟩
theorem ldexp_zero (n : Int) (w : World) :
    Calls Tryz.prog 146 #[.float .f64 0, .int .i64 n] w fun e w' => e = .returned (.float .f64 0) ∧ w' = w := by
  have o1 : FloatKind.f64.format.order 0 0 = some .eq := by decide +kernel
  go_enter Tryz.func146, Tryz.ntmps146
  go_wp2
  go_ret
  exact ⟨rfl, rfl⟩
theorem ldexp_55 (x : Nat) (n : Int) (r : Nat) (w : World) (h : ∀ w, Calls Tryz.prog 146 #[.float .f64 x, .int .i64 n] w fun e w' => e = .returned (.float .f64 r) ∧ w' = w) :
    Calls Tryz.prog 130 #[.float .f64 x, .int .i64 n] w fun e w' => e = .returned (.float .f64 r) ∧ w' = w := by
  go_enter Tryz.func130, Tryz.ntmps130
  go_wp2_with (go_at_call 146; refine (h _).mono ?_; rintro e w' ⟨rfl, rfl⟩)
  go_ret
  exact ⟨rfl, rfl⟩
end Go.Proofs.YtjdbapkmaggllaaGreatDoor.Fl
