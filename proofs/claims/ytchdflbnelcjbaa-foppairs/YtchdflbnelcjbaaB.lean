/- Contracts of flo's Unit, Price, one, Of. -/
import Derived.Test.YtchdflbnelcjbaaA
namespace Go.Proofs.Ytchdflbnelcjbaa
open Go.RowKit Fo
set_option maxRecDepth 100000

theorem upto_yes (b t : Nat) (hb : b < 18446744073709551616) (ht : t < 18446744073709551616) (nt : isN t = false) (pt : 0 < key t) (h : inTo t b = true) (w : World) :
    Calls Try.prog 33 #[.float .f64 t, .float .f64 b] w fun e w' => e = .returned (.tuple #[.float .f64 (b % 9223372036854775808), .int .i64 0]) ∧ w' = w := by
  have := upto_any b t hb ht nt pt w
  rw [if_pos h] at this; exact this
theorem upto_not (b t : Nat) (hb : b < 18446744073709551616) (ht : t < 18446744073709551616) (nt : isN t = false) (pt : 0 < key t) (h : inTo t b = false) (w : World) :
    Calls Try.prog 33 #[.float .f64 t, .float .f64 b] w fun e w' => e = .returned (.tuple #[.float .f64 0, .int .i64 16]) ∧ w' = w := by
  have := upto_any b t hb ht nt pt w
  rw [if_neg (by rw [h]; decide)] at this; exact this

theorem unit_yes (b : Nat) (hb : b < 18446744073709551616) (h : inTo 4607182418800017408 b = true) (w : World) :
    Calls Try.prog 25 #[.float .f64 b] w fun e w' => e = .returned (.tuple #[.float .f64 (b % 9223372036854775808), .int .i64 0]) ∧ w' = w := by
  go_enter Try.func25, Try.ntmps25
  go_wp2_with (go_at_call 33; refine (upto_yes _ _ hb (by decide) (by decide) (by decide) h _).mono ?_; rintro e w' ⟨rfl, rfl⟩)
  go_ret2
  exact ⟨rfl, rfl⟩
theorem unit_not (b : Nat) (hb : b < 18446744073709551616) (h : inTo 4607182418800017408 b = false) (w : World) :
    Calls Try.prog 25 #[.float .f64 b] w fun e w' => e = .returned (.tuple #[.float .f64 0, .int .i64 16]) ∧ w' = w := by
  go_enter Try.func25, Try.ntmps25
  go_wp2_with (go_at_call 33; refine (upto_not _ _ hb (by decide) (by decide) (by decide) h _).mono ?_; rintro e w' ⟨rfl, rfl⟩)
  go_ret2
  exact ⟨rfl, rfl⟩
theorem inf1 (w : World) : Calls Try.prog 34 #[.int .i64 1] w fun e w' => e = .returned (.float .f64 9218868437227405312) ∧ w' = w := by
  have k36 := c36
  go_enter Try.func34, Try.ntmps34
  go_wp2
  go_ret
  exact ⟨rfl, rfl⟩
theorem price_yes (b : Nat) (hb : b < 18446744073709551616) (h : inTo 9218868437227405312 b = true) (w : World) :
    Calls Try.prog 27 #[.float .f64 b] w fun e w' => e = .returned (.tuple #[.float .f64 (b % 9223372036854775808), .int .i64 0]) ∧ w' = w := by
  go_enter Try.func27, Try.ntmps27
  go_wp2_with (first | (go_at_call 34; refine (inf1 _).mono ?_; rintro e w' ⟨rfl, rfl⟩) | (go_at_call 33; refine (upto_yes _ _ hb (by decide) (by decide) (by decide) h _).mono ?_; rintro e w' ⟨rfl, rfl⟩))
  go_ret2
  exact ⟨rfl, rfl⟩
theorem price_not (b : Nat) (hb : b < 18446744073709551616) (h : inTo 9218868437227405312 b = false) (w : World) :
    Calls Try.prog 27 #[.float .f64 b] w fun e w' => e = .returned (.tuple #[.float .f64 0, .int .i64 16]) ∧ w' = w := by
  go_enter Try.func27, Try.ntmps27
  go_wp2_with (first | (go_at_call 34; refine (inf1 _).mono ?_; rintro e w' ⟨rfl, rfl⟩) | (go_at_call 33; refine (upto_not _ _ hb (by decide) (by decide) (by decide) h _).mono ?_; rintro e w' ⟨rfl, rfl⟩))
  go_ret2
  exact ⟨rfl, rfl⟩
theorem one_any (b : Nat) (hb : b < 18446744073709551616) (w : World) :
    Calls Try.prog 44 #[.float .f64 b] w fun e w' => e = .returned (.float .f64 (bitsOf b)) ∧ w' = w := by
  have k36 := c36
  go_enter Try.func44, Try.ntmps44
  go_wp2_with (go_at_call 50; refine (bits_any _ (by assumption) _).mono ?_; rintro e w' ⟨rfl, rfl⟩)
  go_ret
  exact ⟨rfl, rfl⟩
end Go.Proofs.Ytchdflbnelcjbaa
