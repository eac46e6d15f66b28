/- Contracts of flo's Unit, Price, one, Of. -/
import Derived.Test.YtjdbapkmaggllaaDoorFA
namespace Go.Proofs.YtjdbapkmaggllaaDoor.Fl
open Go.RowKit Fo
set_option maxRecDepth 100000

theorem upto_yes (b t : Nat) (hb : b < 18446744073709551616) (ht : t < 18446744073709551616) (nt : isN t = false) (pt : 0 < key t) (h : inTo t b = true) (w : World) :
    Calls Tryd.prog 53 #[.float .f64 t, .float .f64 b] w fun e w' => e = .returned (.tuple #[.float .f64 (b % 9223372036854775808), .int .i64 0]) ∧ w' = w := by
  have := upto_any b t hb ht nt pt w
  rw [if_pos h] at this; exact this
theorem upto_not (b t : Nat) (hb : b < 18446744073709551616) (ht : t < 18446744073709551616) (nt : isN t = false) (pt : 0 < key t) (h : inTo t b = false) (w : World) :
    Calls Tryd.prog 53 #[.float .f64 t, .float .f64 b] w fun e w' => e = .returned (.tuple #[.float .f64 0, .int .i64 16]) ∧ w' = w := by
  have := upto_any b t hb ht nt pt w
  rw [if_neg (by rw [h]; decide)] at this; exact this

theorem unit_yes (b : Nat) (hb : b < 18446744073709551616) (h : inTo 4607182418800017408 b = true) (w : World) :
    Calls Tryd.prog 35 #[.float .f64 b] w fun e w' => e = .returned (.tuple #[.float .f64 (b % 9223372036854775808), .int .i64 0]) ∧ w' = w := by
  go_enter Tryd.func35, Tryd.ntmps35
  go_wp2_with (go_at_call 53; refine (upto_yes _ _ hb (by decide) (by decide) (by decide) h _).mono ?_; rintro e w' ⟨rfl, rfl⟩)
  go_ret2
  exact ⟨rfl, rfl⟩
theorem unit_not (b : Nat) (hb : b < 18446744073709551616) (h : inTo 4607182418800017408 b = false) (w : World) :
    Calls Tryd.prog 35 #[.float .f64 b] w fun e w' => e = .returned (.tuple #[.float .f64 0, .int .i64 16]) ∧ w' = w := by
  go_enter Tryd.func35, Tryd.ntmps35
  go_wp2_with (go_at_call 53; refine (upto_not _ _ hb (by decide) (by decide) (by decide) h _).mono ?_; rintro e w' ⟨rfl, rfl⟩)
  go_ret2
  exact ⟨rfl, rfl⟩
theorem inf1 (w : World) : Calls Tryd.prog 38 #[.int .i64 1] w fun e w' => e = .returned (.float .f64 9218868437227405312) ∧ w' = w := by
  have k36 := c36
  go_enter Tryd.func38, Tryd.ntmps38
  go_wp2
  go_ret
  exact ⟨rfl, rfl⟩
theorem price_yes (b : Nat) (hb : b < 18446744073709551616) (h : inTo 9218868437227405312 b = true) (w : World) :
    Calls Tryd.prog 36 #[.float .f64 b] w fun e w' => e = .returned (.tuple #[.float .f64 (b % 9223372036854775808), .int .i64 0]) ∧ w' = w := by
  go_enter Tryd.func36, Tryd.ntmps36
  go_wp2_with (first | (go_at_call 38; refine (inf1 _).mono ?_; rintro e w' ⟨rfl, rfl⟩) | (go_at_call 53; refine (upto_yes _ _ hb (by decide) (by decide) (by decide) h _).mono ?_; rintro e w' ⟨rfl, rfl⟩))
  go_ret2
  exact ⟨rfl, rfl⟩
theorem price_not (b : Nat) (hb : b < 18446744073709551616) (h : inTo 9218868437227405312 b = false) (w : World) :
    Calls Tryd.prog 36 #[.float .f64 b] w fun e w' => e = .returned (.tuple #[.float .f64 0, .int .i64 16]) ∧ w' = w := by
  go_enter Tryd.func36, Tryd.ntmps36
  go_wp2_with (first | (go_at_call 38; refine (inf1 _).mono ?_; rintro e w' ⟨rfl, rfl⟩) | (go_at_call 53; refine (upto_not _ _ hb (by decide) (by decide) (by decide) h _).mono ?_; rintro e w' ⟨rfl, rfl⟩))
  go_ret2
  exact ⟨rfl, rfl⟩
end Go.Proofs.YtjdbapkmaggllaaDoor.Fl
