/- Contracts of flo's Unit, Price, one, Of. Contracts of the document's own answers: Bits, rank, Less, Same, Of, Unit, Price. -/
import Derived.Test.YtjdbapkmaggllaaGreatDoorS10
namespace Go.Proofs.YtjdbapkmaggllaaGreatDoor.Fl
open Go.RowKit Fo
set_option maxRecDepth 100000

theorem upto_yes (b t : Nat) (hb : b < 18446744073709551616) (ht : t < 18446744073709551616) (nt : isN t = false) (pt : 0 < key t) (h : inTo t b = true) (w : World) :
    Calls Tryz.prog 74 #[.float .f64 t, .float .f64 b] w fun e w' => e = .returned (.tuple #[.float .f64 (b % 9223372036854775808), .int .i64 0]) ∧ w' = w := by
  have := upto_any b t hb ht nt pt w
  rw [if_pos h] at this; exact this
theorem upto_not (b t : Nat) (hb : b < 18446744073709551616) (ht : t < 18446744073709551616) (nt : isN t = false) (pt : 0 < key t) (h : inTo t b = false) (w : World) :
    Calls Tryz.prog 74 #[.float .f64 t, .float .f64 b] w fun e w' => e = .returned (.tuple #[.float .f64 0, .int .i64 16]) ∧ w' = w := by
  have := upto_any b t hb ht nt pt w
  rw [if_neg (by rw [h]; decide)] at this; exact this

theorem unit_yes (b : Nat) (hb : b < 18446744073709551616) (h : inTo 4607182418800017408 b = true) (w : World) :
    Calls Tryz.prog 51 #[.float .f64 b] w fun e w' => e = .returned (.tuple #[.float .f64 (b % 9223372036854775808), .int .i64 0]) ∧ w' = w := by
  go_enter Tryz.func51, Tryz.ntmps51
  go_wp2_with (go_at_call 74; refine (upto_yes _ _ hb (by decide) (by decide) (by decide) h _).mono ?_; rintro e w' ⟨rfl, rfl⟩)
  go_ret2
  exact ⟨rfl, rfl⟩
theorem unit_not (b : Nat) (hb : b < 18446744073709551616) (h : inTo 4607182418800017408 b = false) (w : World) :
    Calls Tryz.prog 51 #[.float .f64 b] w fun e w' => e = .returned (.tuple #[.float .f64 0, .int .i64 16]) ∧ w' = w := by
  go_enter Tryz.func51, Tryz.ntmps51
  go_wp2_with (go_at_call 74; refine (upto_not _ _ hb (by decide) (by decide) (by decide) h _).mono ?_; rintro e w' ⟨rfl, rfl⟩)
  go_ret2
  exact ⟨rfl, rfl⟩
theorem inf1 (w : World) : Calls Tryz.prog 37 #[.int .i64 1] w fun e w' => e = .returned (.float .f64 9218868437227405312) ∧ w' = w := by
  have k36 := c36
  go_enter Tryz.func37, Tryz.ntmps37
  go_wp2
  go_ret
  exact ⟨rfl, rfl⟩
theorem price_yes (b : Nat) (hb : b < 18446744073709551616) (h : inTo 9218868437227405312 b = true) (w : World) :
    Calls Tryz.prog 52 #[.float .f64 b] w fun e w' => e = .returned (.tuple #[.float .f64 (b % 9223372036854775808), .int .i64 0]) ∧ w' = w := by
  go_enter Tryz.func52, Tryz.ntmps52
  go_wp2_with (first | (go_at_call 37; refine (inf1 _).mono ?_; rintro e w' ⟨rfl, rfl⟩) | (go_at_call 74; refine (upto_yes _ _ hb (by decide) (by decide) (by decide) h _).mono ?_; rintro e w' ⟨rfl, rfl⟩))
  go_ret2
  exact ⟨rfl, rfl⟩
theorem price_not (b : Nat) (hb : b < 18446744073709551616) (h : inTo 9218868437227405312 b = false) (w : World) :
    Calls Tryz.prog 52 #[.float .f64 b] w fun e w' => e = .returned (.tuple #[.float .f64 0, .int .i64 16]) ∧ w' = w := by
  go_enter Tryz.func52, Tryz.ntmps52
  go_wp2_with (first | (go_at_call 37; refine (inf1 _).mono ?_; rintro e w' ⟨rfl, rfl⟩) | (go_at_call 74; refine (upto_not _ _ hb (by decide) (by decide) (by decide) h _).mono ?_; rintro e w' ⟨rfl, rfl⟩))
  go_ret2
  exact ⟨rfl, rfl⟩
theorem one_any (b : Nat) (hb : b < 18446744073709551616) (w : World) :
    Calls Tryz.prog 139 #[.float .f64 b] w fun e w' => e = .returned (.float .f64 (bitsOf b)) ∧ w' = w := by
  have k36 := c36
  go_enter Tryz.func139, Tryz.ntmps139
  go_wp2_with (go_at_call 96; refine (bits_any _ (by assumption) _).mono ?_; rintro e w' ⟨rfl, rfl⟩)
  go_ret
  exact ⟨rfl, rfl⟩
theorem of_any (b : Nat) (hb : b < 18446744073709551616) (w : World) :
    Calls Tryz.prog 125 #[.int .u64 b] w fun e w' => e = .returned (.float .f64 (bitsOf b)) ∧ w' = w := by
  have k36 := c36
  go_enter Tryz.func125, Tryz.ntmps125
  go_wp2_with (go_at_call 139; refine (one_any _ (by simpa using hb) _).mono ?_; rintro e w' ⟨rfl, rfl⟩)
  go_ret
  exact ⟨rfl, rfl⟩
end Go.Proofs.YtjdbapkmaggllaaGreatDoor.Fl

namespace Go.Proofs.YtjdbapkmaggllaaGreatDoor.Fl
open Go.RowKit Fo
set_option maxRecDepth 100000

theorem o_self_num (x : Nat) (hx : x < 18446744073709551616) (h : isN x = false) : FloatKind.f64.format.order x x = some .eq := by
  rw [ord_of x x hx hx h h, cmp_of_eq rfl]
theorem rbits_num (b : Nat) (hb : b < 18446744073709551616) (h : isN b = false) (w : World) :
    Calls Tryz.prog 54 #[.float .f64 b] w fun e w' => e = .returned (.int .u64 b) ∧ w' = w := by
  have k32 := c32 b
  have o := o_self_num b hb h
  go_enter Tryz.func54, Tryz.ntmps54
  go_wp2
  go_ret
  exact ⟨rfl, rfl⟩
theorem rbits_nan (b : Nat) (hb : b < 18446744073709551616) (h : isN b = true) (w : World) :
    Calls Tryz.prog 54 #[.float .f64 b] w fun e w' => e = .returned (.int .u64 9221120237041090560) ∧ w' = w := by
  have o := ord_none b b hb hb h
  go_enter Tryz.func54, Tryz.ntmps54
  go_wp2
  go_ret
  exact ⟨rfl, rfl⟩
theorem rbits_any (b : Nat) (hb : b < 18446744073709551616) (w : World) :
    Calls Tryz.prog 54 #[.float .f64 b] w fun e w' => e = .returned (.int .u64 (bitsOf b)) ∧ w' = w := by
  cases h : isN b
  · exact (rbits_num b hb h w).mono fun _ _ hh => ⟨hh.1.trans (ret_int (by rw [bitsOf, if_neg (by rw [h]; decide)])), hh.2⟩
  · exact (rbits_nan b hb h w).mono fun _ _ hh => ⟨hh.1.trans (ret_int (by rw [bitsOf, if_pos h]; rfl)), hh.2⟩
theorem rsame_any (a b : Nat) (ha : a < 18446744073709551616) (hb : b < 18446744073709551616) (w : World) :
    Calls Tryz.prog 48 #[.float .f64 a, .float .f64 b] w fun e w' => e = .returned (.bool (decide (bitsOf a = bitsOf b))) ∧ w' = w := by
  go_enter Tryz.func48, Tryz.ntmps48
  go_wp2_with (go_at_call 54; refine (rbits_any _ (by assumption) _).mono ?_; rintro e w' ⟨rfl, rfl⟩)
  go_ret
  exact ⟨ret_bool (by rw [Bool.eq_iff_iff]; simp only [beq_iff_eq, decide_eq_true_eq]; omega), rfl⟩
theorem rof_any (b : Nat) (hb : b < 18446744073709551616) (w : World) :
    Calls Tryz.prog 38 #[.int .u64 b] w fun e w' => e = .returned (.float .f64 (bitsOf b)) ∧ w' = w := by
  have k36 := c36
  cases h : isN b
  · have o := o_self_num b hb h
    have e0 : bitsOf b = b := by rw [bitsOf, if_neg (by rw [h]; decide)]
    rw [e0]
    go_enter Tryz.func38, Tryz.ntmps38
    go_wp2
    go_ret
    exact ⟨rfl, rfl⟩
  · have o := ord_none b b hb hb h
    have e0 : bitsOf b = 9221120237041090560 := by rw [bitsOf, if_pos h]
    rw [e0]
    go_enter Tryz.func38, Tryz.ntmps38
    go_wp2
    go_ret
    exact ⟨rfl, rfl⟩

theorem rprice_core (b r : Nat) (o : (FloatKind.f64.format.order b 0 = some .gt ∧ r = b) ∨ (FloatKind.f64.format.order b 0 = some .eq ∧ r = 0)) (w : World) :
    Calls Tryz.prog 76 #[.float .f64 b] w fun e w' => e = .returned (.tuple #[.float .f64 r, .int .i64 0]) ∧ w' = w := by
  rcases o with ⟨o, rfl⟩ | ⟨o, rfl⟩
  all_goals
    go_enter Tryz.func76, Tryz.ntmps76
    go_wp2
    go_ret2
    exact ⟨rfl, rfl⟩
theorem rprice_no (b : Nat) (o : FloatKind.f64.format.order b 0 = some .lt ∨ FloatKind.f64.format.order b 0 = none) (w : World) :
    Calls Tryz.prog 76 #[.float .f64 b] w fun e w' => e = .returned (.tuple #[.float .f64 0, .int .i64 16]) ∧ w' = w := by
  rcases o with o | o
  all_goals
    go_enter Tryz.func76, Tryz.ntmps76
    go_wp2
    go_ret2
    exact ⟨rfl, rfl⟩

namespace Fo
/-- What Unit answers. -/
def uOf (b : Nat) : Nat := if inTo 4607182418800017408 b then b % 9223372036854775808 else 0
def uErr (b : Nat) : Int := if inTo 4607182418800017408 b then 0 else 16
def pcOf (b : Nat) : Nat := if inTo 9218868437227405312 b then b % 9223372036854775808 else 0
def pcErr (b : Nat) : Int := if inTo 9218868437227405312 b then 0 else 16
end Fo
theorem inTo_spec (t b : Nat) : inTo t b = true ↔ isN b = false ∧ 0 ≤ key b ∧ key b ≤ key t := by
  unfold inTo
  simp only [Bool.and_eq_true, Bool.not_eq_true', decide_eq_true_eq, and_assoc]
theorem unit_any (b : Nat) (hb : b < 18446744073709551616) (w : World) :
    Calls Tryz.prog 51 #[.float .f64 b] w fun e w' => e = .returned (.tuple #[.float .f64 (uOf b), .int .i64 (uErr b)]) ∧ w' = w := by
  unfold uOf uErr
  cases h : inTo 4607182418800017408 b
  · exact unit_not b hb h w
  · exact unit_yes b hb h w
theorem price_any (b : Nat) (hb : b < 18446744073709551616) (w : World) :
    Calls Tryz.prog 52 #[.float .f64 b] w fun e w' => e = .returned (.tuple #[.float .f64 (pcOf b), .int .i64 (pcErr b)]) ∧ w' = w := by
  unfold pcOf pcErr
  cases h : inTo 9218868437227405312 b
  · exact price_not b hb h w
  · exact price_yes b hb h w
theorem o_zero (b : Nat) (hb : b < 18446744073709551616) (hn : isN b = false) (h0 : 0 ≤ key b) :
    (FloatKind.f64.format.order b 0 = some .gt ∧ b % 9223372036854775808 = b) ∨ (FloatKind.f64.format.order b 0 = some .eq ∧ b % 9223372036854775808 = 0) := by
  have o := ord_of b 0 hb (by omega) hn isN0
  rw [key0] at o
  rcases Int.lt_trichotomy 0 (key b) with h | h | h
  · refine Or.inl ⟨by rw [o, cmp_of_gt h], ?_⟩
    unfold key at h; split at h <;> omega
  · refine Or.inr ⟨by rw [o, cmp_of_eq h.symm], ?_⟩
    unfold key at h; split at h <;> omega
  · omega
theorem rprice_any (b : Nat) (hb : b < 18446744073709551616) (w : World) :
    Calls Tryz.prog 76 #[.float .f64 b] w fun e w' => e = .returned (.tuple #[.float .f64 (pcOf b), .int .i64 (pcErr b)]) ∧ w' = w := by
  unfold pcOf pcErr
  cases h : inTo 9218868437227405312 b
  · cases hn : isN b
    · refine rprice_no b (Or.inl ?_) w
      have h0 : key b < 0 := by
        rcases Int.lt_or_le (key b) 0 with h' | h'
        · exact h'
        · have kI : key 9218868437227405312 = 9218868437227405312 := by decide
          have hn' : ¬ (9218868437227405312 < b % 9223372036854775808) := by simpa [isN] using hn
          rw [(inTo_spec _ _).2 ⟨hn, h', by rw [kI]; unfold key; split <;> omega⟩] at h; cases h
      rw [ord_of b 0 hb (by omega) hn isN0, key0, cmp_of_lt h0]
    · exact rprice_no b (Or.inr (ord_none b 0 hb (by omega) hn)) w
  · obtain ⟨hn, h0, -⟩ := (inTo_spec _ _).1 h
    exact rprice_core b _ (o_zero b hb hn h0) w
end Go.Proofs.YtjdbapkmaggllaaGreatDoor.Fl
