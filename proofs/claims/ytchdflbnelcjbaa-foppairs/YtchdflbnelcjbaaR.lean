/- Contracts of the document's own answers: Bits, rank, Less, Same, Of, Unit, Price. -/
import Derived.Test.YtchdflbnelcjbaaB
namespace Go.Proofs.Ytchdflbnelcjbaa
open Go.RowKit Fo
set_option maxRecDepth 100000

theorem o_self_num (x : Nat) (hx : x < 18446744073709551616) (h : isN x = false) : FloatKind.f64.format.order x x = some .eq := by
  rw [ord_of x x hx hx h h, cmp_of_eq rfl]
theorem rbits_num (b : Nat) (hb : b < 18446744073709551616) (h : isN b = false) (w : World) :
    Calls Try.prog 28 #[.float .f64 b] w fun e w' => e = .returned (.int .u64 b) ∧ w' = w := by
  have k32 := c32 b
  have o := o_self_num b hb h
  go_enter Try.func28, Try.ntmps28
  go_wp2
  go_ret
  exact ⟨rfl, rfl⟩
theorem rbits_nan (b : Nat) (hb : b < 18446744073709551616) (h : isN b = true) (w : World) :
    Calls Try.prog 28 #[.float .f64 b] w fun e w' => e = .returned (.int .u64 9221120237041090560) ∧ w' = w := by
  have o := ord_none b b hb hb h
  go_enter Try.func28, Try.ntmps28
  go_wp2
  go_ret
  exact ⟨rfl, rfl⟩
theorem rbits_any (b : Nat) (hb : b < 18446744073709551616) (w : World) :
    Calls Try.prog 28 #[.float .f64 b] w fun e w' => e = .returned (.int .u64 (bitsOf b)) ∧ w' = w := by
  cases h : isN b
  · exact (rbits_num b hb h w).mono fun _ _ hh => ⟨hh.1.trans (ret_int (by rw [bitsOf, if_neg (by rw [h]; decide)])), hh.2⟩
  · exact (rbits_nan b hb h w).mono fun _ _ hh => ⟨hh.1.trans (ret_int (by rw [bitsOf, if_pos h]; rfl)), hh.2⟩
theorem rsame_any (a b : Nat) (ha : a < 18446744073709551616) (hb : b < 18446744073709551616) (w : World) :
    Calls Try.prog 13 #[.float .f64 a, .float .f64 b] w fun e w' => e = .returned (.bool (decide (bitsOf a = bitsOf b))) ∧ w' = w := by
  go_enter Try.func13, Try.ntmps13
  go_wp2_with (go_at_call 28; refine (rbits_any _ (by assumption) _).mono ?_; rintro e w' ⟨rfl, rfl⟩)
  go_ret
  exact ⟨ret_bool (by rw [Bool.eq_iff_iff]; simp only [beq_iff_eq, decide_eq_true_eq]; omega), rfl⟩
theorem rof_any (b : Nat) (hb : b < 18446744073709551616) (w : World) :
    Calls Try.prog 22 #[.int .u64 b] w fun e w' => e = .returned (.float .f64 (bitsOf b)) ∧ w' = w := by
  have k36 := c36
  cases h : isN b
  · have o := o_self_num b hb h
    have e0 : bitsOf b = b := by rw [bitsOf, if_neg (by rw [h]; decide)]
    rw [e0]
    go_enter Try.func22, Try.ntmps22
    go_wp2
    go_ret
    exact ⟨rfl, rfl⟩
  · have o := ord_none b b hb hb h
    have e0 : bitsOf b = 9221120237041090560 := by rw [bitsOf, if_pos h]
    rw [e0]
    go_enter Try.func22, Try.ntmps22
    go_wp2
    go_ret
    exact ⟨rfl, rfl⟩

theorem runit_core (b r : Nat) (o : (FloatKind.f64.format.order b 0 = some .gt ∧ r = b) ∨ (FloatKind.f64.format.order b 0 = some .eq ∧ r = 0)) (o1 : FloatKind.f64.format.order b 4607182418800017408 = some .lt ∨ FloatKind.f64.format.order b 4607182418800017408 = some .eq) (w : World) :
    Calls Try.prog 26 #[.float .f64 b] w fun e w' => e = .returned (.tuple #[.float .f64 r, .int .i64 0]) ∧ w' = w := by
  rcases o with ⟨o, rfl⟩ | ⟨o, rfl⟩ <;> rcases o1 with o1 | o1
  all_goals
    go_enter Try.func26, Try.ntmps26
    go_wp2
    go_ret2
    exact ⟨rfl, rfl⟩
theorem runit_no0 (b : Nat) (o : FloatKind.f64.format.order b 0 = some .lt ∨ FloatKind.f64.format.order b 0 = none) (w : World) :
    Calls Try.prog 26 #[.float .f64 b] w fun e w' => e = .returned (.tuple #[.float .f64 0, .int .i64 16]) ∧ w' = w := by
  rcases o with o | o
  all_goals
    go_enter Try.func26, Try.ntmps26
    go_wp2
    go_ret2
    exact ⟨rfl, rfl⟩
theorem runit_no1 (b : Nat) (o : FloatKind.f64.format.order b 0 = some .gt) (o1 : FloatKind.f64.format.order b 4607182418800017408 = some .gt) (w : World) :
    Calls Try.prog 26 #[.float .f64 b] w fun e w' => e = .returned (.tuple #[.float .f64 0, .int .i64 16]) ∧ w' = w := by
  go_enter Try.func26, Try.ntmps26
  go_wp2
  go_ret2
  exact ⟨rfl, rfl⟩
theorem rprice_core (b r : Nat) (o : (FloatKind.f64.format.order b 0 = some .gt ∧ r = b) ∨ (FloatKind.f64.format.order b 0 = some .eq ∧ r = 0)) (w : World) :
    Calls Try.prog 23 #[.float .f64 b] w fun e w' => e = .returned (.tuple #[.float .f64 r, .int .i64 0]) ∧ w' = w := by
  rcases o with ⟨o, rfl⟩ | ⟨o, rfl⟩
  all_goals
    go_enter Try.func23, Try.ntmps23
    go_wp2
    go_ret2
    exact ⟨rfl, rfl⟩
theorem rprice_no (b : Nat) (o : FloatKind.f64.format.order b 0 = some .lt ∨ FloatKind.f64.format.order b 0 = none) (w : World) :
    Calls Try.prog 23 #[.float .f64 b] w fun e w' => e = .returned (.tuple #[.float .f64 0, .int .i64 16]) ∧ w' = w := by
  rcases o with o | o
  all_goals
    go_enter Try.func23, Try.ntmps23
    go_wp2
    go_ret2
    exact ⟨rfl, rfl⟩

namespace Fo
/-- What Unit answers. -/
def uOf (b : Nat) : Nat := if inTo 4607182418800017408 b then b % 9223372036854775808 else 0
def uErr (b : Nat) : Int := if inTo 4607182418800017408 b then 0 else 16
def pcOf (b : Nat) : Nat := if inTo 9218868437227405312 b then b % 9223372036854775808 else 0
def pcErr (b : Nat) : Int := if inTo 9218868437227405312 b then 0 else 16
end Fo
theorem inTo_spec (t b : Nat) : inTo t b = true ↔ isN b = false ∧ 0 ≤ key b ∧ key b ≤ key t := by
  unfold inTo
  simp only [Bool.and_eq_true, Bool.not_eq_true', decide_eq_true_eq, and_assoc]
theorem unit_any (b : Nat) (hb : b < 18446744073709551616) (w : World) :
    Calls Try.prog 25 #[.float .f64 b] w fun e w' => e = .returned (.tuple #[.float .f64 (uOf b), .int .i64 (uErr b)]) ∧ w' = w := by
  unfold uOf uErr
  cases h : inTo 4607182418800017408 b
  · exact unit_not b hb h w
  · exact unit_yes b hb h w
theorem price_any (b : Nat) (hb : b < 18446744073709551616) (w : World) :
    Calls Try.prog 27 #[.float .f64 b] w fun e w' => e = .returned (.tuple #[.float .f64 (pcOf b), .int .i64 (pcErr b)]) ∧ w' = w := by
  unfold pcOf pcErr
  cases h : inTo 9218868437227405312 b
  · exact price_not b hb h w
  · exact price_yes b hb h w
theorem o_zero (b : Nat) (hb : b < 18446744073709551616) (hn : isN b = false) (h0 : 0 ≤ key b) :
    (FloatKind.f64.format.order b 0 = some .gt ∧ b % 9223372036854775808 = b) ∨ (FloatKind.f64.format.order b 0 = some .eq ∧ b % 9223372036854775808 = 0) := by
  have o := ord_of b 0 hb (by omega) hn isN0
  rw [key0] at o
  rcases Int.lt_trichotomy 0 (key b) with h | h | h
  · refine Or.inl ⟨by rw [o, cmp_of_gt h], ?_⟩
    unfold key at h; split at h <;> omega
  · refine Or.inr ⟨by rw [o, cmp_of_eq h.symm], ?_⟩
    unfold key at h; split at h <;> omega
  · omega
theorem runit_any (b : Nat) (hb : b < 18446744073709551616) (w : World) :
    Calls Try.prog 26 #[.float .f64 b] w fun e w' => e = .returned (.tuple #[.float .f64 (uOf b), .int .i64 (uErr b)]) ∧ w' = w := by
  unfold uOf uErr
  have n1 : isN 4607182418800017408 = false := by decide
  cases h : inTo 4607182418800017408 b
  · cases hn : isN b
    · by_cases h0 : key b < 0
      · exact runit_no0 b (Or.inl (by rw [ord_of b 0 hb (by omega) hn isN0, key0, cmp_of_lt h0])) w
      · have h1 : key 4607182418800017408 < key b := by
          rcases Int.lt_or_le (key 4607182418800017408) (key b) with h' | h'
          · exact h'
          · rw [(inTo_spec _ _).2 ⟨hn, by omega, h'⟩] at h; cases h
        have k1 : key 4607182418800017408 = 4607182418800017408 := by decide
        exact runit_no1 b (by rw [ord_of b 0 hb (by omega) hn isN0, key0, cmp_of_gt (by omega)]) (by rw [ord_of b _ hb (by decide) hn n1, cmp_of_gt h1]) w
    · exact runit_no0 b (Or.inr (ord_none b 0 hb (by omega) hn)) w
  · obtain ⟨hn, h0, h1⟩ := (inTo_spec _ _).1 h
    refine runit_core b _ (o_zero b hb hn h0) ?_ w
    rcases Int.lt_trichotomy (key b) (key 4607182418800017408) with h' | h' | h'
    · exact Or.inl (by rw [ord_of b _ hb (by decide) hn n1, cmp_of_lt h'])
    · exact Or.inr (by rw [ord_of b _ hb (by decide) hn n1, cmp_of_eq h'])
    · omega
theorem rprice_any (b : Nat) (hb : b < 18446744073709551616) (w : World) :
    Calls Try.prog 23 #[.float .f64 b] w fun e w' => e = .returned (.tuple #[.float .f64 (pcOf b), .int .i64 (pcErr b)]) ∧ w' = w := by
  unfold pcOf pcErr
  cases h : inTo 9218868437227405312 b
  · cases hn : isN b
    · refine rprice_no b (Or.inl ?_) w
      have h0 : key b < 0 := by
        rcases Int.lt_or_le (key b) 0 with h' | h'
        · exact h'
        · have kI : key 9218868437227405312 = 9218868437227405312 := by decide
          have hn' : ¬ (9218868437227405312 < b % 9223372036854775808) := by simpa [isN] using hn
          rw [(inTo_spec _ _).2 ⟨hn, h', by rw [kI]; unfold key; split <;> omega⟩] at h; cases h
      rw [ord_of b 0 hb (by omega) hn isN0, key0, cmp_of_lt h0]
    · exact rprice_no b (Or.inr (ord_none b 0 hb (by omega) hn)) w
  · obtain ⟨hn, h0, -⟩ := (inTo_spec _ _).1 h
    exact rprice_core b _ (o_zero b hb hn h0) w
end Go.Proofs.Ytchdflbnelcjbaa
