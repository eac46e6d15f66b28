/- Contracts of the document's own answers: Bits, rank, Less, Same, Of, Unit, Price. -/
import Derived.Test.YtjdbapkmaggllaaDoorFB
namespace Go.Proofs.YtjdbapkmaggllaaDoor.Fl
open Go.RowKit Fo
set_option maxRecDepth 100000

theorem o_self_num (x : Nat) (hx : x < 18446744073709551616) (h : isN x = false) : FloatKind.f64.format.order x x = some .eq := by
  rw [ord_of x x hx hx h h, cmp_of_eq rfl]
theorem rbits_num (b : Nat) (hb : b < 18446744073709551616) (h : isN b = false) (w : World) :
    Calls Tryd.prog 23 #[.float .f64 b] w fun e w' => e = .returned (.int .u64 b) ∧ w' = w := by
  have k32 := c32 b
  have o := o_self_num b hb h
  go_enter Tryd.func23, Tryd.ntmps23
  go_wp2
  go_ret
  exact ⟨rfl, rfl⟩
theorem rbits_nan (b : Nat) (hb : b < 18446744073709551616) (h : isN b = true) (w : World) :
    Calls Tryd.prog 23 #[.float .f64 b] w fun e w' => e = .returned (.int .u64 9221120237041090560) ∧ w' = w := by
  have o := ord_none b b hb hb h
  go_enter Tryd.func23, Tryd.ntmps23
  go_wp2
  go_ret
  exact ⟨rfl, rfl⟩
theorem rbits_any (b : Nat) (hb : b < 18446744073709551616) (w : World) :
    Calls Tryd.prog 23 #[.float .f64 b] w fun e w' => e = .returned (.int .u64 (bitsOf b)) ∧ w' = w := by
  cases h : isN b
  · exact (rbits_num b hb h w).mono fun _ _ hh => ⟨hh.1.trans (ret_int (by rw [bitsOf, if_neg (by rw [h]; decide)])), hh.2⟩
  · exact (rbits_nan b hb h w).mono fun _ _ hh => ⟨hh.1.trans (ret_int (by rw [bitsOf, if_pos h]; rfl)), hh.2⟩
theorem rsame_any (a b : Nat) (ha : a < 18446744073709551616) (hb : b < 18446744073709551616) (w : World) :
    Calls Tryd.prog 37 #[.float .f64 a, .float .f64 b] w fun e w' => e = .returned (.bool (decide (bitsOf a = bitsOf b))) ∧ w' = w := by
  go_enter Tryd.func37, Tryd.ntmps37
  go_wp2_with (go_at_call 23; refine (rbits_any _ (by assumption) _).mono ?_; rintro e w' ⟨rfl, rfl⟩)
  go_ret
  exact ⟨ret_bool (by rw [Bool.eq_iff_iff]; simp only [beq_iff_eq, decide_eq_true_eq]; omega), rfl⟩
namespace Fo
/-- What Unit answers. -/
def uOf (b : Nat) : Nat := if inTo 4607182418800017408 b then b % 9223372036854775808 else 0
def uErr (b : Nat) : Int := if inTo 4607182418800017408 b then 0 else 16
def pcOf (b : Nat) : Nat := if inTo 9218868437227405312 b then b % 9223372036854775808 else 0
def pcErr (b : Nat) : Int := if inTo 9218868437227405312 b then 0 else 16
end Fo
theorem inTo_spec (t b : Nat) : inTo t b = true ↔ isN b = false ∧ 0 ≤ key b ∧ key b ≤ key t := by
  unfold inTo
  simp only [Bool.and_eq_true, Bool.not_eq_true', decide_eq_true_eq, and_assoc]
theorem unit_any (b : Nat) (hb : b < 18446744073709551616) (w : World) :
    Calls Tryd.prog 35 #[.float .f64 b] w fun e w' => e = .returned (.tuple #[.float .f64 (uOf b), .int .i64 (uErr b)]) ∧ w' = w := by
  unfold uOf uErr
  cases h : inTo 4607182418800017408 b
  · exact unit_not b hb h w
  · exact unit_yes b hb h w
theorem price_any (b : Nat) (hb : b < 18446744073709551616) (w : World) :
    Calls Tryd.prog 36 #[.float .f64 b] w fun e w' => e = .returned (.tuple #[.float .f64 (pcOf b), .int .i64 (pcErr b)]) ∧ w' = w := by
  unfold pcOf pcErr
  cases h : inTo 9218868437227405312 b
  · exact price_not b hb h w
  · exact price_yes b hb h w
theorem o_zero (b : Nat) (hb : b < 18446744073709551616) (hn : isN b = false) (h0 : 0 ≤ key b) :
    (FloatKind.f64.format.order b 0 = some .gt ∧ b % 9223372036854775808 = b) ∨ (FloatKind.f64.format.order b 0 = some .eq ∧ b % 9223372036854775808 = 0) := by
  have o := ord_of b 0 hb (by omega) hn isN0
  rw [key0] at o
  rcases Int.lt_trichotomy 0 (key b) with h | h | h
  · refine Or.inl ⟨by rw [o, cmp_of_gt h], ?_⟩
    unfold key at h; split at h <;> omega
  · refine Or.inr ⟨by rw [o, cmp_of_eq h.symm], ?_⟩
    unfold key at h; split at h <;> omega
  · omega
end Go.Proofs.YtjdbapkmaggllaaDoor.Fl
