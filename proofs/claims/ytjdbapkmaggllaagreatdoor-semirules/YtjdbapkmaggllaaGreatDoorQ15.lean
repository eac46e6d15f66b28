/- Plain mathematics of doubles: the whole part of a number that is not below 0, as Floor, Trunc and a conversion to an integer tell it. -/
import Derived.Test.YtjdbapkmaggllaaGreatDoorQ14
namespace Go.Proofs.YtjdbapkmaggllaaGreatDoor.Fl.Fo
open Ieee Go
set_option maxRecDepth 100000

theorem cut_whole (way : Toward) (hw : way = .down ∨ way = .zero) (k d : Nat) : way.cut false k d = k / 2 ^ d := by
  have h : way.cut false k d = k / 2 ^ min d (k.log2 + 2) := by
    rcases hw with rfl | rfl <;> simp [Toward.cut, Nat.one_shiftLeft]
  rw [h]
  by_cases hd : d ≤ k.log2 + 2
  · rw [Nat.min_eq_left hd]
  · rw [Nat.min_eq_right (by omega)]
    by_cases hk : k = 0
    · subst hk; simp
    obtain ⟨l1, l2⟩ := log2_bd k hk
    have h1 : 2 ^ (k.log2 + 1) ≤ 2 ^ (k.log2 + 2) := Nat.pow_le_pow_right (by decide) (by omega)
    have h2 : 2 ^ (k.log2 + 1) ≤ 2 ^ d := Nat.pow_le_pow_right (by decide) (by omega)
    rw [Nat.div_eq_of_lt (by omega), Nat.div_eq_of_lt (by omega)]
/-- The whole part, in the model's words. -/
theorem integral_eq (way : Toward) (hw : way = .down ∨ way = .zero) (x n : Nat) (hn : n = 1074) (hx : x < 9218868437227405312) :
    (Ieee.double.read x).integral way = .number false (val x / 2 ^ n) 0 := by
  obtain ⟨m, e, hr, hv⟩ := read_fin x (by omega) (by omega)
  rw [show x % 9223372036854775808 = x by omega] at hv
  have d1 : decide (9223372036854775808 ≤ x) = false := by simp; omega
  rw [hr, d1, Datum.integral, cut_whole way hw, Nat.shiftLeft_eq, ← hv]
  congr 1
  rcases Nat.lt_or_ge e n with h | h
  · obtain ⟨d, hd⟩ : ∃ d, n = e + d := ⟨n - e, by omega⟩
    rw [show (-1074 + (e : Int)).toNat = 0 by omega, show (-(-1074 + (e : Int))).toNat = d by omega, hd, Nat.pow_add, Nat.pow_zero, Nat.mul_one, Nat.mul_comm m, Nat.mul_div_mul_left _ _ (Nat.two_pow_pos e)]
  · obtain ⟨d, hd⟩ : ∃ d, e = d + n := ⟨e - n, by omega⟩
    rw [show (-1074 + (e : Int)).toNat = d by omega, show (-(-1074 + (e : Int))).toNat = 0 by omega, hd, Nat.pow_add, Nat.pow_zero, Nat.div_one, ← Nat.mul_assoc, Nat.mul_div_cancel _ (Nat.two_pow_pos n)]
theorem floor_eq (way : Toward) (hw : way = .down ∨ way = .zero) (x n : Nat) (hn : n = 1074) (hx : x < 9218868437227405312) :
    FloatKind.f64.encode ((FloatKind.f64.decode x).integral way) = f64 (val x / 2 ^ n) := by
  show Ieee.double.write ((Ieee.double.read x).integral way) = _
  rw [integral_eq way hw x n hn hx, f64_eq]; rfl
theorem int_eq (x n : Nat) (hn : n = 1074) (hx : x < 9218868437227405312) (hs : val x / 2 ^ n < 9223372036854775808) : floatToIntVal .f64 x .i64 = some ((val x / 2 ^ n : Nat) : Int) := by
  have h : (FloatKind.f64.decode x).toInt .zero = some ((val x / 2 ^ n : Nat) : Int) := by
    show (Ieee.double.read x).toInt .zero = _
    rw [Datum.toInt, integral_eq .zero (Or.inr rfl) x n hn hx]
    simp only [signed_eq, Nat.pow_zero, Nat.mul_one, sg_false]
  unfold floatToIntVal
  rw [h]
  generalize val x / 2 ^ n = Q at hs
  have h1 : IntKind.i64.min ≤ (Q : Int) ∧ (Q : Int) ≤ IntKind.i64.max := by
    have e1 : IntKind.i64.min = -9223372036854775808 := by decide
    have e2 : IntKind.i64.max = 9223372036854775807 := by decide
    rw [e1, e2]; omega
  simp only [if_pos h1]
/-- A number that is whole is the double of its whole part. -/
theorem whole_yes (x n : Nat) (hn : n = 1074) (hx : x < 9218868437227405312) (h : val x = val x / 2 ^ n * 2 ^ n) : f64 (val x / 2 ^ n) = x := by
  rw [f64_eq]
  exact nearest_exact false (val x / 2 ^ n) 0 x n 0 hx (by omega) (by rw [← h, Nat.pow_zero, Nat.mul_one])
theorem whole_iff (x n : Nat) (hn : n = 1074) (hx : x < 9218868437227405312) (hs : val x / 2 ^ n < 9007199254740992) : f64 (val x / 2 ^ n) = x ↔ val x = val x / 2 ^ n * 2 ^ n :=
  ⟨fun h => (congrArg val h.symm).trans (val_f64 _ n hn hs), whole_yes x n hn hx⟩
/-- 2 to the 40th. -/
theorem f64_big : f64 1099511627776 = 4787326403894837248 := by decide +kernel
theorem f64_part (m n : Nat) (hn : n = 1074) (hm : m < 9007199254740992) : val (f64 m) / 2 ^ n = m := by
  rw [val_f64 m n hn hm, Nat.mul_div_cancel _ (Nat.two_pow_pos n)]
theorem part_lt (x m n : Nat) (hn : n = 1074) (hm : m < 9007199254740992) (h : x ≤ f64 m) : val x / 2 ^ n ≤ m := by
  have h1 : val x ≤ m * 2 ^ n := by
    rw [← val_f64 m n hn hm]
    rcases Nat.lt_or_ge x (f64 m) with h' | h'
    · exact Nat.le_of_lt (val_mono h')
    · rw [show x = f64 m by omega]; exact Nat.le_refl _
  have := Nat.div_le_div_right (c := 2 ^ n) h1
  rw [Nat.mul_div_cancel _ (Nat.two_pow_pos n)] at this
  exact this
end Go.Proofs.YtjdbapkmaggllaaGreatDoor.Fl.Fo
