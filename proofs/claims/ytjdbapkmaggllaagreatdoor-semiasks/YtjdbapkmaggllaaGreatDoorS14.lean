/- Plain mathematics of doubles: the whole part of a number that is not below 0, as Floor, Trunc and a conversion to an integer tell it. Plain mathematics: chances multiplied, prices added, the most likely of pairs, the price of all. -/
import Derived.Test.YtjdbapkmaggllaaGreatDoorS13
import Derived.Test.YtjdbapkmaggllaaGreatDoorS10
namespace Go.Proofs.YtjdbapkmaggllaaGreatDoor.Fl.Fo
open Ieee Go
set_option maxRecDepth 100000

theorem cut_whole (way : Toward) (hw : way = .down ∨ way = .zero) (k d : Nat) : way.cut false k d = k / 2 ^ d := by
  have h : way.cut false k d = k / 2 ^ min d (k.log2 + 2) := by
    rcases hw with rfl | rfl <;> simp [Toward.cut, Nat.one_shiftLeft]
  rw [h]
  by_cases hd : d ≤ k.log2 + 2
  · rw [Nat.min_eq_left hd]
  · rw [Nat.min_eq_right (by omega)]
    by_cases hk : k = 0
    · subst hk; simp
    obtain ⟨l1, l2⟩ := log2_bd k hk
    have h1 : 2 ^ (k.log2 + 1) ≤ 2 ^ (k.log2 + 2) := Nat.pow_le_pow_right (by decide) (by omega)
    have h2 : 2 ^ (k.log2 + 1) ≤ 2 ^ d := Nat.pow_le_pow_right (by decide) (by omega)
    rw [Nat.div_eq_of_lt (by omega), Nat.div_eq_of_lt (by omega)]
/-- The whole part, in the model's words. -/
theorem integral_eq (way : Toward) (hw : way = .down ∨ way = .zero) (x n : Nat) (hn : n = 1074) (hx : x < 9218868437227405312) :
    (Ieee.double.read x).integral way = .number false (val x / 2 ^ n) 0 := by
  obtain ⟨m, e, hr, hv⟩ := read_fin x (by omega) (by omega)
  rw [show x % 9223372036854775808 = x by omega] at hv
  have d1 : decide (9223372036854775808 ≤ x) = false := by simp; omega
  rw [hr, d1, Datum.integral, cut_whole way hw, Nat.shiftLeft_eq, ← hv]
  congr 1
  rcases Nat.lt_or_ge e n with h | h
  · obtain ⟨d, hd⟩ : ∃ d, n = e + d := ⟨n - e, by omega⟩
    rw [show (-1074 + (e : Int)).toNat = 0 by omega, show (-(-1074 + (e : Int))).toNat = d by omega, hd, Nat.pow_add, Nat.pow_zero, Nat.mul_one, Nat.mul_comm m, Nat.mul_div_mul_left _ _ (Nat.two_pow_pos e)]
  · obtain ⟨d, hd⟩ : ∃ d, e = d + n := ⟨e - n, by omega⟩
    rw [show (-1074 + (e : Int)).toNat = d by omega, show (-(-1074 + (e : Int))).toNat = 0 by omega, hd, Nat.pow_add, Nat.pow_zero, Nat.div_one, ← Nat.mul_assoc, Nat.mul_div_cancel _ (Nat.two_pow_pos n)]
theorem floor_eq (way : Toward) (hw : way = .down ∨ way = .zero) (x n : Nat) (hn : n = 1074) (hx : x < 9218868437227405312) :
    FloatKind.f64.encode ((FloatKind.f64.decode x).integral way) = f64 (val x / 2 ^ n) := by
  show Ieee.double.write ((Ieee.double.read x).integral way) = _
  rw [integral_eq way hw x n hn hx, f64_eq]; rfl
theorem int_eq (x n : Nat) (hn : n = 1074) (hx : x < 9218868437227405312) (hs : val x / 2 ^ n < 9223372036854775808) : floatToIntVal .f64 x .i64 = some ((val x / 2 ^ n : Nat) : Int) := by
  have h : (FloatKind.f64.decode x).toInt .zero = some ((val x / 2 ^ n : Nat) : Int) := by
    show (Ieee.double.read x).toInt .zero = _
    rw [Datum.toInt, integral_eq .zero (Or.inr rfl) x n hn hx]
    simp only [signed_eq, Nat.pow_zero, Nat.mul_one, sg_false]
  unfold floatToIntVal
  rw [h]
  generalize val x / 2 ^ n = Q at hs
  have h1 : IntKind.i64.min ≤ (Q : Int) ∧ (Q : Int) ≤ IntKind.i64.max := by
    have e1 : IntKind.i64.min = -9223372036854775808 := by decide
    have e2 : IntKind.i64.max = 9223372036854775807 := by decide
    rw [e1, e2]; omega
  simp only [if_pos h1]
/-- A number that is whole is the double of its whole part. -/
theorem whole_yes (x n : Nat) (hn : n = 1074) (hx : x < 9218868437227405312) (h : val x = val x / 2 ^ n * 2 ^ n) : f64 (val x / 2 ^ n) = x := by
  rw [f64_eq]
  exact nearest_exact false (val x / 2 ^ n) 0 x n 0 hx (by omega) (by rw [← h, Nat.pow_zero, Nat.mul_one])
theorem whole_iff (x n : Nat) (hn : n = 1074) (hx : x < 9218868437227405312) (hs : val x / 2 ^ n < 9007199254740992) : f64 (val x / 2 ^ n) = x ↔ val x = val x / 2 ^ n * 2 ^ n :=
  ⟨fun h => (congrArg val h.symm).trans (val_f64 _ n hn hs), whole_yes x n hn hx⟩
/-- 2 to the 40th. -/
theorem f64_big : f64 1099511627776 = 4787326403894837248 := by decide +kernel
theorem f64_part (m n : Nat) (hn : n = 1074) (hm : m < 9007199254740992) : val (f64 m) / 2 ^ n = m := by
  rw [val_f64 m n hn hm, Nat.mul_div_cancel _ (Nat.two_pow_pos n)]
theorem part_lt (x m n : Nat) (hn : n = 1074) (hm : m < 9007199254740992) (h : x ≤ f64 m) : val x / 2 ^ n ≤ m := by
  have h1 : val x ≤ m * 2 ^ n := by
    rw [← val_f64 m n hn hm]
    rcases Nat.lt_or_ge x (f64 m) with h' | h'
    · exact Nat.le_of_lt (val_mono h')
    · rw [show x = f64 m by omega]; exact Nat.le_refl _
  have := Nat.div_le_div_right (c := 2 ^ n) h1
  rw [Nat.mul_div_cancel _ (Nat.two_pow_pos n)] at this
  exact this
end Go.Proofs.YtjdbapkmaggllaaGreatDoor.Fl.Fo

namespace Go.Proofs.YtjdbapkmaggllaaGreatDoor.Fl.Fo
open Go
set_option maxRecDepth 100000

theorem in_key (t b : Nat) (hb : b < 18446744073709551616) (ht : t < 9223372036854775808) (h : inTo t b = true) : isN b = false ∧ key b = ((b % 9223372036854775808 : Nat) : Int) ∧ b % 9223372036854775808 ≤ t := by
  unfold inTo at h
  simp only [Bool.and_eq_true, Bool.not_eq_true', decide_eq_true_eq] at h
  obtain ⟨⟨h1, h2⟩, h3⟩ := h
  have kt : key t = t := by unfold key; rw [if_pos ht]
  rw [kt] at h3
  refine ⟨h1, ?_⟩
  unfold key at h2 h3 ⊢
  split at h2 <;> rename_i hl
  · rw [if_pos hl] at h3 ⊢; omega
  · rw [if_neg hl] at h3 ⊢; omega
theorem in_of (t b : Nat) (ht : t ≤ 9218868437227405312) (h : b ≤ t) : inTo t b = true := by
  unfold inTo
  have k1 : key b = b := by unfold key; rw [if_pos (by omega)]
  have k2 : key t = t := by unfold key; rw [if_pos (by omega)]
  have k3 : isN b = false := by unfold isN; simp only [decide_eq_false_iff_not]; omega
  rw [k1, k2, k3]
  simp only [Bool.not_false, Bool.true_and, Bool.and_eq_true, decide_eq_true_eq]
  omega
/-- How a number that is not below 0 stands to a chance or a price. -/
theorem ord_in (r t b : Nat) (hr : r ≤ 9218868437227405312) (hb : b < 18446744073709551616) (ht : t ≤ 9218868437227405312) (h : inTo t b = true) :
    FloatKind.f64.format.order r b = some (compare (r : Int) ((b % 9223372036854775808 : Nat) : Int)) ∧ FloatKind.f64.format.order b r = some (compare ((b % 9223372036854775808 : Nat) : Int) (r : Int)) := by
  obtain ⟨h1, h2, h3⟩ := in_key t b hb (by omega) h
  have k1 : key r = r := by unfold key; rw [if_pos (by omega)]
  have k3 : isN r = false := by unfold isN; simp only [decide_eq_false_iff_not]; omega
  rw [ord_of r b (by omega) hb k3 h1, ord_of b r hb (by omega) h1 k3, k1, h2]
  exact ⟨rfl, rfl⟩

/-! Chances -/
def mulB (x y : Nat) : Nat := (floatBits .mul .f64 x y).getD 0
def tmOk (a b : Nat) : Bool := inTo 4607182418800017408 a && inTo 4607182418800017408 b
/-- A chance times another one. -/
def tm (a b : Nat) : Nat := if tmOk a b then mulB (a % 9223372036854775808) (b % 9223372036854775808) else 0
def tmE (a b : Nat) : Int := if tmOk a b then 0 else 16
theorem tmOk_comm (a b : Nat) : tmOk a b = tmOk b a := Bool.and_comm _ _
theorem tm_comm (a b : Nat) : tm a b = tm b a := by
  unfold tm mulB; rw [tmOk_comm a b, mul_comm_bits]
theorem tmE_comm (a b : Nat) : tmE a b = tmE b a := by unfold tmE; rw [tmOk_comm a b]
theorem tm_spec (a b : Nat) (ha : a < 18446744073709551616) (hb : b < 18446744073709551616) (h : tmOk a b = true) :
    floatBits .mul .f64 (a % 9223372036854775808) (b % 9223372036854775808) = some (tm a b) ∧ tm a b ≤ a % 9223372036854775808 ∧ tm a b ≤ b % 9223372036854775808 ∧ tm a b ≤ 4607182418800017408 := by
  have h' := h
  unfold tmOk at h'
  simp only [Bool.and_eq_true] at h'
  obtain ⟨-, -, h1⟩ := in_key _ a ha (by decide) h'.1
  obtain ⟨-, -, h2⟩ := in_key _ b hb (by decide) h'.2
  obtain ⟨r, e1, l1⟩ := mul_le (a % 9223372036854775808) (b % 9223372036854775808) (by omega) h2
  obtain ⟨r', e2, l2⟩ := mul_le (b % 9223372036854775808) (a % 9223372036854775808) (by omega) h1
  rw [mul_comm_bits, e1] at e2
  obtain rfl := Option.some.inj e2
  have : tm a b = r := by unfold tm mulB; rw [if_pos h, e1]; rfl
  rw [this]
  exact ⟨e1, l1, l2, by omega⟩
theorem tm_le (a b : Nat) (ha : a < 18446744073709551616) (hb : b < 18446744073709551616) : tm a b ≤ 4607182418800017408 := by
  cases h : tmOk a b
  · unfold tm; rw [h]; simp
  · exact (tm_spec a b ha hb h).2.2.2
theorem tm_one (a : Nat) (ha : a < 18446744073709551616) (h : inTo 4607182418800017408 a = true) : tm a 4607182418800017408 = a % 9223372036854775808 ∧ tmE a 4607182418800017408 = 0 := by
  obtain ⟨-, -, h1⟩ := in_key _ a ha (by decide) h
  have hk : tmOk a 4607182418800017408 = true := by
    unfold tmOk; rw [h, in_of _ _ (by decide) (Nat.le_refl _)]; rfl
  constructor
  · unfold tm mulB
    rw [if_pos hk, mul_comm_bits, show 4607182418800017408 % 9223372036854775808 = 4607182418800017408 by decide, mul_one _ (by omega)]; rfl
  · unfold tmE; rw [if_pos hk]

/-! Prices -/
def addB (x y : Nat) : Nat := (floatBits .add .f64 x y).getD 0
def psOk (a b : Nat) : Bool := inTo 9218868437227405312 a && inTo 9218868437227405312 b
/-- A price and another one. -/
def ps (a b : Nat) : Nat := if psOk a b then addB (a % 9223372036854775808) (b % 9223372036854775808) else 0
def psE (a b : Nat) : Int := if psOk a b then 0 else 16
theorem psOk_comm (a b : Nat) : psOk a b = psOk b a := Bool.and_comm _ _
theorem ps_comm (a b : Nat) : ps a b = ps b a := by
  unfold ps addB; rw [psOk_comm a b, add_comm_bits]
theorem psE_comm (a b : Nat) : psE a b = psE b a := by unfold psE; rw [psOk_comm a b]
theorem ps_spec (a b : Nat) (ha : a < 18446744073709551616) (hb : b < 18446744073709551616) (h : psOk a b = true) :
    floatBits .add .f64 (a % 9223372036854775808) (b % 9223372036854775808) = some (ps a b) ∧ a % 9223372036854775808 ≤ ps a b ∧ b % 9223372036854775808 ≤ ps a b ∧ ps a b ≤ 9218868437227405312 := by
  have h' := h
  unfold psOk at h'
  simp only [Bool.and_eq_true] at h'
  obtain ⟨-, -, h1⟩ := in_key _ a ha (by decide) h'.1
  obtain ⟨-, -, h2⟩ := in_key _ b hb (by decide) h'.2
  obtain ⟨r, e1, l1, l2, l3⟩ := add_price _ _ h1 h2
  have : ps a b = r := by unfold ps addB; rw [if_pos h, e1]; rfl
  rw [this]
  exact ⟨e1, l1, l2, l3⟩
theorem ps_le (a b : Nat) (ha : a < 18446744073709551616) (hb : b < 18446744073709551616) : ps a b ≤ 9218868437227405312 := by
  cases h : psOk a b
  · unfold ps; rw [h]; simp
  · exact (ps_spec a b ha hb h).2.2.2
theorem add_zero_price (x : Nat) (hx : x ≤ 9218868437227405312) : floatBits .add .f64 x 0 = some x := by
  by_cases h : x = 9218868437227405312
  · subst h; exact add_inf 0 (by decide)
  · exact add_zero_bits x (by omega)
theorem ps_zero (a : Nat) (ha : a < 18446744073709551616) (h : inTo 9218868437227405312 a = true) : ps a 0 = a % 9223372036854775808 ∧ psE a 0 = 0 := by
  obtain ⟨-, -, h1⟩ := in_key _ a ha (by decide) h
  have hk : psOk a 0 = true := by
    unfold psOk; rw [h, in_of _ _ (by decide) (by decide)]; rfl
  constructor
  · unfold ps addB
    rw [if_pos hk, show 0 % 9223372036854775808 = 0 by decide, add_zero_price _ h1]; rfl
  · unfold psE; rw [if_pos hk]
theorem ps_inf (a : Nat) (ha : a ≤ 9218868437227405312) : ps a 9218868437227405312 = 9218868437227405312 ∧ psE a 9218868437227405312 = 0 := by
  have hk : psOk a 9218868437227405312 = true := by
    unfold psOk; rw [in_of _ _ (by decide) ha, in_of _ _ (by decide) (Nat.le_refl _)]; rfl
  constructor
  · rw [ps_comm]
    rw [psOk_comm] at hk
    unfold ps addB
    rw [if_pos hk, show 9218868437227405312 % 9223372036854775808 = 9218868437227405312 by decide, show a % 9223372036854775808 = a by omega, add_inf a ha]; rfl
  · unfold psE; rw [if_pos hk]

/-! The price of all -/
def pathV (X : Nat → Nat) : Nat → Nat
  | 0 => 0
  | k + 1 => ps (pathV X k) (X k)
theorem path_top (X : Nat → Nat) (hX : ∀ j, X j < 18446744073709551616) : ∀ k, pathV X k ≤ 9218868437227405312
  | 0 => Nat.zero_le _
  | k + 1 => ps_le _ _ (by have := path_top X hX k; omega) (hX k)
theorem path_ok (X : Nat → Nat) (hX : ∀ j, X j < 18446744073709551616) (k : Nat) : psOk (pathV X k) (X k) = inTo 9218868437227405312 (X k) := by
  unfold psOk; rw [in_of _ _ (by decide) (path_top X hX k)]; rfl
theorem path_ge (X : Nat → Nat) (hX : ∀ j, X j < 18446744073709551616) : ∀ k, (∀ j, j < k → inTo 9218868437227405312 (X j) = true) → ∀ j, j < k → X j % 9223372036854775808 ≤ pathV X k
  | 0, _, j, hj => by omega
  | k + 1, h, j, hj => by
    have ht := path_top X hX k
    have hk : psOk (pathV X k) (X k) = true := by rw [path_ok X hX k]; exact h k (by omega)
    obtain ⟨-, h1, h2, -⟩ := ps_spec (pathV X k) (X k) (by omega) (hX k) hk
    rw [pathV]
    by_cases e : j = k
    · subst e; exact h2
    · have := path_ge X hX k (fun j hj => h j (by omega)) j (by omega)
      omega
theorem path_infs (X : Nat → Nat) (hX : ∀ j, X j < 18446744073709551616) (k j : Nat) (h : ∀ j, j < k → inTo 9218868437227405312 (X j) = true) (hj : j < k) (hi : X j = 9218868437227405312) : pathV X k = 9218868437227405312 := by
  have h1 := path_ge X hX k h j hj
  have h2 := path_top X hX k
  rw [hi] at h1
  omega
def sumN (L : Nat → Nat) : Nat → Nat
  | 0 => 0
  | k + 1 => sumN L k + L k
theorem ps_whole (a b : Nat) (h : a + b < 9007199254740992) : ps (f64 a) (f64 b) = f64 (a + b) := by
  have h1 := f64_lt a (by omega)
  have h2 := f64_lt b (by omega)
  have hk : psOk (f64 a) (f64 b) = true := by
    unfold psOk; rw [in_of _ _ (by decide) (by omega), in_of _ _ (by decide) (by omega)]; rfl
  unfold ps addB
  rw [if_pos hk, show f64 a % 9223372036854775808 = f64 a by omega, show f64 b % 9223372036854775808 = f64 b by omega, add_whole a b h]; rfl
theorem path_whole (X L : Nat → Nat) : ∀ k, (∀ j, j < k → X j = f64 (L j)) → sumN L k < 9007199254740992 → pathV X k = f64 (sumN L k)
  | 0, _, _ => f64_zero.symm
  | k + 1, h, hs => by
    rw [sumN] at hs
    rw [pathV, sumN, path_whole X L k (fun j hj => h j (by omega)) (by omega), h k (by omega), ps_whole _ _ hs]

/-! The most likely of pairs -/
def dotV (X Y : Nat → Nat) : Nat → Nat
  | 0 => 0
  | k + 1 => max (dotV X Y k) (tm (X k) (Y k))
theorem dot_ge (X Y : Nat → Nat) : ∀ k j, j < k → tm (X j) (Y j) ≤ dotV X Y k
  | 0, j, hj => by omega
  | k + 1, j, hj => by
    rw [dotV]
    by_cases e : j = k
    · subst e; exact Nat.le_max_right _ _
    · exact Nat.le_trans (dot_ge X Y k j (by omega)) (Nat.le_max_left _ _)
theorem dot_mem (X Y : Nat → Nat) : ∀ k, 0 < k → ∃ j, j < k ∧ dotV X Y k = tm (X j) (Y j)
  | 0, h => by omega
  | k + 1, _ => by
    rw [dotV]
    by_cases h0 : k = 0
    · subst h0; exact ⟨0, by omega, by rw [dotV, Nat.zero_max]⟩
    · obtain ⟨j, hj, e⟩ := dot_mem X Y k (by omega)
      rcases Nat.le_total (dotV X Y k) (tm (X k) (Y k)) with h | h
      · exact ⟨k, by omega, Nat.max_eq_right h⟩
      · exact ⟨j, by omega, by rw [Nat.max_eq_left h, e]⟩
/-- Pairs in another order, and turned about. -/
theorem dot_turn (X Y X' Y' : Nat → Nat) (k : Nat) (h1 : ∀ j, j < k → ∃ i, i < k ∧ X' j = Y i ∧ Y' j = X i) (h2 : ∀ i, i < k → ∃ j, j < k ∧ X' j = Y i ∧ Y' j = X i) : dotV X' Y' k = dotV X Y k := by
  by_cases h0 : k = 0
  · subst h0; rfl
  obtain ⟨j, hj, e⟩ := dot_mem X' Y' k (by omega)
  obtain ⟨i, hi, e'⟩ := dot_mem X Y k (by omega)
  obtain ⟨i2, hi2, a, b⟩ := h1 j hj
  obtain ⟨j2, hj2, c, d⟩ := h2 i hi
  have g1 := dot_ge X Y k i2 hi2
  have g2 := dot_ge X' Y' k j2 hj2
  rw [a, b, tm_comm] at e
  rw [c, d, tm_comm] at g2
  omega
theorem dot_top (X Y : Nat → Nat) (hX : ∀ j, X j < 18446744073709551616) (hY : ∀ j, Y j < 18446744073709551616) : ∀ k, dotV X Y k ≤ 4607182418800017408
  | 0 => Nat.zero_le _
  | k + 1 => by
    rw [dotV]
    have h1 := dot_top X Y hX hY k
    have h2 := tm_le (X k) (Y k) (hX k) (hY k)
    omega
end Go.Proofs.YtjdbapkmaggllaaGreatDoor.Fl.Fo
