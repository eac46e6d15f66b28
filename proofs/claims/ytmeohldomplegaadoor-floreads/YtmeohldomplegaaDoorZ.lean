/- Plain mathematics: doubling and halving of doubles, again and again. -/
import Derived.Test.YtmeohldomplegaaDoorP
namespace Go.Proofs.YtmeohldomplegaaDoor.Fo
open Go Ieee
set_option maxRecDepth 100000

theorem nearest_le (mag : Nat) (place : Int) : Ieee.double.nearest false mag place ≤ 9218868437227405312 := by
  unfold Format.nearest Format.word
  by_cases h : mag = 0
  · rw [if_pos h]; simp only [Bool.false_eq_true, if_false]; omega
  · rw [if_neg h]; simp only [Bool.false_eq_true, if_false, fm3]; exact Nat.min_le_right _ _
def dbl (x : Nat) : Nat := (floatBits .mul .f64 x 4611686018427387904).getD 0
def hlv (x : Nat) : Nat := (floatBits .quo .f64 x 4611686018427387904).getD 0
theorem dbl_some (x : Nat) (hx : x ≤ 9218868437227405312) : floatBits .mul .f64 x 4611686018427387904 = some (dbl x) ∧ dbl x ≤ 9218868437227405312 := by
  unfold dbl
  by_cases h : x = 9218868437227405312
  · subst h
    have : floatBits .mul .f64 9218868437227405312 4611686018427387904 = some 9218868437227405312 := by decide +kernel
    rw [this]; exact ⟨rfl, Nat.le_refl _⟩
  · obtain ⟨m, e, n, f, hh, -, -⟩ := mul_fin x 4611686018427387904 (by omega) (by decide) (by omega) (by decide)
    have d1 : decide (9223372036854775808 ≤ x) = false := by simp; omega
    have d2 : decide (9223372036854775808 ≤ 4611686018427387904) = false := by decide
    rw [d1, d2] at hh
    rw [hh]
    exact ⟨rfl, nearest_le _ _⟩
theorem read_two : Ieee.double.read 4611686018427387904 = .number false 4503599627370496 (-51) := by decide +kernel
theorem read_fin2 (b : Nat) (hb : b < 18446744073709551616) (hf : b % 9223372036854775808 < 9218868437227405312) :
    ∃ m e : Nat, Ieee.double.read b = .number (decide (9223372036854775808 ≤ b)) m (-1074 + (e : Int)) ∧ m * 2 ^ e = val (b % 9223372036854775808) ∧ m < 9007199254740992 := by
  rw [read_eq b hb]
  by_cases h : b % 9223372036854775808 < 4503599627370496
  · refine ⟨b % 9223372036854775808, 0, ?_, ?_, by omega⟩
    · rw [if_pos h]; rfl
    · unfold val; rw [if_pos h]; simp
  · refine ⟨4503599627370496 + b % 9223372036854775808 % 4503599627370496, b % 9223372036854775808 / 4503599627370496 - 1, ?_, ?_, by omega⟩
    · rw [if_neg h, if_pos hf]
    · unfold val; rw [if_neg h]
theorem div_two (x : Nat) (hx : x < 9218868437227405312) :
    ∃ m e : Nat, m < 9007199254740992 ∧ m * 2 ^ e = val x ∧ floatBits .quo .f64 x 4611686018427387904 = some (Ieee.double.nearest false (2 * (m <<< (106 - m.log2) / 4503599627370496) + ((m <<< (106 - m.log2) % 4503599627370496 != 0)).toNat) (-1074 + (e : Int) - -51 - ((106 - m.log2 : Nat) : Int) - 1)) := by
  obtain ⟨m, e, hr, hv, hml⟩ := read_fin2 x (by omega) (by omega)
  rw [show x % 9223372036854775808 = x by omega] at hv
  refine ⟨m, e, hml, hv, ?_⟩
  have d1 : decide (9223372036854775808 ≤ x) = false := by simp; omega
  have l52 : Nat.log2 4503599627370496 = 52 := by decide +kernel
  show Ieee.double.div x 4611686018427387904 = _
  simp only [Format.div, hr, read_two, d1, Datum.quotient, fm5]
  rw [if_neg (by decide), l52]
  rfl
theorem hlv_some (x : Nat) (hx : x ≤ 9218868437227405312) : floatBits .quo .f64 x 4611686018427387904 = some (hlv x) ∧ hlv x ≤ 9218868437227405312 := by
  unfold hlv
  by_cases h : x = 9218868437227405312
  · subst h
    have : floatBits .quo .f64 9218868437227405312 4611686018427387904 = some 9218868437227405312 := by decide +kernel
    rw [this]; exact ⟨rfl, Nat.le_refl _⟩
  · obtain ⟨m, e, -, -, hh⟩ := div_two x (by omega)
    rw [hh]
    exact ⟨rfl, nearest_le _ _⟩
theorem val_two (n : Nat) (hn : n = 1075) : val 4611686018427387904 = 2 ^ n := by
  obtain ⟨a, ha⟩ : ∃ a, a = 1023 := ⟨_, rfl⟩
  rw [val_norm 4611686018427387904 a 0 (by decide) (by omega) (by decide), show (4503599627370496 + 0 : Nat) = 2 ^ 52 by decide, ← Nat.pow_add, show 52 + a = n by omega]
theorem dbl_exact (x y : Nat) (hx : x < 9218868437227405312) (hy : y < 9218868437227405312) (h : val y = val x * 2) : dbl x = y := by
  obtain ⟨n, hn⟩ : ∃ n, n = 1074 := ⟨_, rfl⟩
  unfold dbl
  rw [mul_exact x 4611686018427387904 y n hn hx (by decide) hy (by rw [val_two (n + 1) (by omega), h, Nat.pow_succ, Nat.mul_assoc, Nat.mul_comm 2])]
  rfl
theorem hlv_exact (x y : Nat) (hx : x < 9218868437227405312) (hy : y < 9218868437227405312) (h : val x = val y * 2) : hlv x = y := by
  obtain ⟨m, e, hml0, hv, hh⟩ := div_two x hx
  unfold hlv
  rw [hh]
  show Ieee.double.nearest false _ _ = y
  by_cases hm0 : m = 0
  · subst hm0
    have hx0 : val x = 0 := by rw [← hv, Nat.zero_mul]
    have hy0 : val y = 0 := by omega
    have : y = 0 := val_inj.1 (hy0.trans (by decide))
    subst this
    simp [Format.nearest, Format.word]
  · have hml : m.log2 ≤ 52 := by
      have : m.log2 < 53 := (Nat.log2_lt hm0).2 hml0
      omega
    have hmore : 54 ≤ 106 - m.log2 := by omega
    generalize 106 - m.log2 = k at hmore
    have hsh : m <<< k = m * 2 ^ (k - 52) * 4503599627370496 := by
      rw [Nat.shiftLeft_eq, show (4503599627370496 : Nat) = 2 ^ 52 by decide, pow_join m (k - 52) 52 k (by omega)]
    rw [hsh, Nat.mul_div_cancel _ (by decide), Nat.mul_mod_left]
    have := nearest_exact false (2 * (m * 2 ^ (k - 52)) + (0 != 0).toNat) (-1074 + (e : Int) - -51 - ((k : Nat) : Int) - 1) y (e + 50) k hy (by omega) (by
      show (2 * (m * 2 ^ (k - 52)) + 0) * 2 ^ (e + 50) = _
      rw [Nat.add_zero, Nat.mul_comm 2, show m * 2 ^ (k - 52) * 2 = m * 2 ^ (k - 51) by rw [show k - 51 = (k - 52) + 1 by omega, Nat.pow_succ, Nat.mul_assoc], pow_join m (k - 51) (e + 50) (e + (k - 1)) (by omega), ← pow_join m e (k - 1) (e + (k - 1)) rfl, hv, h, Nat.mul_assoc, show 2 * 2 ^ (k - 1) = 2 ^ k by rw [Nat.mul_comm, ← Nat.pow_succ]; congr 1; omega])
    exact this
def dblN : Nat → Nat → Nat
  | 0, x => x
  | k + 1, x => dbl (dblN k x)
def hlvN : Nat → Nat → Nat
  | 0, x => x
  | k + 1, x => hlv (hlvN k x)
theorem dblN_le (x : Nat) (hx : x ≤ 9218868437227405312) : ∀ k, dblN k x ≤ 9218868437227405312
  | 0 => hx
  | k + 1 => (dbl_some _ (dblN_le x hx k)).2
theorem hlvN_le (x : Nat) (hx : x ≤ 9218868437227405312) : ∀ k, hlvN k x ≤ 9218868437227405312
  | 0 => hx
  | k + 1 => (hlv_some _ (hlvN_le x hx k)).2
/-- M 2^j units of the least one, as a rung. -/
def rep (M L j : Nat) : Nat := if L + j < 52 then M * 2 ^ j else (j + L - 52) * 4503599627370496 + M * 2 ^ (52 - L)
theorem val_rep (M L j : Nat) (h1 : 2 ^ L ≤ M) (h2 : M < 2 ^ (L + 1)) (hL : L ≤ 52) : val (rep M L j) = M * 2 ^ j := by
  unfold rep
  by_cases h : L + j < 52
  · rw [if_pos h]
    have h3 : M * 2 ^ j < 4503599627370496 := by
      have : M * 2 ^ j < 2 ^ (L + 1) * 2 ^ j := Nat.mul_lt_mul_of_pos_right h2 (Nat.two_pow_pos _)
      rw [← Nat.pow_add] at this
      have h4 : 2 ^ (L + 1 + j) ≤ 2 ^ 52 := Nat.pow_le_pow_right (by decide) (by omega)
      exact Nat.lt_of_lt_of_le this h4
    unfold val; rw [if_pos h3]
  · rw [if_neg h]
    obtain ⟨k1, k2⟩ := sig_bd M L h1 h2 hL
    rw [val_sig (M * 2 ^ (52 - L)) (j + L - 52) _ k1 k2 rfl, pow_join M (52 - L) (j + L - 52) j (by omega)]
theorem rep_lt (M L j : Nat) (h1 : 2 ^ L ≤ M) (h2 : M < 2 ^ (L + 1)) (hL : L ≤ 52) (hj : L + j < 2098) : rep M L j < 9218868437227405312 := by
  obtain ⟨k1, k2⟩ := sig_bd M L h1 h2 hL
  unfold rep
  by_cases h : L + j < 52
  · rw [if_pos h]
    have : M * 2 ^ j < 2 ^ (L + 1) * 2 ^ j := Nat.mul_lt_mul_of_pos_right h2 (Nat.two_pow_pos _)
    rw [← Nat.pow_add] at this
    have h4 : 2 ^ (L + 1 + j) ≤ 2 ^ 52 := Nat.pow_le_pow_right (by decide) (by omega)
    have h5 : (2 : Nat) ^ 52 = 4503599627370496 := by decide
    omega
  · rw [if_neg h]; omega
theorem f64_rep (M L : Nat) (h1 : 2 ^ L ≤ M) (h2 : M < 2 ^ (L + 1)) (hL : L ≤ 52) : f64 M = rep M L 1074 := by
  rw [f64_exact M L h1 h2 hL]; unfold rep; rw [if_neg (by omega), show 1074 + L - 52 = L + 1022 by omega]
theorem dblN_rep (M L : Nat) (h1 : 2 ^ L ≤ M) (h2 : M < 2 ^ (L + 1)) (hL : L ≤ 52) : ∀ k, L + 1074 + k < 2098 → dblN k (f64 M) = rep M L (1074 + k)
  | 0, _ => f64_rep M L h1 h2 hL
  | k + 1, hk => by
    rw [dblN, dblN_rep M L h1 h2 hL k (by omega)]
    refine dbl_exact _ _ (rep_lt M L _ h1 h2 hL (by omega)) (rep_lt M L _ h1 h2 hL (by omega)) ?_
    rw [val_rep M L _ h1 h2 hL, val_rep M L _ h1 h2 hL, show 1074 + (k + 1) = (1074 + k) + 1 by omega, Nat.pow_succ, Nat.mul_assoc]
theorem hlvN_rep (M L : Nat) (h1 : 2 ^ L ≤ M) (h2 : M < 2 ^ (L + 1)) (hL : L ≤ 52) : ∀ k, k ≤ 1074 → hlvN k (f64 M) = rep M L (1074 - k)
  | 0, _ => f64_rep M L h1 h2 hL
  | k + 1, hk => by
    rw [hlvN, hlvN_rep M L h1 h2 hL k (by omega)]
    refine hlv_exact _ _ (rep_lt M L _ h1 h2 hL (by omega)) (rep_lt M L _ h1 h2 hL (by omega)) ?_
    rw [val_rep M L _ h1 h2 hL, val_rep M L _ h1 h2 hL, show 1074 - k = (1074 - (k + 1)) + 1 by omega, Nat.pow_succ, Nat.mul_assoc]
end Go.Proofs.YtmeohldomplegaaDoor.Fo
