/- Plain mathematics of doubles: what is not rounded is written as it is; products of finite numbers; whole numbers as doubles. Plain mathematics of doubles: significands, whole numbers below 2^53, infinity's rung. (The same facts stand in the text P of the first seat: don't import both.) -/
import Derived.Test.YtjdbapkmaggllaaGreatDoorS09
import Derived.Laws.FloatArith
namespace Go.Proofs.YtjdbapkmaggllaaGreatDoor.Fl.Fo
open Ieee Go

theorem fm1 : Ieee.double.signWeight = 9223372036854775808 := by decide
theorem fm2 : Ieee.double.binade = 4503599627370496 := by decide
theorem fm3 : Ieee.double.infRung = 9218868437227405312 := by decide
theorem fm4 : Ieee.double.leastPlace = -1074 := by decide
theorem fm5 : Ieee.double.fractionBits = 52 := by decide
theorem cut_exact (neg : Bool) (K d : Nat) (hK : 0 < K) : Toward.even.cut neg (K * 2 ^ d) d = K := by
  have hp := Nat.two_pow_pos d
  have hl : d ≤ (K * 2 ^ d).log2 := by
    rw [Nat.le_log2 (by exact Nat.ne_of_gt (Nat.mul_pos hK hp))]
    exact Nat.le_mul_of_pos_left _ hK
  unfold Toward.cut
  simp only [Nat.min_eq_left (show d ≤ (K * 2 ^ d).log2 + 2 by omega), Nat.one_shiftLeft, Nat.mul_div_cancel _ hp, Nat.mul_mod_left]
  simp

theorem log2_of (n k : Nat) (h1 : 2 ^ k ≤ n) (h2 : n < 2 ^ (k + 1)) : n.log2 = k := by
  have hp := Nat.two_pow_pos k
  exact (Nat.log2_eq_iff (by omega)).2 ⟨h1, h2⟩
theorem log2_bd (n : Nat) (h : n ≠ 0) : 2 ^ n.log2 ≤ n ∧ n < 2 ^ (n.log2 + 1) := (Nat.log2_eq_iff h).1 rfl
theorem log2_mul (m a : Nat) (h : m ≠ 0) : (m * 2 ^ a).log2 = m.log2 + a := by
  obtain ⟨h1, h2⟩ := log2_bd m h
  refine log2_of _ _ ?_ ?_
  · rw [Nat.pow_add]; exact Nat.mul_le_mul_right _ h1
  · rw [show m.log2 + a + 1 = (m.log2 + 1) + a by omega, Nat.pow_add]; exact Nat.mul_lt_mul_of_pos_right h2 (Nat.two_pow_pos a)
/-- A number that the format has is written as it is. -/
theorem nearest_exact (neg : Bool) (mag : Nat) (place : Int) (r a b : Nat) (hr : r < 9218868437227405312) (hab : place + 1074 + b = a) (h : mag * 2 ^ a = val r * 2 ^ b) :
    Ieee.double.nearest neg mag place = if neg then 9223372036854775808 + r else r := by
  have h1 : Ieee.double.signWeight = 9223372036854775808 := by decide
  have h2 : Ieee.double.binade = 4503599627370496 := by decide
  have h3 : Ieee.double.infRung = 9218868437227405312 := by decide
  have h4 : Ieee.double.leastPlace = -1074 := by decide
  have h5 : Ieee.double.fractionBits = 52 := by decide
  have hb := Nat.two_pow_pos b
  have ha := Nat.two_pow_pos a
  by_cases hm : mag = 0
  · subst hm
    have hv : val r = 0 := by
      rw [Nat.zero_mul] at h
      rcases Nat.mul_eq_zero.1 h.symm with h | h
      · exact h
      · omega
    have hr0 : r = 0 := val_inj.1 (hv.trans (by decide))
    subst hr0
    simp only [Format.nearest, Format.word, h1, if_true]
  · unfold Format.nearest Format.word
    rw [if_neg hm]
    simp only [h1, h2, h3, h4, h5]
    -- the place of the last digit, and the digits
    have key : ∃ (q K : Nat), max (place + (mag.log2 : Int) - (52 : Nat)) (-1074) = -1074 + (q : Int) ∧ 0 < K ∧ q * 4503599627370496 + K = r ∧ mag * 2 ^ a = K * 2 ^ (q + b) := by
      have hl := log2_mul mag a hm
      by_cases hs : r < 4503599627370496
      · have hv : val r = r := by unfold val; rw [if_pos hs]
        have hr0 : r ≠ 0 := by
          rintro rfl
          rw [hv, Nat.zero_mul] at h
          rcases Nat.mul_eq_zero.1 h with h | h <;> omega
        rw [h, hv, log2_mul r b hr0] at hl
        have hrl : r.log2 < 52 := by
          have := log2_bd r hr0
          rcases Nat.lt_or_ge r.log2 52 with h' | h'
          · exact h'
          · have := Nat.pow_le_pow_right (n := 2) (by decide) h'; omega
        exact ⟨0, r, by omega, by omega, by rw [Nat.zero_mul, Nat.zero_add], by rw [h, hv, Nat.zero_add]⟩
      · have hv : val r = (4503599627370496 + r % 4503599627370496) * 2 ^ (r / 4503599627370496 - 1) := by unfold val; rw [if_neg hs]
        obtain ⟨F, hF⟩ : ∃ F, F = 4503599627370496 + r % 4503599627370496 := ⟨_, rfl⟩
        rw [← hF] at hv
        have hf : F.log2 = 52 := log2_of F 52 (show 4503599627370496 ≤ F by omega) (show F < 9007199254740992 by omega)
        have hF0 : F ≠ 0 := by omega
        have hl2 := log2_mul F (r / 4503599627370496 - 1 + b) hF0
        rw [h, hv, Nat.mul_assoc, ← Nat.pow_add, hl2, hf] at hl
        refine ⟨r / 4503599627370496 - 1, F, by omega, by omega, by omega, ?_⟩
        rw [h, hv, Nat.mul_assoc, ← Nat.pow_add]
    obtain ⟨q, K, hlast, hK, hrr, hKm⟩ := key
    rw [hlast]
    have hcut : Toward.even.cut neg (mag <<< (place - (-1074 + (q : Int))).toNat) (-1074 + (q : Int) - place).toNat = K := by
      rcases Nat.lt_or_ge a (q + b) with hlt | hge
      · -- digits are dropped, all of them 0
        have e1 : (place - (-1074 + (q : Int))).toNat = 0 := by omega
        have e2 : (-1074 + (q : Int) - place).toNat = q + b - a := by omega
        rw [e1, e2, Nat.shiftLeft_zero]
        have e3 : mag = K * 2 ^ (q + b - a) := by
          have : mag * 2 ^ a = K * 2 ^ (q + b - a) * 2 ^ a := by rw [hKm, Nat.mul_assoc, ← Nat.pow_add]; congr 2; omega
          exact Nat.eq_of_mul_eq_mul_right ha this
        rw [e3]; exact cut_exact neg K _ hK
      · have e1 : (place - (-1074 + (q : Int))).toNat = a - (q + b) := by omega
        have e2 : (-1074 + (q : Int) - place).toNat = 0 := by omega
        rw [e1, e2, Nat.shiftLeft_eq]
        have e3 : mag * 2 ^ (a - (q + b)) = K := by
          have : mag * 2 ^ (a - (q + b)) * 2 ^ (q + b) = K * 2 ^ (q + b) := by rw [Nat.mul_assoc, ← Nat.pow_add, ← hKm]; congr 2; omega
          exact Nat.eq_of_mul_eq_mul_right (Nat.two_pow_pos _) this
        rw [e3]
        have := cut_exact neg K 0 hK
        simpa using this
    rw [hcut, show (-1074 + (q : Int) - -1074).toNat = q by omega, hrr, Nat.min_eq_left (by omega)]

/-- A product of finite numbers is a number. -/
theorem mul_fin (x y : Nat) (hx : x < 18446744073709551616) (hy : y < 18446744073709551616) (fx : x % 9223372036854775808 < 9218868437227405312) (fy : y % 9223372036854775808 < 9218868437227405312) :
    ∃ m e n f : Nat, floatBits .mul .f64 x y = some (Ieee.double.nearest (decide (9223372036854775808 ≤ x) ^^ decide (9223372036854775808 ≤ y)) (m * n) (-1074 + (e : Int) + (-1074 + (f : Int)))) ∧ m * 2 ^ e = val (x % 9223372036854775808) ∧ n * 2 ^ f = val (y % 9223372036854775808) := by
  obtain ⟨m, e, hr, hv⟩ := read_fin x hx fx
  obtain ⟨n, f, hs, hw⟩ := read_fin y hy fy
  refine ⟨m, e, n, f, ?_, hv, hw⟩
  show Ieee.double.mul x y = _
  simp only [Format.mul, hr, hs, Datum.product, Option.map_some, Format.write]
theorem mul_some (x y : Nat) (hx : x < 18446744073709551616) (hy : y < 18446744073709551616) (fx : x % 9223372036854775808 < 9218868437227405312) (fy : y % 9223372036854775808 < 9218868437227405312) :
    ∃ r, floatBits .mul .f64 x y = some r ∧ r < 18446744073709551616 := by
  obtain ⟨m, e, n, f, h, -, -⟩ := mul_fin x y hx hy fx fy
  exact ⟨_, h, Format.mul_lt (f := Ieee.double) h⟩
/-- A product that is not rounded. -/
theorem mul_exact (x y r n : Nat) (hn : n = 1074) (hx : x < 9218868437227405312) (hy : y < 9218868437227405312) (hr : r < 9218868437227405312) (h : val x * val y = val r * 2 ^ n) :
    floatBits .mul .f64 x y = some r := by
  obtain ⟨m, e, k, f, hh, h1, h2⟩ := mul_fin x y (by omega) (by omega) (by omega) (by omega)
  rw [hh]
  rw [show x % 9223372036854775808 = x by omega] at h1
  rw [show y % 9223372036854775808 = y by omega] at h2
  have d1 : decide (9223372036854775808 ≤ x) = false := by simp; omega
  have d2 : decide (9223372036854775808 ≤ y) = false := by simp; omega
  rw [d1, d2]
  refine congrArg some ?_
  have := nearest_exact false (m * k) (-1074 + (e : Int) + (-1074 + (f : Int))) r (e + f) n hr (by omega) (by
    rw [← h, ← h1, ← h2, Nat.pow_add]
    simp only [Nat.mul_assoc, Nat.mul_left_comm])
  exact this
theorem val_norm (r a b : Nat) (h : ¬ r < 4503599627370496) (ha : r / 4503599627370496 - 1 = a) (hb : r % 4503599627370496 = b) : val r = (4503599627370496 + b) * 2 ^ a := by
  unfold val; rw [if_neg h, ha, hb]
theorem val_one (n : Nat) (hn : n = 1074) : val 4607182418800017408 = 2 ^ n := by
  obtain ⟨a, ha⟩ : ∃ a, a = 1022 := ⟨_, rfl⟩
  rw [val_norm 4607182418800017408 a 0 (by decide) (by omega) (by decide), show (4503599627370496 + 0 : Nat) = 2 ^ 52 by decide, ← Nat.pow_add, show 52 + a = n by omega]
theorem mul_one (y : Nat) (hy : y < 9218868437227405312) : floatBits .mul .f64 4607182418800017408 y = some y := by
  obtain ⟨n, hn⟩ : ∃ n, n = 1074 := ⟨_, rfl⟩
  exact mul_exact _ y y n hn (by decide) hy hy (by rw [val_one n hn, Nat.mul_comm])

/-- A whole number as a double. -/
def f64 (m : Nat) : Nat := floatOfInt .f64 (m : Int)
theorem f64_eq (m : Nat) : f64 m = Ieee.double.nearest false m 0 := by
  have : decide ((m : Int) < 0) = false := by simp
  show Ieee.double.nearest (decide ((m : Int) < 0)) (m : Int).natAbs 0 = _
  rw [this]; rfl
theorem f64_zero : f64 0 = 0 := by decide +kernel
theorem cut_le (neg : Bool) (n d : Nat) : Toward.even.cut neg n d ≤ n / 2 ^ min d (n.log2 + 2) + 1 := by
  unfold Toward.cut
  simp only [Nat.one_shiftLeft]
  have : ∀ b : Bool, b.toNat ≤ 1 := by decide
  exact Nat.add_le_add_left (this _) _
theorem quot_bd (m L : Nat) (l1 : 2 ^ L ≤ m) (l2 : m < 2 ^ (L + 1)) (a d g : Nat) (ha : a = 52 - L) (hd : d = L - 52) (hg : (m * 2 ^ a).log2 = g) :
    m * 2 ^ a / 2 ^ min d (g + 2) < 9007199254740992 := by
  have e53 : (9007199254740992 : Nat) = 2 ^ 53 := by rfl
  rw [e53]
  rcases Nat.lt_or_ge L 52 with h | h
  · have hd0 : d = 0 := by omega
    rw [hd0, Nat.zero_min, Nat.pow_zero, Nat.div_one]
    have : m * 2 ^ a < 2 ^ (L + 1) * 2 ^ a := Nat.mul_lt_mul_of_pos_right l2 (Nat.two_pow_pos _)
    rw [← Nat.pow_add, show L + 1 + a = 53 by omega] at this
    exact this
  · have ha0 : a = 0 := by omega
    have hm : m.log2 = L := log2_of m L l1 l2
    rw [ha0, Nat.pow_zero, Nat.mul_one] at hg ⊢
    rw [Nat.min_eq_left (by omega), Nat.div_lt_iff_lt_mul (Nat.two_pow_pos _), ← Nat.pow_add, show 53 + d = L + 1 by omega]
    exact l2
/-- What Ldexp makes of a number that is 0 or normal. -/
def ldx (x : Nat) (n : Int) : Nat :=
  if x = 0 then 0 else
  if n + ((x / 4503599627370496 : Nat) - 1023) < -1075 then 0 else
  if 1023 < n + ((x / 4503599627370496 : Nat) - 1023) then 9218868437227405312 else
  if n + ((x / 4503599627370496 : Nat) - 1023) < -1022 then (floatBits .mul .f64 4368491638549381120 (x % 4503599627370496 + (n + (x / 4503599627370496 : Nat) + 53).toNat * 4503599627370496)).getD 0
  else (floatBits .mul .f64 4607182418800017408 (x % 4503599627370496 + (n + (x / 4503599627370496 : Nat)).toNat * 4503599627370496)).getD 0
theorem f64_bd (m : Nat) (h1 : 1 ≤ m) (h2 : m < 18446744073709551616) : 4503599627370496 ≤ f64 m ∧ f64 m < 9218868437227405312 := by
  obtain ⟨l1, l2⟩ := log2_bd m (by omega)
  have l3 : m.log2 < 64 := (Nat.log2_lt (by omega)).2 (Nat.lt_of_lt_of_le h2 (by decide))
  have e : f64 m = min ((max (0 + (m.log2 : Int) - (52 : Nat)) (-1074) - -1074).toNat * 4503599627370496 + Toward.even.cut false (m <<< (0 - max (0 + (m.log2 : Int) - (52 : Nat)) (-1074)).toNat) (max (0 + (m.log2 : Int) - (52 : Nat)) (-1074) - 0).toNat) 9218868437227405312 := by
    rw [f64_eq, Format.nearest, if_neg (by omega)]
    simp only [Format.word, fm2, fm3, fm4, fm5, Bool.false_eq_true, if_false]
  have hmain : ∀ L : Nat, m.log2 = L → L < 64 → 4503599627370496 ≤ f64 m ∧ f64 m < 9218868437227405312 := by
    intro L hL h64
    rw [hL] at e l1 l2
    have hlast : max (0 + (L : Int) - (52 : Nat)) (-1074) = L - 52 := by omega
    have hq : ((L : Int) - 52 - -1074).toNat = L + 1022 := by omega
    have ha : (0 - ((L : Int) - 52)).toNat = 52 - L := by omega
    have hd : ((L : Int) - 52 - 0).toNat = L - 52 := by omega
    rw [hlast, hq, ha, hd, Nat.shiftLeft_eq] at e
    have hc := cut_le false (m * 2 ^ (52 - L)) (L - 52)
    have hk := quot_bd m L l1 l2 (52 - L) (L - 52) _ rfl rfl rfl
    have hC : Toward.even.cut false (m * 2 ^ (52 - L)) (L - 52) ≤ 9007199254740992 := Nat.le_trans hc hk
    clear hc hk l1 l2 hlast hq ha hd
    generalize Toward.even.cut false (m * 2 ^ (52 - L)) (L - 52) = C at e hC
    generalize f64 m = X at e ⊢
    clear l3 h1 h2 hL
    rw [Nat.min_def] at e
    split at e <;> omega
  exact hmain _ rfl l3
end Go.Proofs.YtjdbapkmaggllaaGreatDoor.Fl.Fo

namespace Go.Proofs.YtjdbapkmaggllaaGreatDoor.Fl.Fo
open Ieee Go
set_option maxRecDepth 100000

theorem pow_join (M a b c : Nat) (h : a + b = c) : M * 2 ^ a * 2 ^ b = M * 2 ^ c := by rw [Nat.mul_assoc, ← Nat.pow_add, h]
/-- The digits of a whole number below 2^53, as a significand. -/
theorem sig_bd (M L : Nat) (h1 : 2 ^ L ≤ M) (h2 : M < 2 ^ (L + 1)) (hL : L ≤ 52) : 4503599627370496 ≤ M * 2 ^ (52 - L) ∧ M * 2 ^ (52 - L) < 9007199254740992 := by
  have hp := Nat.two_pow_pos (52 - L)
  have e1 : 2 ^ L * 2 ^ (52 - L) = 4503599627370496 := by rw [← Nat.pow_add, show L + (52 - L) = 52 by omega]
  have e2 : 2 ^ (L + 1) * 2 ^ (52 - L) = 9007199254740992 := by rw [← Nat.pow_add, show L + 1 + (52 - L) = 53 by omega]
  exact ⟨e1 ▸ Nat.mul_le_mul_right _ h1, e2 ▸ Nat.mul_lt_mul_of_pos_right h2 hp⟩
theorem val_sig (K q r : Nat) (h1 : 4503599627370496 ≤ K) (h2 : K < 9007199254740992) (hr : r = q * 4503599627370496 + K) : val r = K * 2 ^ q := by
  rw [val_norm r q (K - 4503599627370496) (by omega) (by omega) (by omega), show 4503599627370496 + (K - 4503599627370496) = K by omega]
theorem f64_exact (M L : Nat) (h1 : 2 ^ L ≤ M) (h2 : M < 2 ^ (L + 1)) (hL : L ≤ 52) : f64 M = (L + 1022) * 4503599627370496 + M * 2 ^ (52 - L) := by
  obtain ⟨k1, k2⟩ := sig_bd M L h1 h2 hL
  obtain ⟨n, hn⟩ : ∃ n, n = 1074 := ⟨_, rfl⟩
  rw [f64_eq]
  have hv := val_sig (M * 2 ^ (52 - L)) (L + 1022) _ k1 k2 rfl
  have := nearest_exact false M 0 ((L + 1022) * 4503599627370496 + M * 2 ^ (52 - L)) n 0 (by omega) (by omega) (by rw [hv, Nat.pow_zero, Nat.mul_one, pow_join M (52 - L) (L + 1022) n (by omega)])
  exact this
theorem val_inf (n : Nat) (hn : n = 2098) : val 9218868437227405312 = 2 ^ n := by
  obtain ⟨a, ha⟩ : ∃ a, a = 2046 := ⟨_, rfl⟩
  rw [val_norm 9218868437227405312 a 0 (by decide) (by omega) (by decide), show (4503599627370496 + 0 : Nat) = 2 ^ 52 by decide, ← Nat.pow_add, show 52 + a = n by omega]
end Go.Proofs.YtjdbapkmaggllaaGreatDoor.Fl.Fo
