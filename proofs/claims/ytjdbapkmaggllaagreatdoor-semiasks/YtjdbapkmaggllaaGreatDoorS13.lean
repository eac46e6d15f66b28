/- Plain mathematics of doubles: rounding keeps the order; sums and products of numbers that are not below 0. -/
import Derived.Test.YtjdbapkmaggllaaGreatDoorS12
namespace Go.Proofs.YtjdbapkmaggllaaGreatDoor.Fl.Fo
open Ieee Go
set_option maxRecDepth 100000

theorem cut_up (neg : Bool) (n d N : Nat) (hn : n ≠ 0) (h : n ≤ N * 2 ^ d) : Toward.even.cut neg n d ≤ N := by
  obtain ⟨l1, l2⟩ := log2_bd n hn
  unfold Toward.cut
  simp only [Nat.one_shiftLeft]
  by_cases hd : d ≤ n.log2 + 2
  · rw [Nat.min_eq_left hd]
    have hp := Nat.two_pow_pos d
    generalize 2 ^ d = g at h hp
    by_cases hr : n % g = 0
    · have : (decide (g < 2 * (n % g)) || (g == 2 * (n % g) && n / g % 2 == 1)) = false := by rw [hr]; simp; omega
      rw [this]
      have := Nat.div_le_div_right (c := g) h
      rw [Nat.mul_div_cancel _ hp] at this
      simpa using this
    · have h1 : n / g < N := by
        rw [Nat.div_lt_iff_lt_mul hp]
        rcases Nat.lt_or_ge n (N * g) with h' | h'
        · exact h'
        · have : n = N * g := by omega
          exact absurd (by rw [this, Nat.mul_mod_left]) hr
      have : ∀ b : Bool, b.toNat ≤ 1 := by decide
      have := this (decide (g < 2 * (n % g)) || (g == 2 * (n % g) && n / g % 2 == 1))
      omega
  · rw [Nat.min_eq_right (by omega)]
    have e : 2 ^ (n.log2 + 2) = 2 * 2 ^ (n.log2 + 1) := by rw [show n.log2 + 2 = (n.log2 + 1) + 1 by omega, Nat.pow_succ]; omega
    generalize 2 ^ (n.log2 + 2) = g at e
    have h1 : n < g := by omega
    rw [Nat.div_eq_of_lt h1, Nat.mod_eq_of_lt h1]
    have : (decide (g < 2 * n) || (g == 2 * n && 0 % 2 == 1)) = false := by simp; omega
    rw [this]; simp
theorem cut_down (neg : Bool) (n d N : Nat) (hn : n ≠ 0) (h : N * 2 ^ d ≤ n) : N ≤ Toward.even.cut neg n d := by
  obtain ⟨l1, l2⟩ := log2_bd n hn
  unfold Toward.cut
  simp only [Nat.one_shiftLeft]
  by_cases hd : d ≤ n.log2 + 2
  · rw [Nat.min_eq_left hd]
    have hp := Nat.two_pow_pos d
    have := Nat.div_le_div_right (c := 2 ^ d) h
    rw [Nat.mul_div_cancel _ hp] at this
    omega
  · have : N = 0 := by
      rcases Nat.eq_zero_or_pos N with h' | h'
      · exact h'
      · have h2 : 2 ^ d ≤ n := Nat.le_trans (Nat.le_mul_of_pos_left _ h') h
        have h3 : 2 ^ (n.log2 + 1) ≤ 2 ^ d := Nat.pow_le_pow_right (by decide) (by omega)
        omega
    rw [this]; exact Nat.zero_le _

/-- The rung that a number is rounded to. -/
theorem nearest_form (mag : Nat) (place : Int) (a b : Nat) (hm : mag ≠ 0) (hab : place + 1074 + b = a) :
    ∃ q C : Nat, Ieee.double.nearest false mag place = min (q * 4503599627370496 + C) 9218868437227405312 ∧ (q = 0 ∨ 4503599627370496 * 2 ^ (b + q) ≤ mag * 2 ^ a) ∧ C ≤ 9007199254740992 ∧
      (∀ N, mag * 2 ^ a ≤ N * 2 ^ (b + q) → C ≤ N) ∧ (∀ N, N * 2 ^ (b + q) ≤ mag * 2 ^ a → N ≤ C) := by
  obtain ⟨l1, l2⟩ := log2_bd mag hm
  have e : Ieee.double.nearest false mag place = min ((max (place + (mag.log2 : Int) - (52 : Nat)) (-1074) - -1074).toNat * 4503599627370496 + Toward.even.cut false (mag <<< (place - max (place + (mag.log2 : Int) - (52 : Nat)) (-1074)).toNat) (max (place + (mag.log2 : Int) - (52 : Nat)) (-1074) - place).toNat) 9218868437227405312 := by
    rw [Format.nearest, if_neg hm]
    simp only [Format.word, fm2, fm3, fm4, fm5, Bool.false_eq_true, if_false]
  generalize mag.log2 = L at l1 l2 e
  obtain ⟨q, hq⟩ : ∃ q : Nat, max (place + (L : Int) - (52 : Nat)) (-1074) = -1074 + (q : Int) := ⟨(max (place + (L : Int) - (52 : Nat)) (-1074) + 1074).toNat, by omega⟩
  rw [hq, show (-1074 + (q : Int) - -1074).toNat = q by omega] at e
  have ha := Nat.two_pow_pos a
  have hbq := Nat.two_pow_pos (b + q)
  have hC : ∃ C, Toward.even.cut false (mag <<< (place - (-1074 + (q : Int))).toNat) (-1074 + (q : Int) - place).toNat = C ∧ (∀ N, mag * 2 ^ a ≤ N * 2 ^ (b + q) → C ≤ N) ∧ (∀ N, N * 2 ^ (b + q) ≤ mag * 2 ^ a → N ≤ C) := by
    refine ⟨_, rfl, ?_⟩
    rcases Nat.lt_or_ge a (b + q) with hlt | hge
    · obtain ⟨d, hd⟩ : ∃ d, b + q = d + a := ⟨b + q - a, by omega⟩
      rw [show (place - (-1074 + (q : Int))).toNat = 0 by omega, show (-1074 + (q : Int) - place).toNat = d by omega, Nat.shiftLeft_zero, hd]
      refine ⟨fun N h => cut_up false mag d N hm ?_, fun N h => cut_down false mag d N hm ?_⟩
      · rw [Nat.pow_add, ← Nat.mul_assoc] at h; exact Nat.le_of_mul_le_mul_right h ha
      · rw [Nat.pow_add, ← Nat.mul_assoc] at h; exact Nat.le_of_mul_le_mul_right h ha
    · obtain ⟨d, hd⟩ : ∃ d, a = d + (b + q) := ⟨a - (b + q), by omega⟩
      rw [show (place - (-1074 + (q : Int))).toNat = d by omega, show (-1074 + (q : Int) - place).toNat = 0 by omega, Nat.shiftLeft_eq, hd]
      have hm' : mag * 2 ^ d ≠ 0 := Nat.ne_of_gt (Nat.mul_pos (by omega) (Nat.two_pow_pos d))
      refine ⟨fun N h => cut_up false _ 0 N hm' ?_, fun N h => cut_down false _ 0 N hm' ?_⟩
      · rw [Nat.pow_add 2 d (b + q), ← Nat.mul_assoc] at h; rw [Nat.pow_zero, Nat.mul_one]; exact Nat.le_of_mul_le_mul_right h hbq
      · rw [Nat.pow_add 2 d (b + q), ← Nat.mul_assoc] at h; rw [Nat.pow_zero, Nat.mul_one]; exact Nat.le_of_mul_le_mul_right h hbq
  obtain ⟨C, hCe, hup, hdn⟩ := hC
  rw [hCe] at e
  refine ⟨q, C, e, ?_, ?_, hup, hdn⟩
  · by_cases h0 : q = 0
    · exact Or.inl h0
    · right
      have e1 : L + a = 52 + (b + q) := by omega
      have : 2 ^ L * 2 ^ a ≤ mag * 2 ^ a := Nat.mul_le_mul_right _ l1
      rw [← Nat.pow_add, e1, Nat.pow_add] at this
      exact this
  · refine hup _ ?_
    have e1 : (L + 1) + a ≤ 53 + (b + q) := by omega
    have h1 : mag * 2 ^ a ≤ 2 ^ (L + 1) * 2 ^ a := Nat.mul_le_mul_right _ (by omega)
    have h2 : 2 ^ ((L + 1) + a) ≤ 2 ^ (53 + (b + q)) := Nat.pow_le_pow_right (by decide) e1
    rw [Nat.pow_add 2 (L + 1) a, Nat.pow_add 2 53 (b + q)] at h2
    exact Nat.le_trans h1 h2
theorem val_rung (q C : Nat) (h : q = 0 ∨ 4503599627370496 ≤ C) (h2 : C ≤ 9007199254740992) : val (q * 4503599627370496 + C) = C * 2 ^ q := by
  by_cases h3 : C = 9007199254740992
  · subst h3
    rw [val_norm _ (q + 1) 0 (by omega) (by omega) (by omega), Nat.pow_succ]
    omega
  by_cases h4 : 4503599627370496 ≤ C
  · exact val_sig C q _ h4 (by omega) rfl
  · have h0 : q = 0 := by omega
    subst h0
    unfold val; rw [if_pos (by omega)]; simp
theorem val_many (q r : Nat) (h : (q + 1) * 4503599627370496 ≤ r) : ∃ N, val r = N * 2 ^ q := by
  obtain ⟨d, hd⟩ : ∃ d, r / 4503599627370496 - 1 = d + q := ⟨r / 4503599627370496 - 1 - q, by omega⟩
  refine ⟨(4503599627370496 + r % 4503599627370496) * 2 ^ d, ?_⟩
  rw [val_norm r _ _ (by omega) hd rfl, Nat.pow_add, Nat.mul_assoc]
/-- What is not above a number of the format is rounded to none above it. -/
theorem nearest_le (mag : Nat) (place : Int) (r a b : Nat) (hab : place + 1074 + b = a) (h : mag * 2 ^ a ≤ val r * 2 ^ b) : Ieee.double.nearest false mag place ≤ r := by
  by_cases hm : mag = 0
  · subst hm
    simp only [Format.nearest, Format.word, if_true]
    simp
  obtain ⟨q, C, e, h1, h2, hup, hdn⟩ := nearest_form mag place a b hm hab
  have hv := val_rung q C (h1.imp id (hdn _)) h2
  have hN : ∃ N, val r = N * 2 ^ q := by
    rcases h1 with h0 | h1
    · subst h0; exact ⟨val r, by simp⟩
    · refine val_many q r (Nat.le_of_not_lt fun hlt => ?_)
      have h3 := val_mono hlt
      have h4 := val_rung q 4503599627370496 (Or.inr (Nat.le_refl _)) (by decide)
      rw [show q * 4503599627370496 + 4503599627370496 = (q + 1) * 4503599627370496 by omega] at h4
      rw [h4] at h3
      have h5 : val r * 2 ^ b < 4503599627370496 * 2 ^ q * 2 ^ b := Nat.mul_lt_mul_of_pos_right h3 (Nat.two_pow_pos b)
      rw [Nat.mul_assoc, ← Nat.pow_add, Nat.add_comm q b] at h5
      omega
  obtain ⟨N, hN⟩ := hN
  have key : C * 2 ^ q ≤ val r := by
    rw [hN] at h ⊢
    refine Nat.mul_le_mul_right _ (hup N ?_)
    rw [Nat.mul_assoc, ← Nat.pow_add, Nat.add_comm q b] at h
    exact h
  rw [e]
  refine Nat.le_trans (Nat.min_le_left _ _) (Nat.le_of_not_lt fun hlt => ?_)
  have := val_mono hlt
  omega
/-- What is not below a number of the format is rounded to none below it. -/
theorem nearest_ge (mag : Nat) (place : Int) (r a b : Nat) (hr : r ≤ 9218868437227405312) (hab : place + 1074 + b = a) (h : val r * 2 ^ b ≤ mag * 2 ^ a) : r ≤ Ieee.double.nearest false mag place := by
  by_cases hm : mag = 0
  · subst hm
    rw [Nat.zero_mul] at h
    have hp := Nat.two_pow_pos b
    have hv : val r = 0 := by
      rcases Nat.mul_eq_zero.1 (Nat.le_zero.1 h) with h | h
      · exact h
      · omega
    have : r = 0 := val_inj.1 (hv.trans (by decide))
    omega
  obtain ⟨q, C, e, h1, h2, hup, hdn⟩ := nearest_form mag place a b hm hab
  have hv := val_rung q C (h1.imp id (hdn _)) h2
  have key : val r ≤ C * 2 ^ q := by
    by_cases hN : ∃ N, val r = N * 2 ^ q
    · obtain ⟨N, hN⟩ := hN
      rw [hN] at h ⊢
      refine Nat.mul_le_mul_right _ (hdn N ?_)
      rw [Nat.mul_assoc, ← Nat.pow_add, Nat.add_comm q b] at h
      exact h
    · rcases h1 with h0 | h1
      · subst h0; exact absurd ⟨val r, by simp⟩ hN
      · have hlt : r < (q + 1) * 4503599627370496 := Nat.lt_of_not_le fun h' => hN (val_many q r h')
        have h3 := val_mono hlt
        have h4 := val_rung q 4503599627370496 (Or.inr (Nat.le_refl _)) (by decide)
        rw [show q * 4503599627370496 + 4503599627370496 = (q + 1) * 4503599627370496 by omega] at h4
        rw [h4] at h3
        have h5 : 4503599627370496 * 2 ^ q ≤ C * 2 ^ q := Nat.mul_le_mul_right _ (hdn _ h1)
        omega
  have hle : r ≤ q * 4503599627370496 + C := Nat.le_of_not_lt fun hlt => by
    have := val_mono hlt
    omega
  rw [e]
  omega
theorem nearest_top (mag : Nat) (place : Int) : Ieee.double.nearest false mag place ≤ 9218868437227405312 := by
  unfold Format.nearest Format.word
  split
  · simp
  · simp only [fm3, Bool.false_eq_true, if_false]; exact Nat.min_le_right _ _

/-! Products -/
theorem prod_comm (a b : Datum) : a.product b = b.product a := by
  cases a <;> cases b <;> simp only [Datum.product, Nat.mul_comm, Int.add_comm, Bool.xor_comm]
theorem mul_comm_bits (x y : Nat) : floatBits .mul .f64 x y = floatBits .mul .f64 y x := by
  show Ieee.double.mul x y = Ieee.double.mul y x
  unfold Format.mul; rw [prod_comm]
/-- A number times one that is not above 1 is not above it. -/
theorem mul_le (x y : Nat) (hx : x < 9218868437227405312) (hy : y ≤ 4607182418800017408) : ∃ r, floatBits .mul .f64 x y = some r ∧ r ≤ x := by
  obtain ⟨m, e, k, f, hh, h1, h2⟩ := mul_fin x y (by omega) (by omega) (by omega) (by omega)
  rw [show x % 9223372036854775808 = x by omega] at h1
  rw [show y % 9223372036854775808 = y by omega] at h2
  have d1 : decide (9223372036854775808 ≤ x) = false := by simp; omega
  have d2 : decide (9223372036854775808 ≤ y) = false := by simp; omega
  rw [d1, d2] at hh
  refine ⟨_, hh, ?_⟩
  obtain ⟨n, hn⟩ : ∃ n, n = 1074 := ⟨_, rfl⟩
  have hy1 : val y ≤ 2 ^ n := by
    rw [← val_one n hn]
    rcases Nat.lt_or_ge y 4607182418800017408 with h | h
    · exact Nat.le_of_lt (val_mono h)
    · rw [show y = 4607182418800017408 by omega]; exact Nat.le_refl _
  refine nearest_le (m * k) (-1074 + (e : Int) + (-1074 + (f : Int))) x (e + f) n (by omega) ?_
  have : m * k * 2 ^ (e + f) = val x * val y := by
    rw [← h1, ← h2, Nat.pow_add]
    simp only [Nat.mul_assoc, Nat.mul_left_comm]
  rw [this]
  exact Nat.mul_le_mul_left _ hy1

/-! Sums -/
theorem sum_comm (a b : Datum) : a.sum b = b.sum a := by
  cases a <;> cases b <;> simp only [Datum.sum]
  · rename_i s m i t n j
    rw [Int.min_comm i j, Int.add_comm (signed s m _), Bool.and_comm s t]
  · rename_i s t
    cases s <;> cases t <;> simp
theorem add_comm_bits (x y : Nat) : floatBits .add .f64 x y = floatBits .add .f64 y x := by
  show Ieee.double.add x y = Ieee.double.add y x
  unfold Format.add; rw [sum_comm]
theorem sg_false (n : Nat) : sg false n = n := rfl
/-- A sum of finite numbers that are not below 0. -/
theorem add_fin (x y : Nat) (hx : x < 9218868437227405312) (hy : y < 9218868437227405312) :
    ∃ t c : Nat, floatBits .add .f64 x y = some (Ieee.double.nearest false t (-1074 + (c : Int))) ∧ t * 2 ^ c = val x + val y := by
  obtain ⟨m, e, hr, hv⟩ := read_fin x (by omega) (by omega)
  obtain ⟨n, f, hs, hw⟩ := read_fin y (by omega) (by omega)
  rw [show x % 9223372036854775808 = x by omega] at hv
  rw [show y % 9223372036854775808 = y by omega] at hw
  have d1 : decide (9223372036854775808 ≤ x) = false := by simp; omega
  have d2 : decide (9223372036854775808 ≤ y) = false := by simp; omega
  rw [d1] at hr
  rw [d2] at hs
  obtain ⟨c, hc⟩ : ∃ c : Nat, min (-1074 + (e : Int)) (-1074 + (f : Int)) = -1074 + (c : Int) ∧ c ≤ e ∧ c ≤ f := ⟨min e f, by omega, by omega, by omega⟩
  obtain ⟨hc, hce, hcf⟩ := hc
  refine ⟨m * 2 ^ (e - c) + n * 2 ^ (f - c), c, ?_, ?_⟩
  · show Ieee.double.add x y = _
    simp only [Format.add, hr, hs, Datum.sum, hc, signed_eq, Option.map_some, Format.write]
    rw [show (-1074 + (e : Int) - (-1074 + (c : Int))).toNat = e - c by omega, show (-1074 + (f : Int) - (-1074 + (c : Int))).toNat = f - c by omega, sg_false, sg_false]
    have hd : (if (((m * 2 ^ (e - c) : Nat) : Int) + ((n * 2 ^ (f - c) : Nat) : Int) = 0) then (false && false) else decide (((m * 2 ^ (e - c) : Nat) : Int) + ((n * 2 ^ (f - c) : Nat) : Int) < 0)) = false := by
      split
      · rfl
      · simp only [decide_eq_false_iff_not]; omega
    rw [hd]
    congr 2
  · rw [Nat.add_mul, pow_join m (e - c) c e (by omega), pow_join n (f - c) c f (by omega), hv, hw]
theorem add_ge (x y : Nat) (hx : x < 9218868437227405312) (hy : y < 9218868437227405312) : ∃ r, floatBits .add .f64 x y = some r ∧ x ≤ r ∧ y ≤ r ∧ r ≤ 9218868437227405312 := by
  obtain ⟨t, c, h, hv⟩ := add_fin x y hx hy
  exact ⟨_, h, nearest_ge t _ x c 0 (by omega) (by omega) (by omega), nearest_ge t _ y c 0 (by omega) (by omega) (by omega), nearest_top _ _⟩
/-- A sum that is not rounded. -/
theorem add_exact (x y r : Nat) (hx : x < 9218868437227405312) (hy : y < 9218868437227405312) (hr : r < 9218868437227405312) (h : val x + val y = val r) : floatBits .add .f64 x y = some r := by
  obtain ⟨t, c, hh, hv⟩ := add_fin x y hx hy
  rw [hh]
  exact congrArg some (nearest_exact false t _ r c 0 hr (by omega) (by rw [hv, h]; simp))
theorem add_zero_bits (x : Nat) (hx : x < 9218868437227405312) : floatBits .add .f64 x 0 = some x :=
  add_exact x 0 x hx (by decide) hx (by rw [show val 0 = 0 by decide]; omega)
theorem add_inf (y : Nat) (hy : y ≤ 9218868437227405312) : floatBits .add .f64 9218868437227405312 y = some 9218868437227405312 := by
  show Ieee.double.add 9218868437227405312 y = _
  have hi : Ieee.double.read 9218868437227405312 = .infinity false := by decide
  unfold Format.add
  by_cases h : y = 9218868437227405312
  · subst h; rw [hi]; decide
  · obtain ⟨n, f, hs, -⟩ := read_fin y (by omega) (by omega)
    rw [hi, hs]
    simp only [Datum.sum, Option.map_some, Format.write, Format.word, fm3, Bool.false_eq_true, if_false]
/-- A price more is not below. -/
theorem add_price (x y : Nat) (hx : x ≤ 9218868437227405312) (hy : y ≤ 9218868437227405312) : ∃ r, floatBits .add .f64 x y = some r ∧ x ≤ r ∧ y ≤ r ∧ r ≤ 9218868437227405312 := by
  by_cases h1 : x = 9218868437227405312
  · subst h1; exact ⟨_, add_inf y hy, Nat.le_refl _, hy, Nat.le_refl _⟩
  by_cases h2 : y = 9218868437227405312
  · subst h2; exact ⟨_, (add_comm_bits _ _).trans (add_inf x hx), hx, Nat.le_refl _, Nat.le_refl _⟩
  exact add_ge x y (by omega) (by omega)

/-! Whole numbers -/
theorem val_f64 (m n : Nat) (hn : n = 1074) (hm : m < 9007199254740992) : val (f64 m) = m * 2 ^ n := by
  by_cases h0 : m = 0
  · subst h0; rw [f64_zero, Nat.zero_mul]; decide
  obtain ⟨l1, l2⟩ := log2_bd m h0
  have hL : m.log2 ≤ 52 := by
    have : m.log2 < 53 := (Nat.log2_lt h0).2 hm
    omega
  generalize m.log2 = L at l1 l2 hL
  obtain ⟨s1, s2⟩ := sig_bd m L l1 l2 hL
  rw [val_sig (m * 2 ^ (52 - L)) (L + 1022) (f64 m) s1 s2 (f64_exact m L l1 l2 hL)]
  exact pow_join m (52 - L) (L + 1022) n (by omega)
theorem f64_lt (m : Nat) (hm : m < 9007199254740992) : f64 m < 9218868437227405312 := by
  by_cases h0 : m = 0
  · subst h0; rw [f64_zero]; decide
  · exact (f64_bd m (by omega) (by omega)).2
/-- Whole numbers are added as they are. -/
theorem add_whole (a b : Nat) (h : a + b < 9007199254740992) : floatBits .add .f64 (f64 a) (f64 b) = some (f64 (a + b)) := by
  obtain ⟨n, hn⟩ : ∃ n, n = 1074 := ⟨_, rfl⟩
  exact add_exact _ _ _ (f64_lt a (by omega)) (f64_lt b (by omega)) (f64_lt _ h) (by
    rw [val_f64 a n hn (by omega), val_f64 b n hn (by omega), val_f64 (a + b) n hn h, Nat.add_mul])
theorem f64_le (a b : Nat) (ha : a < 9007199254740992) (hb : b < 9007199254740992) : f64 a ≤ f64 b ↔ a ≤ b := by
  obtain ⟨n, hn⟩ : ∃ n, n = 1074 := ⟨_, rfl⟩
  have h1 := val_f64 a n hn ha
  have h2 := val_f64 b n hn hb
  have hp := Nat.two_pow_pos n
  constructor
  · intro h
    refine Nat.le_of_not_lt fun hlt => ?_
    have h3 : b * 2 ^ n < a * 2 ^ n := Nat.mul_lt_mul_of_pos_right hlt hp
    rw [← h1, ← h2] at h3
    have := val_lt.1 h3
    omega
  · intro h
    refine Nat.le_of_not_lt fun hlt => ?_
    have h3 := val_mono hlt
    rw [h1, h2] at h3
    have := Nat.mul_le_mul_right (2 ^ n) h
    omega
end Go.Proofs.YtjdbapkmaggllaaGreatDoor.Fl.Fo
