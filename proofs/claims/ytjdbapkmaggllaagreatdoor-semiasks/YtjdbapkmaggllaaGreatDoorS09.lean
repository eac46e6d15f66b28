/- Plain mathematics of doubles: how two words that are no NaNs stand to each other is how their signed rungs stand. -/
import Ieee.Arith
namespace Go.Proofs.YtjdbapkmaggllaaGreatDoor.Fl.Fo
open Ieee

/-- The word is a NaN's. -/
def isN (b : Nat) : Bool := decide (9218868437227405312 < b % 9223372036854775808)
/-- The signed rung. -/
def key (b : Nat) : Int := if b < 9223372036854775808 then (b : Int) else -((b - 9223372036854775808 : Nat) : Int)

/-- A finite rung's magnitude, in units of the least one. -/
def val (r : Nat) : Nat := if r < 4503599627370496 then r else (4503599627370496 + r % 4503599627370496) * 2 ^ (r / 4503599627370496 - 1)

theorem val_step (r : Nat) : val r < val (r + 1) := by
  unfold val
  by_cases h : r + 1 < 4503599627370496
  · rw [if_pos (by omega), if_pos h]; omega
  · rw [if_neg h]
    by_cases h2 : r < 4503599627370496
    · rw [if_pos h2]
      have e : r = 4503599627370495 := by omega
      subst e; decide
    · rw [if_neg h2]
      by_cases h3 : (r + 1) % 4503599627370496 = 0
      · have e1 : r % 4503599627370496 = 4503599627370495 := by omega
        have e2 : (r + 1) / 4503599627370496 = r / 4503599627370496 + 1 := by omega
        have e3 : r / 4503599627370496 ≥ 1 := by omega
        rw [h3, e1, e2]
        have : r / 4503599627370496 + 1 - 1 = (r / 4503599627370496 - 1) + 1 := by omega
        rw [this, Nat.pow_succ]
        have hp := Nat.two_pow_pos (r / 4503599627370496 - 1)
        have : (4503599627370496 + 0) * (2 ^ (r / 4503599627370496 - 1) * 2) = 9007199254740992 * 2 ^ (r / 4503599627370496 - 1) := by omega
        rw [this]
        exact Nat.mul_lt_mul_of_pos_right (by omega) hp
      · have e1 : (r + 1) % 4503599627370496 = r % 4503599627370496 + 1 := by omega
        have e2 : (r + 1) / 4503599627370496 = r / 4503599627370496 := by omega
        rw [e1, e2]
        exact Nat.mul_lt_mul_of_pos_right (by omega) (Nat.two_pow_pos _)

theorem val_mono {a b : Nat} (h : a < b) : val a < val b := by
  induction b with
  | zero => omega
  | succ b ih =>
    have := val_step b
    by_cases e : a = b
    · subst e; exact this
    · have := ih (by omega); omega

theorem val_lt {a b : Nat} : val a < val b ↔ a < b := by
  refine ⟨fun h => ?_, val_mono⟩
  rcases Nat.lt_trichotomy a b with h' | h' | h'
  · exact h'
  · subst h'; omega
  · have := val_mono h'; omega
theorem val_inj {a b : Nat} : val a = val b ↔ a = b := by
  refine ⟨fun h => ?_, fun h => by rw [h]⟩
  rcases Nat.lt_trichotomy a b with h' | h' | h'
  · have := val_mono h'; omega
  · exact h'
  · have := val_mono h'; omega

/-- A signed magnitude as an integer. -/
def sg (neg : Bool) (n : Nat) : Int := if neg then -(n : Int) else n

theorem sg_cmp (s t : Bool) (a b k : Nat) (hk : 0 < k) : compare (sg s (a * k)) (sg t (b * k)) = compare (sg s a) (sg t b) := by
  have key : sg s (a * k) = sg s a * k := by cases s <;> simp [sg, Int.neg_mul]
  have key2 : sg t (b * k) = sg t b * k := by cases t <;> simp [sg, Int.neg_mul]
  rw [key, key2]
  have hk' : (0 : Int) < (k : Int) := by omega
  have hlt : sg s a * k < sg t b * k ↔ sg s a < sg t b := Int.mul_lt_mul_right hk'
  have heq : sg s a * k = sg t b * k ↔ sg s a = sg t b := Int.mul_eq_mul_right_iff (by omega)
  simp only [compare, compareOfLessAndEq, hlt, heq]

/-- What a word that is no NaN stands for. -/
theorem read_eq (b : Nat) (hb : b < 18446744073709551616) : Ieee.double.read b =
    if b % 9223372036854775808 < 4503599627370496 then .number (decide (9223372036854775808 ≤ b)) (b % 9223372036854775808) (-1074)
    else if b % 9223372036854775808 < 9218868437227405312 then .number (decide (9223372036854775808 ≤ b)) (4503599627370496 + b % 9223372036854775808 % 4503599627370496) (-1074 + ((b % 9223372036854775808 / 4503599627370496 - 1 : Nat) : Int))
    else if b % 9223372036854775808 = 9218868437227405312 then .infinity (decide (9223372036854775808 ≤ b))
    else .nan (decide (9223372036854775808 ≤ b)) (b % 9223372036854775808 - 9218868437227405312) := by
  have h1 : Ieee.double.signWeight = 9223372036854775808 := by decide
  have h2 : Ieee.double.binade = 4503599627370496 := by decide
  have h3 : Ieee.double.infRung = 9218868437227405312 := by decide
  have h4 : Ieee.double.leastPlace = -1074 := by decide
  have hn : (b / 9223372036854775808 % 2 == 1) = decide (9223372036854775808 ≤ b) := by
    by_cases h : 9223372036854775808 ≤ b
    · have : b / 9223372036854775808 = 1 := by omega
      simp [this, h]
    · have : b / 9223372036854775808 = 0 := by omega
      simp [this, h]
  simp only [Ieee.Format.read, h1, h2, h3, h4, hn]

theorem key_eq (b : Nat) (hb : b < 18446744073709551616) : key b = sg (decide (9223372036854775808 ≤ b)) (b % 9223372036854775808) := by
  unfold key sg
  by_cases h : b < 9223372036854775808
  · rw [if_pos h]
    have : decide (9223372036854775808 ≤ b) = false := by simp; omega
    rw [this]; simp; omega
  · rw [if_neg h]
    have : decide (9223372036854775808 ≤ b) = true := by simp; omega
    rw [this]; simp; omega

/-- A finite word is its magnitude over the least place. -/
theorem read_fin (b : Nat) (hb : b < 18446744073709551616) (hf : b % 9223372036854775808 < 9218868437227405312) :
    ∃ m e : Nat, Ieee.double.read b = .number (decide (9223372036854775808 ≤ b)) m (-1074 + (e : Int)) ∧ m * 2 ^ e = val (b % 9223372036854775808) := by
  rw [read_eq b hb]
  by_cases h : b % 9223372036854775808 < 4503599627370496
  · refine ⟨b % 9223372036854775808, 0, ?_, ?_⟩
    · rw [if_pos h]; rfl
    · unfold val; rw [if_pos h]; simp
  · refine ⟨4503599627370496 + b % 9223372036854775808 % 4503599627370496, b % 9223372036854775808 / 4503599627370496 - 1, ?_, ?_⟩
    · rw [if_neg h, if_pos hf]
    · unfold val; rw [if_neg h]

theorem signed_eq (s : Bool) (m k : Nat) : signed s m k = sg s (m * 2 ^ k) := by
  unfold signed sg; rw [Nat.shiftLeft_eq]

theorem cmp_sg_val (s t : Bool) (a b : Nat) : compare (sg s (val a)) (sg t (val b)) = compare (sg s a) (sg t b) := by
  have z : ∀ r, val r = 0 ↔ r = 0 := fun r => by
    have h0 : val 0 = 0 := by decide
    constructor
    · intro h; exact val_inj.1 (h.trans h0.symm)
    · intro h; rw [h]; exact h0
  have l := @val_lt a b
  have l' := @val_lt b a
  have e := @val_inj a b
  have za := z a
  have zb := z b
  simp only [compare, compareOfLessAndEq]
  have A : sg s (val a) < sg t (val b) ↔ sg s a < sg t b := by cases s <;> cases t <;> simp only [sg] <;> simp only [if_true, if_false, Bool.false_eq_true] <;> omega
  have B : sg s (val a) = sg t (val b) ↔ sg s a = sg t b := by cases s <;> cases t <;> simp only [sg] <;> simp only [if_true, if_false, Bool.false_eq_true] <;> omega
  simp only [A, B]

/-- HOW TWO WORDS STAND TO EACH OTHER. -/
theorem order_eq (a b : Nat) (ha : a < 18446744073709551616) (hb : b < 18446744073709551616) :
    Ieee.double.order a b = if isN a || isN b then none else some (compare (key a) (key b)) := by
  unfold Ieee.Format.order
  by_cases na : isN a = true
  · have h : 9218868437227405312 < a % 9223372036854775808 := by simpa [isN] using na
    rw [read_eq a ha, if_neg (by omega), if_neg (by omega), if_neg (by omega)]
    simp [na, Datum.order]
  by_cases nb : isN b = true
  · have h : 9218868437227405312 < b % 9223372036854775808 := by simpa [isN] using nb
    rw [read_eq b hb, if_neg (by omega), if_neg (by omega), if_neg (by omega)]
    cases Ieee.double.read a <;> simp [nb, Datum.order]
  rw [if_neg (by simp [na, nb])]
  have fa : a % 9223372036854775808 ≤ 9218868437227405312 := by simp [isN] at na; exact na
  have fb : b % 9223372036854775808 ≤ 9218868437227405312 := by simp [isN] at nb; exact nb
  rw [key_eq a ha, key_eq b hb]
  by_cases ia : a % 9223372036854775808 = 9218868437227405312
  · have ra : Ieee.double.read a = .infinity (decide (9223372036854775808 ≤ a)) := by
      rw [read_eq a ha, if_neg (by omega), if_neg (by omega), if_pos ia]
    by_cases ib : b % 9223372036854775808 = 9218868437227405312
    · have rb : Ieee.double.read b = .infinity (decide (9223372036854775808 ≤ b)) := by
        rw [read_eq b hb, if_neg (by omega), if_neg (by omega), if_pos ib]
      rw [ra, rb, ia, ib]
      cases decide (9223372036854775808 ≤ a) <;> cases decide (9223372036854775808 ≤ b) <;> decide
    · obtain ⟨m, e, rb, _⟩ := read_fin b hb (by omega)
      rw [ra, rb, ia]
      simp only [Datum.order, compare, compareOfLessAndEq]
      cases decide (9223372036854775808 ≤ a) <;> cases decide (9223372036854775808 ≤ b) <;> simp only [sg, if_true, if_false, Bool.false_eq_true] <;>
        first | (rw [if_pos (by omega)]) | (rw [if_neg (by omega), if_neg (by omega)])
  · by_cases ib : b % 9223372036854775808 = 9218868437227405312
    · have rb : Ieee.double.read b = .infinity (decide (9223372036854775808 ≤ b)) := by
        rw [read_eq b hb, if_neg (by omega), if_neg (by omega), if_pos ib]
      obtain ⟨m, e, ra, _⟩ := read_fin a ha (by omega)
      rw [ra, rb, ib]
      simp only [Datum.order, compare, compareOfLessAndEq]
      cases decide (9223372036854775808 ≤ a) <;> cases decide (9223372036854775808 ≤ b) <;> simp only [sg, if_true, if_false, Bool.false_eq_true] <;>
        first | (rw [if_pos (by omega)]) | (rw [if_neg (by omega), if_neg (by omega)])
    · obtain ⟨m, e, ra, va⟩ := read_fin a ha (by omega)
      obtain ⟨n, f, rb, vb⟩ := read_fin b hb (by omega)
      rw [ra, rb]
      simp only [Datum.order, signed_eq]
      rw [← cmp_sg_val _ _ (a % 9223372036854775808) (b % 9223372036854775808), ← va, ← vb]
      have h1 : (-1074 + (e : Int) - min (-1074 + (e : Int)) (-1074 + (f : Int))).toNat = e - min e f := by omega
      have h2 : (-1074 + (f : Int) - min (-1074 + (e : Int)) (-1074 + (f : Int))).toNat = f - min e f := by omega
      rw [h1, h2, ← sg_cmp _ _ (m * 2 ^ (e - min e f)) (n * 2 ^ (f - min e f)) (2 ^ min e f) (Nat.two_pow_pos _)]
      have h3 : m * 2 ^ (e - min e f) * 2 ^ min e f = m * 2 ^ e := by rw [Nat.mul_assoc, ← Nat.pow_add]; congr 2; omega
      have h4 : n * 2 ^ (f - min e f) * 2 ^ min e f = n * 2 ^ f := by rw [Nat.mul_assoc, ← Nat.pow_add]; congr 2; omega
      rw [h3, h4]

theorem cmp_lt (x y : Int) : ((some (compare x y) : Option Ordering) == some .lt) = decide (x < y) := by
  simp only [compare, compareOfLessAndEq]; by_cases h : x < y <;> by_cases e : x = y <;> simp [h, e]
theorem cmp_eq (x y : Int) : ((some (compare x y) : Option Ordering) == some .eq) = decide (x = y) := by
  simp only [compare, compareOfLessAndEq]; by_cases h : x < y <;> by_cases e : x = y <;> simp [h, e]
theorem cmp_gt (x y : Int) : ((some (compare x y) : Option Ordering) == some .gt) = decide (y < x) := by
  simp only [compare, compareOfLessAndEq]; by_cases h : x < y <;> by_cases e : x = y <;> simp [h, e] <;> omega

theorem ord_lt (a b : Nat) (ha : a < 18446744073709551616) (hb : b < 18446744073709551616) :
    (Ieee.double.order a b == some .lt) = (!isN a && !isN b && decide (key a < key b)) := by
  rw [order_eq a b ha hb]
  by_cases h : (isN a || isN b) = true
  · rw [if_pos h]; cases ha : isN a <;> cases hb : isN b <;> simp_all
  · rw [if_neg h, cmp_lt]; cases ha : isN a <;> cases hb : isN b <;> simp_all
theorem ord_eq (a b : Nat) (ha : a < 18446744073709551616) (hb : b < 18446744073709551616) :
    (Ieee.double.order a b == some .eq) = (!isN a && !isN b && decide (key a = key b)) := by
  rw [order_eq a b ha hb]
  by_cases h : (isN a || isN b) = true
  · rw [if_pos h]; cases ha : isN a <;> cases hb : isN b <;> simp_all
  · rw [if_neg h, cmp_eq]; cases ha : isN a <;> cases hb : isN b <;> simp_all
theorem ord_gt (a b : Nat) (ha : a < 18446744073709551616) (hb : b < 18446744073709551616) :
    (Ieee.double.order a b == some .gt) = (!isN a && !isN b && decide (key b < key a)) := by
  rw [order_eq a b ha hb]
  by_cases h : (isN a || isN b) = true
  · rw [if_pos h]; cases ha : isN a <;> cases hb : isN b <;> simp_all
  · rw [if_neg h, cmp_gt]; cases ha : isN a <;> cases hb : isN b <;> simp_all
end Go.Proofs.YtjdbapkmaggllaaGreatDoor.Fl.Fo
namespace Go.Proofs.YtjdbapkmaggllaaGreatDoor.Fl.Fo
theorem ne_self (b : Nat) (hb : b < 18446744073709551616) : (Ieee.double.order b b != some .eq) = isN b := by
  have := ord_eq b b hb hb
  simp only [bne, this]; simp
/-- The bits of a number: all NaNs have the same. -/
def bitsOf (b : Nat) : Nat := if isN b then 9221120237041090560 else b
/-- Its place in the order. -/
def plc (b : Nat) : Nat := if isN b then 0 else if b < 9223372036854775808 then b + 9223372036854775808 else 18446744073709551615 - b
theorem bitsOf_lt (b : Nat) (hb : b < 18446744073709551616) : bitsOf b < 18446744073709551616 := by unfold bitsOf; split <;> omega
end Go.Proofs.YtjdbapkmaggllaaGreatDoor.Fl.Fo
