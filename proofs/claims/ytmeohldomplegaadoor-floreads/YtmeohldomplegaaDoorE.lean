/- The contract of Text: a number's text. -/
import Derived.Test.YtmeohldomplegaaDoorD
namespace Go.Proofs.YtmeohldomplegaaDoor
open Go.RowKit Fo Go.Sort
set_option maxRecDepth 100000

namespace Fo
def frac (b : Nat) : Nat := b % 4503599627370496
def expf (b : Nat) : Nat := b / 4503599627370496 % 2048
def mant (b : Nat) : Nat := if expf b = 0 then frac b else frac b + 4503599627370496
def expo (b : Nat) : Int := if expf b = 0 then 1 - 1075 else expf b - 1075
/-- The odd mantissa, 0 of the zeros. -/
def spM (b : Nat) : Nat := if mant b = 0 then 0 else mant b / 2 ^ Lib.ctz 64 (mant b)
/-- The exponent to it. -/
def spE (b : Nat) : Int := if mant b = 0 then 0 else expo b + Lib.ctz 64 (mant b)
/-- A finite number's text. -/
def textFin (b : Nat) : List UInt8 := (if b < 9223372036854775808 then [] else [45]) ++ (Lib.decDigits (spM b) ++ (98 :: Lib.itoa (spE b)))
/-- A number's text. -/
def textOf (b : Nat) : List UInt8 := if isN b then [110, 97, 110] else if b = 9218868437227405312 then [105, 110, 102] else if b = 18442240474082181120 then [45, 105, 110, 102] else textFin b
theorem mant_lt (b : Nat) : mant b < 9007199254740992 := by unfold mant frac; split <;> omega
theorem spM_lt (b : Nat) : spM b < 9007199254740992 := by
  have := mant_lt b
  unfold spM; split
  · omega
  · exact Nat.lt_of_le_of_lt (Nat.div_le_self _ _) this
theorem spE_bd (b : Nat) : -1075 ≤ spE b ∧ spE b ≤ 1100 := by
  unfold spE; split
  · omega
  · rename_i h
    have := (Lib.lowest_bit 64 (mant b) h (by have := mant_lt b; omega)).2
    unfold expo expf; split <;> omega
end Fo

theorem split_any (b : Nat) (hb : b < 18446744073709551616) (w : World) (henv : Env w) :
    Calls Tryd.prog 39 #[.float .f64 b] w fun e w' => e = .returned (.tuple #[.int .u64 (spM b), .int .i64 (spE b)]) ∧ w' = w := by
  have hf : bits .and .u64 (b : Int) 4503599627370495 = (frac b : Int) := by
    have := u64_and_nat b 4503599627370495 hb (by omega)
    rw [nat_mask52] at this; exact this
  have he : bits .and .u64 ((b : Int) / 4503599627370496) 2047 = (expf b : Int) := by
    have := u64_and_nat (b / 4503599627370496) 2047 (by omega) (by omega)
    rw [nat_mask11] at this; exact this
  have hF : frac b < 4503599627370496 := by unfold frac; omega
  have hE : expf b < 2048 := by unfold expf; omega
  by_cases h0 : expf b = 0
  · have em : mant b = frac b := by unfold mant; rw [if_pos h0]
    by_cases h1 : frac b = 0
    · have e1 : spM b = 0 := by unfold spM; rw [if_pos (by omega)]
      have e2 : spE b = 0 := by unfold spE; rw [if_pos (by omega)]
      rw [e1, e2]
      exact split_zero b (frac b) (expf b) w hf he h0 h1
    · have e1 : spM b = frac b / 2 ^ Lib.ctz 64 (frac b) := by unfold spM; rw [if_neg (by omega), em]
      have e2 : spE b = 1 - 1075 + Lib.ctz 64 (frac b) := by unfold spE expo; rw [if_neg (by omega), em, if_pos h0]
      rw [e1, e2]
      exact split_sub b (frac b) (expf b) w henv.tz hf he h0 h1 hF
  · have em : mant b = frac b + 4503599627370496 := by unfold mant; rw [if_neg h0]
    have e1 : spM b = (frac b + 4503599627370496) / 2 ^ Lib.ctz 64 (frac b + 4503599627370496) := by unfold spM; rw [if_neg (by omega), em]
    have e2 : spE b = expf b - 1075 + Lib.ctz 64 (frac b + 4503599627370496) := by unfold spE expo; rw [if_neg (by omega), em, if_neg h0]
    rw [e1, e2]
    refine split_norm b (frac b) (expf b) w henv.tz hf he h0 hE hF ?_
    have := u64_or_nat (frac b) 4503599627370496 (by omega) (by omega)
    have e := Nat.two_pow_add_eq_or_of_lt (i := 52) (b := frac b) (by omega) 1
    simp only [Nat.reducePow, Nat.mul_one] at e
    rw [Nat.or_comm, ← e, Nat.add_comm] at this
    exact this

/-- Is it the infinity of this sign? -/
def infB (b : Nat) (s : Int) : Bool := if s = 1 then decide (b = 9218868437227405312) else decide (b = 18442240474082181120)
theorem isinf_any (b : Nat) (s : Int) (hb : b < 18446744073709551616) (hs : s = 1 ∨ s = -1) (w : World) :
    Calls Tryd.prog 37 #[.float .f64 b, .int .i64 s] w fun e w' => e = .returned (.bool (infB b s)) ∧ w' = w := by
  rcases hs with rfl | rfl
  · exact isinf_pos b hb w
  · exact isinf_neg b hb w
theorem text_nan (b : Nat) (hb : b < 18446744073709551616) (h : isN b = true) (w : World) :
    Calls Tryd.prog 21 #[.float .f64 b] w fun e w' => e = .returned (.string ⟨#[110, 97, 110]⟩) ∧ w' = w := by
  go_enter Tryd.func21, Tryd.ntmps21
  go_wp2_with (go_at_call 31; refine (isnan_any _ hb _).mono ?_; rintro e w' ⟨rfl, rfl⟩)
  go_ret
  exact ⟨rfl, rfl⟩
theorem text_inf (w : World) :
    Calls Tryd.prog 21 #[.float .f64 9218868437227405312] w fun e w' => e = .returned (.string ⟨#[105, 110, 102]⟩) ∧ w' = w := by
  have h : isN 9218868437227405312 = false := by decide
  have h1 : infB 9218868437227405312 1 = true := by decide
  go_enter Tryd.func21, Tryd.ntmps21
  go_wp2_with (first | (go_at_call 31; refine (isnan_any _ (by decide) _).mono ?_; rintro e w' ⟨rfl, rfl⟩) | (go_at_call 37; refine (isinf_any _ _ (by decide) (by decide) _).mono ?_; rintro e w' ⟨rfl, rfl⟩))
  go_ret
  exact ⟨rfl, rfl⟩
theorem text_ninf (w : World) :
    Calls Tryd.prog 21 #[.float .f64 18442240474082181120] w fun e w' => e = .returned (.string ⟨#[45, 105, 110, 102]⟩) ∧ w' = w := by
  have h : isN 18442240474082181120 = false := by decide
  have h1 : infB 18442240474082181120 1 = false := by decide
  have h2 : infB 18442240474082181120 (-1) = true := by decide
  go_enter Tryd.func21, Tryd.ntmps21
  go_wp2_with (first | (go_at_call 31; refine (isnan_any _ (by decide) _).mono ?_; rintro e w' ⟨rfl, rfl⟩) | (go_at_call 37; refine (isinf_any _ _ (by decide) (by decide) _).mono ?_; rintro e w' ⟨rfl, rfl⟩))
  go_ret
  exact ⟨rfl, rfl⟩
theorem dec_len (u : Nat) (hu : u < 18446744073709551616) : (Lib.decDigits u).length ≤ 20 := by
  rw [Lib.decDigits_length]
  by_cases h : u = 0
  · subst h; decide +kernel
  · have := Lib.numDigits_eq u (by omega) hu; split at this <;> omega
theorem itoa_len (n : Int) (h0 : -9223372036854775808 ≤ n) (h1 : n ≤ 9223372036854775807) : (Lib.itoa n).length ≤ 21 := by
  unfold Lib.itoa; split
  · have := dec_len n.natAbs (by omega)
    simp only [List.length_cons]; omega
  · have := dec_len n.toNat (by omega)
    omega
theorem itoa_env (n : Int) (h0 : -9223372036854775808 ≤ n) (h1 : n ≤ 9223372036854775807) (w : World) (henv : Env w) :
    Calls Tryd.prog 41 #[.int .i64 n] w fun e w' => e = .returned (.string ⟨(Lib.itoa n).toArray⟩) ∧ Below w.heap.size w w' :=
  (Tryd.strconv_Itoa n h0 h1 w henv.t10).mono fun _ _ hh => ⟨hh.1, by obtain ⟨k, os, rfl⟩ := hh.2; exact below_grow w k os⟩
theorem ba (a b : List UInt8) : (⟨a.toArray⟩ : ByteArray) ++ ⟨b.toArray⟩ = ⟨(a ++ b).toArray⟩ := by
  apply ByteArray.ext; simp [ByteArray.data_append]
theorem cat4 (s D I : List UInt8) : (⟨s.toArray⟩ : ByteArray) ++ ⟨D.toArray⟩ ++ ⟨([98] : List UInt8).toArray⟩ ++ ⟨I.toArray⟩ = ⟨(s ++ (D ++ (98 :: I))).toArray⟩ := by
  rw [ba, ba, ba]; simp
set_option maxHeartbeats 1000000 in
theorem text_core (b : Nat) (hb : b < 18446744073709551616) (h : isN b = false) (hi' : infB b 1 = false) (hj' : infB b (-1) = false) (w : World) (henv : Env w) (M : Nat) (E : Int) (D I : List UInt8) (hD : D.length ≤ 20) (hI : I.length ≤ 21) (s : Bool) (hs : decide (9223372036854775808 ≤ b) = s)
    (c39 : ∀ w, Env w → Calls Tryd.prog 39 #[.float .f64 b] w fun e w' => e = .returned (.tuple #[.int .u64 M, .int .i64 E]) ∧ w' = w)
    (c40 : ∀ w, Env w → Calls Tryd.prog 40 #[.int .u64 M, .int .i64 10] w fun e w' => e = .returned (.string ⟨D.toArray⟩) ∧ Below w.heap.size w w')
    (c41 : ∀ w, Env w → Calls Tryd.prog 41 #[.int .i64 E] w fun e w' => e = .returned (.string ⟨I.toArray⟩) ∧ Below w.heap.size w w') :
    Calls Tryd.prog 21 #[.float .f64 b] w fun e w' => e = .returned (.string ⟨((if s then [45] else []) ++ (D ++ (98 :: I))).toArray⟩) ∧ Below w.heap.size w w' := by
  cases s
  all_goals
    go_enter Tryd.func21, Tryd.ntmps21
    go_wp2_with (first
      | (go_at_call 31; refine (isnan_any _ hb _).mono ?_; rintro e w' ⟨rfl, rfl⟩)
      | (go_at_call 37; refine (isinf_any _ _ hb (by decide) _).mono ?_; rintro e w' ⟨rfl, rfl⟩)
      | (go_at_call 38; refine (signbit_any _ hb _).mono ?_; rintro e w' ⟨rfl, rfl⟩)
      | (go_at_call 39; refine (c39 _ henv).mono ?_; rintro e w' ⟨rfl, rfl⟩)
      | (go_at_call 40; refine (c40 _ henv).mono ?_; rintro e w1 ⟨rfl, hb1⟩)
      | (go_at_call 41; refine (c41 _ (henv.below hb1)).mono ?_; rintro e w2 ⟨rfl, hb2⟩))
  all_goals go_ret
  · exact ⟨congrArg (fun x => Ending.returned (.string x)) (cat4 [] D I), hb1.trans (hb2.mono hb1.size)⟩
  · exact ⟨congrArg (fun x => Ending.returned (.string x)) (cat4 [45] D I), hb1.trans (hb2.mono hb1.size)⟩
theorem text_any (b : Nat) (hb : b < 18446744073709551616) (w : World) (henv : Env w) :
    Calls Tryd.prog 21 #[.float .f64 b] w fun e w' => e = .returned (.string ⟨(textOf b).toArray⟩) ∧ Below w.heap.size w w' := by
  unfold textOf
  by_cases hn : isN b = true
  · rw [if_pos hn]
    exact (text_nan b hb hn w).mono fun _ _ hh => ⟨hh.1, hh.2 ▸ Below.refl _ _⟩
  rw [if_neg hn]
  by_cases hi : b = 9218868437227405312
  · rw [if_pos hi]; subst hi
    exact (text_inf w).mono fun _ _ hh => ⟨hh.1, hh.2 ▸ Below.refl _ _⟩
  rw [if_neg hi]
  by_cases hj : b = 18442240474082181120
  · rw [if_pos hj]; subst hj
    exact (text_ninf w).mono fun _ _ hh => ⟨hh.1, hh.2 ▸ Below.refl _ _⟩
  rw [if_neg hj]
  have hM := spM_lt b
  have hE := spE_bd b
  have := text_core b hb (by simpa using hn) (by simp only [infB, if_true]; simpa using hi) (by unfold infB; rw [if_neg (by decide)]; simpa using hj) w henv (spM b) (spE b) (Lib.decDigits (spM b)) (Lib.itoa (spE b))
    (dec_len _ (by omega)) (itoa_len _ (by omega) (by omega)) (decide (9223372036854775808 ≤ b)) rfl
    (fun w he => split_any b hb w he) (fun w he => fmtu_any _ (by omega) w he) (fun w he => itoa_env _ (by omega) (by omega) w he)
  refine this.mono fun _ _ hh => ⟨hh.1.trans ?_, hh.2⟩
  unfold textFin
  by_cases hl : b < 9223372036854775808
  · rw [if_pos hl, if_neg (by simp; omega)]
  · rw [if_neg hl, if_pos (by simp; omega)]
end Go.Proofs.YtmeohldomplegaaDoor
