/- Plain mathematics: a number's text is read as the number that it is. -/
import Derived.Test.YtjdbapkmaggllaaGreatDoorR11
import Derived.Test.YtjdbapkmaggllaaGreatDoorR45
import Derived.Lib.IndexLaws
namespace Go.Proofs.YtjdbapkmaggllaaGreatDoor.Fl.Fo
open Go
set_option maxRecDepth 100000

theorem dig_toNat (d : Nat) (h : d < 10) : (UInt8.ofNat (48 + d)).toNat = 48 + d := by
  rw [UInt8.toNat_ofNat']; omega
theorem dec_step (u : Nat) (h : ¬ u < 10) : Lib.decDigits u = Lib.decDigits (u / 10) ++ [UInt8.ofNat (48 + u % 10)] := by
  rw [Lib.decDigits, dif_neg h]
theorem dec_digits : ∀ (u : Nat) (c : UInt8), c ∈ Lib.decDigits u → 48 ≤ c.toNat ∧ c.toNat ≤ 57 := by
  intro u
  induction u using Nat.strongRecOn with
  | ind u ih =>
    intro c hc
    by_cases h : u < 10
    · rw [Lib.decDigits_one h, List.mem_singleton] at hc
      subst hc
      rw [dig_toNat u h]; omega
    · rw [dec_step u h, List.mem_append, List.mem_singleton] at hc
      rcases hc with hc | hc
      · exact ih (u / 10) (by omega) c hc
      · subst hc
        rw [dig_toNat _ (by omega)]; omega
theorem dec_ne (u : Nat) : Lib.decDigits u ≠ [] := by
  by_cases h : u < 10
  · rw [Lib.decDigits_one h]; exact List.cons_ne_nil _ _
  · rw [dec_step u h]; simp
theorem parseM_dec (M : Nat) (hM : M < 18446744073709551616) : ∀ (u : Nat), u ≤ M → ∀ t, Lib.parseUintM M 0 (Lib.decDigits u ++ t) = Lib.parseUintM M u t := by
  intro u
  induction u using Nat.strongRecOn with
  | ind u ih =>
    intro hu t
    by_cases h : u < 10
    · rw [Lib.decDigits_one h]
      show Lib.parseUintM M 0 (UInt8.ofNat (48 + u) :: t) = _
      rw [Lib.parseUintM, dig_toNat u h, if_pos ⟨by omega, by omega⟩, if_neg (by omega), if_neg (by omega)]
      congr 1; omega
    · rw [dec_step u h, List.append_assoc, ih (u / 10) (by omega) (by omega)]
      show Lib.parseUintM M (u / 10) (UInt8.ofNat (48 + u % 10) :: t) = _
      rw [Lib.parseUintM, dig_toNat _ (by omega), if_pos ⟨by omega, by omega⟩, if_neg (by omega), if_neg (by omega)]
      congr 1; omega
theorem parseB_dec (B u : Nat) (hB : 2 ^ B - 1 < 18446744073709551616) (hu : u ≤ 2 ^ B - 1) : Lib.parseUintB B (Lib.decDigits u) = .ok u := by
  unfold Lib.parseUintB
  rw [if_neg (dec_ne u)]
  have := parseM_dec (2 ^ B - 1) hB u hu []
  rw [List.append_nil] at this
  rw [this, Lib.parseUintM]
theorem dec_cons (u : Nat) : ∃ c r, Lib.decDigits u = c :: r ∧ 48 ≤ c.toNat ∧ c.toNat ≤ 57 := by
  cases h : Lib.decDigits u with
  | nil => exact absurd h (dec_ne u)
  | cons c r => exact ⟨c, r, rfl, dec_digits u c (by rw [h]; exact List.mem_cons_self)⟩
theorem parseI_itoa (E : Int) (h0 : -32768 ≤ E) (h1 : E ≤ 32767) : Lib.parseIntB 16 (Lib.itoa E) = .ok E := by
  by_cases hn : E < 0
  · obtain ⟨u, rfl⟩ : ∃ u : Nat, E = -(u : Int) := ⟨E.natAbs, by omega⟩
    rw [Lib.itoa_neg u (by omega), Lib.parseIntB_minus, parseB_dec 16 u (by decide) (by omega)]
    unfold Lib.signedC
    simp
    omega
  · obtain ⟨u, rfl⟩ : ∃ u : Nat, E = (u : Int) := ⟨E.toNat, by omega⟩
    rw [Lib.itoa_nonneg]
    obtain ⟨c, r, hc, h2, h3⟩ := dec_cons u
    rw [hc, Lib.parseIntB_plain 16 c r (by omega) (by omega), ← hc, parseB_dec 16 u (by decide) (by omega)]
    unfold Lib.signlessC
    simp
    omega

/-- The first b cuts it. -/
theorem cut_b (d t : List UInt8) (hd : ∀ c ∈ d, c.toNat ≠ 98) : Lib.cut (d ++ 98 :: t) [98] = (d, t, true) := by
  have hi : Lib.index (d ++ 98 :: t) [98] = d.length := by
    refine Lib.index_hit (i := d.length) ?_ (by simp) (by simp [Lib.occAt])
    intro j hj
    unfold Lib.occAt
    rw [List.drop_append_of_le_length (by omega), List.drop_eq_getElem_cons hj]
    have := hd (d[j]) (List.getElem_mem hj)
    simp only [List.cons_append, List.isPrefixOf, Bool.and_true, beq_eq_false_iff_ne, ne_eq]
    intro e
    apply this
    rw [← e]; rfl
  unfold Lib.cut
  rw [hi, if_pos (by omega)]
  simp

theorem val_tiny (n : Nat) (hn : n = 1021) : val 4368491638549381120 = 2 ^ n := by
  obtain ⟨a, ha⟩ : ∃ a, a = 969 := ⟨_, rfl⟩
  rw [val_norm 4368491638549381120 a 0 (by decide) (by omega) (by decide), show (4503599627370496 + 0 : Nat) = 2 ^ 52 by decide, ← Nat.pow_add, show 52 + a = n by omega]
/-- Ldexp of a number's own mantissa and exponent is the number. -/
theorem ldx_exact (M : Nat) (E : Int) (r e : Nat) (hM1 : 1 ≤ M) (hM2 : M < 9007199254740992) (hr : r < 9218868437227405312) (he : E + 1074 = e) (hv : val r = M * 2 ^ e) : ldx (f64 M) E = r := by
  obtain ⟨l1, l2⟩ := log2_bd M (by omega)
  have hL : M.log2 ≤ 52 := by
    have : M.log2 < 53 := (Nat.log2_lt (by omega)).2 hM2
    omega
  generalize M.log2 = L at l1 l2 hL
  obtain ⟨k1, k2⟩ := sig_bd M L l1 l2 hL
  rw [f64_exact M L l1 l2 hL]
  have hcut : e + L < 2098 := by
    obtain ⟨n, hn⟩ : ∃ n, n = 2098 := ⟨_, rfl⟩
    have h1 := val_mono hr
    rw [val_inf n hn, hv] at h1
    have h2 : 2 ^ (L + e) ≤ M * 2 ^ e := by rw [Nat.pow_add]; exact Nat.mul_le_mul_right _ l1
    have h3 : L + e < n := (Nat.pow_lt_pow_iff_right (by decide)).1 (Nat.lt_of_le_of_lt h2 h1)
    omega
  have hK : ∀ q t, (52 - L) + q = t → M * 2 ^ (52 - L) * 2 ^ q = M * 2 ^ t := fun q t h => pow_join M _ _ _ h
  generalize M * 2 ^ (52 - L) = K at k1 k2 hK ⊢
  have q1 : ((L + 1022) * 4503599627370496 + K) / 4503599627370496 = L + 1023 := by omega
  have q2 : ((L + 1022) * 4503599627370496 + K) % 4503599627370496 = K - 4503599627370496 := by omega
  unfold ldx
  rw [q1, q2, if_neg (by omega), if_neg (by omega), if_neg (by omega)]
  by_cases c : E + (((L + 1023 : Nat) : Int) - 1023) < -1022
  · rw [if_pos c]
    obtain ⟨n, hn⟩ : ∃ n, n = 1074 := ⟨_, rfl⟩
    obtain ⟨m, hm⟩ : ∃ m, m = 1021 := ⟨_, rfl⟩
    have ht : (E + ((L + 1023 : Nat) : Int) + 53).toNat = e + L + 2 := by omega
    rw [ht]
    have hy : K - 4503599627370496 + (e + L + 2) * 4503599627370496 = (e + L + 1) * 4503599627370496 + K := by omega
    rw [hy]
    have hvy := val_sig K (e + L + 1) _ k1 k2 rfl
    rw [mul_exact 4368491638549381120 _ r n hn (by decide) (by omega) hr (by
      rw [hvy, val_tiny m hm, hv, Nat.mul_comm, hK (e + L + 1) (e + 53) (by omega), pow_join M (e + 53) m (e + n) (by omega), pow_join M e n (e + n) rfl])]
    rfl
  · rw [if_neg c]
    have ht : (E + ((L + 1023 : Nat) : Int)).toNat = e + L - 51 := by omega
    rw [ht]
    have hy : K - 4503599627370496 + (e + L - 51) * 4503599627370496 = (e + L - 52) * 4503599627370496 + K := by omega
    rw [hy]
    have hvy := val_sig K (e + L - 52) _ k1 k2 rfl
    have hrr : (e + L - 52) * 4503599627370496 + K = r := val_inj.1 (by rw [hvy, hv, hK (e + L - 52) e (by omega)])
    rw [hrr, mul_one r hr]
    rfl

theorem split_val (b : Nat) (hf : b % 9223372036854775808 < 9218868437227405312) (h0 : mant b ≠ 0) :
    ∃ e : Nat, spE b + 1074 = e ∧ 1 ≤ spM b ∧ val (b % 9223372036854775808) = spM b * 2 ^ e := by
  have hm := mant_lt b
  obtain ⟨m, hx, hz⟩ := Lib.ctzFrom_spec 64 (mant b) (by omega) (by omega)
  have hc : Lib.ctz 64 (mant b) = Lib.ctzFrom 64 (mant b) := by unfold Lib.ctz; rw [if_neg h0]
  have hM : spM b = 2 * m + 1 := by
    unfold spM; rw [if_neg h0, hc]
    conv => lhs; lhs; rw [hx]
    exact Nat.mul_div_cancel_left _ (Nat.two_pow_pos _)
  have hmm : mant b = spM b * 2 ^ Lib.ctz 64 (mant b) := by rw [hM, hc, Nat.mul_comm]; exact hx
  have hE : spE b = expo b + Lib.ctz 64 (mant b) := by unfold spE; rw [if_neg h0]
  generalize Lib.ctz 64 (mant b) = z at hmm hE
  have x1 : expf b = b % 9223372036854775808 / 4503599627370496 := by unfold expf; omega
  have x2 : frac b = b % 9223372036854775808 % 4503599627370496 := by unfold frac; omega
  by_cases he : expf b = 0
  · refine ⟨z, by rw [hE]; unfold expo; rw [if_pos he]; omega, by omega, ?_⟩
    rw [← hmm]
    unfold val mant
    rw [if_pos (by omega), if_pos he]; omega
  · refine ⟨z + (expf b - 1), by rw [hE]; unfold expo; rw [if_neg he]; omega, by omega, ?_⟩
    rw [val_norm (b % 9223372036854775808) (expf b - 1) (frac b) (by omega) (by omega) (by omega), ← pow_join (spM b) z (expf b - 1) _ rfl, ← hmm]
    unfold mant
    rw [if_neg he, Nat.add_comm]

theorem dec_no_b (u : Nat) : ∀ c ∈ Lib.decDigits u, c.toNat ≠ 98 := fun c hc => by have := dec_digits u c hc; omega
theorem fin_ne (sg D t : List UInt8) : ¬ (sg ++ (D ++ 98 :: t) = [110, 97, 110]) ∧ ¬ (sg ++ (D ++ 98 :: t) = [105, 110, 102]) ∧ ¬ (sg ++ (D ++ 98 :: t) = [45, 105, 110, 102]) := by
  have hm : (98 : UInt8) ∈ sg ++ (D ++ 98 :: t) := by simp
  refine ⟨fun h => ?_, fun h => ?_, fun h => ?_⟩ <;> rw [h] at hm <;> revert hm <;> decide
/-- The finite numbers' texts are read. -/
theorem gN_text (b : Nat) (hb : b < 18446744073709551616) (hf : b % 9223372036854775808 < 9218868437227405312) : gN (textFin b) = some b := by
  obtain ⟨c, r, hc, c1, c2⟩ := dec_cons (spM b)
  have hE := spE_bd b
  have hM := spM_lt b
  have trim : Lib.trimPrefix (textFin b) [45] = Lib.decDigits (spM b) ++ 98 :: Lib.itoa (spE b) ∧ Lib.hasPrefix (textFin b) [45] = decide (9223372036854775808 ≤ b) := by
    unfold textFin
    by_cases hl : b < 9223372036854775808
    · have hp : Lib.hasPrefix (Lib.decDigits (spM b) ++ 98 :: Lib.itoa (spE b)) [45] = false := by
        rw [hc]; unfold Lib.hasPrefix
        simp only [List.cons_append, List.isPrefixOf, Bool.and_true, beq_eq_false_iff_ne, ne_eq]
        intro e
        have : c.toNat = 45 := by rw [← e]; rfl
        omega
      rw [if_pos hl, List.nil_append]
      refine ⟨?_, ?_⟩
      · unfold Lib.trimPrefix; rw [hp]; rfl
      · rw [hp]; simp; omega
    · rw [if_neg hl]
      refine ⟨?_, ?_⟩
      · unfold Lib.trimPrefix Lib.hasPrefix; simp
      · unfold Lib.hasPrefix; simp; omega
  unfold gN
  rw [trim.1, trim.2, cut_b _ _ (dec_no_b _)]
  simp only
  rw [parseB_dec 64 (spM b) (by decide) (by omega), parseI_itoa (spE b) (by omega) (by omega)]
  simp only
  have hl : ldx (f64 (spM b)) (spE b) = b % 9223372036854775808 := by
    by_cases h0 : mant b = 0
    · have e1 : spM b = 0 := by unfold spM; rw [if_pos h0]
      have e2 : b % 9223372036854775808 = 0 := by
        unfold mant expf frac at h0; split at h0 <;> omega
      rw [e1, f64_zero, ldx, if_pos rfl, e2]
    · obtain ⟨e, h1, h2, h3⟩ := split_val b hf h0
      exact ldx_exact (spM b) (spE b) _ e h2 (spM_lt b) hf h1 h3
  rw [hl]
  congr 1
  by_cases h : 9223372036854775808 ≤ b
  · rw [if_pos (by simpa using h)]; unfold flip; rw [if_pos (by omega)]; omega
  · rw [if_neg (by simpa using h)]; omega
/-- A number's text is read as the number, all NaNs as the one. -/
theorem gP_text (b : Nat) (hb : b < 18446744073709551616) : gP (textOf b) = some (bitsOf b) := by
  unfold textOf bitsOf
  cases hn : isN b
  · simp only [Bool.false_eq_true, if_false]
    by_cases hi : b = 9218868437227405312
    · subst hi; rfl
    rw [if_neg hi]
    by_cases hj : b = 18442240474082181120
    · subst hj; rfl
    rw [if_neg hj]
    have hn' : ¬ (9218868437227405312 < b % 9223372036854775808) := by simpa [isN] using hn
    have hf : b % 9223372036854775808 < 9218868437227405312 := by omega
    unfold gP
    obtain ⟨f1, f2, f3⟩ := fin_ne (if b < 9223372036854775808 then [] else [45]) (Lib.decDigits (spM b)) (Lib.itoa (spE b))
    have g1 : ¬ textFin b = [110, 97, 110] := f1
    have g2 : ¬ textFin b = [105, 110, 102] := f2
    have g3 : ¬ textFin b = [45, 105, 110, 102] := f3
    rw [if_neg g1, if_neg g2, if_neg g3]
    exact gN_text b hb hf
  · rfl
theorem bits_bits' (a : Nat) : bitsOf (bitsOf a) = bitsOf a := by
  unfold bitsOf; cases h : isN a
  · simp [h]
  · simp
theorem textOf_bits (b : Nat) : textOf (bitsOf b) = textOf b := by
  unfold bitsOf; cases hn : isN b
  · rfl
  · rw [if_pos rfl, textOf, textOf, if_pos hn, if_pos (by decide)]
theorem pOf_text (b : Nat) (hb : b < 18446744073709551616) : pOf (textOf b) = (bitsOf b, 0) := by
  unfold pOf
  rw [gP_text b hb]
  simp only [textOf_bits, if_true]
theorem text_inj (a b : Nat) (ha : a < 18446744073709551616) (hb : b < 18446744073709551616) : textOf a = textOf b ↔ bitsOf a = bitsOf b := by
  constructor
  · intro h
    have := gP_text a ha
    rw [h, gP_text b hb] at this
    exact (Option.some.inj this).symm
  · intro h
    rw [← textOf_bits a, ← textOf_bits b, h]
theorem text_len (b : Nat) : (textOf b).length ≤ 60 := by
  unfold textOf
  split
  · decide
  split
  · decide
  split
  · decide
  unfold textFin
  have h1 := dec_len (spM b) (by have := spM_lt b; omega)
  have h2 := spE_bd b
  have h3 := itoa_len (spE b) (by omega) (by omega)
  simp only [List.length_append, List.length_cons]
  split <;> simp <;> omega
end Go.Proofs.YtjdbapkmaggllaaGreatDoor.Fl.Fo
