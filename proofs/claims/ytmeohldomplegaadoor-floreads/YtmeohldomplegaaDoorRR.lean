/- The document's own Parse at every short text. -/
import Derived.Test.YtmeohldomplegaaDoorRQ
namespace Go.Proofs.YtmeohldomplegaaDoor
open Go.RowKit Fo Go.Sort
set_option maxRecDepth 100000

namespace Fo
theorem take_list (s : ByteArray) (k : Nat) : (s.extract 0 k).data.toList = s.data.toList.take k := by
  rw [ByteArray.data_extract, Array.toList_extract, List.extract_eq_take_drop]
  simp
theorem dec_len_le : ∀ (k u : Nat), u < 10 ^ (k + 1) → (Lib.decDigits u).length ≤ k + 1
  | 0, u, h => by rw [Lib.decDigits_one (by simpa using h)]; simp
  | k + 1, u, h => by
    by_cases hu : u < 10
    · rw [Lib.decDigits_one hu]; simp
    · rw [dec_step u hu, List.length_append]
      have := dec_len_le k (u / 10) (by rw [Nat.pow_succ] at h; omega)
      simp; omega
theorem spE_range (x : Nat) (hf : x % 9223372036854775808 < 9218868437227405312) : -1074 ≤ spE x ∧ spE x ≤ 1023 := by
  by_cases h0 : mant x = 0
  · have : spE x = 0 := by unfold spE; rw [if_pos h0]
    omega
  · obtain ⟨e, h1, h2, h3⟩ := split_val x hf h0
    obtain ⟨n, hn⟩ : ∃ n, n = 2098 := ⟨_, rfl⟩
    have h4 := val_mono hf
    rw [val_inf n hn, h3] at h4
    have h5 : 2 ^ e ≤ spM x * 2 ^ e := Nat.le_mul_of_pos_left _ (by omega)
    have h6 : e < n := (Nat.pow_lt_pow_iff_right (by decide)).1 (Nat.lt_of_le_of_lt h5 h4)
    omega
theorem scale_exact (x : Nat) (hf : x % 9223372036854775808 < 9218868437227405312) :
    (∀ E : Nat, spE x = E → dblN E (f64 (spM x)) = x % 9223372036854775808) ∧ (∀ E : Nat, spE x = -(E : Int) → hlvN E (f64 (spM x)) = x % 9223372036854775808) := by
  have hr := spE_range x hf
  by_cases h0 : mant x = 0
  · have e1 : spM x = 0 := by unfold spM; rw [if_pos h0]
    have e2 : spE x = 0 := by unfold spE; rw [if_pos h0]
    have e3 : x % 9223372036854775808 = 0 := by unfold mant expf frac at h0; split at h0 <;> omega
    rw [e1, e2, e3, f64_zero]
    refine ⟨fun E hE => ?_, fun E hE => ?_⟩
    · obtain rfl : E = 0 := by omega
      rfl
    · obtain rfl : E = 0 := by omega
      rfl
  · obtain ⟨e, h1, h2, h3⟩ := split_val x hf h0
    have hM := spM_lt x
    obtain ⟨l1, l2⟩ := log2_bd (spM x) (by omega)
    have hL : (spM x).log2 ≤ 52 := by
      have : (spM x).log2 < 53 := (Nat.log2_lt (by omega)).2 hM
      omega
    generalize (spM x).log2 = L at l1 l2 hL
    have hcut : L + e < 2098 := by
      obtain ⟨n, hn⟩ : ∃ n, n = 2098 := ⟨_, rfl⟩
      have h4 := val_mono hf
      rw [val_inf n hn, h3] at h4
      have h5 : 2 ^ (L + e) ≤ spM x * 2 ^ e := by rw [Nat.pow_add]; exact Nat.mul_le_mul_right _ l1
      have h6 : L + e < n := (Nat.pow_lt_pow_iff_right (by decide)).1 (Nat.lt_of_le_of_lt h5 h4)
      omega
    refine ⟨fun E hE => ?_, fun E hE => ?_⟩
    · rw [dblN_rep (spM x) L l1 l2 hL E (by omega)]
      refine val_inj.1 ?_
      rw [val_rep (spM x) L _ l1 l2 hL, h3, show 1074 + E = e by omega]
    · rw [hlvN_rep (spM x) L l1 l2 hL E (by omega)]
      refine val_inj.1 ?_
      rw [val_rep (spM x) L _ l1 l2 hL, h3, show 1074 - E = e by omega]
theorem text_shape (x : Nat) : textOf x = [110, 97, 110] ∨ textOf x = [105, 110, 102] ∨ textOf x = [45, 105, 110, 102] ∨ (x % 9223372036854775808 < 9218868437227405312 ∧ textOf x = textFin x) ∨ 18446744073709551616 ≤ x := by
  unfold textOf
  cases hn : isN x
  · simp only [Bool.false_eq_true, if_false]
    by_cases hi : x = 9218868437227405312
    · rw [if_pos hi]; exact Or.inr (Or.inl rfl)
    rw [if_neg hi]
    by_cases hj : x = 18442240474082181120
    · rw [if_pos hj]; exact Or.inr (Or.inr (Or.inl rfl))
    rw [if_neg hj]
    have hn' : ¬ (9218868437227405312 < x % 9223372036854775808) := by simpa [isN] using hn
    by_cases hx : x < 18446744073709551616
    · exact Or.inr (Or.inr (Or.inr (Or.inl ⟨by omega, rfl⟩)))
    · exact Or.inr (Or.inr (Or.inr (Or.inr (by omega))))
  · exact Or.inl rfl
/-- The first b of such a text. -/
theorem first_b (d t r : List UInt8) (hd : ∀ c ∈ d, c.toNat ≠ 98) (k : Nat) (hr : r = d ++ 98 :: t) (hk : k < r.length) (hb : r[k].toNat = 98) (hf : ∀ (j : Nat) (h : j < r.length), j < k → r[j].toNat ≠ 98) : r.take k = d ∧ r.drop (k + 1) = t := by
  subst hr
  have h1 : ¬ k < d.length := fun h => hd _ (List.getElem_mem h) (by rw [List.getElem_append_left h] at hb; exact hb)
  have h2 : ¬ d.length < k := fun h => by
    refine hf d.length (by simp) h ?_
    rw [List.getElem_append_right (Nat.le_refl _)]
    simp
  obtain rfl : k = d.length := by omega
  constructor
  · simp
  · rw [List.drop_append, List.drop_of_length_le (by omega)]
    simp
theorem fin_split (x : Nat) (r : List UInt8) (h : textFin x = r) (hneg : ∀ c ∈ r.head?, c.toNat ≠ 45) : x < 9223372036854775808 ∧ r = Lib.decDigits (spM x) ++ 98 :: Lib.itoa (spE x) := by
  unfold textFin at h
  by_cases hl : x < 9223372036854775808
  · rw [if_pos hl, List.nil_append] at h
    exact ⟨hl, h.symm⟩
  · rw [if_neg hl] at h
    subst h
    exact absurd rfl (hneg 45 rfl)
theorem fin_split_neg (x : Nat) (r : List UInt8) (h : textFin x = 45 :: r) : 9223372036854775808 ≤ x ∧ r = Lib.decDigits (spM x) ++ 98 :: Lib.itoa (spE x) := by
  unfold textFin at h
  by_cases hl : x < 9223372036854775808
  · rw [if_pos hl, List.nil_append] at h
    obtain ⟨c, q, hc, c1, c2⟩ := dec_cons (spM x)
    rw [hc, List.cons_append] at h
    injection h with h1 h2
    rw [h1] at c1
    exact absurd c1 (by decide)
  · rw [if_neg hl] at h
    injection h with h1 h2
    exact ⟨by omega, h2.symm⟩
/-- What the parts of a finite number's text are read as. -/
theorem parts (x : Nat) (hf : x % 9223372036854775808 < 9218868437227405312) :
    (Lib.decDigits (spM x)).length ≤ 18 ∧ (Lib.itoa (spE x)).length ≤ 6 ∧ sOk (Lib.decDigits (spM x)) = true ∧ sOk (Lib.itoa (spE x)) = true ∧ sN (Lib.decDigits (spM x)) = spM x ∧ sN (Lib.itoa (spE x)) = spE x := by
  have hr := spE_range x hf
  have hM := spM_lt x
  have s1 := s_itoa (spM x : Int)
  rw [Lib.itoa_nonneg] at s1
  have s2 := s_itoa (spE x)
  refine ⟨dec_len_le 17 _ (by omega), ?_, s1.2, s2.2, s1.1, s2.1⟩
  unfold Lib.itoa
  split
  · have := dec_len_le 3 (spE x).natAbs (by omega)
    simp only [List.length_cons]; omega
  · have := dec_len_le 3 (spE x).toNat (by omega)
    omega
end Fo
theorem text_ne_nil (x : Nat) (hx : x < 18446744073709551616) : textOf x ≠ [] := by
  rcases text_shape x with h | h | h | ⟨-, h⟩ | h
  · rw [h]; decide
  · rw [h]; decide
  · rw [h]; decide
  · rw [h]; unfold textFin; intro e
    have := congrArg List.length e
    simp at this
  · omega
theorem text_ne_nnan (x : Nat) (hx : x < 18446744073709551616) : textOf x ≠ [45, 110, 97, 110] := by
  rcases text_shape x with h | h | h | ⟨-, h⟩ | h
  · rw [h]; decide
  · rw [h]; decide
  · rw [h]; decide
  · rw [h]; unfold textFin; intro e
    have hm : (98 : UInt8) ∈ ([45, 110, 97, 110] : List UInt8) := by rw [← e]; simp
    revert hm; decide
  · omega
theorem flip_abs (x : Nat) (hx : x < 18446744073709551616) (h : 9223372036854775808 ≤ x) : flip (x % 9223372036854775808) = x := by
  unfold flip; rw [if_pos (by omega)]; omega

theorem rparse_any (l : List UInt8) (hl : l.length ≤ 300) (w : World) :
    Calls Tryd.prog 25 #[.string ⟨l.toArray⟩] w fun r w' => RPost l r ∧ Below w.heap.size w w' := by
  cases l with
  | nil => exact rp_empty w text_ne_nil
  | cons c r =>
    have hlen : r.length ≤ 299 := by simpa using hl
    by_cases hc : c.toNat = 45
    · obtain rfl : c = 45 := UInt8.toNat_inj.1 hc
      by_cases e1 : r = [110, 97, 110]
      · subst e1; exact rp_nnan w text_ne_nnan
      by_cases e2 : r = [105, 110, 102]
      · subst e2; exact rp_ninf w
      have hsz : (⟨(45 :: r).toArray⟩ : ByteArray).size = r.length + 1 := by rw [ba_size]; rfl
      have hts : (⟨r.toArray⟩ : ByteArray).size = r.length := ba_size r
      have htl : (⟨(45 :: r).toArray⟩ : ByteArray).toList = 45 :: r := by rw [ByteArray.toList_eq]
      have ht : (⟨(45 :: r).toArray⟩ : ByteArray).extract 1 (⟨(45 :: r).toArray⟩ : ByteArray).size = ⟨r.toArray⟩ := by
        apply ByteArray.ext
        apply Array.ext'
        rw [Lib.extract_to_end]; rfl
      have fin : ∀ x, x < 18446744073709551616 → textOf x = 45 :: r → x % 9223372036854775808 < 9218868437227405312 ∧ 9223372036854775808 ≤ x ∧ r = Lib.decDigits (spM x) ++ 98 :: Lib.itoa (spE x) := fun x hx h => by
        rcases text_shape x with h' | h' | h' | ⟨hf, h'⟩ | h'
        · rw [h'] at h; injection h with h1 h2; exact absurd h1 (by decide)
        · rw [h'] at h; injection h with h1 h2; exact absurd h1 (by decide)
        · rw [h'] at h; injection h with h1 h2; exact absurd h2.symm e2
        · obtain ⟨a, b⟩ := fin_split_neg x r (h' ▸ h)
          exact ⟨hf, a, b⟩
        · omega
      have := rp_neg ⟨(45 :: r).toArray⟩ ⟨r.toArray⟩ (by omega) (by omega) (by rfl) ht (by rw [ByteArray.toList_eq]; simpa using e1) (by rw [ByteArray.toList_eq]; simpa using e2) (by omega) w
        (fun hno x hx h => by
          rw [htl] at h
          obtain ⟨-, -, hr⟩ := fin x hx h
          have hm : (98 : UInt8) ∈ r := by rw [hr]; simp
          obtain ⟨j, hj, e⟩ := List.mem_iff_getElem.1 hm
          exact hno j (by omega) (by show (r[j]).toNat = 98; rw [e]; rfl))
        (fun k hk hb hfst x hx h => by
          rw [htl] at h
          obtain ⟨hf, hge, hr⟩ := fin x hx h
          obtain ⟨t1, t2⟩ := first_b _ _ r (dec_no_b (spM x)) k hr (by omega) hb (fun j hj hlt => hfst j (by omega) hlt)
          have x1 : ((⟨r.toArray⟩ : ByteArray).extract 0 k).data.toList = Lib.decDigits (spM x) := by rw [← t1]; exact take_list ⟨r.toArray⟩ k
          have x2 : ((⟨r.toArray⟩ : ByteArray).extract (k + 1) (⟨r.toArray⟩ : ByteArray).size).data.toList = Lib.itoa (spE x) := by rw [← t2]; exact Lib.extract_to_end ⟨r.toArray⟩ (k + 1)
          obtain ⟨p1, p2, p3, p4, p5, p6⟩ := parts x hf
          have hrg := spE_range x hf
          have hM := spM_lt x
          obtain ⟨s1, s2⟩ := scale_exact x hf
          rw [x1, x2, htl]
          refine ⟨⟨p1, p2, p3, p4, by omega, by omega, by omega, by omega⟩, fun M E hM' hE' => ?_, fun M E hM' hE' => ?_⟩
          · obtain rfl : spM x = M := by omega
            rw [s1 E (by omega), flip_abs x hx hge]; exact h
          · obtain rfl : spM x = M := by omega
            rw [s2 E (by omega), flip_abs x hx hge]; exact h)
      rw [htl] at this
      exact this
    · by_cases e1 : c :: r = [110, 97, 110]
      · rw [e1]; exact rp_nan w
      by_cases e2 : c :: r = [105, 110, 102]
      · rw [e2]; exact rp_inf w
      have hts : (⟨(c :: r).toArray⟩ : ByteArray).size = (c :: r).length := ba_size (c :: r)
      have htl : (⟨(c :: r).toArray⟩ : ByteArray).toList = c :: r := by rw [ByteArray.toList_eq]
      have fin : ∀ x, x < 18446744073709551616 → textOf x = c :: r → x % 9223372036854775808 < 9218868437227405312 ∧ x < 9223372036854775808 ∧ c :: r = Lib.decDigits (spM x) ++ 98 :: Lib.itoa (spE x) := fun x hx h => by
        rcases text_shape x with h' | h' | h' | ⟨hf, h'⟩ | h'
        · exact absurd (h'.symm.trans h).symm e1
        · exact absurd (h'.symm.trans h).symm e2
        · rw [h'] at h; injection h with h1 h2; rw [← h1] at hc; exact absurd rfl hc
        · obtain ⟨a, b⟩ := fin_split x (c :: r) (h' ▸ h) (fun d hd => by
            have : d = c := by simpa using hd.symm
            rw [this]; exact hc)
          exact ⟨hf, a, b⟩
        · omega
      have := rp_pos ⟨(c :: r).toArray⟩ (by rw [hts]; simp) (by
          show (((c.toNat : Nat) : Int) == 45) = false
          simp; omega) (by rw [ByteArray.toList_eq]; simpa using e1) (by rw [ByteArray.toList_eq]; simpa using e2) (by omega) w
        (fun hno x hx h => by
          rw [htl] at h
          obtain ⟨-, -, hr⟩ := fin x hx h
          have hm : (98 : UInt8) ∈ c :: r := by rw [hr]; simp
          obtain ⟨j, hj, e⟩ := List.mem_iff_getElem.1 hm
          exact hno j (by omega) (by show ((c :: r)[j]).toNat = 98; rw [e]; rfl))
        (fun k hk hb hfst x hx h => by
          rw [htl] at h
          obtain ⟨hf, hge, hr⟩ := fin x hx h
          obtain ⟨t1, t2⟩ := first_b _ _ (c :: r) (dec_no_b (spM x)) k hr (by omega) hb (fun j hj hlt => hfst j (by omega) hlt)
          have x1 : ((⟨(c :: r).toArray⟩ : ByteArray).extract 0 k).data.toList = Lib.decDigits (spM x) := by rw [← t1]; exact take_list ⟨(c :: r).toArray⟩ k
          have x2 : ((⟨(c :: r).toArray⟩ : ByteArray).extract (k + 1) (⟨(c :: r).toArray⟩ : ByteArray).size).data.toList = Lib.itoa (spE x) := by rw [← t2]; exact Lib.extract_to_end ⟨(c :: r).toArray⟩ (k + 1)
          obtain ⟨p1, p2, p3, p4, p5, p6⟩ := parts x hf
          have hrg := spE_range x hf
          have hM := spM_lt x
          obtain ⟨s1, s2⟩ := scale_exact x hf
          rw [x1, x2, htl]
          refine ⟨⟨p1, p2, p3, p4, by omega, by omega, by omega, by omega⟩, fun M E hM' hE' => ?_, fun M E hM' hE' => ?_⟩
          · obtain rfl : spM x = M := by omega
            rw [s1 E (by omega), show x % 9223372036854775808 = x by omega]; exact h
          · obtain rfl : spM x = M := by omega
            rw [s2 E (by omega), show x % 9223372036854775808 = x by omega]; exact h)
      rw [htl] at this
      exact this
end Go.Proofs.YtmeohldomplegaaDoor
