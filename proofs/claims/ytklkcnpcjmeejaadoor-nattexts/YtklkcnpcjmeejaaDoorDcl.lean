/- Numbers and their decimal texts: to and fro. -/
import Derived.Test.YtklkcnpcjmeejaaDoorPrs
namespace Go.Proofs.YtklkcnpcjmeejaaDoor
open Go.RowKit Fo
set_option maxRecDepth 100000

theorem byt_app (l : List UInt8) (c : UInt8) (k : Nat) (h : k < l.length) : byt (l ++ [c]) k = byt l k := by
  unfold byt
  rw [List.getD_eq_getElem?_getD, List.getD_eq_getElem?_getD, List.getElem?_append_left h]
theorem byt_last (l : List UInt8) (c : UInt8) : byt (l ++ [c]) l.length = c.toNat := by
  unfold byt
  rw [List.getD_eq_getElem?_getD, List.getElem?_append_right (Nat.le_refl _)]
  simp
theorem dv_app (l : List UInt8) (c : UInt8) : ∀ k, k ≤ l.length → dv (l ++ [c]) k = dv l k
  | 0, _ => rfl
  | k + 1, h => by
    show dv (l ++ [c]) k * 10 + (byt (l ++ [c]) k - 48) = dv l k * 10 + (byt l k - 48)
    rw [dv_app l c k (by omega), byt_app l c k (by omega)]
theorem dv_snoc (l : List UInt8) (c : UInt8) : dv (l ++ [c]) (l ++ [c]).length = dv l l.length * 10 + (c.toNat - 48) := by
  rw [List.length_append, List.length_singleton]
  show dv (l ++ [c]) l.length * 10 + (byt (l ++ [c]) l.length - 48) = _
  rw [dv_app l c _ (Nat.le_refl _), byt_last]
theorem dig_toNat (d : Nat) (h : d < 10) : (UInt8.ofNat (48 + d)).toNat = 48 + d := by
  rw [UInt8.toNat_ofNat']; omega
theorem dec_ne (N : Nat) : Lib.decDigits N ≠ [] := by
  by_cases h : N < 10
  · rw [Lib.decDigits_one h]; simp
  · rw [dec_big N h]; simp
theorem len_pos {l : List UInt8} (h : l ≠ []) : 0 < l.length := by cases l <;> simp_all
theorem dec_facts (N : Nat) : digB (Lib.decDigits N) ∧ dv (Lib.decDigits N) (Lib.decDigits N).length = N ∧ (0 < N → byt (Lib.decDigits N) 0 ≠ 48) := by
  induction N using Nat.strongRecOn with
  | _ N ih =>
    by_cases h : N < 10
    · rw [Lib.decDigits_one h]
      have hb : byt [UInt8.ofNat (48 + N)] 0 = 48 + N := dig_toNat N h
      refine ⟨fun j hj => ?_, ?_, fun hp => ?_⟩
      · obtain rfl : j = 0 := by simp at hj; omega
        rw [hb]; omega
      · show 0 * 10 + (byt [UInt8.ofNat (48 + N)] 0 - 48) = N
        rw [hb]; omega
      · rw [hb]; omega
    · obtain ⟨h1, h2, h3⟩ := ih (N / 10) (by omega)
      have hd := dig_toNat (N % 10) (by omega)
      rw [dec_big N h]
      have hp := len_pos (dec_ne (N / 10))
      refine ⟨fun j hj => ?_, ?_, fun _ => ?_⟩
      · rw [List.length_append, List.length_singleton] at hj
        by_cases e : j < (Lib.decDigits (N / 10)).length
        · rw [byt_app _ _ _ e]; exact h1 j e
        · obtain rfl : j = (Lib.decDigits (N / 10)).length := by omega
          rw [byt_last, hd]; omega
      · rw [dv_snoc, h2, hd]; omega
      · rw [byt_app _ _ _ hp]; exact h3 (by omega)
theorem dec_dec (N : Nat) : decT (Lib.decDigits N) := by
  obtain ⟨h1, -, h3⟩ := dec_facts N
  refine ⟨dec_ne N, ?_, h1⟩
  rcases Nat.eq_zero_or_pos N with h | h
  · right; rw [h, Lib.decDigits_one (by decide)]; decide
  · exact Or.inl (h3 h)
theorem dec_dv (N : Nat) : dv (Lib.decDigits N) (Lib.decDigits N).length = N := (dec_facts N).2.1
theorem dv_pos (l : List UInt8) (h0 : 48 < byt l 0) : ∀ k, 0 < k → 0 < dv l k
  | 1, _ => by show 0 < 0 * 10 + (byt l 0 - 48); omega
  | k + 2, _ => by
    have := dv_pos l h0 (k + 1) (by omega)
    show 0 < dv l (k + 1) * 10 + _
    omega
theorem ofNat_toNat (c : UInt8) : UInt8.ofNat c.toNat = c := UInt8.ofNat_toNat
theorem dv_dec_len : ∀ (n : Nat) (l : List UInt8), l.length = n → decT l → Lib.decDigits (dv l l.length) = l
  | 0, l, hl, h => absurd (List.eq_nil_of_length_eq_zero hl) h.1
  | n + 1, l, hl, h => by
    obtain ⟨l', c, rfl⟩ : ∃ l' c, l = l' ++ [c] := ⟨l.dropLast, l.getLast h.1, (List.dropLast_concat_getLast h.1).symm⟩
    have hl' : l'.length = n := by rw [List.length_append, List.length_singleton] at hl; omega
    have hc := h.2.2 l'.length (by rw [List.length_append, List.length_singleton]; omega)
    rw [byt_last] at hc
    rw [dv_snoc]
    by_cases h0 : l' = []
    · subst h0
      show Lib.decDigits (0 * 10 + (c.toNat - 48)) = [c]
      rw [Nat.zero_mul, Nat.zero_add, Lib.decDigits_one (by omega), show 48 + (c.toNat - 48) = c.toNat by omega, ofNat_toNat]
    · have hp := len_pos h0
      have hb0 : byt (l' ++ [c]) 0 = byt l' 0 := byt_app l' c 0 hp
      have hd : digB l' := fun j hj => by
        have := h.2.2 j (by rw [List.length_append, List.length_singleton]; omega)
        rwa [byt_app l' c j hj] at this
      have hh : byt l' 0 ≠ 48 := by
        rcases h.2.1 with h1 | h1
        · rwa [hb0] at h1
        · exfalso
          have := congrArg List.length h1
          simp at this
          exact h0 this
      have ih := dv_dec_len n l' hl' ⟨h0, Or.inl hh, hd⟩
      have hp' := dv_pos l' (by have := (hd 0 hp).1; omega) l'.length hp
      rw [dec_big _ (by omega), show (dv l' l'.length * 10 + (c.toNat - 48)) / 10 = dv l' l'.length by omega, show (dv l' l'.length * 10 + (c.toNat - 48)) % 10 = c.toNat - 48 by omega, ih, show 48 + (c.toNat - 48) = c.toNat by omega, ofNat_toNat]
theorem dv_dec (l : List UInt8) (h : decT l) : Lib.decDigits (dv l l.length) = l := dv_dec_len _ l rfl h
end Go.Proofs.YtklkcnpcjmeejaaDoor
