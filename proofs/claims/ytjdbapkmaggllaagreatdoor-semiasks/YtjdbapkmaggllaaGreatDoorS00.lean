/- Plain mathematics of numbers in digits of 32 bits, the least first. -/
import Derived.RowKit3
namespace Go.Proofs.YtjdbapkmaggllaaGreatDoor.Fo
set_option maxRecDepth 100000

/-- What so many digits are worth. -/
def lv (L : Nat → Nat) : Nat → Nat
  | 0 => 0
  | n + 1 => lv L n + L n * 4294967296 ^ n
/-- The digit at a place. -/
def dg (N j : Nat) : Nat := N / 4294967296 ^ j % 4294967296
/-- How many digits a number has. -/
def ln (N : Nat) : Nat := if h : N = 0 then 0 else ln (N / 4294967296) + 1
termination_by N
decreasing_by exact Nat.div_lt_self (by omega) (by decide)
theorem bp (n : Nat) : 0 < 4294967296 ^ n := Nat.pow_pos (by decide)
theorem dg_lt (N j : Nat) : dg N j < 4294967296 := Nat.mod_lt _ (by decide)
theorem lv_congr {L K : Nat → Nat} : ∀ n, (∀ j, j < n → L j = K j) → lv L n = lv K n
  | 0, _ => rfl
  | n + 1, h => by rw [lv, lv, lv_congr n (fun j hj => h j (by omega)), h n (by omega)]
theorem lv_lt {L : Nat → Nat} : ∀ n, (∀ j, j < n → L j < 4294967296) → lv L n < 4294967296 ^ n
  | 0, _ => by simp [lv]
  | n + 1, h => by
    have h1 := lv_lt n (fun j hj => h j (by omega))
    have h2 := h n (by omega)
    rw [lv, Nat.pow_succ]
    have h3 : (L n + 1) * 4294967296 ^ n ≤ 4294967296 * 4294967296 ^ n := Nat.mul_le_mul_right _ h2
    rw [Nat.add_mul, Nat.one_mul] at h3
    rw [Nat.mul_comm (4294967296 ^ n)]
    omega
theorem lv_dg (N : Nat) : ∀ n, lv (dg N) n = N % 4294967296 ^ n
  | 0 => by simp [lv, Nat.mod_one]
  | n + 1 => by
    rw [lv, lv_dg N n, Nat.pow_succ, Nat.mod_mul, dg, Nat.mul_comm (4294967296 ^ n)]
theorem lv_dg_of (N n : Nat) (h : N < 4294967296 ^ n) : lv (dg N) n = N := by rw [lv_dg, Nat.mod_eq_of_lt h]
theorem dg_lv (L : Nat → Nat) : ∀ n, (∀ j, j < n → L j < 4294967296) → ∀ j, j < n → dg (lv L n) j = L j
  | 0, _, j, hj => by omega
  | n + 1, h, j, hj => by
    have h1 := lv_lt n (fun j hj => h j (by omega))
    have hn := h n (by omega)
    unfold dg
    rw [lv]
    by_cases e : j = n
    · subst e
      rw [Nat.add_mul_div_right _ _ (bp j), Nat.div_eq_of_lt h1, Nat.zero_add, Nat.mod_eq_of_lt hn]
    · have hj' : j < n := by omega
      have ih := dg_lv L n (fun j hj => h j (by omega)) j hj'
      unfold dg at ih
      obtain ⟨d, hd⟩ : ∃ d, n = j + (d + 1) := ⟨n - j - 1, by omega⟩
      have e2 : L n * 4294967296 ^ n = (L n * 4294967296 ^ d * 4294967296) * 4294967296 ^ j := by
        rw [hd, Nat.pow_add, Nat.pow_succ, Nat.mul_comm (4294967296 ^ j), ← Nat.mul_assoc, ← Nat.mul_assoc]
      rw [e2, Nat.add_mul_div_right _ _ (bp j), Nat.add_mul_mod_self_right]
      exact ih
theorem ln_zero : ln 0 = 0 := by unfold ln; simp
theorem ln_pos (N : Nat) (h : N ≠ 0) : ln N = ln (N / 4294967296) + 1 := by rw [ln, dif_neg h]
theorem ln_le : ∀ k N, N < 4294967296 ^ k → ln N ≤ k
  | 0, N, h => by
    have : N = 0 := by rw [Nat.pow_zero] at h; omega
    rw [this, ln_zero]; exact Nat.le_refl _
  | k + 1, N, h => by
    by_cases h0 : N = 0
    · rw [h0, ln_zero]; omega
    · rw [ln_pos N h0]
      have : N / 4294967296 < 4294967296 ^ k := by
        rw [Nat.pow_succ] at h
        exact Nat.div_lt_of_lt_mul (by rw [Nat.mul_comm]; exact h)
      have := ln_le k _ this
      omega
theorem lt_ln : ∀ k N, ln N = k → N < 4294967296 ^ k
  | 0, N, h => by
    by_cases h0 : N = 0
    · rw [h0]; decide
    · rw [ln_pos N h0] at h; omega
  | k + 1, N, h => by
    by_cases h0 : N = 0
    · rw [h0]; exact bp _
    · rw [ln_pos N h0] at h
      have h1 := lt_ln k (N / 4294967296) (by omega)
      rw [Nat.pow_succ]
      have h2 := Nat.div_add_mod N 4294967296
      have h3 := Nat.mod_lt N (show 0 < 4294967296 by decide)
      omega
theorem lv_ln (N : Nat) : lv (dg N) (ln N) = N := lv_dg_of N _ (lt_ln _ N rfl)
/-- A number whose last digit is not 0 has so many digits. -/
theorem ln_of (L : Nat → Nat) (n : Nat) (h : ∀ j, j < n → L j < 4294967296) (ht : n = 0 ∨ L (n - 1) ≠ 0) : ln (lv L n) = n := by
  have h1 := ln_le n (lv L n) (lv_lt n h)
  rcases ht with rfl | ht
  · exact ln_zero
  · rcases Nat.lt_or_ge (ln (lv L n)) n with hlt | hge
    · have h2 := lt_ln _ (lv L n) rfl
      have h3 : 4294967296 ^ ln (lv L n) ≤ 4294967296 ^ (n - 1) := Nat.pow_le_pow_right (by decide) (by omega)
      have h4 : dg (lv L n) (n - 1) = L (n - 1) := dg_lv L n h (n - 1) (by omega)
      unfold dg at h4
      rw [Nat.div_eq_of_lt (by omega)] at h4
      simp at h4
      omega
    · omega
theorem top_ne (N : Nat) (h : 0 < ln N) : dg N (ln N - 1) ≠ 0 := by
  intro e
  have h1 : lv (dg N) (ln N) = N := lv_ln N
  obtain ⟨k, hk⟩ : ∃ k, ln N = k + 1 := ⟨ln N - 1, by omega⟩
  rw [hk, lv] at h1
  rw [hk, Nat.add_sub_cancel] at e
  rw [e, Nat.zero_mul, Nat.add_zero] at h1
  have h2 := lv_lt (L := dg N) k (fun j _ => dg_lt N j)
  have := ln_le k N (by omega)
  omega
/-- Noughts at the end count nothing. -/
theorem lv_noughts (L : Nat → Nat) (k : Nat) : ∀ n, k ≤ n → (∀ j, k ≤ j → j < n → L j = 0) → lv L n = lv L k
  | 0, h, _ => by rw [show k = 0 by omega]
  | n + 1, h, h0 => by
    by_cases e : k = n + 1
    · rw [e]
    · rw [lv, h0 n (by omega) (by omega), Nat.zero_mul, Nat.add_zero]
      exact lv_noughts L k n (by omega) (fun j a b => h0 j a (by omega))
theorem ln_mono {M N : Nat} (h : M ≤ N) : ln M ≤ ln N := ln_le _ _ (Nat.lt_of_le_of_lt h (lt_ln _ N rfl))
/-- Two numbers that are alike above a place. -/
theorem lv_lt_of (L K : Nat → Nat) (i : Nat) (hl : ∀ j, j < i → L j < 4294967296) (h : L i < K i) : ∀ n, i < n → (∀ j, i < j → j < n → L j = K j) → lv L n < lv K n
  | 0, hi, _ => by omega
  | n + 1, hi, he => by
    by_cases e : i = n
    · subst e
      have h1 := lv_lt i hl
      rw [lv, lv]
      have h3 : (L i + 1) * 4294967296 ^ i ≤ K i * 4294967296 ^ i := Nat.mul_le_mul_right _ h
      rw [Nat.add_mul, Nat.one_mul] at h3
      omega
    · rw [lv, lv, he n (by omega) (by omega)]
      have := lv_lt_of L K i hl h n (by omega) (fun j a b => he j a (by omega))
      omega
theorem lv_eq_of (L K : Nat → Nat) (n : Nat) (h : ∀ j, j < n → L j = K j) : lv L n = lv K n := lv_congr n h
/-- Digits of a number below another one's. -/
theorem ln_lt {M N : Nat} (h : ln M < ln N) : M < N := by
  rcases Nat.lt_or_ge M N with h' | h'
  · exact h'
  · have := ln_mono h'; omega
end Go.Proofs.YtjdbapkmaggllaaGreatDoor.Fo
