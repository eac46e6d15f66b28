/- Plain mathematics of numbers in blocks of nine decimal digits. -/
import Derived.Test.YtjdbapkmaggllaaGreatDoorQ00
import Derived.Lib.ItoaNum
namespace Go.Proofs.YtjdbapkmaggllaaGreatDoor.Fo
set_option maxRecDepth 100000

/-- The block at a place. -/
def bd (N j : Nat) : Nat := N / 1000000000 ^ j % 1000000000
/-- How many blocks a number has. -/
def bl (N : Nat) : Nat := if h : N = 0 then 0 else bl (N / 1000000000) + 1
termination_by N
decreasing_by exact Nat.div_lt_self (by omega) (by decide)
theorem dp (n : Nat) : 0 < 1000000000 ^ n := Nat.pow_pos (by decide)
theorem bd_lt (N j : Nat) : bd N j < 1000000000 := Nat.mod_lt _ (by decide)
theorem bl_zero : bl 0 = 0 := by unfold bl; simp
theorem bl_pos (N : Nat) (h : N ≠ 0) : bl N = bl (N / 1000000000) + 1 := by rw [bl, dif_neg h]
theorem bl_le : ∀ k N, N < 1000000000 ^ k → bl N ≤ k
  | 0, N, h => by
    have : N = 0 := by rw [Nat.pow_zero] at h; omega
    rw [this, bl_zero]; exact Nat.le_refl _
  | k + 1, N, h => by
    by_cases h0 : N = 0
    · rw [h0, bl_zero]; omega
    · rw [bl_pos N h0]
      have : N / 1000000000 < 1000000000 ^ k := by
        rw [Nat.pow_succ] at h
        exact Nat.div_lt_of_lt_mul (by rw [Nat.mul_comm]; exact h)
      have := bl_le k _ this
      omega
theorem lt_bl : ∀ k N, bl N = k → N < 1000000000 ^ k
  | 0, N, h => by
    by_cases h0 : N = 0
    · rw [h0]; decide
    · rw [bl_pos N h0] at h; omega
  | k + 1, N, h => by
    by_cases h0 : N = 0
    · rw [h0]; exact dp _
    · rw [bl_pos N h0] at h
      have h1 := lt_bl k (N / 1000000000) (by omega)
      rw [Nat.pow_succ]
      have h2 := Nat.div_add_mod N 1000000000
      have h3 := Nat.mod_lt N (show 0 < 1000000000 by decide)
      omega
theorem ge_bl : ∀ k N, bl N = k + 1 → 1000000000 ^ k ≤ N
  | 0, N, h => by
    by_cases h0 : N = 0
    · rw [h0, bl_zero] at h; omega
    · rw [Nat.pow_zero]; omega
  | k + 1, N, h => by
    by_cases h0 : N = 0
    · rw [h0, bl_zero] at h; omega
    · rw [bl_pos N h0] at h
      have h1 := ge_bl k (N / 1000000000) (by omega)
      rw [Nat.pow_succ]
      have h2 := Nat.div_add_mod N 1000000000
      omega
theorem bl_room (N n : Nat) (h : N < 4294967296 ^ n) : bl N ≤ 2 * n := by
  refine bl_le _ _ (Nat.lt_of_lt_of_le h ?_)
  rw [Nat.pow_mul]
  exact Nat.pow_le_pow_left (by decide) n
theorem div_pos_of (N i : Nat) (h : i < bl N) : 0 < N / 1000000000 ^ i := by
  obtain ⟨k, hk⟩ : ∃ k, bl N = k + 1 := ⟨bl N - 1, by omega⟩
  have h1 := ge_bl k N hk
  have h2 : 1000000000 ^ i ≤ 1000000000 ^ k := Nat.pow_le_pow_right (by decide) (by omega)
  exact Nat.div_pos (by omega) (dp i)
theorem lt_of_div (N i : Nat) (h : N / 1000000000 ^ i ≠ 0) : i < bl N := by
  rcases Nat.lt_or_ge i (bl N) with h' | h'
  · exact h'
  · exfalso
    have h1 := lt_bl _ N rfl
    have h2 : 1000000000 ^ bl N ≤ 1000000000 ^ i := Nat.pow_le_pow_right (by decide) h'
    exact h (Nat.div_eq_of_lt (by omega))
theorem div_end (N : Nat) : N / 1000000000 ^ bl N = 0 := Nat.div_eq_of_lt (lt_bl _ N rfl)
theorem div_step (N i : Nat) : N / 1000000000 ^ i / 1000000000 = N / 1000000000 ^ (i + 1) := by rw [Nat.div_div_eq_div_mul, Nat.pow_succ]
/-- A number's decimal digits, so many of them. -/
def padk : Nat → Nat → List UInt8
  | 0, _ => []
  | k + 1, r => padk k (r / 10) ++ [UInt8.ofNat (48 + r % 10)]
theorem dec_big (u : Nat) (h : ¬ u < 10) : Lib.decDigits u = Lib.decDigits (u / 10) ++ [UInt8.ofNat (48 + u % 10)] := by rw [Lib.decDigits, dif_neg h]
theorem dec_pad : ∀ k q r, 0 < q → r < 10 ^ k → Lib.decDigits (q * 10 ^ k + r) = Lib.decDigits q ++ padk k r
  | 0, q, r, hq, hr => by
    have : r = 0 := by rw [Nat.pow_zero] at hr; omega
    rw [this, Nat.pow_zero, Nat.mul_one, Nat.add_zero, padk, List.append_nil]
  | k + 1, q, r, hq, hr => by
    have hp : 0 < 10 ^ k := Nat.pow_pos (by decide)
    have h10 : q * 10 ^ (k + 1) = 10 * (q * 10 ^ k) := by rw [Nat.pow_succ, ← Nat.mul_assoc, Nat.mul_comm]
    have hq1 : 0 < q * 10 ^ k := Nat.mul_pos hq hp
    rw [dec_big _ (by omega), show (q * 10 ^ (k + 1) + r) / 10 = q * 10 ^ k + r / 10 by omega, show (q * 10 ^ (k + 1) + r) % 10 = r % 10 by omega,
      dec_pad k q (r / 10) hq (by rw [Nat.pow_succ] at hr; omega), padk, List.append_assoc]
theorem padk_zero : ∀ k, padk k 0 = List.replicate k 48
  | 0 => rfl
  | k + 1 => by
    rw [padk, show 0 / 10 = 0 from rfl, padk_zero k, List.replicate_succ']
    rfl
theorem padk_eq : ∀ k r, 1 ≤ k → r < 10 ^ k → padk k r = List.replicate (k - (Lib.decDigits r).length) 48 ++ Lib.decDigits r
  | 0, _, h, _ => by omega
  | k + 1, r, _, hr => by
    by_cases h : r < 10
    · rw [padk, show r / 10 = 0 by omega, padk_zero, Lib.decDigits_one h, show r % 10 = r by omega]
      rfl
    · have hk : 1 ≤ k := by
        rcases Nat.eq_zero_or_pos k with h0 | h0
        · rw [h0] at hr; omega
        · exact h0
      rw [padk, padk_eq k (r / 10) hk (by rw [Nat.pow_succ] at hr; omega), dec_big r h, List.append_assoc, List.length_append]
      simp only [List.length_singleton]
      rw [show k + 1 - ((Lib.decDigits (r / 10)).length + 1) = k - (Lib.decDigits (r / 10)).length by omega]
theorem dec_len9 (r : Nat) (h : r < 1000000000) : (Lib.decDigits r).length ≤ 9 := by
  have h1 := padk_eq 9 r (by decide) (by simpa using h)
  have h2 : ∀ k r, (padk k r).length = k := fun k => by
    induction k with
    | zero => intro r; rfl
    | succ k ih => intro r; rw [padk, List.length_append, ih]; rfl
  have h3 := congrArg List.length h1
  rw [h2, List.length_append] at h3
  omega
/-- One block more. -/
theorem dec_block (N i : Nat) (h : 0 < N / 1000000000 ^ (i + 1)) : Lib.decDigits (N / 1000000000 ^ i) = Lib.decDigits (N / 1000000000 ^ (i + 1)) ++ (List.replicate (9 - (Lib.decDigits (bd N i)).length) 48 ++ Lib.decDigits (bd N i)) := by
  have h1 := dec_pad 9 (N / 1000000000 ^ (i + 1)) (bd N i) h (by have := bd_lt N i; simpa using this)
  rw [padk_eq 9 (bd N i) (by decide) (by have := bd_lt N i; simpa using this)] at h1
  rw [← h1]
  congr 1
  rw [← div_step]
  unfold bd
  have := Nat.div_add_mod (N / 1000000000 ^ i) 1000000000
  rw [Nat.mul_comm] at this
  exact this.symm
theorem dec_top (N i : Nat) (h : bl N = i + 1) : Lib.decDigits (N / 1000000000 ^ i) = Lib.decDigits (bd N i) := by
  unfold bd
  rw [Nat.mod_eq_of_lt]
  have h1 := lt_bl _ N h
  rw [Nat.pow_succ] at h1
  exact Nat.div_lt_of_lt_mul h1
end Go.Proofs.YtjdbapkmaggllaaGreatDoor.Fo
