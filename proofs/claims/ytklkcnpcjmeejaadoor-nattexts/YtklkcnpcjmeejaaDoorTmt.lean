/- Plain mathematics for the document's own TextNat. -/
import Derived.Test.YtklkcnpcjmeejaaDoorCln
import Derived.Test.YtklkcnpcjmeejaaDoorDcl
namespace Go.Proofs.YtklkcnpcjmeejaaDoor
open Go.RowKit Fo
set_option maxRecDepth 100000

/-- A decimal digit, as a byte. -/
def dd (N j : Nat) : Nat := 48 + N / 10 ^ j % 10
theorem dd_lt (N j : Nat) : dd N j < 58 := by unfold dd; have := Nat.mod_lt (N / 10 ^ j) (show 0 < 10 by decide); omega
theorem ten9 (i : Nat) : 1000000000 ^ i = 10 ^ (9 * i) := by rw [Nat.pow_mul]
theorem dd_pos (N i k : Nat) (hk : k < 9) : 48 + N / 1000000000 ^ i % 1000000000 / 10 ^ k % 10 = dd N (9 * i + k) := by
  unfold dd
  rw [ten9, Nat.pow_add, ← Nat.div_div_eq_div_mul]
  generalize N / 10 ^ (9 * i) = M
  have h : (1000000000 : Nat) = 10 ^ k * 10 ^ (9 - k) := by rw [← Nat.pow_add, show k + (9 - k) = 9 by omega]
  rw [h, Nat.mod_mul_right_div_self, Nat.mod_mod_of_dvd _ ⟨10 ^ (8 - k), by rw [show 9 - k = (8 - k) + 1 by omega, Nat.pow_succ, Nat.mul_comm]⟩]
theorem dd_next (N t : Nat) : dd (N / 10) t = dd N (t + 1) := by
  unfold dd
  rw [Nat.div_div_eq_div_mul, Nat.pow_succ, Nat.mul_comm]
theorem dec_list : ∀ n N, 1 ≤ n → (n = 1 ∨ 10 ^ (n - 1) ≤ N) → N < 10 ^ n → Lib.decDigits N = (List.range n).map fun j => UInt8.ofNat (dd N (n - 1 - j))
  | 0, _, h, _, _ => by omega
  | 1, N, _, _, h => by
    have hN : N < 10 := by simpa using h
    rw [Lib.decDigits_one hN]
    simp [List.range_succ, dd, Nat.mod_eq_of_lt hN]
  | n + 2, N, _, hge, h => by
    have hge' : 10 ^ (n + 1) ≤ N := by rcases hge with h | h; omega; exact h
    have hp : 0 < 10 ^ n := Nat.pow_pos (by decide)
    rw [Nat.pow_succ] at h hge'
    rw [dec_big N (by omega), dec_list (n + 1) (N / 10) (by omega) (Or.inr (by rw [Nat.add_sub_cancel]; omega)) (by omega), List.range_succ (n := n + 1), List.map_append]
    congr 1
    · apply List.map_congr_left
      intro j hj
      have hj' := List.mem_range.1 hj
      rw [dd_next, show n + 1 - 1 - j + 1 = n + 2 - 1 - j by omega]
    · simp [dd]
theorem trim_step (N q : Nat) (h : N < 10 ^ (q + 1)) (hd : dd N q = 48) : N < 10 ^ q := by
  unfold dd at hd
  have hp : 0 < 10 ^ q := Nat.pow_pos (by decide)
  have h1 : N / 10 ^ q < 10 := Nat.div_lt_of_lt_mul (by rw [Nat.pow_succ] at h; exact h)
  have h2 : N / 10 ^ q = 0 := by
    generalize N / 10 ^ q = t at hd h1 ⊢
    omega
  rcases Nat.lt_or_ge N (10 ^ q) with h3 | h3
  · exact h3
  · have := Nat.div_pos h3 hp; omega
theorem trim_end (N q : Nat) (hd : dd N q ≠ 48) : 10 ^ q ≤ N := by
  rcases Nat.lt_or_ge N (10 ^ q) with h | h
  · exfalso; unfold dd at hd; rw [Nat.div_eq_of_lt h] at hd; exact hd rfl
  · exact h
/-- The step of the division, on digits that are 0 at first. -/
theorem rdiv_core (D x y z V qm em rm sm : Nat) (h3 : D * qm + sm = rm + em) (h1 : x = y + qm) (h : y * D + rm + (z + em) = V) : x * D + sm + z = V := by
  rw [h1, Nat.add_mul, Nat.mul_comm qm]
  omega
theorem rdiv_inv (K L : Nat → Nat) (n m r V : Nat) (hm : m < n) (hK : K m = 0) (h : lv K n * 1000000000 + r * 4294967296 ^ (m + 1) + lv L (m + 1) = V) :
    lv (upd K m ((r * 4294967296 + L m) / 1000000000)) n * 1000000000 + (r * 4294967296 + L m) % 1000000000 * 4294967296 ^ m + lv L m = V := by
  have h1 := lv_upd K m ((r * 4294967296 + L m) / 1000000000) n hm
  rw [hK, Nat.zero_mul, Nat.add_zero] at h1
  have h2 := Nat.div_add_mod (r * 4294967296 + L m) 1000000000
  generalize (r * 4294967296 + L m) / 1000000000 = q at h1 h2 ⊢
  generalize (r * 4294967296 + L m) % 1000000000 = s at h2 ⊢
  rw [lv, Nat.pow_succ] at h
  have h3 : (1000000000 * q + s) * 4294967296 ^ m = (r * 4294967296 + L m) * 4294967296 ^ m := by rw [h2]
  rw [Nat.add_mul, Nat.add_mul] at h3
  rw [show r * (4294967296 ^ m * 4294967296) = r * 4294967296 * 4294967296 ^ m by rw [Nat.mul_comm (4294967296 ^ m), Nat.mul_assoc]] at h
  rw [Nat.mul_assoc 1000000000] at h3
  generalize q * 4294967296 ^ m = qm at h1 h3
  generalize L m * 4294967296 ^ m = em at h3 h
  generalize r * 4294967296 * 4294967296 ^ m = rm at h3 h
  generalize s * 4294967296 ^ m = sm at h3 ⊢
  generalize lv (upd K m q) n = x at h1 ⊢
  generalize lv K n = y at h1 h
  generalize lv L m = z at h ⊢
  exact rdiv_core 1000000000 x y z V qm em rm sm h3 h1 h
end Go.Proofs.YtklkcnpcjmeejaaDoor
