/- Plain mathematics of doubles: significands, whole numbers below 2^53, infinity's rung. (The same facts stand in the text P of the first seat: don't import both.) -/
import Derived.Test.YtjdbapkmaggllaaDoorFMul
namespace Go.Proofs.YtjdbapkmaggllaaDoor.Fl.Fo
open Ieee Go
set_option maxRecDepth 100000

theorem pow_join (M a b c : Nat) (h : a + b = c) : M * 2 ^ a * 2 ^ b = M * 2 ^ c := by rw [Nat.mul_assoc, ← Nat.pow_add, h]
/-- The digits of a whole number below 2^53, as a significand. -/
theorem sig_bd (M L : Nat) (h1 : 2 ^ L ≤ M) (h2 : M < 2 ^ (L + 1)) (hL : L ≤ 52) : 4503599627370496 ≤ M * 2 ^ (52 - L) ∧ M * 2 ^ (52 - L) < 9007199254740992 := by
  have hp := Nat.two_pow_pos (52 - L)
  have e1 : 2 ^ L * 2 ^ (52 - L) = 4503599627370496 := by rw [← Nat.pow_add, show L + (52 - L) = 52 by omega]
  have e2 : 2 ^ (L + 1) * 2 ^ (52 - L) = 9007199254740992 := by rw [← Nat.pow_add, show L + 1 + (52 - L) = 53 by omega]
  exact ⟨e1 ▸ Nat.mul_le_mul_right _ h1, e2 ▸ Nat.mul_lt_mul_of_pos_right h2 hp⟩
theorem val_sig (K q r : Nat) (h1 : 4503599627370496 ≤ K) (h2 : K < 9007199254740992) (hr : r = q * 4503599627370496 + K) : val r = K * 2 ^ q := by
  rw [val_norm r q (K - 4503599627370496) (by omega) (by omega) (by omega), show 4503599627370496 + (K - 4503599627370496) = K by omega]
theorem f64_exact (M L : Nat) (h1 : 2 ^ L ≤ M) (h2 : M < 2 ^ (L + 1)) (hL : L ≤ 52) : f64 M = (L + 1022) * 4503599627370496 + M * 2 ^ (52 - L) := by
  obtain ⟨k1, k2⟩ := sig_bd M L h1 h2 hL
  obtain ⟨n, hn⟩ : ∃ n, n = 1074 := ⟨_, rfl⟩
  rw [f64_eq]
  have hv := val_sig (M * 2 ^ (52 - L)) (L + 1022) _ k1 k2 rfl
  have := nearest_exact false M 0 ((L + 1022) * 4503599627370496 + M * 2 ^ (52 - L)) n 0 (by omega) (by omega) (by rw [hv, Nat.pow_zero, Nat.mul_one, pow_join M (52 - L) (L + 1022) n (by omega)])
  exact this
theorem val_inf (n : Nat) (hn : n = 2098) : val 9218868437227405312 = 2 ^ n := by
  obtain ⟨a, ha⟩ : ∃ a, a = 2046 := ⟨_, rfl⟩
  rw [val_norm 9218868437227405312 a 0 (by decide) (by omega) (by decide), show (4503599627370496 + 0 : Nat) = 2 ^ 52 by decide, ← Nat.pow_add, show 52 + a = n by omega]
end Go.Proofs.YtjdbapkmaggllaaDoor.Fl.Fo
