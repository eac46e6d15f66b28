/- Plain mathematics: masks and marks of a double's bits as arithmetic. -/
import Derived.Laws.BitsAll
import Derived.WalkKit
namespace Go.Proofs.YtjdbapkmaggllaaDoor.Fl.Fo
open Go

theorem and63_lo (x : Nat) (h : x < 9223372036854775808) : bits .and .u64 (x : Int) 9223372036854775808 = 0 := by
  have := u64_and_nat x 9223372036854775808 (by omega) (by omega)
  rw [nat_bit63, show x / 9223372036854775808 = 0 by omega] at this
  simpa using this
theorem and63_hi (x : Nat) (h : 9223372036854775808 ≤ x) (h2 : x < 18446744073709551616) : bits .and .u64 (x : Int) 9223372036854775808 = 9223372036854775808 := by
  have := u64_and_nat x 9223372036854775808 (by omega) (by omega)
  rw [nat_bit63, show x / 9223372036854775808 = 1 by omega] at this
  simpa using this
theorem or63 (x : Nat) (h : x < 9223372036854775808) : bits .or .u64 (x : Int) 9223372036854775808 = ((x + 9223372036854775808 : Nat) : Int) := by
  have := u64_or_nat x 9223372036854775808 (by omega) (by omega)
  rw [Nat.or_comm] at this
  have e : 9223372036854775808 ||| x = 2 ^ 63 * 1 + x := (Nat.two_pow_add_eq_or_of_lt (i := 63) (by omega) 1).symm
  rw [e] at this
  refine this.trans ?_
  congr 1
  omega
theorem not64 (x : Nat) (h : x < 18446744073709551616) : bits .xor .u64 IntKind.u64.max (x : Int) = ((18446744073709551615 - x : Nat) : Int) := by
  have := u64_xor_nat 18446744073709551615 x (by omega) h
  have e : 18446744073709551615 ^^^ x = 18446744073709551615 - x := by
    have hb : (BitVec.ofNat 64 x).toNat = x := by simp; omega
    have h1 : (BitVec.allOnes 64 ^^^ BitVec.ofNat 64 x).toNat = 18446744073709551615 ^^^ x := by rw [BitVec.toNat_xor, hb]; rfl
    have h2 : BitVec.allOnes 64 ^^^ BitVec.ofNat 64 x = ~~~ BitVec.ofNat 64 x := by rw [BitVec.allOnes_xor]
    rw [← h1, h2, BitVec.toNat_not, hb]
  rw [e] at this
  exact this
theorem andNot63 (x : Nat) (h : x < 18446744073709551616) : bits .andNot .u64 (x : Int) 9223372036854775808 = ((x % 9223372036854775808 : Nat) : Int) := by
  have := u64_andNot_nat x 9223372036854775808 h (by omega)
  rw [show 18446744073709551615 - 9223372036854775808 = 9223372036854775807 by rfl, nat_mask63] at this
  exact this
end Go.Proofs.YtjdbapkmaggllaaDoor.Fl.Fo
