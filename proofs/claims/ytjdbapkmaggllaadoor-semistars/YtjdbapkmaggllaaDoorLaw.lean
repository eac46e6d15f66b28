/- The walk of NatWords, out of what nat's functions answer. -/
import Derived.Test.YtjdbapkmaggllaaDoorMul
import Derived.Test.YtjdbapkmaggllaaDoorBld
import Derived.Laws.BitsAll
namespace Go.Proofs.YtjdbapkmaggllaaDoor
open Go.RowKit Fo
set_option maxRecDepth 100000

theorem ln_word {m : Nat} (h : m < 18446744073709551616) : ln m ≤ 2 := ln_le 2 m (by simpa using h)
theorem ln_words {X : Option Nat} {m : Nat} (hm : m < 18446744073709551616) (hX : X = some m) : ∀ N, X = some N → ln N ≤ 10000 := fun N e => by
  have : m = N := Option.some.inj (hX.symm.trans e)
  have := ln_word hm
  subst_vars; omega
theorem Fo.NOut.word {w : World} {v : Value} {m : Nat} (h : NOut w v (some m)) (hm : ln m ≤ 100000) : NIn w v (some m) := h.nin fun N e => by
  obtain rfl := Option.some.inj e
  exact hm
theorem some_le {m : Nat} (hm : ln m ≤ 10000) : ∀ N, some m = some N → ln N ≤ 10000 := fun N e => by
  obtain rfl := Option.some.inj e
  exact hm
theorem and32 (x : Nat) (h : x < 18446744073709551616) : bits .and .u64 (x : Int) 4294967295 = ((x % 4294967296 : Nat) : Int) := by
  have := u64_and_nat x 4294967295 h (by omega)
  rw [show (4294967295 : Nat) = 2 ^ 32 - 1 by decide, Nat.and_two_pow_sub_one_eq_mod] at this
  simpa using this
theorem cmp_lt (x y : Nat) : (ocmp (some x) (some y) < 0) ↔ x < y := by
  show (if x < y then (-1 : Int) else if x = y then 0 else 1) < 0 ↔ x < y
  by_cases h : x < y
  · simp [h]
  · rw [if_neg h]; split <;> simp [h]
end Go.Proofs.YtjdbapkmaggllaaDoor
