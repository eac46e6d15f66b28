/- The walk of NatWords, out of what nat's functions answer. -/
import Derived.Test.YtklkcnpcjmeejabDoorMul
import Derived.Test.YtklkcnpcjmeejabDoorBld
import Derived.Laws.BitsAll
namespace Go.Proofs.YtklkcnpcjmeejabDoor
open Go.RowKit Fo
set_option maxRecDepth 100000

/-- What nat's functions answer: what the walks of the laws ask. -/
structure NatSays : Prop where
  of : ∀ m : Nat, m < 18446744073709551616 → ∀ w, Calls Tryd.prog 9 #[.int .u64 m] w fun e w' => (∃ u, e = .returned u ∧ NOut w' u (some m)) ∧ Below w.heap.size w w'
  add : ∀ w v1 v2 X1 X2, NIn w v1 X1 → NIn w v2 X2 → (∀ N, X1 = some N → ln N ≤ 10000) → (∀ N, X2 = some N → ln N ≤ 10000) → Calls Tryd.prog 7 #[v1, v2] w fun e w' => (∃ u, e = .returned u ∧ NOut w' u (oadd X1 X2)) ∧ Below w.heap.size w w'
  mul : ∀ w v1 v2 X1 X2, NIn w v1 X1 → NIn w v2 X2 → (∀ N, X1 = some N → ln N ≤ 10000) → (∀ N, X2 = some N → ln N ≤ 10000) → Calls Tryd.prog 8 #[v1, v2] w fun e w' => (∃ u, e = .returned u ∧ NOut w' u (omul X1 X2)) ∧ Below w.heap.size w w'
  cmp : ∀ w v1 v2 X1 X2, NIn w v1 X1 → NIn w v2 X2 → Calls Tryd.prog 12 #[v1, v2] w fun e w' => e = .returned (.int .i64 (ocmp X1 X2)) ∧ Below w.heap.size w w'
  same : ∀ w v1 v2 X1 X2, NIn w v1 X1 → NIn w v2 X2 → Calls Tryd.prog 6 #[v1, v2] w fun e w' => e = .returned (.bool (decide (X1 = X2))) ∧ Below w.heap.size w w'
  inf : ∀ w, Calls Tryd.prog 11 #[] w fun e w' => (∃ u, e = .returned u ∧ NOut w' u none) ∧ Below w.heap.size w w'
  awake : ∀ w, Env w → Calls Tryd.prog 4 #[] w fun e w' => e = .returned (.bool true) ∧ Below w.heap.size w w'
theorem ln_word {m : Nat} (h : m < 18446744073709551616) : ln m ≤ 2 := ln_le 2 m (by simpa using h)
theorem ln_words {X : Option Nat} {m : Nat} (hm : m < 18446744073709551616) (hX : X = some m) : ∀ N, X = some N → ln N ≤ 10000 := fun N e => by
  have : m = N := Option.some.inj (hX.symm.trans e)
  have := ln_word hm
  subst_vars; omega
theorem same_yes (C : NatSays) (w : World) (v1 v2 : Value) (X1 X2 : Option Nat) (h1 : NIn w v1 X1) (h2 : NIn w v2 X2) (e : X1 = X2) : Calls Tryd.prog 6 #[v1, v2] w fun e w' => e = .returned (.bool true) ∧ Below w.heap.size w w' := by
  have := C.same w v1 v2 X1 X2 h1 h2
  rw [decide_eq_true e] at this
  exact this
theorem Fo.NOut.word {w : World} {v : Value} {m : Nat} (h : NOut w v (some m)) (hm : ln m ≤ 100000) : NIn w v (some m) := h.nin fun N e => by
  obtain rfl := Option.some.inj e
  exact hm
theorem some_le {m : Nat} (hm : ln m ≤ 10000) : ∀ N, some m = some N → ln N ≤ 10000 := fun N e => by
  obtain rfl := Option.some.inj e
  exact hm
theorem and32 (x : Nat) (h : x < 18446744073709551616) : bits .and .u64 (x : Int) 4294967295 = ((x % 4294967296 : Nat) : Int) := by
  have := u64_and_nat x 4294967295 h (by omega)
  rw [show (4294967295 : Nat) = 2 ^ 32 - 1 by decide, Nat.and_two_pow_sub_one_eq_mod] at this
  simpa using this
theorem cmp_lt (x y : Nat) : (ocmp (some x) (some y) < 0) ↔ x < y := by
  show (if x < y then (-1 : Int) else if x = y then 0 else 1) < 0 ↔ x < y
  by_cases h : x < y
  · simp [h]
  · rw [if_neg h]; split <;> simp [h]
end Go.Proofs.YtklkcnpcjmeejabDoor
