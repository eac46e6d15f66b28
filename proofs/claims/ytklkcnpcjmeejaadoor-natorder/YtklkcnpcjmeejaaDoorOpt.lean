/- Numbers and infinity in order. -/
import Derived.Test.YtklkcnpcjmeejaaDoorLaw
namespace Go.Proofs.YtklkcnpcjmeejaaDoor
open Go.RowKit Fo
set_option maxRecDepth 100000

namespace Fo
/-- One is not above another one. -/
def ole (X Y : Option Nat) : Prop := Y = none ∨ ∃ m n, X = some m ∧ Y = some n ∧ m ≤ n
theorem ocmp_le (X Y : Option Nat) : ocmp X Y ≤ 0 ↔ ole X Y := by
  unfold ole
  cases X <;> cases Y <;> simp [ocmp]
  rename_i p q
  by_cases h : p < q
  · rw [if_pos h]; simp; omega
  · rw [if_neg h]; by_cases e : p = q
    · simp [e]
    · simp [e]; omega
theorem ocmp_swap (X Y : Option Nat) : ocmp Y X = -ocmp X Y := by
  cases X <;> cases Y <;> simp [ocmp]
  rename_i p q
  by_cases h : p < q
  · rw [if_pos h, if_neg (by omega), if_neg (by omega)]; decide
  · rw [if_neg h]; by_cases e : p = q
    · subst e; simp
    · rw [if_neg e, if_pos (by omega)]
theorem ocmp_self (X : Option Nat) : ocmp X X = 0 := by cases X <;> simp [ocmp]
theorem ocmp_bd (X Y : Option Nat) : -1 ≤ ocmp X Y ∧ ocmp X Y ≤ 1 := by
  cases X <;> cases Y <;> simp [ocmp]
  rename_i p q
  by_cases h : p < q
  · rw [if_pos h]; decide
  · rw [if_neg h]; split <;> decide
theorem ole_trans {X Y Z : Option Nat} (h : ole X Y) (k : ole Y Z) : ole X Z := by
  unfold ole at *
  rcases k with k | ⟨m, n, rfl, rfl, hmn⟩
  · exact Or.inl k
  · rcases h with h | ⟨a, b, rfl, e, hab⟩
    · cases h
    · obtain rfl := Option.some.inj e
      exact Or.inr ⟨a, n, rfl, rfl, by omega⟩
theorem ole_add (X Z : Option Nat) : ole X (oadd X Z) := by
  unfold ole
  cases X <;> cases Z <;> simp [oadd]
theorem ole_adds {X Y : Option Nat} (Z : Option Nat) (h : ole X Y) : ole (oadd X Z) (oadd Y Z) := by
  unfold ole at *
  rcases h with rfl | ⟨m, n, rfl, rfl, hmn⟩
  · left; cases Z <;> rfl
  · cases Z
    · exact Or.inl rfl
    · exact Or.inr ⟨_, _, rfl, rfl, by omega⟩
theorem ole_muls {X Y : Option Nat} (Z : Option Nat) (h : ole X Y) : ole (omul X Z) (omul Y Z) := by
  unfold ole at *
  rcases h with rfl | ⟨m, n, rfl, rfl, hmn⟩
  · cases Z with
    | none => exact Or.inl rfl
    | some z =>
      by_cases hz : z = 0
      · subst hz
        right
        cases X with
        | none => exact ⟨0, 0, by simp [omul], by simp [omul], Nat.le_refl _⟩
        | some x => exact ⟨0, 0, by simp [omul], by simp [omul], Nat.le_refl _⟩
      · exact Or.inl (by simp [omul, hz])
  · cases Z with
    | none =>
      by_cases hn : n = 0
      · obtain rfl : m = 0 := by omega
        subst hn
        exact Or.inr ⟨0, 0, by simp [omul], by simp [omul], Nat.le_refl _⟩
      · exact Or.inl (by simp [omul, hn])
    | some z => exact Or.inr ⟨m * z, n * z, rfl, rfl, Nat.mul_le_mul_right _ hmn⟩
theorem ln_add_le {m n k : Nat} (hm : ln m ≤ k) (hn : ln n ≤ k) : ln (m + n) ≤ k + 1 := by
  refine ln_le _ _ ?_
  have h1 := lt_of_ln hm
  have h2 := lt_of_ln hn
  rw [Nat.pow_succ]
  omega
theorem ln_mul_le {m n j k : Nat} (hm : ln m ≤ j) (hn : ln n ≤ k) : ln (m * n) ≤ j + k := by
  refine ln_le _ _ ?_
  rw [Nat.pow_add]
  exact Nat.mul_lt_mul'' (lt_of_ln hm) (lt_of_ln hn)
/-- So many digits at most. -/
def Short (k : Nat) (X : Option Nat) : Prop := ∀ N, X = some N → ln N ≤ k
theorem Short.add {k : Nat} {X Y : Option Nat} (h : Short k X) (g : Short k Y) : Short (k + 1) (oadd X Y) := fun N e => by
  cases X <;> cases Y <;> simp [oadd] at e
  subst e
  exact ln_add_le (h _ rfl) (g _ rfl)
theorem Short.mul {j k : Nat} {X Y : Option Nat} (h : Short j X) (g : Short k Y) : Short (j + k) (omul X Y) := fun N e => by
  cases X with
  | none =>
    cases Y with
    | none => cases e
    | some y =>
      by_cases hy : y = 0
      · simp [omul, hy] at e; subst e; rw [ln_zero]; omega
      · simp [omul, hy] at e
  | some x =>
    cases Y with
    | none =>
      by_cases hx : x = 0
      · simp [omul, hx] at e; subst e; rw [ln_zero]; omega
      · simp [omul, hx] at e
    | some y =>
      simp [omul] at e
      subst e
      exact ln_mul_le (h _ rfl) (g _ rfl)
theorem Short.le {j k : Nat} {X : Option Nat} (h : Short j X) (hk : j ≤ k) : Short k X := fun N e => Nat.le_trans (h N e) hk
theorem NOut.short {w : World} {v : Value} {X : Option Nat} {k : Nat} (h : NOut w v X) (hX : Short k X) (hk : k ≤ 100000) : NIn w v X := h.nin (hX.le hk)
end Fo
theorem cmp_swap (C : NatSays) (w : World) (v1 v2 : Value) (X1 X2 : Option Nat) (h1 : NIn w v1 X1) (h2 : NIn w v2 X2) : Calls Tryd.prog 16 #[v2, v1] w fun e w' => e = .returned (.int .i64 (-ocmp X1 X2)) ∧ Below w.heap.size w w' := by
  have := C.cmp w v2 v1 X2 X1 h2 h1
  rw [ocmp_swap] at this
  exact this
theorem cmp_at (C : NatSays) (w : World) (v1 v2 : Value) (X1 X2 : Option Nat) (q : Int) (e : ocmp X1 X2 = q) (h1 : NIn w v1 X1) (h2 : NIn w v2 X2) : Calls Tryd.prog 16 #[v1, v2] w fun e w' => e = .returned (.int .i64 q) ∧ Below w.heap.size w w' := by
  subst e
  exact C.cmp w v1 v2 X1 X2 h1 h2
theorem cmp_back (C : NatSays) (w : World) (v1 v2 : Value) (X1 X2 : Option Nat) (q : Int) (e : ocmp X1 X2 = -q) (h1 : NIn w v1 X1) (h2 : NIn w v2 X2) : Calls Tryd.prog 16 #[v2, v1] w fun e w' => e = .returned (.int .i64 q) ∧ Below w.heap.size w w' := by
  have := cmp_swap C w v1 v2 X1 X2 h1 h2
  rw [e, Int.neg_neg] at this
  exact this
theorem cmp_self (C : NatSays) (w : World) (v : Value) (X : Option Nat) (h : NIn w v X) : Calls Tryd.prog 16 #[v, v] w fun e w' => e = .returned (.int .i64 0) ∧ Below w.heap.size w w' := by
  have := C.cmp w v v X X h h
  rw [ocmp_self] at this
  exact this
end Go.Proofs.YtklkcnpcjmeejaaDoor
