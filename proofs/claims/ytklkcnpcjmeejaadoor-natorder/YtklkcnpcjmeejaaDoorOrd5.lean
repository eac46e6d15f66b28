/- NatOrder's walk, whole. -/
import Derived.Test.YtklkcnpcjmeejaaDoorBig
import Derived.Test.YtklkcnpcjmeejaaDoorOrd4
namespace Go.Proofs.YtklkcnpcjmeejaaDoor
open Go.RowKit Fo
set_option maxRecDepth 100000

theorem ocmp_three (X Y : Option Nat) : (ocmp X Y = 0 ∨ ocmp X Y = -1) ∨ ocmp X Y = 1 := by
  cases X with
  | none =>
    cases Y with
    | none => exact Or.inl (Or.inl rfl)
    | some n => exact Or.inr rfl
  | some m =>
    cases Y with
    | none => exact Or.inl (Or.inr rfl)
    | some n =>
      show ((if m < n then (-1 : Int) else if m = n then 0 else 1) = 0 ∨ (if m < n then (-1 : Int) else if m = n then 0 else 1) = -1) ∨ (if m < n then (-1 : Int) else if m = n then 0 else 1) = 1
      by_cases h : m < n
      · rw [if_pos h]; exact Or.inl (Or.inr rfl)
      · rw [if_neg h]
        by_cases h2 : m = n
        · rw [if_pos h2]; exact Or.inl (Or.inl rfl)
        · rw [if_neg h2]; exact Or.inr rfl
theorem order_all (i1 : Bool) (a1 : Option Addr) (n1 c1 : Nat) (L1 : Nat → Nat) (i2 : Bool) (a2 : Option Addr) (n2 c2 : Nat) (L2 : Nat → Nat) (i3 : Bool) (a3 : Option Addr) (n3 c3 : Nat) (L3 : Nat → Nat) (w : World) (henv : Env w)
    (hR1 : Rd w a1 n1 c1 (u32s L1)) (hL1 : ∀ j, L1 j < 4294967296) (hR2 : Rd w a2 n2 c2 (u32s L2)) (hL2 : ∀ j, L2 j < 4294967296) (hR3 : Rd w a3 n3 c3 (u32s L3)) (hL3 : ∀ j, L3 j < 4294967296) :
    Calls Tryd.prog 6 #[.agg #[.bool i1, .slice a1 n1 c1], .agg #[.bool i2, .slice a2 n2 c2], .agg #[.bool i3, .slice a3 n3 c3]] w fun e w' => e = .returned (.bool true) ∧ Below w.heap.size w w' := by
  by_cases hs : n1 ≤ 100 ∧ n2 ≤ 100 ∧ n3 ≤ 100
  · obtain ⟨X1, h1, b1⟩ := hR1.nin (i := i1) hL1 hs.1
    obtain ⟨X2, h2, b2⟩ := hR2.nin (i := i2) hL2 hs.2.1
    obtain ⟨X3, h3, b3⟩ := hR3.nin (i := i3) hL3 hs.2.2
    rcases ocmp_three X1 X2 with hq | hq
    · exact order_le says i1 i2 i3 a1 a2 a3 n1 n2 n3 c1 c2 c3 w X1 X2 X3 henv h1 h2 h3 hs.1 hs.2.1 hs.2.2 b1 b2 b3 hq
    · exact order_gt says i1 i2 i3 a1 a2 a3 n1 n2 n3 c1 c2 c3 w X1 X2 X3 henv h1 h2 h3 hs.1 hs.2.1 hs.2.2 b1 b2 b3 hq
  · exact three_big 6 (Or.inr rfl) i1 i2 i3 a1 a2 a3 n1 n2 n3 c1 c2 c3 w henv hs
end Go.Proofs.YtklkcnpcjmeejaaDoor
