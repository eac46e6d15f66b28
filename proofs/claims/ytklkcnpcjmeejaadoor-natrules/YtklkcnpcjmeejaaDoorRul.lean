/- Numbers and infinity: the rules of adding and multiplying. -/
import Derived.Test.YtklkcnpcjmeejaaDoorOpt
namespace Go.Proofs.YtklkcnpcjmeejaaDoor
open Go.RowKit Fo
set_option maxRecDepth 100000

namespace Fo
theorem oadd_comm (X Y : Option Nat) : oadd X Y = oadd Y X := by cases X <;> cases Y <;> simp [oadd, Nat.add_comm]
theorem oadd_assoc (X Y Z : Option Nat) : oadd X (oadd Y Z) = oadd (oadd X Y) Z := by cases X <;> cases Y <;> cases Z <;> simp [oadd, Nat.add_assoc]
theorem omul_comm (X Y : Option Nat) : omul X Y = omul Y X := by cases X <;> cases Y <;> simp [omul, Nat.mul_comm]
theorem omul_assoc (X Y Z : Option Nat) : omul X (omul Y Z) = omul (omul X Y) Z := by
  cases X with
  | none => cases Y with
    | none => cases Z with
      | none => rfl
      | some z => by_cases h : z = 0 <;> simp [omul, h]
    | some y => cases Z with
      | none => by_cases h : y = 0 <;> simp [omul, h]
      | some z => by_cases h : y = 0 <;> by_cases h2 : z = 0 <;> simp [omul, h, h2, Nat.mul_eq_zero]
  | some x => cases Y with
    | none => cases Z with
      | none => by_cases h : x = 0 <;> simp [omul, h]
      | some z => by_cases h : x = 0 <;> by_cases h2 : z = 0 <;> simp [omul, h, h2]
    | some y => cases Z with
      | none => by_cases h : x = 0 <;> by_cases h2 : y = 0 <;> simp [omul, h, h2, Nat.mul_eq_zero]
      | some z => simp [omul, Nat.mul_assoc]
theorem omul_oadd (X Y Z : Option Nat) : omul X (oadd Y Z) = oadd (omul X Y) (omul X Z) := by
  cases X with
  | none => cases Y with
    | none => cases Z <;> simp [omul, oadd]
    | some y => cases Z with
      | none => by_cases h : y = 0 <;> simp [omul, oadd, h]
      | some z => by_cases h : y = 0 <;> by_cases h2 : z = 0 <;> simp [omul, oadd, h, h2]
  | some x => cases Y with
    | none => cases Z with
      | none => by_cases h : x = 0 <;> simp [omul, oadd, h]
      | some z => by_cases h : x = 0 <;> simp [omul, oadd, h]
    | some y => cases Z with
      | none => by_cases h : x = 0 <;> simp [omul, oadd, h]
      | some z => simp [omul, oadd, Nat.mul_add]
theorem oadd_zero (X : Option Nat) : oadd X (some 0) = X := by cases X <;> simp [oadd]
theorem omul_one (X : Option Nat) : omul X (some 1) = X := by cases X <;> simp [omul]
theorem omul_zero (X : Option Nat) : omul X (some 0) = some 0 := by cases X <;> simp [omul]
theorem oadd_inf (X : Option Nat) : oadd X none = none := by cases X <;> rfl
theorem Short.none (k : Nat) : Short k none := fun N e => by cases e
end Fo
end Go.Proofs.YtklkcnpcjmeejaaDoor
