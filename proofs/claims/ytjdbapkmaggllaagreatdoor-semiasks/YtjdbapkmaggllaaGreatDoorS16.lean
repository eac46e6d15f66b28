/- Values of the semirings in memory; the small makers. -/
import Derived.Test.YtjdbapkmaggllaaGreatDoorS08
import Derived.Test.YtjdbapkmaggllaaGreatDoorS07
import Derived.Test.YtjdbapkmaggllaaGreatDoorS15
namespace Go.Proofs.YtjdbapkmaggllaaGreatDoor
open Go.RowKit Fo
set_option maxRecDepth 100000

namespace Fo
/-- What a value holds: its semiring, whether its number is infinite, its digits, its level, its double. -/
structure Vl where
  s : Int
  i : Bool
  n : Nat
  L : Nat → Nat
  l : Int
  x : Nat
/-- A value that comes in. -/
def VIn (w : World) (v : Value) (V : Vl) : Prop :=
  ∃ a c, v = .agg #[.int .i64 V.s, .bool V.i, .slice a V.n c, .int .i64 V.l, .float .f64 V.x] ∧ Rd w a V.n c (u32s V.L) ∧ (∀ j, V.L j < 4294967296) ∧ V.n ≤ 10000 ∧ V.x < 18446744073709551616 ∧ (-9223372036854775808 ≤ V.l ∧ V.l ≤ 9223372036854775807) ∧ (-9223372036854775808 ≤ V.s ∧ V.s ≤ 9223372036854775807)
theorem VIn.below {w w1 : World} {v : Value} {V : Vl} (h : VIn w v V) (hb : Below w.heap.size w w1) : VIn w1 v V := by
  obtain ⟨a, c, h1, h2, h3⟩ := h
  exact ⟨a, c, h1, h2.below hb, h3⟩
/-- Why a value may not be; 0: it may. -/
def mayV (V : Vl) : Int :=
  if V.s = 1 ∨ V.s = 3 then (if mayB V.i V.n V.L then 0 else 16)
  else if V.s = 2 then (if 0 ≤ V.l ∧ V.l ≤ 1 then 0 else 16)
  else if V.s = 4 then (if 0 ≤ V.l ∧ V.l ≤ 7 then 0 else 16)
  else if V.s = 5 then (if V.x ≤ 4607182418800017408 then 0 else 16)
  else if V.s = 6 then (if V.x ≤ 9218868437227405312 then 0 else 16)
  else 9
end Fo
end Go.Proofs.YtjdbapkmaggllaaGreatDoor
