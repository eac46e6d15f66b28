/- NatAsks' walk, whole. -/
import Derived.Test.YtklkcnpcjmeejaaDoorBig
import Derived.Test.YtklkcnpcjmeejaaDoorOpt
namespace Go.Proofs.YtklkcnpcjmeejaaDoor
open Go.RowKit Fo
set_option maxRecDepth 100000

theorem asks_all (i1 : Bool) (a1 : Option Addr) (n1 c1 : Nat) (L1 : Nat → Nat) (i2 : Bool) (a2 : Option Addr) (n2 c2 : Nat) (L2 : Nat → Nat) (m : Nat) (w : World) (henv : Env w)
    (hR1 : Rd w a1 n1 c1 (u32s L1)) (hL1 : ∀ j, L1 j < 4294967296) (hR2 : Rd w a2 n2 c2 (u32s L2)) (hL2 : ∀ j, L2 j < 4294967296) (hm : m < 18446744073709551616) :
    Calls Tryd.prog 3 #[.agg #[.bool i1, .slice a1 n1 c1], .agg #[.bool i2, .slice a2 n2 c2], .int .u64 m] w fun e w' => e = .returned (.bool true) ∧ Below w.heap.size w w' := by
  by_cases hs : n1 ≤ 100 ∧ n2 ≤ 100
  · obtain ⟨X1, h1, b1⟩ := hR1.nin (i := i1) hL1 hs.1
    obtain ⟨X2, h2, b2⟩ := hR2.nin (i := i2) hL2 hs.2
    exact asks_core says i1 i2 a1 a2 n1 n2 c1 c2 m L1 w X1 X2 hm (fun w' hr => may_any i1 a1 n1 c1 L1 w' hr hL1) henv h1 hR1 h2 hs.1 hs.2 (Short.le b1 (by decide)) (Short.le b2 (by decide)) (Short.le (Short.add b1 b2) (by decide)) (Short.le (Short.mul b1 b2) (by decide))
  · exact asks_big i1 i2 a1 a2 n1 n2 c1 c2 m w henv hs
end Go.Proofs.YtklkcnpcjmeejaaDoor
