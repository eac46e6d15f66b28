/- NatWords' walk, whole. -/
import Derived.Test.YtklkcnpcjmeejaaDoorLft
namespace Go.Proofs.YtklkcnpcjmeejaaDoor
open Go.RowKit Fo
set_option maxRecDepth 100000

theorem words_all (a b : Nat) (W : World) (henv : Env W) (ha : a < 18446744073709551616) (hb : b < 18446744073709551616) :
    Calls Tryd.prog 8 #[.int .u64 a, .int .u64 b] W fun e w' => e = .returned (.bool true) ∧ Below W.heap.size W w' := words_any says a b ha hb W henv
end Go.Proofs.YtklkcnpcjmeejaaDoor
