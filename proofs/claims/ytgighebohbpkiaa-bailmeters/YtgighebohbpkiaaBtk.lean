/- The law of bail, closed: meters. -/
import Derived.Test.YtgighebohbpkiaaBmq
import Derived.Test.YtgighebohbpkiaaBmt
import Derived.Test.YtgighebohbpkiaaBop
namespace Go.Proofs.Ytgighebohbpkiaa
open Go.RowKit Fo
set_option maxRecDepth 100000

theorem meters_to (b : Int) (v : Value) (l : List Int) (W : World) (hb : b ≤ 9223372036854775807) (h : IsL W v l) :
    Calls Try.prog 5 #[.int .i64 b, v] W fun e w' => e = .returned (.bool true) ∧ Below W.heap.size W w' := meters_any bail_says meter_says W b v l h hb
end Go.Proofs.Ytgighebohbpkiaa
