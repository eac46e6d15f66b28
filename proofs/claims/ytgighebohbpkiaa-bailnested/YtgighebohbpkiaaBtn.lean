/- The law of bail, closed: nested. -/
import Derived.Test.YtgighebohbpkiaaBmq
import Derived.Test.YtgighebohbpkiaaBne
import Derived.Test.YtgighebohbpkiaaBop
namespace Go.Proofs.Ytgighebohbpkiaa
open Go.RowKit Fo
set_option maxRecDepth 100000

theorem nested_to (v : Value) (l : List Int) (code : Int) (W : World) (h : IsL W v l) :
    Calls Try.prog 6 #[v, .int .i64 code] W fun e w' => e = .returned (.bool true) ∧ Below W.heap.size W w' := nested_any bail_says meter_says W v l code h
end Go.Proofs.Ytgighebohbpkiaa
