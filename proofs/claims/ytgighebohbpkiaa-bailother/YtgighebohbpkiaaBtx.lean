/- The law of bail, closed: other. -/
import Derived.Test.YtgighebohbpkiaaBmq
import Derived.Test.YtgighebohbpkiaaBot
import Derived.Test.YtgighebohbpkiaaBop
namespace Go.Proofs.Ytgighebohbpkiaa
open Go.RowKit Fo
set_option maxRecDepth 100000

theorem other_to (n deep : Int) (W : World) :
    Calls Try.prog 7 #[.int .i64 n, .int .i64 deep] W fun e w' => e = .returned (.bool true) ∧ Below W.heap.size W w' := other_any bail_says meter_says W n deep
end Go.Proofs.Ytgighebohbpkiaa
