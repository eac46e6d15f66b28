/- The law of bail, closed: through. -/
import Derived.Test.YtgighebohbpkiaaBmq
import Derived.Test.YtgighebohbpkiaaBtm
import Derived.Test.YtgighebohbpkiaaBop
namespace Go.Proofs.Ytgighebohbpkiaa
open Go.RowKit Fo
set_option maxRecDepth 100000

theorem through_to (code at' n other : Int) (W : World) :
    Calls Try.prog 4 #[.int .i64 code, .int .i64 at', .int .i64 n, .int .i64 other] W fun e w' => e = .returned (.bool true) ∧ Below W.heap.size W w' := through_any bail_says meter_says W code at' n other
end Go.Proofs.Ytgighebohbpkiaa
