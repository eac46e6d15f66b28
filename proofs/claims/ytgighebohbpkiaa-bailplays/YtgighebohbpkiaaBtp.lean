/- The law of bail, closed: plays. -/
import Derived.Test.YtgighebohbpkiaaBmq
import Derived.Test.YtgighebohbpkiaaBpb
import Derived.Test.YtgighebohbpkiaaBop
namespace Go.Proofs.Ytgighebohbpkiaa
open Go.RowKit Fo
set_option maxRecDepth 100000

theorem plays_to (nv : NV) (b : Int) (W : World) (h : Wf (kidsOf W) W 13 nv) (hb : b ≤ 9223372036854775807) :
    Calls Try.prog 3 #[nv.v, .int .i64 b] W fun e w' => e = .returned (.bool true) ∧ Below W.heap.size W w' := bplays_any bail_says meter_says W (kidsOf W) nv b h hb
end Go.Proofs.Ytgighebohbpkiaa
