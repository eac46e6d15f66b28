/- PathBinds, closed. -/
import Derived.Test.YtbgkfjelgnbfmaaGreatDoorPb8
import Derived.Test.YtbgkfjelgnbfmaaGreatDoorBmo
import Derived.Test.YtbgkfjelgnbfmaaGreatDoorPlw
namespace Go.Proofs.YtbgkfjelgnbfmaaGreatDoor
open Go.RowKit Fo
set_option maxRecDepth 100000

theorem binds_to (x y : PV) (how : Int) (W : World) (henv : Env W) (hw : Wfp W 61 x) (hv : Wfp W 61 y) :
    Calls Tryz.prog 6 #[x.v, y.v, .int .i64 how] W fun e w' => e = .returned (.bool true) ∧ Below W.heap.size W w' := binds_any bail_says W x y how _ henv hw hv
end Go.Proofs.YtbgkfjelgnbfmaaGreatDoor
