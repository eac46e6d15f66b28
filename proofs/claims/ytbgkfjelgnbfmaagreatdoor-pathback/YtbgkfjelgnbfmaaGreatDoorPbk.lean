/- PathBack, closed. -/
import Derived.Test.YtbgkfjelgnbfmaaGreatDoorPb4
import Derived.Test.YtbgkfjelgnbfmaaGreatDoorBmo
import Derived.Test.YtbgkfjelgnbfmaaGreatDoorPlw
namespace Go.Proofs.YtbgkfjelgnbfmaaGreatDoor
open Go.RowKit Fo
set_option maxRecDepth 100000

theorem back_to (x y : PV) (W : World) (henv : Env W) (hw : Wfp W 61 x) (hv : Wfp W 61 y) :
    Calls Tryz.prog 4 #[x.v, y.v] W fun e w' => e = .returned (.bool true) ∧ Below W.heap.size W w' := back_any bail_says W x y _ henv hw hv
end Go.Proofs.YtbgkfjelgnbfmaaGreatDoor
