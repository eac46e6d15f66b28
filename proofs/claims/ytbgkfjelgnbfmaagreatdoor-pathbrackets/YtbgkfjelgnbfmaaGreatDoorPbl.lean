/- PathBrackets, closed. -/
import Derived.Test.YtbgkfjelgnbfmaaGreatDoorPb7
import Derived.Test.YtbgkfjelgnbfmaaGreatDoorBmo
import Derived.Test.YtbgkfjelgnbfmaaGreatDoorPlw
namespace Go.Proofs.YtbgkfjelgnbfmaaGreatDoor
open Go.RowKit Fo
set_option maxRecDepth 100000

theorem brackets_to (x : PV) (W : World) (henv : Env W) (hw : Wfp W 61 x) :
    Calls Tryz.prog 7 #[x.v] W fun e w' => e = .returned (.bool true) ∧ Below W.heap.size W w' := brackets_any bail_says W x _ henv hw
end Go.Proofs.YtbgkfjelgnbfmaaGreatDoor
