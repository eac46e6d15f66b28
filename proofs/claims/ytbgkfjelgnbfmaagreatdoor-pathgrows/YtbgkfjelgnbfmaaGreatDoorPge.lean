/- PathGrows, closed. -/
import Derived.Test.YtbgkfjelgnbfmaaGreatDoorPg5
import Derived.Test.YtbgkfjelgnbfmaaGreatDoorBmo
import Derived.Test.YtbgkfjelgnbfmaaGreatDoorPlw
namespace Go.Proofs.YtbgkfjelgnbfmaaGreatDoor
open Go.RowKit Fo
set_option maxRecDepth 100000

theorem grows_to (n kind : Int) (W : World) (henv : Env W) :
    Calls Tryz.prog 5 #[.int .i64 n, .int .i64 kind] W fun e w' => e = .returned (.bool true) ∧ Below W.heap.size W w' := grows_any bail_says W n kind _ henv
end Go.Proofs.YtbgkfjelgnbfmaaGreatDoor
