/- PathNames, closed. -/
import Derived.Test.YtbgkfjelgnbfmaaDoorPln
import Derived.Test.YtbgkfjelgnbfmaaDoorBmo
import Derived.Test.YtbgkfjelgnbfmaaDoorPlw
namespace Go.Proofs.YtbgkfjelgnbfmaaDoor
open Go.RowKit Fo
set_option maxRecDepth 100000

theorem names_to (a b : List UInt8) (W : World) (henv : Env W) :
    Calls Tryd.prog 3 #[.string ⟨a.toArray⟩, .string ⟨b.toArray⟩] W fun e w' => e = .returned (.bool true) ∧ Below W.heap.size W w' := names_any bail_says W a b _ henv
end Go.Proofs.YtbgkfjelgnbfmaaDoor
