/- The walk of AntiAsks, closed. -/
import Derived.Test.YteaajhpgmndomaaLfp
import Derived.Test.YteaajhpgmndomaaAsw
namespace Go.Proofs.Yteaajhpgmndomaa
open Go.RowKit Fo
set_option maxRecDepth 100000

theorem asks_to (vl : Value) (L : List (List Int)) (vr : Value) (R : List (List Int)) (vs : Value) (S : List Int) (b : Int) (w : World) (h1 : IsLL w vl L) (h2 : IsLL w vr R) (h3 : IsL w vs S) :
    Calls Try.prog 3 #[vl, vr, vs, .int .i64 b] w fun e w' => e = .returned (.bool true) ∧ Below w.heap.size w w' := asks_core fam_says w vl vr L R vs S b h1 h2 h3 trivial
end Go.Proofs.Yteaajhpgmndomaa
