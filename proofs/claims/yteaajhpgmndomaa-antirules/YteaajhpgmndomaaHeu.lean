/- The walk of AntiRules, closed. -/
import Derived.Test.YteaajhpgmndomaaLfp
import Derived.Test.YteaajhpgmndomaaRul
namespace Go.Proofs.Yteaajhpgmndomaa
open Go.RowKit Fo
set_option maxRecDepth 100000

theorem rules_to (vl : Value) (L : List (List Int)) (vr : Value) (R : List (List Int)) (vz : Value) (Z : List (List Int)) (w : World) (h1 : IsLL w vl L) (h2 : IsLL w vr R) (h3 : IsLL w vz Z) :
    Calls Try.prog 4 #[vl, vr, vz] w fun e w' => e = .returned (.bool true) ∧ Below w.heap.size w w' := rules_core fam_says w vl vr vz L R Z h1 h2 h3 trivial
end Go.Proofs.Yteaajhpgmndomaa
