/- The walks of four laws, closed. -/
import Derived.Test.YteaajhpgmndomaaLfp
import Derived.Test.YteaajhpgmndomaaMea
import Derived.Test.YteaajhpgmndomaaBud
import Derived.Test.YteaajhpgmndomaaLas
namespace Go.Proofs.Yteaajhpgmndomaa
open Go.RowKit Fo
set_option maxRecDepth 100000

theorem sets_to (va : Value) (A : List Int) (vb : Value) (B : List Int) (w : World) (h1 : IsL w va A) (h2 : IsL w vb B) :
    Calls Try.prog 7 #[va, vb] w fun e w' => e = .returned (.bool true) ∧ Below w.heap.size w w' := sets_all set_says w va vb A B h1 h2 trivial
theorem least_to (vl : Value) (L : List (List Int)) (w : World) (h1 : IsLL w vl L) :
    Calls Try.prog 5 #[vl] w fun e w' => e = .returned (.bool true) ∧ Below w.heap.size w w' := least_any fam_says w vl L h1 trivial
theorem means_to (vl : Value) (L : List (List Int)) (vr : Value) (R : List (List Int)) (vs : Value) (S : List Int) (w : World) (h1 : IsLL w vl L) (h2 : IsLL w vr R) (h3 : IsL w vs S) :
    Calls Try.prog 6 #[vl, vr, vs] w fun e w' => e = .returned (.bool true) ∧ Below w.heap.size w w' := means_core fam_says w vl vr vs L R S h1 h2 h3 trivial
theorem budget_to (vl : Value) (L : List (List Int)) (vr : Value) (R : List (List Int)) (b : Bool) (w : World) (h1 : IsLL w vl L) (h2 : IsLL w vr R) :
    Calls Try.prog 8 #[vl, vr, .bool b] w fun e w' => e = .returned (.bool true) ∧ Below w.heap.size w w' := by
  cases b
  · exact budget_false fam_says w vl vr L R h1 h2 trivial
  · exact budget_true fam_says w vl vr L R h1 h2 trivial
end Go.Proofs.Yteaajhpgmndomaa
