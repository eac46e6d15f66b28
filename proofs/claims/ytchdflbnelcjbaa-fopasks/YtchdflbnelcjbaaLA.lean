/- The walks of FopAsks and FopSinks: they answer true at every two numbers. -/
import Derived.Test.YtchdflbnelcjbaaZ
namespace Go.Proofs.Ytchdflbnelcjbaa
open Go.RowKit Fo
set_option maxRecDepth 100000

theorem asks_any (a b : Nat) (ha : a < 18446744073709551616) (hb : b < 18446744073709551616) (w : World) :
    Calls Try.prog 3 #[.float .f64 a, .float .f64 b] w fun e w' => e = .returned (.bool true) ∧ Below w.heap.size w w' := by
  have hV : tm a b < 18446744073709551616 := by have := tm_le a b ha hb; omega
  have hP : ps a b < 18446744073709551616 := by have := ps_le a b ha hb; omega
  have c9 := fun w => times_any a b ha hb w
  have c10 := fun w => rtimes_any a b ha hb w
  have c11 := fun w => plus_any a b ha hb w
  have c12 := fun w => rplus_any a b ha hb w
  have c13 : ∀ x, x < 18446744073709551616 → ∀ w, Calls Try.prog 13 #[.float .f64 x, .float .f64 x] w fun e w' => e = .returned (.bool true) ∧ w' = w := fun x hx w => by
    have := rsame_any x x hx hx w
    simpa using this
  have c14 := fun w => awake_true w
  generalize tm a b = V at *
  generalize tmE a b = E at *
  generalize ps a b = P at *
  generalize psE a b = F at *
  go_enter Try.func3, Try.ntmps3
  go_wp2_with (first
    | (go_at_call 9; refine (c9 _).mono ?_; rintro e w' ⟨rfl, rfl⟩)
    | (go_at_call 10; refine (c10 _).mono ?_; rintro e w' ⟨rfl, rfl⟩)
    | (go_at_call 11; refine (c11 _).mono ?_; rintro e w' ⟨rfl, rfl⟩)
    | (go_at_call 12; refine (c12 _).mono ?_; rintro e w' ⟨rfl, rfl⟩)
    | (go_at_call 13; refine (c13 _ (by assumption) _).mono ?_; rintro e w' ⟨rfl, rfl⟩)
    | (go_at_call 14; refine (c14 _).mono ?_; rintro e w' ⟨rfl, hb⟩))
  go_ret
  exact ⟨rfl, hb⟩
end Go.Proofs.Ytchdflbnelcjbaa
