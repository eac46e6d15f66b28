/- The walk of FloAsks: it answers true at every two numbers and every bits. -/
import Derived.Test.YtmeohldomplegaaDoorU
namespace Go.Proofs.YtmeohldomplegaaDoor
open Go.RowKit Fo Go.Sort
set_option maxRecDepth 100000

set_option maxHeartbeats 4000000 in
theorem asks_core (x y v : Nat) (w0 w : World) (hE : EB w0 w) (hx : x < 18446744073709551616) (hy : y < 18446744073709551616)
    (bt of : Nat → Nat) (lt sm : Nat → Nat → Bool) (tx : Nat → List UInt8) (ua ub : Nat) (ue pe : Int) (hua : ua < 18446744073709551616) (hub : ub < 18446744073709551616) (hof : of v < 18446744073709551616) (hsu : sm ua ua = true) (hsp : sm ub ub = true)
    (c9 : ∀ w, EB w0 w → Calls Tryd.prog 9 #[.float .f64 x] w fun r w' => r = .returned (.tuple #[.float .f64 ua, .int .i64 ue]) ∧ EB w0 w')
    (c10 : ∀ w, EB w0 w → Calls Tryd.prog 10 #[.float .f64 x] w fun r w' => r = .returned (.tuple #[.float .f64 ua, .int .i64 ue]) ∧ EB w0 w')
    (c11 : ∀ w, EB w0 w → Calls Tryd.prog 11 #[.float .f64 x] w fun r w' => r = .returned (.tuple #[.float .f64 ub, .int .i64 pe]) ∧ EB w0 w')
    (c12 : ∀ w, EB w0 w → Calls Tryd.prog 12 #[.float .f64 x] w fun r w' => r = .returned (.tuple #[.float .f64 ub, .int .i64 pe]) ∧ EB w0 w')
    (c13 : ∀ a, a < 18446744073709551616 → ∀ w, EB w0 w → Calls Tryd.prog 13 #[.float .f64 a] w fun r w' => r = .returned (.int .u64 (bt a : Nat)) ∧ EB w0 w')
    (c14 : ∀ a, a < 18446744073709551616 → ∀ w, EB w0 w → Calls Tryd.prog 14 #[.float .f64 a] w fun r w' => r = .returned (.int .u64 (bt a : Nat)) ∧ EB w0 w')
    (c15 : ∀ a b, a < 18446744073709551616 → b < 18446744073709551616 → ∀ w, EB w0 w → Calls Tryd.prog 15 #[.float .f64 a, .float .f64 b] w fun e w' => e = .returned (.bool (lt a b)) ∧ EB w0 w')
    (c16 : ∀ a b, a < 18446744073709551616 → b < 18446744073709551616 → ∀ w, EB w0 w → Calls Tryd.prog 16 #[.float .f64 a, .float .f64 b] w fun e w' => e = .returned (.bool (lt a b)) ∧ EB w0 w')
    (c17 : ∀ a b, a < 18446744073709551616 → b < 18446744073709551616 → ∀ w, EB w0 w → Calls Tryd.prog 17 #[.float .f64 a, .float .f64 b] w fun e w' => e = .returned (.bool (sm a b)) ∧ EB w0 w')
    (c18 : ∀ a b, a < 18446744073709551616 → b < 18446744073709551616 → ∀ w, EB w0 w → Calls Tryd.prog 18 #[.float .f64 a, .float .f64 b] w fun e w' => e = .returned (.bool (sm a b)) ∧ EB w0 w')
    (c19 : ∀ w, EB w0 w → Calls Tryd.prog 19 #[.int .u64 (v : Int)] w fun r w' => r = .returned (.float .f64 (of v)) ∧ EB w0 w')
    (c20 : ∀ w, EB w0 w → Calls Tryd.prog 20 #[.int .u64 (v : Int)] w fun r w' => r = .returned (.float .f64 (of v)) ∧ EB w0 w')
    (c21 : ∀ w, EB w0 w → Calls Tryd.prog 21 #[.float .f64 x] w fun r w' => r = .returned (.string ⟨(tx x).toArray⟩) ∧ EB w0 w')
    (c22 : ∀ w, EB w0 w → Calls Tryd.prog 22 #[.float .f64 x] w fun r w' => r = .returned (.string ⟨(tx x).toArray⟩) ∧ EB w0 w')
    (c23 : ∀ w, EB w0 w → Calls Tryd.prog 23 #[] w fun r w' => r = .returned (.bool true) ∧ EB w0 w') :
    Calls Tryd.prog 3 #[.float .f64 x, .float .f64 y, .int .u64 v] w fun r w' => r = .returned (.bool true) ∧ EB w0 w' := by
  go_enter Tryd.func3, Tryd.ntmps3
  go_wp2_with (first
      | (go_at_call 9; refine (c9 _ (by assumption)).mono ?_; rintro e w' ⟨rfl, hE'⟩)
      | (go_at_call 10; refine (c10 _ (by assumption)).mono ?_; rintro e w' ⟨rfl, hE'⟩)
      | (go_at_call 11; refine (c11 _ (by assumption)).mono ?_; rintro e w' ⟨rfl, hE'⟩)
      | (go_at_call 12; refine (c12 _ (by assumption)).mono ?_; rintro e w' ⟨rfl, hE'⟩)
      | (go_at_call 13; refine (c13 _ (by assumption) _ (by assumption)).mono ?_; rintro e w' ⟨rfl, hE'⟩)
      | (go_at_call 14; refine (c14 _ (by assumption) _ (by assumption)).mono ?_; rintro e w' ⟨rfl, hE'⟩)
      | (go_at_call 15; refine (c15 _ _ (by assumption) (by assumption) _ (by assumption)).mono ?_; rintro e w' ⟨rfl, hE'⟩)
      | (go_at_call 16; refine (c16 _ _ (by assumption) (by assumption) _ (by assumption)).mono ?_; rintro e w' ⟨rfl, hE'⟩)
      | (go_at_call 17; refine (c17 _ _ (by assumption) (by assumption) _ (by assumption)).mono ?_; rintro e w' ⟨rfl, hE'⟩)
      | (go_at_call 18; refine (c18 _ _ (by assumption) (by assumption) _ (by assumption)).mono ?_; rintro e w' ⟨rfl, hE'⟩)
      | (go_at_call 19; refine (c19 _ (by assumption)).mono ?_; rintro e w' ⟨rfl, hE'⟩)
      | (go_at_call 20; refine (c20 _ (by assumption)).mono ?_; rintro e w' ⟨rfl, hE'⟩)
      | (go_at_call 21; refine (c21 _ (by assumption)).mono ?_; rintro e w' ⟨rfl, hE'⟩)
      | (go_at_call 22; refine (c22 _ (by assumption)).mono ?_; rintro e w' ⟨rfl, hE'⟩)
      | (go_at_call 23; refine (c23 _ (by assumption)).mono ?_; rintro e w' ⟨rfl, hE'⟩))
  go_ret
  exact ⟨rfl, by assumption⟩
theorem asks_any (x y v : Nat) (hx : x < 18446744073709551616) (hy : y < 18446744073709551616) (hv : v < 18446744073709551616) (w : World) (henv : Env w) :
    Calls Tryd.prog 3 #[.float .f64 x, .float .f64 y, .int .u64 v] w fun r w' => r = .returned (.bool true) ∧ Below w.heap.size w w' := by
  have hu : uOf x < 18446744073709551616 := by unfold uOf; split <;> omega
  have hp : pcOf x < 18446744073709551616 := by unfold pcOf; split <;> omega
  have := asks_core x y v w w (EB.refl henv) hx hy bitsOf bitsOf (fun a b => decide (plc a < plc b)) (fun a b => decide (bitsOf a = bitsOf b)) textOf (uOf x) (pcOf x) (uErr x) (pcErr x) hu hp (bitsOf_lt v hv) (by simp) (by simp)
    (fun w h => toEB0 (unit_any x hx w) h) (fun w h => toEB0 (runit_any x hx w) h) (fun w h => toEB0 (price_any x hx w) h) (fun w h => toEB0 (rprice_any x hx w) h)
    (fun a ha w h => toEB0 (bits_any a ha w) h) (fun a ha w h => toEB0 (rbits_any a ha w) h)
    (fun a b ha hb w h => toEB0 (less_any a b ha hb w) h) (fun a b ha hb w h => toEB0 (rless_any a b ha hb w) h)
    (fun a b ha hb w h => toEB0 (same_any a b ha hb w) h) (fun a b ha hb w h => toEB0 (rsame_any a b ha hb w) h)
    (fun w h => toEB0 (of_any v hv w) h) (fun w h => toEB0 (rof_any v hv w) h)
    (fun w h => toEB (text_any x hx w h.env) h) (fun w h => toEB (rtext_any x hx w) h) (fun w h => toEB (awake_true w h.env) h)
  exact this.mono fun _ _ hh => ⟨hh.1, hh.2.bel⟩
end Go.Proofs.YtmeohldomplegaaDoor
