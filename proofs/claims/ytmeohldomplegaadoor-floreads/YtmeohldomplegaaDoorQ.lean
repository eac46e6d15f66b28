/- The walk of FloBack: it answers true at every two numbers' bits. -/
import Derived.Test.YtmeohldomplegaaDoorP
namespace Go.Proofs.YtmeohldomplegaaDoor
open Go.RowKit Fo Go.Sort
set_option maxRecDepth 100000

/-- A world behind another one: what is read of it stands, old blocks are as they were. -/
structure EB (w0 w : World) : Prop where
  env : Env w
  bel : Below w0.heap.size w0 w
theorem EB.refl {w : World} (h : Env w) : EB w w := ⟨h, Below.refl _ _⟩
theorem EB.step {w0 w w' : World} (h : EB w0 w) (hb : Below w.heap.size w w') : EB w0 w' := ⟨h.env.below hb, h.bel.trans (hb.mono h.bel.size)⟩
theorem toEB {f : FuncId} {args : Array Value} {w w0 : World} {R : Ending} (c : Calls Tryd.prog f args w fun e w' => e = R ∧ Below w.heap.size w w') (h : EB w0 w) :
    Calls Tryd.prog f args w fun e w' => e = R ∧ EB w0 w' := c.mono fun _ _ hh => ⟨hh.1, h.step hh.2⟩
theorem toEB0 {f : FuncId} {args : Array Value} {w w0 : World} {R : Ending} (c : Calls Tryd.prog f args w fun e w' => e = R ∧ w' = w) (h : EB w0 w) :
    Calls Tryd.prog f args w fun e w' => e = R ∧ EB w0 w' := c.mono fun _ _ hh => ⟨hh.1, hh.2 ▸ h⟩

set_option maxHeartbeats 1000000 in
theorem back_core (v u x y : Nat) (w0 w : World) (hE : EB w0 w) (hv : v < 18446744073709551616) (hu : u < 18446744073709551616) (hx : x < 18446744073709551616) (hy : y < 18446744073709551616) (of : Nat → Nat) (tx : Nat → List UInt8) (sm : Nat → Nat → Bool) (q : Bool)
    (hof1 : of v = x) (hof2 : of u = y) (hq : (tx x == tx y) = q) (hs1 : sm x x = true) (hs2 : sm x y = q)
    (c19 : ∀ a : Nat, a < 18446744073709551616 → ∀ w, EB w0 w → Calls Tryd.prog 19 #[.int .u64 (a : Int)] w fun r w' => r = .returned (.float .f64 (of a)) ∧ EB w0 w')
    (c21 : ∀ a, a < 18446744073709551616 → ∀ w, EB w0 w → Calls Tryd.prog 21 #[.float .f64 a] w fun r w' => r = .returned (.string ⟨(tx a).toArray⟩) ∧ EB w0 w')
    (c24 : ∀ w, EB w0 w → Calls Tryd.prog 24 #[.string ⟨(tx x).toArray⟩] w fun r w' => r = .returned (.tuple #[.float .f64 x, .int .i64 0]) ∧ EB w0 w')
    (c17 : ∀ a b, a < 18446744073709551616 → b < 18446744073709551616 → ∀ w, EB w0 w → Calls Tryd.prog 17 #[.float .f64 a, .float .f64 b] w fun e w' => e = .returned (.bool (sm a b)) ∧ EB w0 w')
    (c23 : ∀ w, EB w0 w → Calls Tryd.prog 23 #[] w fun r w' => r = .returned (.bool true) ∧ EB w0 w') :
    Calls Tryd.prog 5 #[.int .u64 v, .int .u64 u] w fun r w' => r = .returned (.bool true) ∧ EB w0 w' := by
  cases q
  all_goals
    go_enter Tryd.func5, Tryd.ntmps5
    go_wp2_with (first
      | (go_at_call 19; refine (c19 _ (by assumption) _ (by assumption)).mono ?_; rintro e w' ⟨rfl, hE'⟩)
      | (go_at_call 21; refine (c21 _ (by assumption) _ (by assumption)).mono ?_; rintro e w' ⟨rfl, hE'⟩)
      | (go_at_call 24; refine (c24 _ (by assumption)).mono ?_; rintro e w' ⟨rfl, hE'⟩)
      | (go_at_call 17; refine (c17 _ _ (by assumption) (by assumption) _ (by assumption)).mono ?_; rintro e w' ⟨rfl, hE'⟩)
      | (go_at_call 23; refine (c23 _ (by assumption)).mono ?_; rintro e w' ⟨rfl, hE'⟩))
    go_ret
    exact ⟨rfl, by assumption⟩
theorem back_any (v u : Nat) (hv : v < 18446744073709551616) (hu : u < 18446744073709551616) (w : World) (henv : Env w) :
    Calls Tryd.prog 5 #[.int .u64 v, .int .u64 u] w fun r w' => r = .returned (.bool true) ∧ Below w.heap.size w w' := by
  have hx := bitsOf_lt v hv
  have hy := bitsOf_lt u hu
  have := back_core v u (bitsOf v) (bitsOf u) w w (EB.refl henv) hv hu hx hy bitsOf textOf (fun a b => decide (bitsOf a = bitsOf b)) (decide (bitsOf v = bitsOf u)) rfl rfl
    (by
      rw [textOf_bits, textOf_bits, Bool.eq_iff_iff, beq_iff_eq, decide_eq_true_eq]
      exact text_inj v u hv hu)
    (by simp) (by simp only [bits_bits'])
    (fun a ha w h => toEB0 (of_any a ha w) h) (fun a ha w h => toEB (text_any a ha w h.env) h)
    (fun w h => by
      have hp := parse_any (textOf (bitsOf v)) (by have := text_len (bitsOf v); omega) w h.env
      rw [pOf_text (bitsOf v) hx, bits_bits'] at hp
      exact toEB hp h)
    (fun a b ha hb w h => toEB0 (same_any a b ha hb w) h) (fun w h => toEB (awake_true w h.env) h)
  exact this.mono fun _ _ hh => ⟨hh.1, hh.2.bel⟩
end Go.Proofs.YtmeohldomplegaaDoor
