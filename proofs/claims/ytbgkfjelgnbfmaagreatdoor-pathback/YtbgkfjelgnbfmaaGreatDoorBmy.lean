/- bail's small functions: Out, call, asBail, goOn. -/
import Derived.Test.YtbgkfjelgnbfmaaGreatDoorBwx
import Derived.Test.YtbgkfjelgnbfmaaGreatDoorBaw
import Derived.Deep.RegionHeld3
namespace Go.Proofs.YtbgkfjelgnbfmaaGreatDoor
open Go.RowKit Fo
set_option maxRecDepth 100000
set_option linter.unusedSimpArgs false
set_option linter.unusedVariables false

set_option maxHeartbeats 4000000 in
theorem out_any (w : World) (c a : Int) : Calls Tryz.prog 65 #[.int .i64 c, .int .i64 a] w fun e w' => Below w.heap.size w w' ∧ EnIn w.heap.size (fun _ => False) w' (.bail c a) e := by
  go_enter Tryz.func65, Tryz.ntmps65
  go_wp2
  refine ⟨rfl, below1 _ _, Or.inr ⟨_, [], rfl, fun x h => (by cases h), _, rfl, heap_new1 _ _, id, Nat.le_refl _⟩⟩
set_option maxHeartbeats 4000000 in
/-- call does what f does. -/
theorem call_plays (f : FuncId) (cap : Array Value) (w : World) (R : Ending → World → Prop) (hf : Fnv Tryz.prog f cap) (h : Plays Tryz.prog f cap w R)
    (hR : ∀ e w', R e w' → e = .returned (.tuple #[]) ∨ ∃ c, e = .panicked c) : Plays Tryz.prog 62 #[.func (.func f) #[] cap] w R := by
  have hbo : ∀ w, (binOp .neq 1 (.func (.func f) #[] cap) .nilFunc).run Tryz.prog w = .ok (.bool true) w := fun _ => by kernel_rfl
  have hfe : ∀ w, (callFunc f cap).run Tryz.prog w = .ok (.enter f cap) w := hf
  have HC := h.calls
  clear h hf
  refine ⟨_, _, Tryz.func62, rfl, ?_⟩
  simp only [Tryz.ntmps62, List.size_toArray, List.length_cons, List.length_nil, Nat.reduceAdd, Nat.reduceSub, Array.replicate_succ, Array.replicate_zero, List.push_toArray, List.append_toArray, List.nil_append, List.cons_append]
  go_wp2
  refine HC.mono ?_
  intro e w' hr
  rcases hR e w' hr with rfl | ⟨c, rfl⟩
  · go_wp2
    go_end0
    exact hr
  · go_wp2
    exact ⟨rfl, hr⟩
theorem fnv_call (f : FuncId) (cap : Array Value) : Fnv Tryz.prog 62 #[.func (.func f) #[] cap] := enters_of Tryz.func62 (by kernel_rfl) rfl _
theorem call_fins {α : Type} {S : (Nat → Prop) → World → α → Prop} {F : Nat → Prop} {w : World} {f : FuncId} {cap : Array Value} {r : En} {y : α} (hf : Fnv Tryz.prog f cap) (h : Plays Tryz.prog f cap w (Fins S F w r y)) :
    Plays Tryz.prog 62 #[.func (.func f) #[] cap] w (Fins S F w r y) :=
  call_plays f cap w _ hf h fun e w' hr => by
    obtain ⟨G, -, he⟩ := hr
    rcases he with ⟨-, rfl⟩ | ⟨v, old, rfl, -⟩
    · exact Or.inl rfl
    · exact Or.inr ⟨_, rfl⟩
set_option maxHeartbeats 4000000 in
theorem asb_any (v : Value) (p : Option Addr) (ok : Bool) (w : World) (hta : ∀ w, (Instr.typeAssert v 20 57 true).run Tryz.prog w = .ok (.tuple #[.pointer p, .bool ok]) w) :
    Calls Tryz.prog 60 #[v] w fun e w' => e = .returned (.pointer p) ∧ w' = w := by
  go_enter Tryz.func60, Tryz.ntmps60
  go_wp2
  go_ret
  exact ⟨rfl, rfl⟩
set_option maxHeartbeats 4000000 in
theorem goon_nil (w : World) : Calls Tryz.prog 61 #[.nilIface] w fun e w' => e = .returned (.tuple #[]) ∧ w' = w := by
  have hbo : ∀ w, (binOp .neq 20 .nilIface .nilIface).run Tryz.prog w = .ok (.bool false) w := fun _ => by kernel_rfl
  go_enter Tryz.func61, Tryz.ntmps61
  go_wp2
  go_end0
  exact ⟨rfl, rfl⟩
set_option maxHeartbeats 4000000 in
theorem goon_val (T : TypeId) (u : Value) (w : World) (hbo : ∀ w, (binOp .neq 20 (.iface T u) .nilIface).run Tryz.prog w = .ok (.bool true) w) :
    Calls Tryz.prog 61 #[.iface T u] w fun e w' => e = .panicked [{ v := .iface T u, recovered := false }] ∧ w' = w := by
  go_enter Tryz.func61, Tryz.ntmps61
  go_wp2
  exact ⟨rfl, rfl, rfl⟩
set_option maxHeartbeats 4000000 in
theorem catW_any (v : Value) (w : World) : Calls Tryz.prog 40 #[v] w fun e w' => e = .returned (.bool true) ∧ w' = w := by
  go_enter Tryz.func40, Tryz.ntmps40
  go_wp2
  go_ret
  exact ⟨rfl, rfl⟩
end Go.Proofs.YtbgkfjelgnbfmaaGreatDoor
