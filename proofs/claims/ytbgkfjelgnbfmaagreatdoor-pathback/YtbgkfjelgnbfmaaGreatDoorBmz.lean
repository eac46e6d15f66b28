/- bail's leaving: what its deferred literal does. -/
import Derived.Test.YtbgkfjelgnbfmaaGreatDoorBmy
namespace Go.Proofs.YtbgkfjelgnbfmaaGreatDoor
open Go.RowKit Fo
set_option maxRecDepth 100000
set_option linter.unusedSimpArgs false
set_option linter.unusedVariables false

set_option maxHeartbeats 4000000 in
theorem lv_idle (bw bb : Nat) (w : World) : CallsD Tryz.prog 59 #[.pointer (some ⟨bw, 0, none⟩), .pointer (some ⟨bb, 0, none⟩)] .returning w fun e u' w' => e = .returned (.tuple #[]) ∧ u' = .returning ∧ w' = w := by
  refine callsD_of_wpS Tryz.func59 rfl fun c₀ cs hu => ?_
  simp only [Tryz.ntmps59, List.size_toArray, List.length_cons, List.length_nil, Nat.reduceAdd, Nat.reduceSub, Array.replicate_succ, Array.replicate_zero, List.push_toArray, List.append_toArray, List.nil_append, List.cons_append]
  apply wpS_seq
  apply wpS_region
  simp [wpOpsS, go_sem, recoverD, hu, Exit.thenS]
  apply wpS_of_wp
  go_wp2_with (first | (go_at_call 60; refine (asb_any .nilIface none false _ (fun _ => by kernel_rfl)).mono ?_; rintro e wl ⟨rfl, rfl⟩) | (go_at_call 61; refine (goon_nil _).mono ?_; rintro e wl ⟨rfl, rfl⟩))
  cases c₀
  simp_all [go_sem, bodyPostS, results, Tryz.results59]
set_option maxHeartbeats 4000000 in
theorem lv_other (bw bb : Nat) (v : Value) (r : En) (F : Nat → Prop) (lo : Nat) (old : List PanicEntry) (w w9 : World) (hv : PanV lo F w9 r v) (hr : ∀ c a, r ≠ .bail c a) :
    CallsD Tryz.prog 59 #[.pointer (some ⟨bw, 0, none⟩), .pointer (some ⟨bb, 0, none⟩)] (.panicking ({ v := v, recovered := false } :: old)) w fun e u' w' => e = .panicked [{ v := v, recovered := false }] ∧ u' = .panicking ({ v := v, recovered := true } :: old) ∧ w' = w := by
  cases r with
  | ret => exact hv.elim
  | bail c a => exact absurd rfl (hr c a)
  | num n =>
    replace hv : v = (.iface 3 (.int .i64 n)) := hv
    subst hv
    refine callsD_of_wpS Tryz.func59 rfl fun c₀ cs hu => ?_
    simp only [Tryz.ntmps59, List.size_toArray, List.length_cons, List.length_nil, Nat.reduceAdd, Nat.reduceSub, Array.replicate_succ, Array.replicate_zero, List.push_toArray, List.append_toArray, List.nil_append, List.cons_append]
    apply wpS_seq
    apply wpS_region
    simp [wpOpsS, go_sem, recoverD, hu, Exit.thenS]
    apply wpS_of_wp
    go_wp2_with (first | (go_at_call 60; refine (asb_any (.iface 3 (.int .i64 n)) none false _ (fun _ => by kernel_rfl)).mono ?_; rintro e wl ⟨rfl, rfl⟩) | (go_at_call 61; refine (goon_val 3 (.int .i64 n) _ (fun _ => by kernel_rfl)).mono ?_; rintro e wl ⟨rfl, rfl⟩))
    cases c₀
    simp_all [go_sem, bodyPostS, results, Tryz.results59]
  | nilB =>
    replace hv : v = (.iface 57 (.pointer none)) := hv
    subst hv
    refine callsD_of_wpS Tryz.func59 rfl fun c₀ cs hu => ?_
    simp only [Tryz.ntmps59, List.size_toArray, List.length_cons, List.length_nil, Nat.reduceAdd, Nat.reduceSub, Array.replicate_succ, Array.replicate_zero, List.push_toArray, List.append_toArray, List.nil_append, List.cons_append]
    apply wpS_seq
    apply wpS_region
    simp [wpOpsS, go_sem, recoverD, hu, Exit.thenS]
    apply wpS_of_wp
    go_wp2_with (first | (go_at_call 60; refine (asb_any (.iface 57 (.pointer none)) none true _ (fun _ => by kernel_rfl)).mono ?_; rintro e wl ⟨rfl, rfl⟩) | (go_at_call 61; refine (goon_val 57 (.pointer none) _ (fun _ => by kernel_rfl)).mono ?_; rintro e wl ⟨rfl, rfl⟩))
    cases c₀
    simp_all [go_sem, bodyPostS, results, Tryz.results59]
set_option maxHeartbeats 4000000 in
theorem lvC_bail (bw bb b : Nat) (c a : Int) (old : List PanicEntry) (w : World) (hb : w.heap[b]? = some (.cells #[.int .i64 c, .int .i64 a] 61)) (hw : w.heap[bw]? = some (.cells #[.func (.func 40) #[] #[]] 59)) (hy : w.heap[bb]? = some (.cells #[.pointer none] 57)) :
    CallsD Tryz.prog 59 #[.pointer (some ⟨bw, 0, none⟩), .pointer (some ⟨bb, 0, none⟩)] (.panicking ({ v := (.iface 57 (.pointer (some ⟨b, 0, none⟩))), recovered := false } :: old)) w fun e u' w' => e = .returned (.tuple #[]) ∧ u' = .panicking ({ v := (.iface 57 (.pointer (some ⟨b, 0, none⟩))), recovered := true } :: old) ∧ (∃ q, w' = (w.drewN q).setCell ⟨bb, 0, none⟩ (.pointer (some ⟨b, 0, none⟩))) := by
  have hta : ∀ w, (Instr.typeAssert (.iface 57 (.pointer (some ⟨b, 0, none⟩))) 20 57 true).run Tryz.prog w = .ok (.tuple #[.pointer (some ⟨b, 0, none⟩), .bool true]) w := fun _ => by kernel_rfl
  have c0 : w.cell? ⟨bw, 0, none⟩ = some (.func (.func 40) #[] #[]) := by rw [cell_of_row _ _ _ _ _ _ hw]; rfl
  have c1 : w.cell? ⟨bb, 0, none⟩ = some (.pointer none) := by rw [cell_of_row _ _ _ _ _ _ hy]; rfl
  have z1 : w.frozen? ⟨bb, 0, none⟩ = false := by simp [World.frozen?, hy]
  clear hb hw hy
  refine callsD_of_wpS Tryz.func59 rfl fun c₀ cs hu => ?_
  simp only [Tryz.ntmps59, List.size_toArray, List.length_cons, List.length_nil, Nat.reduceAdd, Nat.reduceSub, Array.replicate_succ, Array.replicate_zero, List.push_toArray, List.append_toArray, List.nil_append, List.cons_append]
  apply wpS_seq
  apply wpS_region
  simp [wpOpsS, go_sem, recoverD, hu, Exit.thenS]
  apply wpS_of_wp
  go_wp2_with (first | (go_at_call 60; refine (asb_any (.iface 57 (.pointer (some ⟨b, 0, none⟩))) (some ⟨b, 0, none⟩) true _ (fun _ => by kernel_rfl)).mono ?_; rintro e wl ⟨rfl, rfl⟩) | (go_at_call 40; refine (catW_any _ _).mono ?_; rintro e wl ⟨rfl, rfl⟩))
  exact ⟨rfl, _, rfl, _, results_none rfl _ _ _, rfl, rfl, 0, rfl⟩
end Go.Proofs.YtbgkfjelgnbfmaaGreatDoor
