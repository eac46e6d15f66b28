/- PathBinds. -/
import Derived.Test.YtbgkfjelgnbfmaaGreatDoorPb6
import Derived.Deep.RegionHeld3
namespace Go.Proofs.YtbgkfjelgnbfmaaGreatDoor
open Go.RowKit Fo
set_option maxRecDepth 100000
set_option linter.unusedSimpArgs false
set_option linter.unusedVariables false

namespace Fo
theorem isp_two {F : Nat → Prop} {w : World} (k : Int) (b : Nat) (x y : PV) (t u : PT) (T : TypeId) (hg : w.heap[b]? = some (.cells #[.int .i64 x.kind, .string x.label, .slice x.a x.len x.cap, .int .i64 x.lo, .int .i64 x.hi, .int .i64 y.kind, .string y.label, .slice y.a y.len y.cap, .int .i64 y.lo, .int .i64 y.hi] T)) (hx : IsP F w x t) (hy : IsP F w y u) (hF : F b) : IsP F w ⟨k, ⟨#[]⟩, some ⟨b, 0, none⟩, 2, 2, 0, 0⟩ (.mk k [] [t, u] 0 0) := by
  refine IsP.mk (F := F) (w := w) ⟨k, ⟨#[]⟩, some ⟨b, 0, none⟩, 2, 2, 0, 0⟩ (fun j => if j = 0 then x else y) [t, u] rfl ⟨Nat.le_refl _, by show (2 : Nat) ≤ _; omega, Or.inr ⟨b, 0, rfl, hF, fun j hj => ?_⟩⟩ fun j hj => ?_
  · have hj : j < 2 := hj
    rcases (by omega : j = 0 ∨ j = 1) with rfl | rfl
    · exact ⟨by rw [cell_of_row _ _ _ _ _ _ hg]; rfl, by rw [cell_of_row _ _ _ _ _ _ hg]; rfl, by rw [cell_of_row _ _ _ _ _ _ hg]; rfl, by rw [cell_of_row _ _ _ _ _ _ hg]; rfl, by rw [cell_of_row _ _ _ _ _ _ hg]; rfl⟩
    · exact ⟨by rw [cell_of_row _ _ _ _ _ _ hg]; rfl, by rw [cell_of_row _ _ _ _ _ _ hg]; rfl, by rw [cell_of_row _ _ _ _ _ _ hg]; rfl, by rw [cell_of_row _ _ _ _ _ _ hg]; rfl, by rw [cell_of_row _ _ _ _ _ _ hg]; rfl⟩
  · have hj : j < 2 := hj
    rcases (by omega : j = 0 ∨ j = 1) with rfl | rfl
    · exact hx
    · exact hy
theorem box5_cells {w w' : World} {g : Nat} {x0 x1 x2 x3 x4 : Value} {t : TypeId} (hg : w.heap[g]? = some (.cells #[x0, x1, x2, x3, x4] t)) (hb : Below w.heap.size w w') :
    w'.cell? ⟨g, 0, none⟩ = some x0 ∧ w'.cell? ⟨g, 1, none⟩ = some x1 ∧ w'.cell? ⟨g, 2, none⟩ = some x2 ∧ w'.cell? ⟨g, 3, none⟩ = some x3 ∧ w'.cell? ⟨g, 4, none⟩ = some x4 :=
  (box5_facts ((hb.block _ (lt_of_heap hg)).trans hg)).1
theorem isp_one {F : Nat → Prop} {w : World} (k : Int) (b : Nat) (x : PV) (t : PT) (T : TypeId) (hg : w.heap[b]? = some (.cells #[.int .i64 x.kind, .string x.label, .slice x.a x.len x.cap, .int .i64 x.lo, .int .i64 x.hi] T)) (hx : IsP F w x t) (hF : F b) : IsP F w ⟨k, ⟨#[]⟩, some ⟨b, 0, none⟩, 1, 1, 0, 0⟩ (.mk k [] [t] 0 0) := by
  refine IsP.mk (F := F) (w := w) ⟨k, ⟨#[]⟩, some ⟨b, 0, none⟩, 1, 1, 0, 0⟩ (fun j => x) [t] rfl ⟨Nat.le_refl _, by show (1 : Nat) ≤ _; omega, Or.inr ⟨b, 0, rfl, hF, fun j hj => ?_⟩⟩ fun j hj => ?_
  · have hj : j < 1 := hj
    obtain rfl : j = 0 := by omega
    exact ⟨by rw [cell_of_row _ _ _ _ _ _ hg]; rfl, by rw [cell_of_row _ _ _ _ _ _ hg]; rfl, by rw [cell_of_row _ _ _ _ _ _ hg]; rfl, by rw [cell_of_row _ _ _ _ _ _ hg]; rfl, by rw [cell_of_row _ _ _ _ _ _ hg]; rfl⟩
  · have hj : j < 1 := hj
    obtain rfl : j = 0 := by omega
    exact hx
end Fo
set_option maxHeartbeats 16000000 in
theorem binds_any (C : BailSays) (w : World) (x y : PV) (how : Int) (lo : Nat) (henv : EnvP lo w) (hw : Wfp w 61 x) (hv : Wfp w 61 y) :
    Calls Tryz.prog 6 #[x.v, y.v, .int .i64 how] w fun e w' => e = .returned (.bool true) ∧ Below w.heap.size w w' := by
  have HENV : Hid (EnvP lo w) := henv
  have HW : Hid (Wfp w 61 x) := hw
  have HV : Hid (Wfp w 61 y) := hv
  obtain ⟨kind, label, a, len, cap, lo', hi'⟩ := x
  obtain ⟨kind2, label2, a2, len2, cap2, lo2, hi2⟩ := y
  clear hw hv henv
  unfold PV.v
  obtain ⟨w1, hW1⟩ : ∃ W, W = (w.alloc (.cells #[.int .i64 kind, .string label, .slice a len cap, .int .i64 lo', .int .i64 hi'] 25)).alloc (.cells #[.int .i64 kind2, .string label2, .slice a2 len2 cap2, .int .i64 lo2, .int .i64 hi2] 25) := ⟨_, rfl⟩
  have HB1 : Hid (Below w.heap.size w w1) := by show Below _ _ _; rw [hW1]; exact (below1 w _).alloc (by simp) _
  have HG1 : Hid (w1.heap[w.heap.size]? = some (.cells #[.int .i64 kind, .string label, .slice a len cap, .int .i64 lo', .int .i64 hi'] 25)) := by show w1.heap[_]? = _; rw [hW1]; exact heap_new2 w _ _
  have HH1 : Hid (w1.heap[w.heap.size + 1]? = some (.cells #[.int .i64 kind2, .string label2, .slice a2 len2 cap2, .int .i64 lo2, .int .i64 hi2] 25)) := by
    show w1.heap[_]? = _
    rw [hW1]
    have := heap_new1 (w.alloc (.cells #[.int .i64 kind, .string label, .slice a len cap, .int .i64 lo', .int .i64 hi'] 25)) (.cells #[.int .i64 kind2, .string label2, .slice a2 len2 cap2, .int .i64 lo2, .int .i64 hi2] 25)
    simpa using this
  go_enter Tryz.func6, Tryz.ntmps6
  go_wp2_with (go_at_call 14; fail)
  rw [← hW1]
  clear hW1
  refine (sma_any ⟨kind, label, a, len, cap, lo', hi'⟩ w1 (HW.out.below HB1.out)).mono ?_
  rintro e w2 ⟨⟨q, rfl, hx⟩, b⟩
  have HX : Hid (q = true → ∃ t, IsP (fun _ => True) w2 ⟨kind, label, a, len, cap, lo', hi'⟩ t) := hx
  clear hx
  have HB2 : Hid (Below w.heap.size w w2) := below_step HB1.out b
  have HG2 : Hid (w2.heap[w.heap.size]? = some (.cells #[.int .i64 kind, .string label, .slice a len cap, .int .i64 lo', .int .i64 hi'] 25)) := (b.block _ (lt_of_heap HG1.out)).trans HG1.out
  have HH2 : Hid (w2.heap[w.heap.size + 1]? = some (.cells #[.int .i64 kind2, .string label2, .slice a2 len2 cap2, .int .i64 lo2, .int .i64 hi2] 25)) := (b.block _ (lt_of_heap HH1.out)).trans HH1.out
  clear b HB1 HG1 HH1
  cases q with
  | false =>
    clear HX
    go_wp2_with (go_at_call 8; fail)
    refine (awake_any C _ lo (HENV.out.below HB2.out)).mono ?_
    rintro e wz ⟨rfl, bz⟩
    have HBZ : Hid (Below w.heap.size w wz) := below_step HB2.out bz
    clear bz
    go_wp2
    go_ret
    exact ⟨rfl, HBZ.out⟩
  | true =>
  obtain ⟨t, ht⟩ := HX.out rfl
  have HI2 : Hid (IsP (fun _ => True) w2 ⟨kind, label, a, len, cap, lo', hi'⟩ t) := ht
  clear ht HX HW
  have c0 := cell_of_row _ _ 0 _ _ _ HG2.out
  have c1 := cell_of_row _ _ 1 _ _ _ HG2.out
  have c2 := cell_of_row _ _ 2 _ _ _ HG2.out
  have c3 := cell_of_row _ _ 3 _ _ _ HG2.out
  have c4 := cell_of_row _ _ 4 _ _ _ HG2.out
  simp only [List.getElem?_toArray, List.getElem?_cons_zero, List.getElem?_cons_succ] at c0 c1 c2 c3 c4
  have d0 := cell_of_row _ _ 0 _ _ _ HH2.out
  have d1 := cell_of_row _ _ 1 _ _ _ HH2.out
  have d2 := cell_of_row _ _ 2 _ _ _ HH2.out
  have d3 := cell_of_row _ _ 3 _ _ _ HH2.out
  have d4 := cell_of_row _ _ 4 _ _ _ HH2.out
  simp only [List.getElem?_toArray, List.getElem?_cons_zero, List.getElem?_cons_succ] at d0 d1 d2 d3 d4
  go_wp2_with (go_at_call 14; fail)
  refine (sma_any ⟨kind2, label2, a2, len2, cap2, lo2, hi2⟩ w2 (HV.out.below HB2.out)).mono ?_
  rintro e w3 ⟨⟨q, rfl, hx⟩, b⟩
  have HX : Hid (q = true → ∃ t, IsP (fun _ => True) w3 ⟨kind2, label2, a2, len2, cap2, lo2, hi2⟩ t) := hx
  clear hx
  clear c0 c1 c2 c3 c4 d0 d1 d2 d3 d4
  have HB3 : Hid (Below w.heap.size w w3) := below_step HB2.out b
  have HG3 : Hid (w3.heap[w.heap.size]? = some (.cells #[.int .i64 kind, .string label, .slice a len cap, .int .i64 lo', .int .i64 hi'] 25)) := (b.block _ (lt_of_heap HG2.out)).trans HG2.out
  have HH3 : Hid (w3.heap[w.heap.size + 1]? = some (.cells #[.int .i64 kind2, .string label2, .slice a2 len2 cap2, .int .i64 lo2, .int .i64 hi2] 25)) := (b.block _ (lt_of_heap HH2.out)).trans HH2.out
  have HI3 : Hid (IsP (fun _ => True) w3 ⟨kind, label, a, len, cap, lo', hi'⟩ t) := HI2.out.bel b
  clear b HB2 HG2 HH2 HI2
  cases q with
  | false =>
    clear HX
    go_wp2_with (go_at_call 8; fail)
    refine (awake_any C _ lo (HENV.out.below HB3.out)).mono ?_
    rintro e wz ⟨rfl, bz⟩
    have HBZ : Hid (Below w.heap.size w wz) := below_step HB3.out bz
    clear bz
    go_wp2
    go_ret
    exact ⟨rfl, HBZ.out⟩
  | true =>
  obtain ⟨u, ht⟩ := HX.out rfl
  have HJ3 : Hid (IsP (fun _ => True) w3 ⟨kind2, label2, a2, len2, cap2, lo2, hi2⟩ u) := ht
  clear ht HX HV
  have c0 := cell_of_row _ _ 0 _ _ _ HG3.out
  have c1 := cell_of_row _ _ 1 _ _ _ HG3.out
  have c2 := cell_of_row _ _ 2 _ _ _ HG3.out
  have c3 := cell_of_row _ _ 3 _ _ _ HG3.out
  have c4 := cell_of_row _ _ 4 _ _ _ HG3.out
  simp only [List.getElem?_toArray, List.getElem?_cons_zero, List.getElem?_cons_succ] at c0 c1 c2 c3 c4
  have d0 := cell_of_row _ _ 0 _ _ _ HH3.out
  have d1 := cell_of_row _ _ 1 _ _ _ HH3.out
  have d2 := cell_of_row _ _ 2 _ _ _ HH3.out
  have d3 := cell_of_row _ _ 3 _ _ _ HH3.out
  have d4 := cell_of_row _ _ 4 _ _ _ HH3.out
  simp only [List.getElem?_toArray, List.getElem?_cons_zero, List.getElem?_cons_succ] at d0 d1 d2 d3 d4
  go_wp2_with (go_at_call 16; fail)
  refine (chk_any t _ w3 ⟨kind, label, a, len, cap, lo', hi'⟩ HI3.out).mono ?_
  rintro e w4 ⟨rfl, b⟩
  clear c0 c1 c2 c3 c4 d0 d1 d2 d3 d4
  have HB4 : Hid (Below w.heap.size w w4) := below_step HB3.out b
  have HG4 : Hid (w4.heap[w.heap.size]? = some (.cells #[.int .i64 kind, .string label, .slice a len cap, .int .i64 lo', .int .i64 hi'] 25)) := (b.block _ (lt_of_heap HG3.out)).trans HG3.out
  have HH4 : Hid (w4.heap[w.heap.size + 1]? = some (.cells #[.int .i64 kind2, .string label2, .slice a2 len2 cap2, .int .i64 lo2, .int .i64 hi2] 25)) := (b.block _ (lt_of_heap HH3.out)).trans HH3.out
  have HI4 : Hid (IsP (fun _ => True) w4 ⟨kind, label, a, len, cap, lo', hi'⟩ t) := HI3.out.bel b
  have HJ4 : Hid (IsP (fun _ => True) w4 ⟨kind2, label2, a2, len2, cap2, lo2, hi2⟩ u) := HJ3.out.bel b
  clear b HB3 HG3 HH3 HI3 HJ3
  by_cases hc : chk t = 0
  case neg =>
    have hc' : (chk t != 0) = true := by simpa using hc
    generalize chk t = cc at hc' ⊢
    go_wp2_with (go_at_call 8; fail)
    refine (awake_any C _ lo (HENV.out.below HB4.out)).mono ?_
    rintro e wz ⟨rfl, bz⟩
    have HBZ : Hid (Below w.heap.size w wz) := below_step HB4.out bz
    clear bz
    go_wp2
    go_ret
    exact ⟨rfl, HBZ.out⟩
  rw [hc]
  have c0 := cell_of_row _ _ 0 _ _ _ HG4.out
  have c1 := cell_of_row _ _ 1 _ _ _ HG4.out
  have c2 := cell_of_row _ _ 2 _ _ _ HG4.out
  have c3 := cell_of_row _ _ 3 _ _ _ HG4.out
  have c4 := cell_of_row _ _ 4 _ _ _ HG4.out
  simp only [List.getElem?_toArray, List.getElem?_cons_zero, List.getElem?_cons_succ] at c0 c1 c2 c3 c4
  have d0 := cell_of_row _ _ 0 _ _ _ HH4.out
  have d1 := cell_of_row _ _ 1 _ _ _ HH4.out
  have d2 := cell_of_row _ _ 2 _ _ _ HH4.out
  have d3 := cell_of_row _ _ 3 _ _ _ HH4.out
  have d4 := cell_of_row _ _ 4 _ _ _ HH4.out
  simp only [List.getElem?_toArray, List.getElem?_cons_zero, List.getElem?_cons_succ] at d0 d1 d2 d3 d4
  go_wp2_with (go_at_call 16; fail)
  refine (chk_any u _ w4 ⟨kind2, label2, a2, len2, cap2, lo2, hi2⟩ HJ4.out).mono ?_
  rintro e w5 ⟨rfl, b⟩
  clear c0 c1 c2 c3 c4 d0 d1 d2 d3 d4
  have HB5 : Hid (Below w.heap.size w w5) := below_step HB4.out b
  have HG5 : Hid (w5.heap[w.heap.size]? = some (.cells #[.int .i64 kind, .string label, .slice a len cap, .int .i64 lo', .int .i64 hi'] 25)) := (b.block _ (lt_of_heap HG4.out)).trans HG4.out
  have HH5 : Hid (w5.heap[w.heap.size + 1]? = some (.cells #[.int .i64 kind2, .string label2, .slice a2 len2 cap2, .int .i64 lo2, .int .i64 hi2] 25)) := (b.block _ (lt_of_heap HH4.out)).trans HH4.out
  have HI5 : Hid (IsP (fun _ => True) w5 ⟨kind, label, a, len, cap, lo', hi'⟩ t) := HI4.out.bel b
  have HJ5 : Hid (IsP (fun _ => True) w5 ⟨kind2, label2, a2, len2, cap2, lo2, hi2⟩ u) := HJ4.out.bel b
  clear b HB4 HG4 HH4 HI4 HJ4
  by_cases hd : chk u = 0
  case neg =>
    have hc' : (chk u != 0) = true := by simpa using hd
    generalize chk u = cc at hc' ⊢
    go_wp2_with (go_at_call 8; fail)
    refine (awake_any C _ lo (HENV.out.below HB5.out)).mono ?_
    rintro e wz ⟨rfl, bz⟩
    have HBZ : Hid (Below w.heap.size w wz) := below_step HB5.out bz
    clear bz
    go_wp2
    go_ret
    exact ⟨rfl, HBZ.out⟩
  rw [hd]
  have c0 := cell_of_row _ _ 0 _ _ _ HG5.out
  have c1 := cell_of_row _ _ 1 _ _ _ HG5.out
  have c2 := cell_of_row _ _ 2 _ _ _ HG5.out
  have c3 := cell_of_row _ _ 3 _ _ _ HG5.out
  have c4 := cell_of_row _ _ 4 _ _ _ HG5.out
  simp only [List.getElem?_toArray, List.getElem?_cons_zero, List.getElem?_cons_succ] at c0 c1 c2 c3 c4
  have d0 := cell_of_row _ _ 0 _ _ _ HH5.out
  have d1 := cell_of_row _ _ 1 _ _ _ HH5.out
  have d2 := cell_of_row _ _ 2 _ _ _ HH5.out
  have d3 := cell_of_row _ _ 3 _ _ _ HH5.out
  have d4 := cell_of_row _ _ 4 _ _ _ HH5.out
  simp only [List.getElem?_toArray, List.getElem?_cons_zero, List.getElem?_cons_succ] at d0 d1 d2 d3 d4
  go_wp2_with (go_at_call 15; fail)
  refine (text_any t _ w5 ⟨kind, label, a, len, cap, lo', hi'⟩ HI5.out).mono ?_
  rw [show txt t = tx t by unfold txt; rw [if_pos hc]]
  rintro e w6 ⟨rfl, b⟩
  clear c0 c1 c2 c3 c4 d0 d1 d2 d3 d4
  have HB6 : Hid (Below w.heap.size w w6) := below_step HB5.out b
  have HG6 : Hid (w6.heap[w.heap.size]? = some (.cells #[.int .i64 kind, .string label, .slice a len cap, .int .i64 lo', .int .i64 hi'] 25)) := (b.block _ (lt_of_heap HG5.out)).trans HG5.out
  have HH6 : Hid (w6.heap[w.heap.size + 1]? = some (.cells #[.int .i64 kind2, .string label2, .slice a2 len2 cap2, .int .i64 lo2, .int .i64 hi2] 25)) := (b.block _ (lt_of_heap HH5.out)).trans HH5.out
  have HI6 : Hid (IsP (fun _ => True) w6 ⟨kind, label, a, len, cap, lo', hi'⟩ t) := HI5.out.bel b
  have HJ6 : Hid (IsP (fun _ => True) w6 ⟨kind2, label2, a2, len2, cap2, lo2, hi2⟩ u) := HJ5.out.bel b
  clear b HB5 HG5 HH5 HI5 HJ5
  have c0 := cell_of_row _ _ 0 _ _ _ HG6.out
  have c1 := cell_of_row _ _ 1 _ _ _ HG6.out
  have c2 := cell_of_row _ _ 2 _ _ _ HG6.out
  have c3 := cell_of_row _ _ 3 _ _ _ HG6.out
  have c4 := cell_of_row _ _ 4 _ _ _ HG6.out
  simp only [List.getElem?_toArray, List.getElem?_cons_zero, List.getElem?_cons_succ] at c0 c1 c2 c3 c4
  have d0 := cell_of_row _ _ 0 _ _ _ HH6.out
  have d1 := cell_of_row _ _ 1 _ _ _ HH6.out
  have d2 := cell_of_row _ _ 2 _ _ _ HH6.out
  have d3 := cell_of_row _ _ 3 _ _ _ HH6.out
  have d4 := cell_of_row _ _ 4 _ _ _ HH6.out
  simp only [List.getElem?_toArray, List.getElem?_cons_zero, List.getElem?_cons_succ] at d0 d1 d2 d3 d4
  go_wp2_with (go_at_call 15; fail)
  refine (text_any u _ w6 ⟨kind2, label2, a2, len2, cap2, lo2, hi2⟩ HJ6.out).mono ?_
  rw [show txt u = tx u by unfold txt; rw [if_pos hd]]
  rintro e w7 ⟨rfl, b⟩
  clear c0 c1 c2 c3 c4 d0 d1 d2 d3 d4
  have HB7 : Hid (Below w.heap.size w w7) := below_step HB6.out b
  have HG7 : Hid (w7.heap[w.heap.size]? = some (.cells #[.int .i64 kind, .string label, .slice a len cap, .int .i64 lo', .int .i64 hi'] 25)) := (b.block _ (lt_of_heap HG6.out)).trans HG6.out
  have HH7 : Hid (w7.heap[w.heap.size + 1]? = some (.cells #[.int .i64 kind2, .string label2, .slice a2 len2 cap2, .int .i64 lo2, .int .i64 hi2] 25)) := (b.block _ (lt_of_heap HH6.out)).trans HH6.out
  have HI7 : Hid (IsP (fun _ => True) w7 ⟨kind, label, a, len, cap, lo', hi'⟩ t) := HI6.out.bel b
  have HJ7 : Hid (IsP (fun _ => True) w7 ⟨kind2, label2, a2, len2, cap2, lo2, hi2⟩ u) := HJ6.out.bel b
  clear b HB6 HG6 HH6 HI6 HJ6
  have hzs : (str (tx t)).size ≤ 3839 := by rw [str_size]; exact chk_len hc
  have hzu : (str (tx u)).size ≤ 3839 := by rw [str_size]; exact chk_len hd
  go_wp2_with (go_at_call 18; fail)
  obtain ⟨w8, hW8⟩ : ∃ W, W = w7.alloc (.cells #[.int .i64 0, .string ⟨#[]⟩, .slice none 0 0, .int .i64 0, .int .i64 0] 25) := ⟨_, rfl⟩
  have b : Below w7.heap.size w7 w8 := by rw [hW8]; exact below1 w7 _
  have HZ8 : Hid (w8.heap[w7.heap.size]? = some (.cells #[.int .i64 0, .string ⟨#[]⟩, .slice none 0 0, .int .i64 0, .int .i64 0] 25)) := by show w8.heap[_]? = _; rw [hW8]; exact heap_new1 w7 _
  rw [← hW8]
  clear hW8
  have HLT : Hid (w.heap.size + 2 ≤ w7.heap.size) := by
    have := lt_of_heap HH7.out
    show _ ≤ _
    omega
  have HI0 : Hid (IsP (fun v => True ∧ v < w7.heap.size) w7 ⟨kind, label, a, len, cap, lo', hi'⟩ t) := HI7.out.lt
  have HJ0 : Hid (IsP (fun v => True ∧ v < w7.heap.size) w7 ⟨kind2, label2, a2, len2, cap2, lo2, hi2⟩ u) := HJ7.out.lt
  have HI8 : Hid (IsP (fun v => True ∧ v < w7.heap.size) w8 ⟨kind, label, a, len, cap, lo', hi'⟩ t) := HI0.out.bel b
  have HJ8 : Hid (IsP (fun v => True ∧ v < w7.heap.size) w8 ⟨kind2, label2, a2, len2, cap2, lo2, hi2⟩ u) := HJ0.out.bel b
  clear HI7 HJ7 HI0 HJ0
  have HB8 : Hid (Below w.heap.size w w8) := below_step HB7.out b
  have HG8 : Hid (w8.heap[w.heap.size]? = some (.cells #[.int .i64 kind, .string label, .slice a len cap, .int .i64 lo', .int .i64 hi'] 25)) := (b.block _ (lt_of_heap HG7.out)).trans HG7.out
  have HH8 : Hid (w8.heap[w.heap.size + 1]? = some (.cells #[.int .i64 kind2, .string label2, .slice a2 len2 cap2, .int .i64 lo2, .int .i64 hi2] 25)) := (b.block _ (lt_of_heap HH7.out)).trans HH7.out
  clear b HB7 HG7 HH7
  obtain ⟨g, hg⟩ : ∃ g, g = w7.heap.size := ⟨_, rfl⟩
  rw [← hg] at HZ8 HLT HI8 HJ8 ⊢
  clear hg
  refine (round_any _ _).mono ?_
  rintro e wr ⟨⟨r, rfl, hr⟩, hwr⟩
  replace hwr := hwr.symm
  subst hwr
  have c0 := cell_of_row _ _ 0 _ _ _ HG8.out
  have c1 := cell_of_row _ _ 1 _ _ _ HG8.out
  have c2 := cell_of_row _ _ 2 _ _ _ HG8.out
  have c3 := cell_of_row _ _ 3 _ _ _ HG8.out
  have c4 := cell_of_row _ _ 4 _ _ _ HG8.out
  simp only [List.getElem?_toArray, List.getElem?_cons_zero, List.getElem?_cons_succ] at c0 c1 c2 c3 c4
  have d0 := cell_of_row _ _ 0 _ _ _ HH8.out
  have d1 := cell_of_row _ _ 1 _ _ _ HH8.out
  have d2 := cell_of_row _ _ 2 _ _ _ HH8.out
  have d3 := cell_of_row _ _ 3 _ _ _ HH8.out
  have d4 := cell_of_row _ _ 4 _ _ _ HH8.out
  simp only [List.getElem?_toArray, List.getElem?_cons_zero, List.getElem?_cons_succ] at d0 d1 d2 d3 d4
  have HN8 : Hid (∀ o, (w8.alloc o).heap[g]? = some (.cells #[.int .i64 0, .string ⟨#[]⟩, .slice none 0 0, .int .i64 0, .int .i64 0] 25)) := fun o => ((below1 w8 o).block _ (lt_of_heap HZ8.out)).trans HZ8.out
  have HK1 : Hid (kind = t.kind) := by
    obtain ⟨V, ks, e, -⟩ := HI8.out.inv
    exact (congrArg PT.kind e).symm
  have HK2 : Hid (kind2 = u.kind) := by
    obtain ⟨V, ks, e, -⟩ := HJ8.out.inv
    exact (congrArg PT.kind e).symm
  have HL1 : Hid ((tx t).length ≤ 3839) := chk_len hc
  have HL2 : Hid ((tx u).length ≤ 3839) := chk_len hd
  rcases hr with rfl | rfl | rfl
  · have HE1 : Hid (str (tx (PT.mk 5 [] [t, u] 0 0)) = str (tx t) ++ ⟨#[124]⟩ ++ str (tx u)) := by
      show _ = str (tx t) ++ str [124] ++ str (tx u)
      rw [tx_alt, str_app, str_app]; simp
    obtain ⟨⟨z0, z1, z2, z3, z4⟩, ⟨f0, f1, f2, f3, f4⟩, g0, g1, g2, g3, g4⟩ := box5_facts (HN8.out (.cells #[.int .i64 kind, .string label, .slice a len cap, .int .i64 lo', .int .i64 hi', .int .i64 kind2, .string label2, .slice a2 len2 cap2, .int .i64 lo2, .int .i64 hi2] 25))
    go_wp2_with (go_at_call 16; fail)
    clear z0 z1 z2 z3 z4 f0 f1 f2 f3 f4 g0 g1 g2 g3 g4 c0 c1 c2 c3 c4 d0 d1 d2 d3 d4
    have hb10 := below_set5 (w2 := w8.alloc (.cells #[.int .i64 kind, .string label, .slice a len cap, .int .i64 lo', .int .i64 hi', .int .i64 kind2, .string label2, .slice a2 len2 cap2, .int .i64 lo2, .int .i64 hi2] 25)) (below_step HB8.out (below1 w8 _)) (by have := HLT.out; omega : w.heap.size ≤ g) (.int .i64 5) (.string ⟨#[]⟩) (.slice (some ⟨w8.heap.size, 0, none⟩) 2 2) (.int .i64 0) (.int .i64 0)
    obtain ⟨hs6, hs7⟩ := st5 (HN8.out (.cells #[.int .i64 kind, .string label, .slice a len cap, .int .i64 lo', .int .i64 hi', .int .i64 kind2, .string label2, .slice a2 len2 cap2, .int .i64 lo2, .int .i64 hi2] 25)) (.int .i64 5) (.string ⟨#[]⟩) (.slice (some ⟨w8.heap.size, 0, none⟩) 2 2) (.int .i64 0) (.int .i64 0)
    generalize (((((w8.alloc (.cells #[.int .i64 kind, .string label, .slice a len cap, .int .i64 lo', .int .i64 hi', .int .i64 kind2, .string label2, .slice a2 len2 cap2, .int .i64 lo2, .int .i64 hi2] 25)).setCell ⟨g, 0, none⟩ (.int .i64 5)).setCell ⟨g, 1, none⟩ (.string ⟨#[]⟩)).setCell ⟨g, 2, none⟩ (.slice (some ⟨w8.heap.size, 0, none⟩) 2 2)).setCell ⟨g, 3, none⟩ (.int .i64 0)).setCell ⟨g, 4, none⟩ (.int .i64 0) = W10 at hb10 hs6 hs7 ⊢
    have HB10 : Hid (Below w.heap.size w W10) := hb10
    have HP10 : Hid (W10.heap[g]? = some (.cells #[.int .i64 5, .string ⟨#[]⟩, .slice (some ⟨w8.heap.size, 0, none⟩) 2 2, .int .i64 0, .int .i64 0] 25)) := hs6
    have HG10 : Hid (W10.heap[w.heap.size]? = some (.cells #[.int .i64 kind, .string label, .slice a len cap, .int .i64 lo', .int .i64 hi'] 25)) := hs7.heap (((below1 w8 (.cells #[.int .i64 kind, .string label, .slice a len cap, .int .i64 lo', .int .i64 hi', .int .i64 kind2, .string label2, .slice a2 len2 cap2, .int .i64 lo2, .int .i64 hi2] 25)).block _ (lt_of_heap HG8.out)).trans HG8.out) (fun h => by have h : w.heap.size = g := h; have := HLT.out; omega)
    have HH10 : Hid (W10.heap[w.heap.size + 1]? = some (.cells #[.int .i64 kind2, .string label2, .slice a2 len2 cap2, .int .i64 lo2, .int .i64 hi2] 25)) := hs7.heap (((below1 w8 (.cells #[.int .i64 kind, .string label, .slice a len cap, .int .i64 lo', .int .i64 hi', .int .i64 kind2, .string label2, .slice a2 len2 cap2, .int .i64 lo2, .int .i64 hi2] 25)).block _ (lt_of_heap HH8.out)).trans HH8.out) (fun h => by have h : w.heap.size + 1 = g := h; have := HLT.out; omega)
    have HT10 : Hid (IsP (fun _ => True) W10 ⟨5, ⟨#[]⟩, some ⟨w8.heap.size, 0, none⟩, 2, 2, 0, 0⟩ (PT.mk 5 [] [t, u] 0 0)) := by
      have hkb := hs7.heap (heap_new1 w8 (.cells #[.int .i64 kind, .string label, .slice a len cap, .int .i64 lo', .int .i64 hi', .int .i64 kind2, .string label2, .slice a2 len2 cap2, .int .i64 lo2, .int .i64 hi2] 25)) (fun h => by have h : w8.heap.size = g := h; have := lt_of_heap HZ8.out; omega)
      have hi := (HI8.out.bel (below1 w8 (.cells #[.int .i64 kind, .string label, .slice a len cap, .int .i64 lo', .int .i64 hi', .int .i64 kind2, .string label2, .slice a2 len2 cap2, .int .i64 lo2, .int .i64 hi2] 25))).kp hs7 (fun v hv h => by have h : v = g := h; have := hv.2; omega) fun _ _ h => h
      have hj := (HJ8.out.bel (below1 w8 (.cells #[.int .i64 kind, .string label, .slice a len cap, .int .i64 lo', .int .i64 hi', .int .i64 kind2, .string label2, .slice a2 len2 cap2, .int .i64 lo2, .int .i64 hi2] 25))).kp hs7 (fun v hv h => by have h : v = g := h; have := hv.2; omega) fun _ _ h => h
      exact isp_two 5 w8.heap.size ⟨kind, label, a, len, cap, lo', hi'⟩ ⟨kind2, label2, a2, len2, cap2, lo2, hi2⟩ t u _ hkb (hi.mono fun _ _ => trivial) (hj.mono fun _ _ => trivial) trivial
    clear hb10 hs6 hs7 HN8 HZ8 HI8 HJ8 HG8 HH8 HB8
    clear HG10 HH10
    refine (chk_any (PT.mk 5 [] [t, u] 0 0) _ W10 ⟨5, ⟨#[]⟩, some ⟨w8.heap.size, 0, none⟩, 2, 2, 0, 0⟩ HT10.out).mono ?_
    rintro e w21 ⟨rfl, b⟩
    have HB21 : Hid (Below w.heap.size w w21) := below_step HB10.out b
    have HP21 : Hid (w21.heap[g]? = some (.cells #[.int .i64 5, .string ⟨#[]⟩, .slice (some ⟨w8.heap.size, 0, none⟩) 2 2, .int .i64 0, .int .i64 0] 25)) := (b.block _ (lt_of_heap HP10.out)).trans HP10.out
    have HT21 : Hid (IsP (fun _ => True) w21 ⟨5, ⟨#[]⟩, some ⟨w8.heap.size, 0, none⟩, 2, 2, 0, 0⟩ (PT.mk 5 [] [t, u] 0 0)) := HT10.out.bel b
    clear b HB10 HP10 HT10
    have p0 := cell_of_row _ _ 0 _ _ _ HP21.out
    have p1 := cell_of_row _ _ 1 _ _ _ HP21.out
    have p2 := cell_of_row _ _ 2 _ _ _ HP21.out
    have p3 := cell_of_row _ _ 3 _ _ _ HP21.out
    have p4 := cell_of_row _ _ 4 _ _ _ HP21.out
    simp only [List.getElem?_toArray, List.getElem?_cons_zero, List.getElem?_cons_succ] at p0 p1 p2 p3 p4
    have htx : txt (PT.mk 5 [] [t, u] 0 0) = if chk (PT.mk 5 [] [t, u] 0 0) = 0 then tx (PT.mk 5 [] [t, u] 0 0) else [] := rfl
    by_cases hp : chk (PT.mk 5 [] [t, u] 0 0) = 0
    case neg =>
      have hp' : (chk (PT.mk 5 [] [t, u] 0 0) != 0) = true := by simpa using hp
      rw [if_neg hp] at htx
      have HTT : Hid (Calls _ _ _ _ _) := text_any (PT.mk 5 [] [t, u] 0 0) _ w21 ⟨5, ⟨#[]⟩, some ⟨w8.heap.size, 0, none⟩, 2, 2, 0, 0⟩ HT21.out
      rw [htx, show str [] = ⟨#[]⟩ from rfl] at HTT
      generalize chk (PT.mk 5 [] [t, u] 0 0) = cc at hp' ⊢
      clear htx hp
      go_wp2_with (go_at_call 15; fail)
      refine HTT.out.mono ?_
      rintro e w22 ⟨rfl, b⟩
      have HB22 : Hid (Below w.heap.size w w22) := below_step HB21.out b
      clear b p0 p1 p2 p3 p4
      go_wp2_with (go_at_call 8; fail)
      refine (awake_any C _ lo (HENV.out.below HB22.out)).mono ?_
      rintro e wz ⟨rfl, bz⟩
      have HBZ : Hid (Below w.heap.size w wz) := below_step HB22.out bz
      clear bz
      go_wp2
      go_ret
      exact ⟨rfl, HBZ.out⟩
    rw [if_pos hp] at htx
    have HTT : Hid (Calls _ _ _ _ _) := text_any (PT.mk 5 [] [t, u] 0 0) _ w21 ⟨5, ⟨#[]⟩, some ⟨w8.heap.size, 0, none⟩, 2, 2, 0, 0⟩ HT21.out
    rw [htx, HE1.out] at HTT
    rw [hp]
    clear htx hp
    go_wp2_with (go_at_call 15; fail)
    refine HTT.out.mono ?_
    rintro e w22 ⟨rfl, b⟩
    have HB22 : Hid (Below w.heap.size w w22) := below_step HB21.out b
    clear b p0 p1 p2 p3 p4
    go_wp2_with (go_at_call 8; fail)
    refine (awake_any C _ lo (HENV.out.below HB22.out)).mono ?_
    rintro e wz ⟨rfl, bz⟩
    have HBZ : Hid (Below w.heap.size w wz) := below_step HB22.out bz
    clear bz
    go_wp2
    go_ret
    exact ⟨rfl, HBZ.out⟩
  · have HE1 : Hid (str (tx (PT.mk 4 [] [t, u] 0 0)) = str (win 2 t) ++ ⟨#[47]⟩ ++ str (win 2 u)) := by
      show _ = str (win 2 t) ++ str [47] ++ str (win 2 u)
      rw [tx_seq, str_app, str_app]; simp
    have hq1 : (str (win 2 t)).size ≤ 3841 := by rw [str_size]; have := win_len 2 t; have := HL1.out; omega
    have hq2 : (str (win 2 u)).size ≤ 3841 := by rw [str_size]; have := win_len 2 u; have := HL2.out; omega
    obtain ⟨⟨z0, z1, z2, z3, z4⟩, ⟨f0, f1, f2, f3, f4⟩, g0, g1, g2, g3, g4⟩ := box5_facts (HN8.out (.cells #[.int .i64 kind, .string label, .slice a len cap, .int .i64 lo', .int .i64 hi', .int .i64 kind2, .string label2, .slice a2 len2 cap2, .int .i64 lo2, .int .i64 hi2] 25))
    go_wp2
    clear z0 z1 z2 z3 z4 f0 f1 f2 f3 f4 g0 g1 g2 g3 g4 c0 c1 c2 c3 c4 d0 d1 d2 d3 d4
    have hb10 := below_set5 (w2 := w8.alloc (.cells #[.int .i64 kind, .string label, .slice a len cap, .int .i64 lo', .int .i64 hi', .int .i64 kind2, .string label2, .slice a2 len2 cap2, .int .i64 lo2, .int .i64 hi2] 25)) (below_step HB8.out (below1 w8 _)) (by have := HLT.out; omega : w.heap.size ≤ g) (.int .i64 4) (.string ⟨#[]⟩) (.slice (some ⟨w8.heap.size, 0, none⟩) 2 2) (.int .i64 0) (.int .i64 0)
    obtain ⟨hs6, hs7⟩ := st5 (HN8.out (.cells #[.int .i64 kind, .string label, .slice a len cap, .int .i64 lo', .int .i64 hi', .int .i64 kind2, .string label2, .slice a2 len2 cap2, .int .i64 lo2, .int .i64 hi2] 25)) (.int .i64 4) (.string ⟨#[]⟩) (.slice (some ⟨w8.heap.size, 0, none⟩) 2 2) (.int .i64 0) (.int .i64 0)
    generalize (((((w8.alloc (.cells #[.int .i64 kind, .string label, .slice a len cap, .int .i64 lo', .int .i64 hi', .int .i64 kind2, .string label2, .slice a2 len2 cap2, .int .i64 lo2, .int .i64 hi2] 25)).setCell ⟨g, 0, none⟩ (.int .i64 4)).setCell ⟨g, 1, none⟩ (.string ⟨#[]⟩)).setCell ⟨g, 2, none⟩ (.slice (some ⟨w8.heap.size, 0, none⟩) 2 2)).setCell ⟨g, 3, none⟩ (.int .i64 0)).setCell ⟨g, 4, none⟩ (.int .i64 0) = W10 at hb10 hs6 hs7 ⊢
    have HB10 : Hid (Below w.heap.size w W10) := hb10
    have HP10 : Hid (W10.heap[g]? = some (.cells #[.int .i64 4, .string ⟨#[]⟩, .slice (some ⟨w8.heap.size, 0, none⟩) 2 2, .int .i64 0, .int .i64 0] 25)) := hs6
    have HG10 : Hid (W10.heap[w.heap.size]? = some (.cells #[.int .i64 kind, .string label, .slice a len cap, .int .i64 lo', .int .i64 hi'] 25)) := hs7.heap (((below1 w8 (.cells #[.int .i64 kind, .string label, .slice a len cap, .int .i64 lo', .int .i64 hi', .int .i64 kind2, .string label2, .slice a2 len2 cap2, .int .i64 lo2, .int .i64 hi2] 25)).block _ (lt_of_heap HG8.out)).trans HG8.out) (fun h => by have h : w.heap.size = g := h; have := HLT.out; omega)
    have HH10 : Hid (W10.heap[w.heap.size + 1]? = some (.cells #[.int .i64 kind2, .string label2, .slice a2 len2 cap2, .int .i64 lo2, .int .i64 hi2] 25)) := hs7.heap (((below1 w8 (.cells #[.int .i64 kind, .string label, .slice a len cap, .int .i64 lo', .int .i64 hi', .int .i64 kind2, .string label2, .slice a2 len2 cap2, .int .i64 lo2, .int .i64 hi2] 25)).block _ (lt_of_heap HH8.out)).trans HH8.out) (fun h => by have h : w.heap.size + 1 = g := h; have := HLT.out; omega)
    have HT10 : Hid (IsP (fun _ => True) W10 ⟨4, ⟨#[]⟩, some ⟨w8.heap.size, 0, none⟩, 2, 2, 0, 0⟩ (PT.mk 4 [] [t, u] 0 0)) := by
      have hkb := hs7.heap (heap_new1 w8 (.cells #[.int .i64 kind, .string label, .slice a len cap, .int .i64 lo', .int .i64 hi', .int .i64 kind2, .string label2, .slice a2 len2 cap2, .int .i64 lo2, .int .i64 hi2] 25)) (fun h => by have h : w8.heap.size = g := h; have := lt_of_heap HZ8.out; omega)
      have hi := (HI8.out.bel (below1 w8 (.cells #[.int .i64 kind, .string label, .slice a len cap, .int .i64 lo', .int .i64 hi', .int .i64 kind2, .string label2, .slice a2 len2 cap2, .int .i64 lo2, .int .i64 hi2] 25))).kp hs7 (fun v hv h => by have h : v = g := h; have := hv.2; omega) fun _ _ h => h
      have hj := (HJ8.out.bel (below1 w8 (.cells #[.int .i64 kind, .string label, .slice a len cap, .int .i64 lo', .int .i64 hi', .int .i64 kind2, .string label2, .slice a2 len2 cap2, .int .i64 lo2, .int .i64 hi2] 25))).kp hs7 (fun v hv h => by have h : v = g := h; have := hv.2; omega) fun _ _ h => h
      exact isp_two 4 w8.heap.size ⟨kind, label, a, len, cap, lo', hi'⟩ ⟨kind2, label2, a2, len2, cap2, lo2, hi2⟩ t u _ hkb (hi.mono fun _ _ => trivial) (hj.mono fun _ _ => trivial) trivial
    clear hb10 hs6 hs7 HN8 HZ8 HI8 HJ8 HG8 HH8 HB8
    have HW : Below W10.heap.size W10 W10 := below_refl W10
    have hA1 : ∀ w', (Op.stringOp .add (str (win 2 t)) ⟨#[47]⟩).run Tryz.prog w' = .ok (.string (str (win 2 t) ++ ⟨#[47]⟩)) w' := fun w' => run_string_add_sum w' _ _ (by show (str (win 2 t)).size + 1 ≤ _; omega)
    have hA2 : ∀ w', (Op.stringOp .add (str (win 2 t) ++ ⟨#[47]⟩) (str (win 2 u))).run Tryz.prog w' = .ok (.string (str (win 2 t) ++ ⟨#[47]⟩ ++ str (win 2 u))) w' := fun w' => run_string_add_sum w' _ _ (by rw [ByteArray.size_append]; show (str (win 2 t)).size + 1 + _ ≤ _; omega)
    obtain ⟨x0, x1, x2, x3, x4⟩ := box5_cells HG10.out HW; obtain ⟨y0, y1, y2, y3, y4⟩ := box5_cells HH10.out HW; have m0 : True := trivial
    go_region_held3 (fun w' => w'.cell? ⟨w.heap.size, 0, none⟩ = some (.int .i64 kind) ∧ w'.cell? ⟨w.heap.size, 1, none⟩ = some (.string label) ∧ w'.cell? ⟨w.heap.size, 2, none⟩ = some (.slice a len cap) ∧ w'.cell? ⟨w.heap.size, 3, none⟩ = some (.int .i64 lo') ∧ w'.cell? ⟨w.heap.size, 4, none⟩ = some (.int .i64 hi') ∧ w'.cell? ⟨w.heap.size + 1, 0, none⟩ = some (.int .i64 kind2) ∧ w'.cell? ⟨w.heap.size + 1, 1, none⟩ = some (.string label2) ∧ w'.cell? ⟨w.heap.size + 1, 2, none⟩ = some (.slice a2 len2 cap2) ∧ w'.cell? ⟨w.heap.size + 1, 3, none⟩ = some (.int .i64 lo2) ∧ w'.cell? ⟨w.heap.size + 1, 4, none⟩ = some (.int .i64 hi2)) (first | exact ⟨x0, x1, x2, x3, x4, y0, y1, y2, y3, y4⟩ | go_keep) (first
      | (clear m1; go_at_call 22; refine (wrap_any u ⟨kind2, label2, a2, len2, cap2, lo2, hi2⟩ _ true HK2.out HL2.out).mono ?_; rintro e v2 ⟨rfl, b2⟩; replace HW := below_step (by first | exact HW | exact HW.drew) b2; clear b2 x0 x1 x2 x3 x4 y0 y1 y2 y3 y4; obtain ⟨x0, x1, x2, x3, x4⟩ := box5_cells HG10.out HW; obtain ⟨y0, y1, y2, y3, y4⟩ := box5_cells HH10.out HW; have m2 : True := trivial)
      | (clear m0; go_at_call 22; refine (wrap_any t ⟨kind, label, a, len, cap, lo', hi'⟩ _ true HK1.out HL1.out).mono ?_; rintro e v1 ⟨rfl, b1⟩; replace HW := below_step (by first | exact HW | exact HW.drew) b1; clear b1 x0 x1 x2 x3 x4 y0 y1 y2 y3 y4; obtain ⟨x0, x1, x2, x3, x4⟩ := box5_cells HG10.out HW; obtain ⟨y0, y1, y2, y3, y4⟩ := box5_cells HH10.out HW; have m1 : True := trivial)
      | (go_at_call 99; fail))
    all_goals
      rename World => w11
      have b := HW
      clear x0 x1 x2 x3 x4 y0 y1 y2 y3 y4 m2 HW HG10 HH10 hA1 hA2
      have HB11 : Hid (Below w.heap.size w w11) := below_step HB10.out b
      have HP11 : Hid (w11.heap[g]? = some (.cells #[.int .i64 4, .string ⟨#[]⟩, .slice (some ⟨w8.heap.size, 0, none⟩) 2 2, .int .i64 0, .int .i64 0] 25)) := (b.block _ (lt_of_heap HP10.out)).trans HP10.out
      have HT11 : Hid (IsP (fun _ => True) w11 ⟨4, ⟨#[]⟩, some ⟨w8.heap.size, 0, none⟩, 2, 2, 0, 0⟩ (PT.mk 4 [] [t, u] 0 0)) := HT10.out.bel b
      clear b HB10 HP10 HT10
      have q0 := cell_of_row _ _ 0 _ _ _ HP11.out
      have q1 := cell_of_row _ _ 1 _ _ _ HP11.out
      have q2 := cell_of_row _ _ 2 _ _ _ HP11.out
      have q3 := cell_of_row _ _ 3 _ _ _ HP11.out
      have q4 := cell_of_row _ _ 4 _ _ _ HP11.out
      simp only [List.getElem?_toArray, List.getElem?_cons_zero, List.getElem?_cons_succ] at q0 q1 q2 q3 q4
      go_wp2_with (go_at_call 16; fail)
      clear q0 q1 q2 q3 q4
      refine (chk_any (PT.mk 4 [] [t, u] 0 0) _ w11 ⟨4, ⟨#[]⟩, some ⟨w8.heap.size, 0, none⟩, 2, 2, 0, 0⟩ HT11.out).mono ?_
      rintro e w21 ⟨rfl, b⟩
      have HB21 : Hid (Below w.heap.size w w21) := below_step HB11.out b
      have HP21 : Hid (w21.heap[g]? = some (.cells #[.int .i64 4, .string ⟨#[]⟩, .slice (some ⟨w8.heap.size, 0, none⟩) 2 2, .int .i64 0, .int .i64 0] 25)) := (b.block _ (lt_of_heap HP11.out)).trans HP11.out
      have HT21 : Hid (IsP (fun _ => True) w21 ⟨4, ⟨#[]⟩, some ⟨w8.heap.size, 0, none⟩, 2, 2, 0, 0⟩ (PT.mk 4 [] [t, u] 0 0)) := HT11.out.bel b
      clear b HB11 HP11 HT11
      have p0 := cell_of_row _ _ 0 _ _ _ HP21.out
      have p1 := cell_of_row _ _ 1 _ _ _ HP21.out
      have p2 := cell_of_row _ _ 2 _ _ _ HP21.out
      have p3 := cell_of_row _ _ 3 _ _ _ HP21.out
      have p4 := cell_of_row _ _ 4 _ _ _ HP21.out
      simp only [List.getElem?_toArray, List.getElem?_cons_zero, List.getElem?_cons_succ] at p0 p1 p2 p3 p4
      have htx : txt (PT.mk 4 [] [t, u] 0 0) = if chk (PT.mk 4 [] [t, u] 0 0) = 0 then tx (PT.mk 4 [] [t, u] 0 0) else [] := rfl
      by_cases hp : chk (PT.mk 4 [] [t, u] 0 0) = 0
      case neg =>
        have hp' : (chk (PT.mk 4 [] [t, u] 0 0) != 0) = true := by simpa using hp
        rw [if_neg hp] at htx
        have HTT : Hid (Calls _ _ _ _ _) := text_any (PT.mk 4 [] [t, u] 0 0) _ w21 ⟨4, ⟨#[]⟩, some ⟨w8.heap.size, 0, none⟩, 2, 2, 0, 0⟩ HT21.out
        rw [htx, show str [] = ⟨#[]⟩ from rfl] at HTT
        generalize chk (PT.mk 4 [] [t, u] 0 0) = cc at hp' ⊢
        clear htx hp
        go_wp2_with (go_at_call 15; fail)
        refine HTT.out.mono ?_
        rintro e w22 ⟨rfl, b⟩
        have HB22 : Hid (Below w.heap.size w w22) := below_step HB21.out b
        clear b p0 p1 p2 p3 p4
        go_wp2_with (go_at_call 8; fail)
        refine (awake_any C _ lo (HENV.out.below HB22.out)).mono ?_
        rintro e wz ⟨rfl, bz⟩
        have HBZ : Hid (Below w.heap.size w wz) := below_step HB22.out bz
        clear bz
        go_wp2
        go_ret
        exact ⟨rfl, HBZ.out⟩
      rw [if_pos hp] at htx
      have HTT : Hid (Calls _ _ _ _ _) := text_any (PT.mk 4 [] [t, u] 0 0) _ w21 ⟨4, ⟨#[]⟩, some ⟨w8.heap.size, 0, none⟩, 2, 2, 0, 0⟩ HT21.out
      rw [htx, HE1.out] at HTT
      rw [hp]
      clear htx hp
      go_wp2_with (go_at_call 15; fail)
      refine HTT.out.mono ?_
      rintro e w22 ⟨rfl, b⟩
      have HB22 : Hid (Below w.heap.size w w22) := below_step HB21.out b
      clear b p0 p1 p2 p3 p4
      go_wp2_with (go_at_call 8; fail)
      refine (awake_any C _ lo (HENV.out.below HB22.out)).mono ?_
      rintro e wz ⟨rfl, bz⟩
      have HBZ : Hid (Below w.heap.size w wz) := below_step HB22.out bz
      clear bz
      go_wp2
      go_ret
      exact ⟨rfl, HBZ.out⟩
  · have HE1 : Hid (str (tx (PT.mk 6 [] [t] 0 0)) = str (win 3 t) ++ ⟨#[42]⟩) := by
      show _ = str (win 3 t) ++ str [42]
      rw [tx_star, str_app]
    have hq1 : (str (win 3 t)).size ≤ 3841 := by rw [str_size]; have := win_len 3 t; have := HL1.out; omega
    obtain ⟨⟨z0, z1, z2, z3, z4⟩, ⟨f0, f1, f2, f3, f4⟩, g0, g1, g2, g3, g4⟩ := box5_facts (HN8.out (.cells #[.int .i64 kind, .string label, .slice a len cap, .int .i64 lo', .int .i64 hi'] 25))
    have hne1 : ¬ w.heap.size = g := by have := HLT.out; omega
    have hne2 : ¬ g = w.heap.size := by have := HLT.out; omega
    obtain ⟨x0, x1, x2, x3, x4⟩ := box5_cells HG8.out (below1 w8 (.cells #[.int .i64 kind, .string label, .slice a len cap, .int .i64 lo', .int .i64 hi'] 25))
    go_wp2_with (go_at_call 22; fail)
    clear x0 x1 x2 x3 x4 hne1 hne2
    clear z0 z1 z2 z3 z4 f0 f1 f2 f3 f4 g0 g1 g2 g3 g4 c0 c1 c2 c3 c4 d0 d1 d2 d3 d4
    have hb10 := below_set5 (w2 := w8.alloc (.cells #[.int .i64 kind, .string label, .slice a len cap, .int .i64 lo', .int .i64 hi'] 25)) (below_step HB8.out (below1 w8 _)) (by have := HLT.out; omega : w.heap.size ≤ g) (.int .i64 6) (.string ⟨#[]⟩) (.slice (some ⟨w8.heap.size, 0, none⟩) 1 1) (.int .i64 0) (.int .i64 0)
    obtain ⟨hs6, hs7⟩ := st5 (HN8.out (.cells #[.int .i64 kind, .string label, .slice a len cap, .int .i64 lo', .int .i64 hi'] 25)) (.int .i64 6) (.string ⟨#[]⟩) (.slice (some ⟨w8.heap.size, 0, none⟩) 1 1) (.int .i64 0) (.int .i64 0)
    generalize (((((w8.alloc (.cells #[.int .i64 kind, .string label, .slice a len cap, .int .i64 lo', .int .i64 hi'] 25)).setCell ⟨g, 0, none⟩ (.int .i64 6)).setCell ⟨g, 1, none⟩ (.string ⟨#[]⟩)).setCell ⟨g, 2, none⟩ (.slice (some ⟨w8.heap.size, 0, none⟩) 1 1)).setCell ⟨g, 3, none⟩ (.int .i64 0)).setCell ⟨g, 4, none⟩ (.int .i64 0) = W10 at hb10 hs6 hs7 ⊢
    have HB10 : Hid (Below w.heap.size w W10) := hb10
    have HP10 : Hid (W10.heap[g]? = some (.cells #[.int .i64 6, .string ⟨#[]⟩, .slice (some ⟨w8.heap.size, 0, none⟩) 1 1, .int .i64 0, .int .i64 0] 25)) := hs6
    have HG10 : Hid (W10.heap[w.heap.size]? = some (.cells #[.int .i64 kind, .string label, .slice a len cap, .int .i64 lo', .int .i64 hi'] 25)) := hs7.heap (((below1 w8 (.cells #[.int .i64 kind, .string label, .slice a len cap, .int .i64 lo', .int .i64 hi'] 25)).block _ (lt_of_heap HG8.out)).trans HG8.out) (fun h => by have h : w.heap.size = g := h; have := HLT.out; omega)
    have HH10 : Hid (W10.heap[w.heap.size + 1]? = some (.cells #[.int .i64 kind2, .string label2, .slice a2 len2 cap2, .int .i64 lo2, .int .i64 hi2] 25)) := hs7.heap (((below1 w8 (.cells #[.int .i64 kind, .string label, .slice a len cap, .int .i64 lo', .int .i64 hi'] 25)).block _ (lt_of_heap HH8.out)).trans HH8.out) (fun h => by have h : w.heap.size + 1 = g := h; have := HLT.out; omega)
    have HT10 : Hid (IsP (fun _ => True) W10 ⟨6, ⟨#[]⟩, some ⟨w8.heap.size, 0, none⟩, 1, 1, 0, 0⟩ (PT.mk 6 [] [t] 0 0)) := by
      have hkb := hs7.heap (heap_new1 w8 (.cells #[.int .i64 kind, .string label, .slice a len cap, .int .i64 lo', .int .i64 hi'] 25)) (fun h => by have h : w8.heap.size = g := h; have := lt_of_heap HZ8.out; omega)
      have hi := (HI8.out.bel (below1 w8 (.cells #[.int .i64 kind, .string label, .slice a len cap, .int .i64 lo', .int .i64 hi'] 25))).kp hs7 (fun v hv h => by have h : v = g := h; have := hv.2; omega) fun _ _ h => h
      have hj := (HJ8.out.bel (below1 w8 (.cells #[.int .i64 kind, .string label, .slice a len cap, .int .i64 lo', .int .i64 hi'] 25))).kp hs7 (fun v hv h => by have h : v = g := h; have := hv.2; omega) fun _ _ h => h
      exact isp_one 6 w8.heap.size ⟨kind, label, a, len, cap, lo', hi'⟩ t _ hkb (hi.mono fun _ _ => trivial) trivial
    clear hb10 hs6 hs7 HN8 HZ8 HI8 HJ8 HG8 HH8 HB8
    refine (wrap_any t ⟨kind, label, a, len, cap, lo', hi'⟩ W10 false HK1.out HL1.out).mono ?_
    rintro e w11 ⟨rfl, b⟩
    have HB11 : Hid (Below w.heap.size w w11) := below_step HB10.out b
    have HP11 : Hid (w11.heap[g]? = some (.cells #[.int .i64 6, .string ⟨#[]⟩, .slice (some ⟨w8.heap.size, 0, none⟩) 1 1, .int .i64 0, .int .i64 0] 25)) := (b.block _ (lt_of_heap HP10.out)).trans HP10.out
    have HT11 : Hid (IsP (fun _ => True) w11 ⟨6, ⟨#[]⟩, some ⟨w8.heap.size, 0, none⟩, 1, 1, 0, 0⟩ (PT.mk 6 [] [t] 0 0)) := HT10.out.bel b
    clear b HB10 HP10 HT10
    clear HG10 HH10
    have q0 := cell_of_row _ _ 0 _ _ _ HP11.out
    have q1 := cell_of_row _ _ 1 _ _ _ HP11.out
    have q2 := cell_of_row _ _ 2 _ _ _ HP11.out
    have q3 := cell_of_row _ _ 3 _ _ _ HP11.out
    have q4 := cell_of_row _ _ 4 _ _ _ HP11.out
    simp only [List.getElem?_toArray, List.getElem?_cons_zero, List.getElem?_cons_succ] at q0 q1 q2 q3 q4
    go_wp2_with (go_at_call 16; fail)
    clear q0 q1 q2 q3 q4
    refine (chk_any (PT.mk 6 [] [t] 0 0) _ w11 ⟨6, ⟨#[]⟩, some ⟨w8.heap.size, 0, none⟩, 1, 1, 0, 0⟩ HT11.out).mono ?_
    rintro e w21 ⟨rfl, b⟩
    have HB21 : Hid (Below w.heap.size w w21) := below_step HB11.out b
    have HP21 : Hid (w21.heap[g]? = some (.cells #[.int .i64 6, .string ⟨#[]⟩, .slice (some ⟨w8.heap.size, 0, none⟩) 1 1, .int .i64 0, .int .i64 0] 25)) := (b.block _ (lt_of_heap HP11.out)).trans HP11.out
    have HT21 : Hid (IsP (fun _ => True) w21 ⟨6, ⟨#[]⟩, some ⟨w8.heap.size, 0, none⟩, 1, 1, 0, 0⟩ (PT.mk 6 [] [t] 0 0)) := HT11.out.bel b
    clear b HB11 HP11 HT11
    have p0 := cell_of_row _ _ 0 _ _ _ HP21.out
    have p1 := cell_of_row _ _ 1 _ _ _ HP21.out
    have p2 := cell_of_row _ _ 2 _ _ _ HP21.out
    have p3 := cell_of_row _ _ 3 _ _ _ HP21.out
    have p4 := cell_of_row _ _ 4 _ _ _ HP21.out
    simp only [List.getElem?_toArray, List.getElem?_cons_zero, List.getElem?_cons_succ] at p0 p1 p2 p3 p4
    have htx : txt (PT.mk 6 [] [t] 0 0) = if chk (PT.mk 6 [] [t] 0 0) = 0 then tx (PT.mk 6 [] [t] 0 0) else [] := rfl
    by_cases hp : chk (PT.mk 6 [] [t] 0 0) = 0
    case neg =>
      have hp' : (chk (PT.mk 6 [] [t] 0 0) != 0) = true := by simpa using hp
      rw [if_neg hp] at htx
      have HTT : Hid (Calls _ _ _ _ _) := text_any (PT.mk 6 [] [t] 0 0) _ w21 ⟨6, ⟨#[]⟩, some ⟨w8.heap.size, 0, none⟩, 1, 1, 0, 0⟩ HT21.out
      rw [htx, show str [] = ⟨#[]⟩ from rfl] at HTT
      generalize chk (PT.mk 6 [] [t] 0 0) = cc at hp' ⊢
      clear htx hp
      go_wp2_with (go_at_call 15; fail)
      refine HTT.out.mono ?_
      rintro e w22 ⟨rfl, b⟩
      have HB22 : Hid (Below w.heap.size w w22) := below_step HB21.out b
      clear b p0 p1 p2 p3 p4
      go_wp2_with (go_at_call 8; fail)
      refine (awake_any C _ lo (HENV.out.below HB22.out)).mono ?_
      rintro e wz ⟨rfl, bz⟩
      have HBZ : Hid (Below w.heap.size w wz) := below_step HB22.out bz
      clear bz
      go_wp2
      go_ret
      exact ⟨rfl, HBZ.out⟩
    rw [if_pos hp] at htx
    have HTT : Hid (Calls _ _ _ _ _) := text_any (PT.mk 6 [] [t] 0 0) _ w21 ⟨6, ⟨#[]⟩, some ⟨w8.heap.size, 0, none⟩, 1, 1, 0, 0⟩ HT21.out
    rw [htx, HE1.out] at HTT
    rw [hp]
    clear htx hp
    go_wp2_with (go_at_call 15; fail)
    refine HTT.out.mono ?_
    rintro e w22 ⟨rfl, b⟩
    have HB22 : Hid (Below w.heap.size w w22) := below_step HB21.out b
    clear b p0 p1 p2 p3 p4
    go_wp2_with (go_at_call 8; fail)
    refine (awake_any C _ lo (HENV.out.below HB22.out)).mono ?_
    rintro e wz ⟨rfl, bz⟩
    have HBZ : Hid (Below w.heap.size w wz) := below_step HB22.out bz
    clear bz
    go_wp2
    go_ret
    exact ⟨rfl, HBZ.out⟩
end Go.Proofs.YtbgkfjelgnbfmaaGreatDoor
