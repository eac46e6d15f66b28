/- What is wrong with a path; how great it is (the rest). -/
import Derived.Test.YtbgkfjelgnbfmaaGreatDoorPck
namespace Go.Proofs.YtbgkfjelgnbfmaaGreatDoor
open Go.RowKit Fo
set_option maxRecDepth 100000
set_option linter.unusedSimpArgs false
set_option linter.unusedVariables false

set_option maxHeartbeats 4000000 in
theorem mrp_any (w : World) (lo hi : Int) : Calls Tryz.prog 77 #[.int .i64 lo, .int .i64 hi] w fun e w' => e = .returned (.bool (repOK lo hi)) ∧ w' = w := by
  by_cases h1 : lo < 0
  · have hr : repOK lo hi = false := by unfold repOK; simp [h1]
    rw [hr]
    go_enter Tryz.func77, Tryz.ntmps77
    go_wp2
    go_ret
    exact ⟨rfl, rfl⟩
  by_cases h2 : 8 < lo
  · have hr : repOK lo hi = false := by unfold repOK; simp [h2]
    rw [hr]
    go_enter Tryz.func77, Tryz.ntmps77
    go_wp2
    go_ret
    exact ⟨rfl, rfl⟩
  by_cases h3 : hi = -1
  · have hr : repOK lo hi = true := by unfold repOK; simp [h1, h2, h3]
    have h3' : (hi == -1) = true := by simp [h3]
    subst h3
    rw [hr]
    go_enter Tryz.func77, Tryz.ntmps77
    go_wp2
    go_ret
    exact ⟨rfl, rfl⟩
  have h3' : (hi == -1) = false := by simp [h3]
  by_cases h4 : lo < 1
  · by_cases h5 : 1 ≤ hi
    · by_cases h6 : hi ≤ 8
      · have hr : repOK lo hi = true := by unfold repOK; simp [h1, h2, h3, h6]; omega
        rw [hr]
        go_enter Tryz.func77, Tryz.ntmps77
        go_wp2
        go_ret
        exact ⟨rfl, rfl⟩
      · have hr : repOK lo hi = false := by unfold repOK; simp [h1, h2, h3, h6]
        rw [hr]
        go_enter Tryz.func77, Tryz.ntmps77
        go_wp2
        go_ret
        exact ⟨rfl, rfl⟩
    · have hr : repOK lo hi = false := by unfold repOK; simp [h1, h2, h3]; omega
      rw [hr]
      go_enter Tryz.func77, Tryz.ntmps77
      go_wp2
      go_ret
      exact ⟨rfl, rfl⟩
  · by_cases h5 : lo ≤ hi
    · by_cases h6 : hi ≤ 8
      · have hr : repOK lo hi = true := by unfold repOK; simp [h1, h2, h3, h6]; omega
        rw [hr]
        go_enter Tryz.func77, Tryz.ntmps77
        go_wp2
        go_ret
        exact ⟨rfl, rfl⟩
      · have hr : repOK lo hi = false := by unfold repOK; simp [h1, h2, h3, h6]
        rw [hr]
        go_enter Tryz.func77, Tryz.ntmps77
        go_wp2
        go_ret
        exact ⟨rfl, rfl⟩
    · have hr : repOK lo hi = false := by unfold repOK; simp [h1, h2, h3]; omega
      rw [hr]
      go_enter Tryz.func77, Tryz.ntmps77
      go_wp2
      go_ret
      exact ⟨rfl, rfl⟩
theorem mlb_any (w : World) (l : ByteArray) : Calls Tryz.prog 76 #[.string l] w fun e w' => e = .returned (.bool (labOK l.data.toList)) ∧ w' = w := by
  have hs : l.data.toList.length = l.size := by rw [Array.length_toList]; rfl
  have hr : labOK l.data.toList = (decide (1 ≤ l.size) && decide (l.size ≤ 20)) := by unfold labOK; rw [hs]
  rw [hr]
  clear hr hs
  generalize hn : l.size = n
  by_cases h1 : 1 ≤ n
  · have g1 : (1 : Int) ≤ (l.size : Int) := by omega
    by_cases h2 : n ≤ 20
    · have g2 : (l.size : Int) ≤ 20 := by omega
      simp only [h1, h2, decide_true, Bool.and_true]
      go_enter Tryz.func76, Tryz.ntmps76
      go_wp2
      go_ret
      exact ⟨ret_bool (by first | rfl | (simp; omega)), rfl⟩
    · have g2 : ¬ (l.size : Int) ≤ 20 := by omega
      simp only [h1, h2, decide_true, decide_false, Bool.and_false]
      go_enter Tryz.func76, Tryz.ntmps76
      go_wp2
      go_ret
      exact ⟨ret_bool (by first | rfl | (simp; omega)), rfl⟩
  · have g1 : ¬ (1 : Int) ≤ (l.size : Int) := by omega
    simp only [h1, decide_false, Bool.false_and]
    go_enter Tryz.func76, Tryz.ntmps76
    go_wp2
    go_ret
    exact ⟨rfl, rfl⟩
theorem hlb_any (w : World) (k : Int) : Calls Tryz.prog 58 #[.int .i64 k] w fun e w' => e = .returned (.bool (edge k)) ∧ w' = w := by
  by_cases h1 : k = 2
  · subst h1
    go_enter Tryz.func58, Tryz.ntmps58
    go_wp2
    go_ret
    exact ⟨rfl, rfl⟩
  by_cases h2 : k = 3
  · subst h2
    go_enter Tryz.func58, Tryz.ntmps58
    go_wp2
    go_ret
    exact ⟨rfl, rfl⟩
  have g1 : (k == 2) = false := by simp [h1]
  have g2 : (k == 3) = false := by simp [h2]
  go_enter Tryz.func58, Tryz.ntmps58
  go_wp2
  go_ret
  exact ⟨ret_bool (by simp [edge, h1, h2]), rfl⟩
set_option maxHeartbeats 4000000 in
theorem cka_any (F : Nat → Prop) (w : World) (x : PV) (k : Int) (l : List UInt8) (ks : List PT) (lo hi : Int) (hp : IsP F w x (.mk k l ks lo hi)) :
    Calls Tryz.prog 55 #[x.v] w fun e w' => e = .returned (.int .i64 (alone k l ks lo hi)) ∧ Below w.heap.size w w' := by
  obtain ⟨q1, q2, q3, q4, q5, V, hr, hk⟩ := open_tree hp
  obtain ⟨kind, label, a, len, cap, lo', hi'⟩ := x
  unfold PV.v
  simp only at q1 q2 q3 q4 q5 hr ⊢
  subst q1 q3 q4 q5
  have hl2 : l = label.data.toList := by rw [q2]
  subst hl2
  clear q2 hp
  obtain ⟨W1, hW1⟩ : ∃ W1, W1 = w.alloc (.cells #[.int .i64 kind, .string label, .slice a ks.length cap, .int .i64 lo', .int .i64 hi'] 25) := ⟨_, rfl⟩
  have HBW1 : Hid (Below w.heap.size w W1) := by rw [hW1]; exact below1 w _
  have HGW1 : Hid (W1.heap[w.heap.size]? = some (.cells #[.int .i64 kind, .string label, .slice a ks.length cap, .int .i64 lo', .int .i64 hi'] 25)) := by show W1.heap[_]? = _; rw [hW1]; exact heap_new1 w _
  have C1 : Hid (Calls Tryz.prog 75 #[.int .i64 kind, .slice a ks.length cap] W1 fun e w' => e = .returned (.bool (kidsOK kind ks)) ∧ Below W1.heap.size W1 w') := mhk_any F W1 V ks a cap kind (hr.kp (Kp.of_below (F := fun _ => False) HBW1.out) (fun _ _ h => h) fun _ _ h => h) fun j h => (hk j h).kp (Kp.of_below (F := fun _ => False) HBW1.out) (fun _ _ h => h) fun _ _ h => h
  have HAL : Hid (alone kind label.data.toList ks lo' hi' = if kidsOK kind ks = false then 1 else if edge kind = true ∧ labOK label.data.toList = false then 2 else if kind = 9 ∧ repOK lo' hi' = false then 1 else 0) := rfl
  clear hr hk
  generalize alone kind label.data.toList ks lo' hi' = R at HAL ⊢
  generalize kidsOK kind ks = b1 at C1 HAL
  go_enter Tryz.func55, Tryz.ntmps55
  go_wp2_with (go_at_call 75; fail)
  rw [← hW1]
  clear hW1
  refine C1.out.mono ?_
  rintro e w2 ⟨rfl, b2⟩
  have HB2 : Hid (Below w.heap.size w w2) := below_step HBW1.out b2
  have HG2 : w2.heap[w.heap.size]? = some (.cells #[.int .i64 kind, .string label, .slice a ks.length cap, .int .i64 lo', .int .i64 hi'] 25) := (b2.block _ (lt_of_heap HGW1.out)).trans HGW1.out
  have d0 := cell_of_row _ _ 0 _ _ _ HG2
  have d1 := cell_of_row _ _ 1 _ _ _ HG2
  have d3 := cell_of_row _ _ 3 _ _ _ HG2
  have d4 := cell_of_row _ _ 4 _ _ _ HG2
  simp only [List.getElem?_toArray, List.getElem?_cons_zero, List.getElem?_cons_succ] at d0 d1 d3 d4
  clear b2 HG2 C1
  cases b1
  · skip
    go_wp2
    go_ret
    exact ⟨ret_int (by rw [HAL.out]; simp), HB2.out⟩
  go_wp2_with (go_at_call 58; refine (hlb_any _ _).mono ?_; rintro e wl ⟨rfl, rfl⟩; fail)
  refine (hlb_any _ _).mono ?_
  rintro e wl ⟨rfl, rfl⟩
  by_cases he : edge kind = true
  · rw [he]
    have h9 : kind ≠ 9 := by rintro rfl; cases he
    have h9' : (kind == 9) = false := by simp [h9]
    go_wp2_with (go_at_call 76; fail)
    refine (mlb_any _ _).mono ?_
    rintro e w3 ⟨rfl, rfl⟩
    generalize labOK label.data.toList = b2 at HAL
    cases b2
    · skip
      go_wp2
      go_ret
      exact ⟨ret_int (by rw [HAL.out]; simp [he]), HB2.out⟩
    · skip
      go_wp2
      go_ret
      exact ⟨ret_int (by rw [HAL.out]; simp [h9]), HB2.out⟩
  · have he' : edge kind = false := by simpa using he
    rw [he']
    by_cases h9 : kind = 9
    · subst h9
      go_wp2_with (go_at_call 77; fail)
      refine (mrp_any _ _ _).mono ?_
      rintro e w3 ⟨rfl, rfl⟩
      generalize repOK lo' hi' = b2 at HAL
      cases b2
      · skip
        go_wp2
        go_ret
        exact ⟨ret_int (by rw [HAL.out]; simp [he']), HB2.out⟩
      · skip
        go_wp2
        go_ret
        exact ⟨ret_int (by rw [HAL.out]; simp [he']), HB2.out⟩
    · have h9' : (kind == 9) = false := by simp [h9]
      go_wp2
      go_ret
      exact ⟨ret_int (by rw [HAL.out]; simp [he', h9]), HB2.out⟩
end Go.Proofs.YtbgkfjelgnbfmaaGreatDoor
