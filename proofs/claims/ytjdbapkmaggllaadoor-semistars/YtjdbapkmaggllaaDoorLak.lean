/- The laws' awake. -/
import Derived.Test.YtjdbapkmaggllaaDoorLhp
namespace Go.Proofs.YtjdbapkmaggllaaDoor
open Go.RowKit Fo
set_option maxRecDepth 100000

theorem star_of (w : World) (v : Value) (s : Int) (P : Option Nat) (h : VOk w v s P) : Calls Tryd.prog 8 #[v] w fun e w' => (∃ u, e = .returned (.tuple #[u, .int .i64 0]) ∧ VOut w' u s (pstar s P)) ∧ Below w.heap.size w w' := by
  obtain ⟨V, h1, m, rfl, rfl⟩ := h
  exact star_ok w v V h1 m
theorem text_count (w : World) (v : Value) (N : Nat) (l : List UInt8) (h : VOk w v 1 (some N)) (hl : otext (some N) = l) (henv : Env w) : Calls Tryd.prog 18 #[v] w fun e w' => e = .returned (.string ⟨l.toArray⟩) ∧ Below w.heap.size w w' := by
  obtain ⟨V, h1, m, e1, e2⟩ := h
  rw [den_nat (Or.inl e1)] at e2
  exact vtext_count w v V h1 l e1 m (by rw [e2]; exact hl) henv
set_option maxHeartbeats 16000000 in
/-- THE LAWS' AWAKE. -/
theorem vawake_any (w : World) (henv : Env w) : Calls Tryd.prog 7 #[] w fun e w' => e = .returned (.bool true) ∧ Below w.heap.size w w' := by
  have hsf := st_flo
  have HEnv : Hid (Env w) := henv
  have C1 := vone_any 1 w (Or.inl rfl)
  clear henv
  go_enter Tryd.func7, Tryd.ntmps7
  go_wp2_with (go_at_call 10; fail)
  refine C1.mono ?_
  rintro e w1 ⟨⟨u, rfl, o⟩, b⟩
  clear C1
  have HB : Hid (Below w.heap.size w w1) := b
  clear b
  obtain ⟨s, i, a, n, c, l, x, rfl⟩ := o.form
  obtain ⟨W1, hW1⟩ : ∃ W1, W1 = w1.alloc (.cells #[.int .i64 s, .bool i, .slice a n c, .int .i64 l, .float .f64 x] 27) := ⟨_, rfl⟩
  have HB1 : Hid (Below w.heap.size w W1) := by show Below _ _ W1; rw [hW1]; exact HB.out.alloc HB.out.size _
  have Hg1 : Hid (W1.heap[w1.heap.size]? = some (.cells #[.int .i64 s, .bool i, .slice a n c, .int .i64 l, .float .f64 x] 27)) := by show W1.heap[w1.heap.size]? = _; rw [hW1]; exact heap_alloc_new _ _
  have O1 : Hid (VOk W1 (.agg #[.int .i64 s, .bool i, .slice a n c, .int .i64 l, .float .f64 x]) 1 (some 1)) := by show VOk W1 _ _ _; rw [hW1]; exact (o.ok (pone_short 1)).below (below1 _ _)
  clear o HB
  go_wp2_with (go_at_call 8; fail)
  rw [← hW1]
  clear hW1
  refine (star_of _ _ 1 (some 1) (by exact O1.out)).mono ?_
  rintro e w2 ⟨⟨u2, rfl, o2⟩, b⟩
  obtain ⟨a2, c2, rfl⟩ : ∃ a2 c2, u2 = .agg #[.int .i64 1, .bool true, .slice a2 0 c2, .int .i64 0, .float .f64 0] := by
    rcases o2 with ⟨-, i, a, n, c, rfl, h⟩ | ⟨h, -⟩ | ⟨h, -⟩
    · rcases h with ⟨-, a', c', e, -⟩ | ⟨N, a', c', e, -⟩
      · simp at e
        obtain ⟨rfl, rfl, rfl, rfl⟩ := e
        exact ⟨_, _, rfl⟩
      · cases e
    · exact absurd h (by decide)
    · exact absurd h (by decide)
  clear o2
  have HW : Hid (Below W1.heap.size W1 w2) := b
  clear b
  go_wp2_with (go_at_call 17; fail)
  obtain ⟨W2, hW2⟩ : ∃ W2, W2 = w2.alloc (.cells #[.int .i64 1, .bool true, .slice a2 0 c2, .int .i64 0, .float .f64 0] 27) := ⟨_, rfl⟩
  rw [← hW2]
  have HW2 : Hid (Below W1.heap.size W1 W2) := by show Below _ _ W2; rw [hW2]; exact HW.out.alloc HW.out.size _
  have Hg2 : Hid (W2.heap[w2.heap.size]? = some (.cells #[.int .i64 1, .bool true, .slice a2 0 c2, .int .i64 0, .float .f64 0] 27)) := by show W2.heap[w2.heap.size]? = _; rw [hW2]; exact heap_alloc_new _ _
  clear hW2 HW
  refine (vzero_not 0 _ (by unfold isSem; omega)).mono ?_
  rintro e w3 ⟨rfl, b⟩
  unfold noV
  have HW3 : Hid (Below W1.heap.size W1 w3) := below_step HW2.out b
  obtain ⟨p0, p1, p2, p3, p4⟩ := box5 Hg1.out HW3.out
  obtain ⟨q0, q1, q2, q3, q4⟩ := box5 Hg2.out b
  clear b
  have l1 : w1.heap.size < w3.heap.size := World.block_lt_of_cell? w3 _ p0
  have l2 : w2.heap.size < w3.heap.size := World.block_lt_of_cell? w3 _ q0
  go_wp2_with (go_at_call 18; fail)
  refine (text_count _ _ 1 [49] (by exact O1.out.below (HW3.out.alloc HW3.out.size _)) text_one (by exact HEnv.out.below (below_step HB1.out (HW3.out.alloc HW3.out.size _)))).mono ?_
  rintro e w4 ⟨rfl, b⟩
  have HW4 : Hid (Below W1.heap.size W1 w4) := below_step (HW3.out.alloc HW3.out.size _) b
  clear b
  go_wp2
  go_ret
  exact ⟨rfl, below_step HB1.out HW4.out⟩
end Go.Proofs.YtjdbapkmaggllaaDoor
