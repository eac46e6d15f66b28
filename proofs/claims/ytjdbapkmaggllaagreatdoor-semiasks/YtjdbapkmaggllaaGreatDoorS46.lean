/- The document's own Zero and One. -/
import Derived.Test.YtjdbapkmaggllaaGreatDoorS44
import Derived.Test.YtjdbapkmaggllaaGreatDoorS45
namespace Go.Proofs.YtjdbapkmaggllaaGreatDoor
open Go.RowKit Fo
set_option maxRecDepth 100000

theorem rzero1 (w : World) : Calls Tryz.prog 9 #[.int .i64 1] w fun e w' => (∃ u, e = .returned (.tuple #[u, .int .i64 0]) ∧ VOut w' u 1 (some 0)) ∧ Below w.heap.size w w' := by
  have hsf := st_flo
  have HB : Hid (Below w.heap.size w (w.alloc (.cells #[.int .i64 0, .bool false, .slice none 0 0, .int .i64 0, .float .f64 0] 27))) := below1 w _
  have hg2 : (w.alloc (.cells #[.int .i64 0, .bool false, .slice none 0 0, .int .i64 0, .float .f64 0] 27)).heap[w.heap.size]? = some (.cells #[.int .i64 0, .bool false, .slice none 0 0, .int .i64 0, .float .f64 0] 27) := heap_alloc_new _ _
  obtain ⟨⟨z0, z1, z2, z3, z4⟩, ⟨f0, f1, f2, f3, f4⟩, s0, s1, s2, s3, s4⟩ := box5_facts hg2
  clear hg2
  go_enter Tryz.func9, Tryz.ntmps9
  go_wp2
  refine bodyPost_ret (v := .tuple #[.agg #[.int .i64 1, .bool false, .slice none 0 0, .int .i64 0, .float .f64 0], .int .i64 0]) (by simp [results, Tryz.results9, go_sem]) rfl ?_
  exact ⟨⟨_, rfl, Or.inl ⟨by decide, _, _, _, _, rfl, nout_zero _⟩⟩, below1 _ _⟩
theorem rzero2 (w : World) : Calls Tryz.prog 9 #[.int .i64 2] w fun e w' => (∃ u, e = .returned (.tuple #[u, .int .i64 0]) ∧ VOut w' u 2 (some 0)) ∧ Below w.heap.size w w' := by
  have hsf := st_flo
  have HB : Hid (Below w.heap.size w (w.alloc (.cells #[.int .i64 0, .bool false, .slice none 0 0, .int .i64 0, .float .f64 0] 27))) := below1 w _
  have hg2 : (w.alloc (.cells #[.int .i64 0, .bool false, .slice none 0 0, .int .i64 0, .float .f64 0] 27)).heap[w.heap.size]? = some (.cells #[.int .i64 0, .bool false, .slice none 0 0, .int .i64 0, .float .f64 0] 27) := heap_alloc_new _ _
  obtain ⟨⟨z0, z1, z2, z3, z4⟩, ⟨f0, f1, f2, f3, f4⟩, s0, s1, s2, s3, s4⟩ := box5_facts hg2
  clear hg2
  go_enter Tryz.func9, Tryz.ntmps9
  go_wp2
  refine bodyPost_ret (v := .tuple #[.agg #[.int .i64 2, .bool false, .slice none 0 0, .int .i64 0, .float .f64 0], .int .i64 0]) (by simp [results, Tryz.results9, go_sem]) rfl ?_
  exact ⟨⟨_, rfl, Or.inr (Or.inl ⟨by decide, 0, rfl, by decide, rfl⟩)⟩, below1 _ _⟩
theorem rzero3 (w : World) : Calls Tryz.prog 9 #[.int .i64 3] w fun e w' => (∃ u, e = .returned (.tuple #[u, .int .i64 0]) ∧ VOut w' u 3 (none)) ∧ Below w.heap.size w w' := by
  have hsf := st_flo
  have HB : Hid (Below w.heap.size w (w.alloc (.cells #[.int .i64 0, .bool false, .slice none 0 0, .int .i64 0, .float .f64 0] 27))) := below1 w _
  have hg2 : (w.alloc (.cells #[.int .i64 0, .bool false, .slice none 0 0, .int .i64 0, .float .f64 0] 27)).heap[w.heap.size]? = some (.cells #[.int .i64 0, .bool false, .slice none 0 0, .int .i64 0, .float .f64 0] 27) := heap_alloc_new _ _
  obtain ⟨⟨z0, z1, z2, z3, z4⟩, ⟨f0, f1, f2, f3, f4⟩, s0, s1, s2, s3, s4⟩ := box5_facts hg2
  clear hg2
  go_enter Tryz.func9, Tryz.ntmps9
  go_wp2
  refine bodyPost_ret (v := .tuple #[.agg #[.int .i64 3, .bool true, .slice none 0 0, .int .i64 0, .float .f64 0], .int .i64 0]) (by simp [results, Tryz.results9, go_sem]) rfl ?_
  exact ⟨⟨_, rfl, Or.inl ⟨by decide, _, _, _, _, rfl, nout_inf _⟩⟩, below1 _ _⟩
theorem rzero4 (w : World) : Calls Tryz.prog 9 #[.int .i64 4] w fun e w' => (∃ u, e = .returned (.tuple #[u, .int .i64 0]) ∧ VOut w' u 4 (some 0)) ∧ Below w.heap.size w w' := by
  have hsf := st_flo
  have HB : Hid (Below w.heap.size w (w.alloc (.cells #[.int .i64 0, .bool false, .slice none 0 0, .int .i64 0, .float .f64 0] 27))) := below1 w _
  have hg2 : (w.alloc (.cells #[.int .i64 0, .bool false, .slice none 0 0, .int .i64 0, .float .f64 0] 27)).heap[w.heap.size]? = some (.cells #[.int .i64 0, .bool false, .slice none 0 0, .int .i64 0, .float .f64 0] 27) := heap_alloc_new _ _
  obtain ⟨⟨z0, z1, z2, z3, z4⟩, ⟨f0, f1, f2, f3, f4⟩, s0, s1, s2, s3, s4⟩ := box5_facts hg2
  clear hg2
  go_enter Tryz.func9, Tryz.ntmps9
  go_wp2
  refine bodyPost_ret (v := .tuple #[.agg #[.int .i64 4, .bool false, .slice none 0 0, .int .i64 0, .float .f64 0], .int .i64 0]) (by simp [results, Tryz.results9, go_sem]) rfl ?_
  exact ⟨⟨_, rfl, Or.inr (Or.inl ⟨by decide, 0, rfl, by decide, rfl⟩)⟩, below1 _ _⟩
theorem rzero5 (w : World) : Calls Tryz.prog 9 #[.int .i64 5] w fun e w' => (∃ u, e = .returned (.tuple #[u, .int .i64 0]) ∧ VOut w' u 5 (some 0)) ∧ Below w.heap.size w w' := by
  have hsf := st_flo
  have HB : Hid (Below w.heap.size w (w.alloc (.cells #[.int .i64 0, .bool false, .slice none 0 0, .int .i64 0, .float .f64 0] 27))) := below1 w _
  have hg2 : (w.alloc (.cells #[.int .i64 0, .bool false, .slice none 0 0, .int .i64 0, .float .f64 0] 27)).heap[w.heap.size]? = some (.cells #[.int .i64 0, .bool false, .slice none 0 0, .int .i64 0, .float .f64 0] 27) := heap_alloc_new _ _
  obtain ⟨⟨z0, z1, z2, z3, z4⟩, ⟨f0, f1, f2, f3, f4⟩, s0, s1, s2, s3, s4⟩ := box5_facts hg2
  clear hg2
  go_enter Tryz.func9, Tryz.ntmps9
  go_wp2
  refine bodyPost_ret (v := .tuple #[.agg #[.int .i64 5, .bool false, .slice none 0 0, .int .i64 0, .float .f64 0], .int .i64 0]) (by simp [results, Tryz.results9, go_sem]) rfl ?_
  exact ⟨⟨_, rfl, Or.inr (Or.inr ⟨by decide, 0, rfl, by decide, rfl⟩)⟩, below1 _ _⟩
theorem rzero6 (w : World) : Calls Tryz.prog 9 #[.int .i64 6] w fun e w' => (∃ u, e = .returned (.tuple #[u, .int .i64 0]) ∧ VOut w' u 6 (some 9218868437227405312)) ∧ Below w.heap.size w w' := by
  have hsf := st_flo
  have hg2 : (w.alloc (.cells #[.int .i64 0, .bool false, .slice none 0 0, .int .i64 0, .float .f64 0] 27)).heap[w.heap.size]? = some (.cells #[.int .i64 0, .bool false, .slice none 0 0, .int .i64 0, .float .f64 0] 27) := heap_alloc_new _ _
  obtain ⟨⟨z0, z1, z2, z3, z4⟩, ⟨f0, f1, f2, f3, f4⟩, s0, s1, s2, s3, s4⟩ := box5_facts hg2
  clear hg2
  go_enter Tryz.func9, Tryz.ntmps9
  go_wp2_with (go_at_call 38; refine (Fl.rof_inf _).mono ?_; rintro e w' ⟨rfl, hw⟩; replace hw := hw.symm; subst hw)
  refine bodyPost_ret (v := .tuple #[.agg #[.int .i64 6, .bool false, .slice none 0 0, .int .i64 0, .float .f64 9218868437227405312], .int .i64 0]) (by simp [results, Tryz.results9, go_sem]) rfl ?_
  exact ⟨⟨_, rfl, Or.inr (Or.inr ⟨by decide, 9218868437227405312, rfl, by decide, rfl⟩)⟩, below1 _ _⟩
theorem rone1 (w : World) : Calls Tryz.prog 11 #[.int .i64 1] w fun e w' => (∃ u, e = .returned (.tuple #[u, .int .i64 0]) ∧ VOut w' u 1 (some 1)) ∧ Below w.heap.size w w' := by
  have hsf := st_flo
  have HB : Hid (Below w.heap.size w (w.alloc (.cells #[.int .i64 0, .bool false, .slice none 0 0, .int .i64 0, .float .f64 0] 27))) := below1 w _
  have Hg : Hid ((w.alloc (.cells #[.int .i64 0, .bool false, .slice none 0 0, .int .i64 0, .float .f64 0] 27)).heap[w.heap.size]? = some (.cells #[.int .i64 0, .bool false, .slice none 0 0, .int .i64 0, .float .f64 0] 27)) := heap_alloc_new _ _
  go_enter Tryz.func11, Tryz.ntmps11
  go_wp2_with (go_at_call 40; fail)
  refine (rof_any 1 (by decide) _).mono ?_
  rintro e w2 ⟨⟨u, rfl, o⟩, b⟩
  obtain ⟨i, a, n, c, rfl, -, -, -⟩ := o.form
  have O : Hid (NOut w2 (.agg #[.bool i, .slice a n c]) (some 1)) := o
  clear o
  have HB2 : Hid (Below (w.alloc (.cells #[.int .i64 0, .bool false, .slice none 0 0, .int .i64 0, .float .f64 0] 27)).heap.size (w.alloc (.cells #[.int .i64 0, .bool false, .slice none 0 0, .int .i64 0, .float .f64 0] 27)) w2) := b
  have hg2 := (HB2.out.block w.heap.size (by simp)).trans Hg.out
  clear b
  obtain ⟨⟨z0, z1, z2, z3, z4⟩, ⟨f0, f1, f2, f3, f4⟩, s0, s1, s2, s3, s4⟩ := box5_facts hg2
  have Hg2 : Hid (w2.heap[w.heap.size]? = _) := hg2
  clear hg2
  go_wp2
  refine bodyPost_ret (v := .tuple #[.agg #[.int .i64 1, .bool i, .slice a n c, .int .i64 0, .float .f64 0], .int .i64 0]) (by simp [results, Tryz.results11, go_sem, s0, s1, s2, s3, s4]) rfl ?_
  exact ⟨⟨_, rfl, Or.inl ⟨by decide, _, _, _, _, rfl, O.out.set5 Hg2.out _ _ _ _ _⟩⟩, below_set5 (below_step HB.out HB2.out) (Nat.le_refl _) _ _ _ _ _⟩
theorem rone2 (w : World) : Calls Tryz.prog 11 #[.int .i64 2] w fun e w' => (∃ u, e = .returned (.tuple #[u, .int .i64 0]) ∧ VOut w' u 2 (some 1)) ∧ Below w.heap.size w w' := by
  have hsf := st_flo
  have HB : Hid (Below w.heap.size w (w.alloc (.cells #[.int .i64 0, .bool false, .slice none 0 0, .int .i64 0, .float .f64 0] 27))) := below1 w _
  have hg2 : (w.alloc (.cells #[.int .i64 0, .bool false, .slice none 0 0, .int .i64 0, .float .f64 0] 27)).heap[w.heap.size]? = some (.cells #[.int .i64 0, .bool false, .slice none 0 0, .int .i64 0, .float .f64 0] 27) := heap_alloc_new _ _
  obtain ⟨⟨z0, z1, z2, z3, z4⟩, ⟨f0, f1, f2, f3, f4⟩, s0, s1, s2, s3, s4⟩ := box5_facts hg2
  clear hg2
  go_enter Tryz.func11, Tryz.ntmps11
  go_wp2
  refine bodyPost_ret (v := .tuple #[.agg #[.int .i64 2, .bool false, .slice none 0 0, .int .i64 1, .float .f64 0], .int .i64 0]) (by simp [results, Tryz.results11, go_sem]) rfl ?_
  exact ⟨⟨_, rfl, Or.inr (Or.inl ⟨by decide, 1, rfl, by decide, rfl⟩)⟩, below1 _ _⟩
theorem rone3 (w : World) : Calls Tryz.prog 11 #[.int .i64 3] w fun e w' => (∃ u, e = .returned (.tuple #[u, .int .i64 0]) ∧ VOut w' u 3 (some 0)) ∧ Below w.heap.size w w' := by
  have hsf := st_flo
  have HB : Hid (Below w.heap.size w (w.alloc (.cells #[.int .i64 0, .bool false, .slice none 0 0, .int .i64 0, .float .f64 0] 27))) := below1 w _
  have hg2 : (w.alloc (.cells #[.int .i64 0, .bool false, .slice none 0 0, .int .i64 0, .float .f64 0] 27)).heap[w.heap.size]? = some (.cells #[.int .i64 0, .bool false, .slice none 0 0, .int .i64 0, .float .f64 0] 27) := heap_alloc_new _ _
  obtain ⟨⟨z0, z1, z2, z3, z4⟩, ⟨f0, f1, f2, f3, f4⟩, s0, s1, s2, s3, s4⟩ := box5_facts hg2
  clear hg2
  go_enter Tryz.func11, Tryz.ntmps11
  go_wp2
  refine bodyPost_ret (v := .tuple #[.agg #[.int .i64 3, .bool false, .slice none 0 0, .int .i64 0, .float .f64 0], .int .i64 0]) (by simp [results, Tryz.results11, go_sem]) rfl ?_
  exact ⟨⟨_, rfl, Or.inl ⟨by decide, _, _, _, _, rfl, nout_zero _⟩⟩, below1 _ _⟩
theorem rone4 (w : World) : Calls Tryz.prog 11 #[.int .i64 4] w fun e w' => (∃ u, e = .returned (.tuple #[u, .int .i64 0]) ∧ VOut w' u 4 (some 7)) ∧ Below w.heap.size w w' := by
  have hsf := st_flo
  have HB : Hid (Below w.heap.size w (w.alloc (.cells #[.int .i64 0, .bool false, .slice none 0 0, .int .i64 0, .float .f64 0] 27))) := below1 w _
  have hg2 : (w.alloc (.cells #[.int .i64 0, .bool false, .slice none 0 0, .int .i64 0, .float .f64 0] 27)).heap[w.heap.size]? = some (.cells #[.int .i64 0, .bool false, .slice none 0 0, .int .i64 0, .float .f64 0] 27) := heap_alloc_new _ _
  obtain ⟨⟨z0, z1, z2, z3, z4⟩, ⟨f0, f1, f2, f3, f4⟩, s0, s1, s2, s3, s4⟩ := box5_facts hg2
  clear hg2
  go_enter Tryz.func11, Tryz.ntmps11
  go_wp2
  refine bodyPost_ret (v := .tuple #[.agg #[.int .i64 4, .bool false, .slice none 0 0, .int .i64 7, .float .f64 0], .int .i64 0]) (by simp [results, Tryz.results11, go_sem]) rfl ?_
  exact ⟨⟨_, rfl, Or.inr (Or.inl ⟨by decide, 7, rfl, by decide, rfl⟩)⟩, below1 _ _⟩
theorem rone5 (w : World) : Calls Tryz.prog 11 #[.int .i64 5] w fun e w' => (∃ u, e = .returned (.tuple #[u, .int .i64 0]) ∧ VOut w' u 5 (some 4607182418800017408)) ∧ Below w.heap.size w w' := by
  have hsf := st_flo
  have HB : Hid (Below w.heap.size w (w.alloc (.cells #[.int .i64 0, .bool false, .slice none 0 0, .int .i64 0, .float .f64 0] 27))) := below1 w _
  have hg2 : (w.alloc (.cells #[.int .i64 0, .bool false, .slice none 0 0, .int .i64 0, .float .f64 0] 27)).heap[w.heap.size]? = some (.cells #[.int .i64 0, .bool false, .slice none 0 0, .int .i64 0, .float .f64 0] 27) := heap_alloc_new _ _
  obtain ⟨⟨z0, z1, z2, z3, z4⟩, ⟨f0, f1, f2, f3, f4⟩, s0, s1, s2, s3, s4⟩ := box5_facts hg2
  clear hg2
  go_enter Tryz.func11, Tryz.ntmps11
  go_wp2
  refine bodyPost_ret (v := .tuple #[.agg #[.int .i64 5, .bool false, .slice none 0 0, .int .i64 0, .float .f64 4607182418800017408], .int .i64 0]) (by simp [results, Tryz.results11, go_sem]) rfl ?_
  exact ⟨⟨_, rfl, Or.inr (Or.inr ⟨by decide, 4607182418800017408, rfl, by decide, rfl⟩)⟩, below1 _ _⟩
theorem rone6 (w : World) : Calls Tryz.prog 11 #[.int .i64 6] w fun e w' => (∃ u, e = .returned (.tuple #[u, .int .i64 0]) ∧ VOut w' u 6 (some 0)) ∧ Below w.heap.size w w' := by
  have hsf := st_flo
  have HB : Hid (Below w.heap.size w (w.alloc (.cells #[.int .i64 0, .bool false, .slice none 0 0, .int .i64 0, .float .f64 0] 27))) := below1 w _
  have hg2 : (w.alloc (.cells #[.int .i64 0, .bool false, .slice none 0 0, .int .i64 0, .float .f64 0] 27)).heap[w.heap.size]? = some (.cells #[.int .i64 0, .bool false, .slice none 0 0, .int .i64 0, .float .f64 0] 27) := heap_alloc_new _ _
  obtain ⟨⟨z0, z1, z2, z3, z4⟩, ⟨f0, f1, f2, f3, f4⟩, s0, s1, s2, s3, s4⟩ := box5_facts hg2
  clear hg2
  go_enter Tryz.func11, Tryz.ntmps11
  go_wp2
  refine bodyPost_ret (v := .tuple #[.agg #[.int .i64 6, .bool false, .slice none 0 0, .int .i64 0, .float .f64 0], .int .i64 0]) (by simp [results, Tryz.results11, go_sem]) rfl ?_
  exact ⟨⟨_, rfl, Or.inr (Or.inr ⟨by decide, 0, rfl, by decide, rfl⟩)⟩, below1 _ _⟩
namespace Fo
def semE (s : Int) : Int := if s = 1 ∨ s = 2 ∨ s = 3 ∨ s = 4 ∨ s = 5 ∨ s = 6 then 0 else 9
end Fo
theorem rzero_no (s : Int) (w : World) (h1 : (s == 1) = false) (h2 : (s == 2) = false) (h3 : (s == 3) = false) (h4 : (s == 4) = false) (h5 : (s == 5) = false) (h6 : (s == 6) = false) : Calls Tryz.prog 9 #[.int .i64 s] w fun e w' => e = .returned (.tuple #[noV, .int .i64 9]) ∧ Below w.heap.size w w' := by
  have hsf := st_flo
  have HB : Hid (Below w.heap.size w (w.alloc (.cells #[.int .i64 0, .bool false, .slice none 0 0, .int .i64 0, .float .f64 0] 27))) := below1 w _
  go_enter Tryz.func9, Tryz.ntmps9
  go_wp2
  refine bodyPost_ret (v := .tuple #[noV, .int .i64 9]) (by simp [results, Tryz.results9, go_sem, noV]) rfl ?_
  exact ⟨rfl, HB.out⟩
theorem rzero_any (s : Int) (w : World) (hs : isSem s) : Calls Tryz.prog 9 #[.int .i64 s] w fun e w' => (∃ u, e = .returned (.tuple #[u, .int .i64 0]) ∧ VOut w' u s (pzero s)) ∧ Below w.heap.size w w' := by
  rcases hs with rfl | rfl | rfl | rfl | rfl | rfl
  · exact rzero1 w
  · exact rzero2 w
  · exact rzero3 w
  · exact rzero4 w
  · exact rzero5 w
  · exact rzero6 w
theorem rzero_not (s : Int) (w : World) (hs : ¬ isSem s) : Calls Tryz.prog 9 #[.int .i64 s] w fun e w' => e = .returned (.tuple #[noV, .int .i64 9]) ∧ Below w.heap.size w w' := by
  unfold isSem at hs
  exact rzero_no s w (beq_eq_false_iff_ne.2 (by omega)) (beq_eq_false_iff_ne.2 (by omega)) (beq_eq_false_iff_ne.2 (by omega)) (beq_eq_false_iff_ne.2 (by omega)) (beq_eq_false_iff_ne.2 (by omega)) (beq_eq_false_iff_ne.2 (by omega))
theorem rzero_all (s r : Int) (w : World) (er : semE s = r) : Calls Tryz.prog 9 #[.int .i64 s] w fun e w' => (∃ u, e = .returned (.tuple #[u, .int .i64 r]) ∧ VR w' u r s (pzero s)) ∧ Below w.heap.size w w' := by
  by_cases hs : isSem s
  · have e0 : r = 0 := by rw [← er]; exact if_pos hs
    rw [e0]
    exact (rzero_any s w hs).mono fun e w' ⟨⟨u, hu, o⟩, b⟩ => ⟨⟨u, hu, Or.inl ⟨rfl, o⟩⟩, b⟩
  · have e9 : r = 9 := by rw [← er]; exact if_neg hs
    rw [e9]
    exact (rzero_not s w hs).mono fun e w' ⟨hu, b⟩ => ⟨⟨noV, hu, Or.inr ⟨by decide, rfl⟩⟩, b⟩
theorem vzero_all (s r : Int) (w : World) (er : semE s = r) : Calls Tryz.prog 8 #[.int .i64 s] w fun e w' => (∃ u, e = .returned (.tuple #[u, .int .i64 r]) ∧ VR w' u r s (pzero s)) ∧ Below w.heap.size w w' := by
  by_cases hs : isSem s
  · have e0 : r = 0 := by rw [← er]; exact if_pos hs
    rw [e0]
    exact (vzero_any s w hs).mono fun e w' ⟨⟨u, hu, o⟩, b⟩ => ⟨⟨u, hu, Or.inl ⟨rfl, o⟩⟩, b⟩
  · have e9 : r = 9 := by rw [← er]; exact if_neg hs
    rw [e9]
    exact (vzero_not s w hs).mono fun e w' ⟨hu, b⟩ => ⟨⟨noV, hu, Or.inr ⟨by decide, rfl⟩⟩, b⟩
theorem rone_no (s : Int) (w : World) (h1 : (s == 1) = false) (h2 : (s == 2) = false) (h3 : (s == 3) = false) (h4 : (s == 4) = false) (h5 : (s == 5) = false) (h6 : (s == 6) = false) : Calls Tryz.prog 11 #[.int .i64 s] w fun e w' => e = .returned (.tuple #[noV, .int .i64 9]) ∧ Below w.heap.size w w' := by
  have hsf := st_flo
  have HB : Hid (Below w.heap.size w (w.alloc (.cells #[.int .i64 0, .bool false, .slice none 0 0, .int .i64 0, .float .f64 0] 27))) := below1 w _
  go_enter Tryz.func11, Tryz.ntmps11
  go_wp2
  refine bodyPost_ret (v := .tuple #[noV, .int .i64 9]) (by simp [results, Tryz.results11, go_sem, noV]) rfl ?_
  exact ⟨rfl, HB.out⟩
theorem rone_any (s : Int) (w : World) (hs : isSem s) : Calls Tryz.prog 11 #[.int .i64 s] w fun e w' => (∃ u, e = .returned (.tuple #[u, .int .i64 0]) ∧ VOut w' u s (pone s)) ∧ Below w.heap.size w w' := by
  rcases hs with rfl | rfl | rfl | rfl | rfl | rfl
  · exact rone1 w
  · exact rone2 w
  · exact rone3 w
  · exact rone4 w
  · exact rone5 w
  · exact rone6 w
theorem rone_not (s : Int) (w : World) (hs : ¬ isSem s) : Calls Tryz.prog 11 #[.int .i64 s] w fun e w' => e = .returned (.tuple #[noV, .int .i64 9]) ∧ Below w.heap.size w w' := by
  unfold isSem at hs
  exact rone_no s w (beq_eq_false_iff_ne.2 (by omega)) (beq_eq_false_iff_ne.2 (by omega)) (beq_eq_false_iff_ne.2 (by omega)) (beq_eq_false_iff_ne.2 (by omega)) (beq_eq_false_iff_ne.2 (by omega)) (beq_eq_false_iff_ne.2 (by omega))
theorem rone_all (s r : Int) (w : World) (er : semE s = r) : Calls Tryz.prog 11 #[.int .i64 s] w fun e w' => (∃ u, e = .returned (.tuple #[u, .int .i64 r]) ∧ VR w' u r s (pone s)) ∧ Below w.heap.size w w' := by
  by_cases hs : isSem s
  · have e0 : r = 0 := by rw [← er]; exact if_pos hs
    rw [e0]
    exact (rone_any s w hs).mono fun e w' ⟨⟨u, hu, o⟩, b⟩ => ⟨⟨u, hu, Or.inl ⟨rfl, o⟩⟩, b⟩
  · have e9 : r = 9 := by rw [← er]; exact if_neg hs
    rw [e9]
    exact (rone_not s w hs).mono fun e w' ⟨hu, b⟩ => ⟨⟨noV, hu, Or.inr ⟨by decide, rfl⟩⟩, b⟩
theorem vone_all (s r : Int) (w : World) (er : semE s = r) : Calls Tryz.prog 10 #[.int .i64 s] w fun e w' => (∃ u, e = .returned (.tuple #[u, .int .i64 r]) ∧ VR w' u r s (pone s)) ∧ Below w.heap.size w w' := by
  by_cases hs : isSem s
  · have e0 : r = 0 := by rw [← er]; exact if_pos hs
    rw [e0]
    exact (vone_any s w hs).mono fun e w' ⟨⟨u, hu, o⟩, b⟩ => ⟨⟨u, hu, Or.inl ⟨rfl, o⟩⟩, b⟩
  · have e9 : r = 9 := by rw [← er]; exact if_neg hs
    rw [e9]
    exact (vone_not s w hs).mono fun e w' ⟨hu, b⟩ => ⟨⟨noV, hu, Or.inr ⟨by decide, rfl⟩⟩, b⟩
end Go.Proofs.YtjdbapkmaggllaaGreatDoor
