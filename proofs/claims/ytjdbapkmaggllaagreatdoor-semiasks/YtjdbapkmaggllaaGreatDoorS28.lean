/- Zero and One. -/
import Derived.Test.YtjdbapkmaggllaaGreatDoorS27
namespace Go.Proofs.YtjdbapkmaggllaaGreatDoor
open Go.RowKit Fo
set_option maxRecDepth 100000

namespace Fo
def pzero (s : Int) : Option Nat := if s = 3 then none else if s = 6 then some 9218868437227405312 else some 0
def pone (s : Int) : Option Nat := if s = 1 ∨ s = 2 then some 1 else if s = 4 then some 7 else if s = 5 then some 4607182418800017408 else some 0
def isSem (s : Int) : Prop := s = 1 ∨ s = 2 ∨ s = 3 ∨ s = 4 ∨ s = 5 ∨ s = 6
end Fo
theorem zeroBox (w : World) : Below w.heap.size w (w.alloc (.cells #[.int .i64 0, .bool false, .slice none 0 0, .int .i64 0, .float .f64 0] 27)) := below1 w _
theorem inf_out (w : World) : Calls Tryz.prog 34 #[] w fun e w' => (∃ u, e = .returned u ∧ NOut w' u none) ∧ Below w.heap.size w w' := (inf_any w).mono fun _ _ hh => ⟨⟨_, hh.1, nout_inf _⟩, hh.2⟩
theorem top_at (s k : Int) (h : (if s = 2 then (1 : Int) else 7) = k) (w : World) : Calls Tryz.prog 39 #[.int .i64 s] w fun e w' => e = .returned (.int .i64 k) ∧ w' = w := by rw [← h]; exact top_any s w
theorem zero1 (w : World) : Calls Tryz.prog 8 #[.int .i64 1] w fun e w' => (∃ u, e = .returned (.tuple #[u, .int .i64 0]) ∧ VOut w' u 1 (some 0)) ∧ Below w.heap.size w w' := by
  have hsf := st_flo
  have HB : Hid (Below w.heap.size w (w.alloc (.cells #[.int .i64 0, .bool false, .slice none 0 0, .int .i64 0, .float .f64 0] 27))) := below1 w _
  have Hg : Hid ((w.alloc (.cells #[.int .i64 0, .bool false, .slice none 0 0, .int .i64 0, .float .f64 0] 27)).heap[w.heap.size]? = some (.cells #[.int .i64 0, .bool false, .slice none 0 0, .int .i64 0, .float .f64 0] 27)) := heap_alloc_new _ _
  go_enter Tryz.func8, Tryz.ntmps8
  go_wp2_with (go_at_call 33; fail)
  refine (of_any 0 (by decide) _).mono ?_
  rintro e w1 ⟨⟨u1, rfl, o1⟩, b1⟩
  obtain ⟨i, a, n, c, rfl, -, -, -⟩ := o1.form
  replace o1 : Hid (NOut _ _ _) := o1
  replace b1 : Hid (Below _ _ _) := b1
  go_wp2_with (go_at_call 32; fail)
  refine (ofnat_any _ _ _ _ _ _).mono ?_
  rintro e w2 ⟨rfl, b2⟩
  have HB2 : Hid (Below (w.alloc (.cells #[.int .i64 0, .bool false, .slice none 0 0, .int .i64 0, .float .f64 0] 27)).heap.size (w.alloc (.cells #[.int .i64 0, .bool false, .slice none 0 0, .int .i64 0, .float .f64 0] 27)) w2) := below_step b1.out b2
  have hg2 := (HB2.out.block w.heap.size (by simp)).trans Hg.out
  have O2 : Hid (NOut w2 (.agg #[.bool i, .slice a n c]) (some 0)) := o1.out.below b2
  clear o1 b1 b2
  obtain ⟨⟨z0, z1, z2, z3, z4⟩, ⟨f0, f1, f2, f3, f4⟩, s0, s1, s2, s3, s4⟩ := box5_facts hg2
  have Hg2 : Hid (w2.heap[w.heap.size]? = _) := hg2
  clear hg2
  go_wp2
  refine bodyPost_ret (v := .tuple #[.agg #[.int .i64 1, .bool i, .slice a n c, .int .i64 0, .float .f64 0], .int .i64 0]) (by simp [results, Tryz.results8, go_sem, s0, s1, s2, s3, s4]) rfl ?_
  exact ⟨⟨_, rfl, Or.inl ⟨by decide, i, a, n, c, rfl, O2.out.set5 Hg2.out _ _ _ _ _⟩⟩, below_set5 (below_step HB.out HB2.out) (Nat.le_refl _) _ _ _ _ _⟩
theorem zero3 (w : World) : Calls Tryz.prog 8 #[.int .i64 3] w fun e w' => (∃ u, e = .returned (.tuple #[u, .int .i64 0]) ∧ VOut w' u 3 (none)) ∧ Below w.heap.size w w' := by
  have hsf := st_flo
  have HB : Hid (Below w.heap.size w (w.alloc (.cells #[.int .i64 0, .bool false, .slice none 0 0, .int .i64 0, .float .f64 0] 27))) := below1 w _
  have Hg : Hid ((w.alloc (.cells #[.int .i64 0, .bool false, .slice none 0 0, .int .i64 0, .float .f64 0] 27)).heap[w.heap.size]? = some (.cells #[.int .i64 0, .bool false, .slice none 0 0, .int .i64 0, .float .f64 0] 27)) := heap_alloc_new _ _
  go_enter Tryz.func8, Tryz.ntmps8
  go_wp2_with (go_at_call 34; fail)
  refine (inf_out _).mono ?_
  rintro e w1 ⟨⟨u1, rfl, o1⟩, b1⟩
  obtain ⟨i, a, n, c, rfl, -, -, -⟩ := o1.form
  replace o1 : Hid (NOut _ _ _) := o1
  replace b1 : Hid (Below _ _ _) := b1
  go_wp2_with (go_at_call 32; fail)
  refine (ofnat_any _ _ _ _ _ _).mono ?_
  rintro e w2 ⟨rfl, b2⟩
  have HB2 : Hid (Below (w.alloc (.cells #[.int .i64 0, .bool false, .slice none 0 0, .int .i64 0, .float .f64 0] 27)).heap.size (w.alloc (.cells #[.int .i64 0, .bool false, .slice none 0 0, .int .i64 0, .float .f64 0] 27)) w2) := below_step b1.out b2
  have hg2 := (HB2.out.block w.heap.size (by simp)).trans Hg.out
  have O2 : Hid (NOut w2 (.agg #[.bool i, .slice a n c]) (none)) := o1.out.below b2
  clear o1 b1 b2
  obtain ⟨⟨z0, z1, z2, z3, z4⟩, ⟨f0, f1, f2, f3, f4⟩, s0, s1, s2, s3, s4⟩ := box5_facts hg2
  have Hg2 : Hid (w2.heap[w.heap.size]? = _) := hg2
  clear hg2
  go_wp2
  refine bodyPost_ret (v := .tuple #[.agg #[.int .i64 3, .bool i, .slice a n c, .int .i64 0, .float .f64 0], .int .i64 0]) (by simp [results, Tryz.results8, go_sem, s0, s1, s2, s3, s4]) rfl ?_
  exact ⟨⟨_, rfl, Or.inl ⟨by decide, i, a, n, c, rfl, O2.out.set5 Hg2.out _ _ _ _ _⟩⟩, below_set5 (below_step HB.out HB2.out) (Nat.le_refl _) _ _ _ _ _⟩
theorem one1 (w : World) : Calls Tryz.prog 10 #[.int .i64 1] w fun e w' => (∃ u, e = .returned (.tuple #[u, .int .i64 0]) ∧ VOut w' u 1 (some 1)) ∧ Below w.heap.size w w' := by
  have hsf := st_flo
  have HB : Hid (Below w.heap.size w (w.alloc (.cells #[.int .i64 0, .bool false, .slice none 0 0, .int .i64 0, .float .f64 0] 27))) := below1 w _
  have Hg : Hid ((w.alloc (.cells #[.int .i64 0, .bool false, .slice none 0 0, .int .i64 0, .float .f64 0] 27)).heap[w.heap.size]? = some (.cells #[.int .i64 0, .bool false, .slice none 0 0, .int .i64 0, .float .f64 0] 27)) := heap_alloc_new _ _
  go_enter Tryz.func10, Tryz.ntmps10
  go_wp2_with (go_at_call 33; fail)
  refine (of_any 1 (by decide) _).mono ?_
  rintro e w1 ⟨⟨u1, rfl, o1⟩, b1⟩
  obtain ⟨i, a, n, c, rfl, -, -, -⟩ := o1.form
  replace o1 : Hid (NOut _ _ _) := o1
  replace b1 : Hid (Below _ _ _) := b1
  go_wp2_with (go_at_call 32; fail)
  refine (ofnat_any _ _ _ _ _ _).mono ?_
  rintro e w2 ⟨rfl, b2⟩
  have HB2 : Hid (Below (w.alloc (.cells #[.int .i64 0, .bool false, .slice none 0 0, .int .i64 0, .float .f64 0] 27)).heap.size (w.alloc (.cells #[.int .i64 0, .bool false, .slice none 0 0, .int .i64 0, .float .f64 0] 27)) w2) := below_step b1.out b2
  have hg2 := (HB2.out.block w.heap.size (by simp)).trans Hg.out
  have O2 : Hid (NOut w2 (.agg #[.bool i, .slice a n c]) (some 1)) := o1.out.below b2
  clear o1 b1 b2
  obtain ⟨⟨z0, z1, z2, z3, z4⟩, ⟨f0, f1, f2, f3, f4⟩, s0, s1, s2, s3, s4⟩ := box5_facts hg2
  have Hg2 : Hid (w2.heap[w.heap.size]? = _) := hg2
  clear hg2
  go_wp2
  refine bodyPost_ret (v := .tuple #[.agg #[.int .i64 1, .bool i, .slice a n c, .int .i64 0, .float .f64 0], .int .i64 0]) (by simp [results, Tryz.results10, go_sem, s0, s1, s2, s3, s4]) rfl ?_
  exact ⟨⟨_, rfl, Or.inl ⟨by decide, i, a, n, c, rfl, O2.out.set5 Hg2.out _ _ _ _ _⟩⟩, below_set5 (below_step HB.out HB2.out) (Nat.le_refl _) _ _ _ _ _⟩
theorem one3 (w : World) : Calls Tryz.prog 10 #[.int .i64 3] w fun e w' => (∃ u, e = .returned (.tuple #[u, .int .i64 0]) ∧ VOut w' u 3 (some 0)) ∧ Below w.heap.size w w' := by
  have hsf := st_flo
  have HB : Hid (Below w.heap.size w (w.alloc (.cells #[.int .i64 0, .bool false, .slice none 0 0, .int .i64 0, .float .f64 0] 27))) := below1 w _
  have Hg : Hid ((w.alloc (.cells #[.int .i64 0, .bool false, .slice none 0 0, .int .i64 0, .float .f64 0] 27)).heap[w.heap.size]? = some (.cells #[.int .i64 0, .bool false, .slice none 0 0, .int .i64 0, .float .f64 0] 27)) := heap_alloc_new _ _
  go_enter Tryz.func10, Tryz.ntmps10
  go_wp2_with (go_at_call 33; fail)
  refine (of_any 0 (by decide) _).mono ?_
  rintro e w1 ⟨⟨u1, rfl, o1⟩, b1⟩
  obtain ⟨i, a, n, c, rfl, -, -, -⟩ := o1.form
  replace o1 : Hid (NOut _ _ _) := o1
  replace b1 : Hid (Below _ _ _) := b1
  go_wp2_with (go_at_call 32; fail)
  refine (ofnat_any _ _ _ _ _ _).mono ?_
  rintro e w2 ⟨rfl, b2⟩
  have HB2 : Hid (Below (w.alloc (.cells #[.int .i64 0, .bool false, .slice none 0 0, .int .i64 0, .float .f64 0] 27)).heap.size (w.alloc (.cells #[.int .i64 0, .bool false, .slice none 0 0, .int .i64 0, .float .f64 0] 27)) w2) := below_step b1.out b2
  have hg2 := (HB2.out.block w.heap.size (by simp)).trans Hg.out
  have O2 : Hid (NOut w2 (.agg #[.bool i, .slice a n c]) (some 0)) := o1.out.below b2
  clear o1 b1 b2
  obtain ⟨⟨z0, z1, z2, z3, z4⟩, ⟨f0, f1, f2, f3, f4⟩, s0, s1, s2, s3, s4⟩ := box5_facts hg2
  have Hg2 : Hid (w2.heap[w.heap.size]? = _) := hg2
  clear hg2
  go_wp2
  refine bodyPost_ret (v := .tuple #[.agg #[.int .i64 3, .bool i, .slice a n c, .int .i64 0, .float .f64 0], .int .i64 0]) (by simp [results, Tryz.results10, go_sem, s0, s1, s2, s3, s4]) rfl ?_
  exact ⟨⟨_, rfl, Or.inl ⟨by decide, i, a, n, c, rfl, O2.out.set5 Hg2.out _ _ _ _ _⟩⟩, below_set5 (below_step HB.out HB2.out) (Nat.le_refl _) _ _ _ _ _⟩
theorem zero2 (w : World) : Calls Tryz.prog 8 #[.int .i64 2] w fun e w' => (∃ u, e = .returned (.tuple #[u, .int .i64 0]) ∧ VOut w' u 2 (some 0)) ∧ Below w.heap.size w w' := by
  have hsf := st_flo
  have HB : Hid (Below w.heap.size w (w.alloc (.cells #[.int .i64 0, .bool false, .slice none 0 0, .int .i64 0, .float .f64 0] 27))) := below1 w _
  have Hg : Hid ((w.alloc (.cells #[.int .i64 0, .bool false, .slice none 0 0, .int .i64 0, .float .f64 0] 27)).heap[w.heap.size]? = some (.cells #[.int .i64 0, .bool false, .slice none 0 0, .int .i64 0, .float .f64 0] 27)) := heap_alloc_new _ _
  go_enter Tryz.func8, Tryz.ntmps8
  go_wp2_with (go_at_call 35; fail)
  refine (oflevel_any _ _ _).mono ?_
  rintro e w2 ⟨rfl, b2⟩
  have HB2 : Hid (Below (w.alloc (.cells #[.int .i64 0, .bool false, .slice none 0 0, .int .i64 0, .float .f64 0] 27)).heap.size (w.alloc (.cells #[.int .i64 0, .bool false, .slice none 0 0, .int .i64 0, .float .f64 0] 27)) w2) := b2
  have hg2 := (HB2.out.block w.heap.size (by simp)).trans Hg.out
  clear b2
  obtain ⟨⟨z0, z1, z2, z3, z4⟩, ⟨f0, f1, f2, f3, f4⟩, s0, s1, s2, s3, s4⟩ := box5_facts hg2
  clear hg2
  go_wp2
  refine bodyPost_ret (v := .tuple #[.agg #[.int .i64 2, .bool false, .slice none 0 0, .int .i64 0, .float .f64 0], .int .i64 0]) (by simp [results, Tryz.results8, go_sem, s0, s1, s2, s3, s4]) rfl ?_
  exact ⟨⟨_, rfl, Or.inr (Or.inl ⟨by decide, 0, rfl, by decide, rfl⟩)⟩, below_set5 (below_step HB.out HB2.out) (Nat.le_refl _) _ _ _ _ _⟩
theorem zero4 (w : World) : Calls Tryz.prog 8 #[.int .i64 4] w fun e w' => (∃ u, e = .returned (.tuple #[u, .int .i64 0]) ∧ VOut w' u 4 (some 0)) ∧ Below w.heap.size w w' := by
  have hsf := st_flo
  have HB : Hid (Below w.heap.size w (w.alloc (.cells #[.int .i64 0, .bool false, .slice none 0 0, .int .i64 0, .float .f64 0] 27))) := below1 w _
  have Hg : Hid ((w.alloc (.cells #[.int .i64 0, .bool false, .slice none 0 0, .int .i64 0, .float .f64 0] 27)).heap[w.heap.size]? = some (.cells #[.int .i64 0, .bool false, .slice none 0 0, .int .i64 0, .float .f64 0] 27)) := heap_alloc_new _ _
  go_enter Tryz.func8, Tryz.ntmps8
  go_wp2_with (go_at_call 35; fail)
  refine (oflevel_any _ _ _).mono ?_
  rintro e w2 ⟨rfl, b2⟩
  have HB2 : Hid (Below (w.alloc (.cells #[.int .i64 0, .bool false, .slice none 0 0, .int .i64 0, .float .f64 0] 27)).heap.size (w.alloc (.cells #[.int .i64 0, .bool false, .slice none 0 0, .int .i64 0, .float .f64 0] 27)) w2) := b2
  have hg2 := (HB2.out.block w.heap.size (by simp)).trans Hg.out
  clear b2
  obtain ⟨⟨z0, z1, z2, z3, z4⟩, ⟨f0, f1, f2, f3, f4⟩, s0, s1, s2, s3, s4⟩ := box5_facts hg2
  clear hg2
  go_wp2
  refine bodyPost_ret (v := .tuple #[.agg #[.int .i64 4, .bool false, .slice none 0 0, .int .i64 0, .float .f64 0], .int .i64 0]) (by simp [results, Tryz.results8, go_sem, s0, s1, s2, s3, s4]) rfl ?_
  exact ⟨⟨_, rfl, Or.inr (Or.inl ⟨by decide, 0, rfl, by decide, rfl⟩)⟩, below_set5 (below_step HB.out HB2.out) (Nat.le_refl _) _ _ _ _ _⟩
theorem zero5 (w : World) : Calls Tryz.prog 8 #[.int .i64 5] w fun e w' => (∃ u, e = .returned (.tuple #[u, .int .i64 0]) ∧ VOut w' u 5 (some 0)) ∧ Below w.heap.size w w' := by
  have hsf := st_flo
  have HB : Hid (Below w.heap.size w (w.alloc (.cells #[.int .i64 0, .bool false, .slice none 0 0, .int .i64 0, .float .f64 0] 27))) := below1 w _
  have Hg : Hid ((w.alloc (.cells #[.int .i64 0, .bool false, .slice none 0 0, .int .i64 0, .float .f64 0] 27)).heap[w.heap.size]? = some (.cells #[.int .i64 0, .bool false, .slice none 0 0, .int .i64 0, .float .f64 0] 27)) := heap_alloc_new _ _
  go_enter Tryz.func8, Tryz.ntmps8
  go_wp2_with (go_at_call 36; fail)
  refine (ofx_any _ _ _).mono ?_
  rintro e w2 ⟨rfl, b2⟩
  have HB2 : Hid (Below (w.alloc (.cells #[.int .i64 0, .bool false, .slice none 0 0, .int .i64 0, .float .f64 0] 27)).heap.size (w.alloc (.cells #[.int .i64 0, .bool false, .slice none 0 0, .int .i64 0, .float .f64 0] 27)) w2) := b2
  have hg2 := (HB2.out.block w.heap.size (by simp)).trans Hg.out
  clear b2
  obtain ⟨⟨z0, z1, z2, z3, z4⟩, ⟨f0, f1, f2, f3, f4⟩, s0, s1, s2, s3, s4⟩ := box5_facts hg2
  clear hg2
  go_wp2
  refine bodyPost_ret (v := .tuple #[.agg #[.int .i64 5, .bool false, .slice none 0 0, .int .i64 0, .float .f64 0], .int .i64 0]) (by simp [results, Tryz.results8, go_sem, s0, s1, s2, s3, s4]) rfl ?_
  exact ⟨⟨_, rfl, Or.inr (Or.inr ⟨by decide, 0, rfl, by decide, rfl⟩)⟩, below_set5 (below_step HB.out HB2.out) (Nat.le_refl _) _ _ _ _ _⟩
theorem zero6 (w : World) : Calls Tryz.prog 8 #[.int .i64 6] w fun e w' => (∃ u, e = .returned (.tuple #[u, .int .i64 0]) ∧ VOut w' u 6 (some 9218868437227405312)) ∧ Below w.heap.size w w' := by
  have hsf := st_flo
  have HB : Hid (Below w.heap.size w (w.alloc (.cells #[.int .i64 0, .bool false, .slice none 0 0, .int .i64 0, .float .f64 0] 27))) := below1 w _
  have Hg : Hid ((w.alloc (.cells #[.int .i64 0, .bool false, .slice none 0 0, .int .i64 0, .float .f64 0] 27)).heap[w.heap.size]? = some (.cells #[.int .i64 0, .bool false, .slice none 0 0, .int .i64 0, .float .f64 0] 27)) := heap_alloc_new _ _
  go_enter Tryz.func8, Tryz.ntmps8
  go_wp2_with (first | (go_at_call 37; refine (Fl.inf1 _).mono ?_; rintro e w1 ⟨rfl, rfl⟩) | (go_at_call 36; fail))
  refine (ofx_any _ _ _).mono ?_
  rintro e w2 ⟨rfl, b2⟩
  have HB2 : Hid (Below (w.alloc (.cells #[.int .i64 0, .bool false, .slice none 0 0, .int .i64 0, .float .f64 0] 27)).heap.size (w.alloc (.cells #[.int .i64 0, .bool false, .slice none 0 0, .int .i64 0, .float .f64 0] 27)) w2) := b2
  have hg2 := (HB2.out.block w.heap.size (by simp)).trans Hg.out
  clear b2
  obtain ⟨⟨z0, z1, z2, z3, z4⟩, ⟨f0, f1, f2, f3, f4⟩, s0, s1, s2, s3, s4⟩ := box5_facts hg2
  clear hg2
  go_wp2
  refine bodyPost_ret (v := .tuple #[.agg #[.int .i64 6, .bool false, .slice none 0 0, .int .i64 0, .float .f64 9218868437227405312], .int .i64 0]) (by simp [results, Tryz.results8, go_sem, s0, s1, s2, s3, s4]) rfl ?_
  exact ⟨⟨_, rfl, Or.inr (Or.inr ⟨by decide, 9218868437227405312, rfl, by decide, rfl⟩)⟩, below_set5 (below_step HB.out HB2.out) (Nat.le_refl _) _ _ _ _ _⟩
theorem one2 (w : World) : Calls Tryz.prog 10 #[.int .i64 2] w fun e w' => (∃ u, e = .returned (.tuple #[u, .int .i64 0]) ∧ VOut w' u 2 (some 1)) ∧ Below w.heap.size w w' := by
  have hsf := st_flo
  have HB : Hid (Below w.heap.size w (w.alloc (.cells #[.int .i64 0, .bool false, .slice none 0 0, .int .i64 0, .float .f64 0] 27))) := below1 w _
  have Hg : Hid ((w.alloc (.cells #[.int .i64 0, .bool false, .slice none 0 0, .int .i64 0, .float .f64 0] 27)).heap[w.heap.size]? = some (.cells #[.int .i64 0, .bool false, .slice none 0 0, .int .i64 0, .float .f64 0] 27)) := heap_alloc_new _ _
  go_enter Tryz.func10, Tryz.ntmps10
  go_wp2_with (first | (go_at_call 39; refine (top_at 2 1 rfl _).mono ?_; rintro e w1 ⟨rfl, rfl⟩) | (go_at_call 35; fail))
  refine (oflevel_any _ _ _).mono ?_
  rintro e w2 ⟨rfl, b2⟩
  have HB2 : Hid (Below (w.alloc (.cells #[.int .i64 0, .bool false, .slice none 0 0, .int .i64 0, .float .f64 0] 27)).heap.size (w.alloc (.cells #[.int .i64 0, .bool false, .slice none 0 0, .int .i64 0, .float .f64 0] 27)) w2) := b2
  have hg2 := (HB2.out.block w.heap.size (by simp)).trans Hg.out
  clear b2
  obtain ⟨⟨z0, z1, z2, z3, z4⟩, ⟨f0, f1, f2, f3, f4⟩, s0, s1, s2, s3, s4⟩ := box5_facts hg2
  clear hg2
  go_wp2
  refine bodyPost_ret (v := .tuple #[.agg #[.int .i64 2, .bool false, .slice none 0 0, .int .i64 1, .float .f64 0], .int .i64 0]) (by simp [results, Tryz.results10, go_sem, s0, s1, s2, s3, s4]) rfl ?_
  exact ⟨⟨_, rfl, Or.inr (Or.inl ⟨by decide, 1, rfl, by decide, rfl⟩)⟩, below_set5 (below_step HB.out HB2.out) (Nat.le_refl _) _ _ _ _ _⟩
theorem one4 (w : World) : Calls Tryz.prog 10 #[.int .i64 4] w fun e w' => (∃ u, e = .returned (.tuple #[u, .int .i64 0]) ∧ VOut w' u 4 (some 7)) ∧ Below w.heap.size w w' := by
  have hsf := st_flo
  have HB : Hid (Below w.heap.size w (w.alloc (.cells #[.int .i64 0, .bool false, .slice none 0 0, .int .i64 0, .float .f64 0] 27))) := below1 w _
  have Hg : Hid ((w.alloc (.cells #[.int .i64 0, .bool false, .slice none 0 0, .int .i64 0, .float .f64 0] 27)).heap[w.heap.size]? = some (.cells #[.int .i64 0, .bool false, .slice none 0 0, .int .i64 0, .float .f64 0] 27)) := heap_alloc_new _ _
  go_enter Tryz.func10, Tryz.ntmps10
  go_wp2_with (first | (go_at_call 39; refine (top_at 4 7 rfl _).mono ?_; rintro e w1 ⟨rfl, rfl⟩) | (go_at_call 35; fail))
  refine (oflevel_any _ _ _).mono ?_
  rintro e w2 ⟨rfl, b2⟩
  have HB2 : Hid (Below (w.alloc (.cells #[.int .i64 0, .bool false, .slice none 0 0, .int .i64 0, .float .f64 0] 27)).heap.size (w.alloc (.cells #[.int .i64 0, .bool false, .slice none 0 0, .int .i64 0, .float .f64 0] 27)) w2) := b2
  have hg2 := (HB2.out.block w.heap.size (by simp)).trans Hg.out
  clear b2
  obtain ⟨⟨z0, z1, z2, z3, z4⟩, ⟨f0, f1, f2, f3, f4⟩, s0, s1, s2, s3, s4⟩ := box5_facts hg2
  clear hg2
  go_wp2
  refine bodyPost_ret (v := .tuple #[.agg #[.int .i64 4, .bool false, .slice none 0 0, .int .i64 7, .float .f64 0], .int .i64 0]) (by simp [results, Tryz.results10, go_sem, s0, s1, s2, s3, s4]) rfl ?_
  exact ⟨⟨_, rfl, Or.inr (Or.inl ⟨by decide, 7, rfl, by decide, rfl⟩)⟩, below_set5 (below_step HB.out HB2.out) (Nat.le_refl _) _ _ _ _ _⟩
theorem one5 (w : World) : Calls Tryz.prog 10 #[.int .i64 5] w fun e w' => (∃ u, e = .returned (.tuple #[u, .int .i64 0]) ∧ VOut w' u 5 (some 4607182418800017408)) ∧ Below w.heap.size w w' := by
  have hsf := st_flo
  have HB : Hid (Below w.heap.size w (w.alloc (.cells #[.int .i64 0, .bool false, .slice none 0 0, .int .i64 0, .float .f64 0] 27))) := below1 w _
  have Hg : Hid ((w.alloc (.cells #[.int .i64 0, .bool false, .slice none 0 0, .int .i64 0, .float .f64 0] 27)).heap[w.heap.size]? = some (.cells #[.int .i64 0, .bool false, .slice none 0 0, .int .i64 0, .float .f64 0] 27)) := heap_alloc_new _ _
  go_enter Tryz.func10, Tryz.ntmps10
  go_wp2_with (go_at_call 36; fail)
  refine (ofx_any _ _ _).mono ?_
  rintro e w2 ⟨rfl, b2⟩
  have HB2 : Hid (Below (w.alloc (.cells #[.int .i64 0, .bool false, .slice none 0 0, .int .i64 0, .float .f64 0] 27)).heap.size (w.alloc (.cells #[.int .i64 0, .bool false, .slice none 0 0, .int .i64 0, .float .f64 0] 27)) w2) := b2
  have hg2 := (HB2.out.block w.heap.size (by simp)).trans Hg.out
  clear b2
  obtain ⟨⟨z0, z1, z2, z3, z4⟩, ⟨f0, f1, f2, f3, f4⟩, s0, s1, s2, s3, s4⟩ := box5_facts hg2
  clear hg2
  go_wp2
  refine bodyPost_ret (v := .tuple #[.agg #[.int .i64 5, .bool false, .slice none 0 0, .int .i64 0, .float .f64 4607182418800017408], .int .i64 0]) (by simp [results, Tryz.results10, go_sem, s0, s1, s2, s3, s4]) rfl ?_
  exact ⟨⟨_, rfl, Or.inr (Or.inr ⟨by decide, 4607182418800017408, rfl, by decide, rfl⟩)⟩, below_set5 (below_step HB.out HB2.out) (Nat.le_refl _) _ _ _ _ _⟩
theorem one6 (w : World) : Calls Tryz.prog 10 #[.int .i64 6] w fun e w' => (∃ u, e = .returned (.tuple #[u, .int .i64 0]) ∧ VOut w' u 6 (some 0)) ∧ Below w.heap.size w w' := by
  have hsf := st_flo
  have HB : Hid (Below w.heap.size w (w.alloc (.cells #[.int .i64 0, .bool false, .slice none 0 0, .int .i64 0, .float .f64 0] 27))) := below1 w _
  have Hg : Hid ((w.alloc (.cells #[.int .i64 0, .bool false, .slice none 0 0, .int .i64 0, .float .f64 0] 27)).heap[w.heap.size]? = some (.cells #[.int .i64 0, .bool false, .slice none 0 0, .int .i64 0, .float .f64 0] 27)) := heap_alloc_new _ _
  go_enter Tryz.func10, Tryz.ntmps10
  go_wp2_with (go_at_call 36; fail)
  refine (ofx_any _ _ _).mono ?_
  rintro e w2 ⟨rfl, b2⟩
  have HB2 : Hid (Below (w.alloc (.cells #[.int .i64 0, .bool false, .slice none 0 0, .int .i64 0, .float .f64 0] 27)).heap.size (w.alloc (.cells #[.int .i64 0, .bool false, .slice none 0 0, .int .i64 0, .float .f64 0] 27)) w2) := b2
  have hg2 := (HB2.out.block w.heap.size (by simp)).trans Hg.out
  clear b2
  obtain ⟨⟨z0, z1, z2, z3, z4⟩, ⟨f0, f1, f2, f3, f4⟩, s0, s1, s2, s3, s4⟩ := box5_facts hg2
  clear hg2
  go_wp2
  refine bodyPost_ret (v := .tuple #[.agg #[.int .i64 6, .bool false, .slice none 0 0, .int .i64 0, .float .f64 0], .int .i64 0]) (by simp [results, Tryz.results10, go_sem, s0, s1, s2, s3, s4]) rfl ?_
  exact ⟨⟨_, rfl, Or.inr (Or.inr ⟨by decide, 0, rfl, by decide, rfl⟩)⟩, below_set5 (below_step HB.out HB2.out) (Nat.le_refl _) _ _ _ _ _⟩
theorem zero_no (s : Int) (w : World) (h1 : (s == 1) = false) (h2 : (s == 2) = false) (h3 : (s == 3) = false) (h4 : (s == 4) = false) (h5 : (s == 5) = false) (h6 : (s == 6) = false) : Calls Tryz.prog 8 #[.int .i64 s] w fun e w' => e = .returned (.tuple #[noV, .int .i64 9]) ∧ Below w.heap.size w w' := by
  have hsf := st_flo
  have HB : Hid (Below w.heap.size w (w.alloc (.cells #[.int .i64 0, .bool false, .slice none 0 0, .int .i64 0, .float .f64 0] 27))) := below1 w _
  go_enter Tryz.func8, Tryz.ntmps8
  go_wp2
  refine bodyPost_ret (v := .tuple #[noV, .int .i64 9]) (by simp [results, Tryz.results8, go_sem, noV]) rfl ?_
  exact ⟨rfl, HB.out⟩
/-- semi.Zero. -/
theorem vzero_any (s : Int) (w : World) (hs : isSem s) : Calls Tryz.prog 8 #[.int .i64 s] w fun e w' => (∃ u, e = .returned (.tuple #[u, .int .i64 0]) ∧ VOut w' u s (pzero s)) ∧ Below w.heap.size w w' := by
  rcases hs with rfl | rfl | rfl | rfl | rfl | rfl
  · exact zero1 w
  · exact zero2 w
  · exact zero3 w
  · exact zero4 w
  · exact zero5 w
  · exact zero6 w
theorem vzero_not (s : Int) (w : World) (hs : ¬ isSem s) : Calls Tryz.prog 8 #[.int .i64 s] w fun e w' => e = .returned (.tuple #[noV, .int .i64 9]) ∧ Below w.heap.size w w' := by
  unfold isSem at hs
  exact zero_no s w (beq_eq_false_iff_ne.2 (by omega)) (beq_eq_false_iff_ne.2 (by omega)) (beq_eq_false_iff_ne.2 (by omega)) (beq_eq_false_iff_ne.2 (by omega)) (beq_eq_false_iff_ne.2 (by omega)) (beq_eq_false_iff_ne.2 (by omega))
theorem one_no (s : Int) (w : World) (h1 : (s == 1) = false) (h2 : (s == 2) = false) (h3 : (s == 3) = false) (h4 : (s == 4) = false) (h5 : (s == 5) = false) (h6 : (s == 6) = false) : Calls Tryz.prog 10 #[.int .i64 s] w fun e w' => e = .returned (.tuple #[noV, .int .i64 9]) ∧ Below w.heap.size w w' := by
  have hsf := st_flo
  have HB : Hid (Below w.heap.size w (w.alloc (.cells #[.int .i64 0, .bool false, .slice none 0 0, .int .i64 0, .float .f64 0] 27))) := below1 w _
  go_enter Tryz.func10, Tryz.ntmps10
  go_wp2
  refine bodyPost_ret (v := .tuple #[noV, .int .i64 9]) (by simp [results, Tryz.results10, go_sem, noV]) rfl ?_
  exact ⟨rfl, HB.out⟩
/-- semi.One. -/
theorem vone_any (s : Int) (w : World) (hs : isSem s) : Calls Tryz.prog 10 #[.int .i64 s] w fun e w' => (∃ u, e = .returned (.tuple #[u, .int .i64 0]) ∧ VOut w' u s (pone s)) ∧ Below w.heap.size w w' := by
  rcases hs with rfl | rfl | rfl | rfl | rfl | rfl
  · exact one1 w
  · exact one2 w
  · exact one3 w
  · exact one4 w
  · exact one5 w
  · exact one6 w
theorem vone_not (s : Int) (w : World) (hs : ¬ isSem s) : Calls Tryz.prog 10 #[.int .i64 s] w fun e w' => e = .returned (.tuple #[noV, .int .i64 9]) ∧ Below w.heap.size w w' := by
  unfold isSem at hs
  exact one_no s w (beq_eq_false_iff_ne.2 (by omega)) (beq_eq_false_iff_ne.2 (by omega)) (beq_eq_false_iff_ne.2 (by omega)) (beq_eq_false_iff_ne.2 (by omega)) (beq_eq_false_iff_ne.2 (by omega)) (beq_eq_false_iff_ne.2 (by omega))
end Go.Proofs.YtjdbapkmaggllaaGreatDoor
