/- IsZero, Star, Better. -/
import Derived.Test.YtjdbapkmaggllaaGreatDoorS35
namespace Go.Proofs.YtjdbapkmaggllaaGreatDoor
open Go.RowKit Fo
set_option maxRecDepth 100000

namespace Fo
def zerV (V : Vl) : Bool := decide (mayV V = 0) && decide (denV V = pzero V.s)
def betV (V1 V2 : Vl) : Bool := if V1.s = 1 then decide (0 ≤ ocmp (denV V1) (denV V2)) else decide (padd V1.s (denV V1) (denV V2) = denV V1)
def pstar (s : Int) (P : Option Nat) : Option Nat := if s = 1 ∧ P ≠ some 0 then none else pone s
theorem Short.le {j k : Nat} {P : Option Nat} (h : Short j P) (hk : j ≤ k) : Short k P := fun N e => Nat.le_trans (h N e) hk
theorem pzero_short (s : Int) (hs : s = 1 ∨ s = 3) : Short 10000 (pzero s) := by
  intro N e
  rcases hs with rfl | rfl
  · obtain rfl : 0 = N := Option.some.inj e
    rw [ln_zero]; decide
  · cases e
theorem pone_short (s : Int) (hs : s = 1 ∨ s = 3) : Short 10000 (pone s) := by
  intro N e
  rcases hs with rfl | rfl
  · obtain rfl : 1 = N := Option.some.inj e
    exact Nat.le_trans (ln_le 1 1 (by decide)) (by decide)
  · obtain rfl : 0 = N := Option.some.inj e
    rw [ln_zero]; decide
end Fo
theorem same_zero (w : World) (v1 v2 : Value) (V1 : Vl) (h1 : VIn w v1 V1) (h2 : VOk w v2 V1.s (pzero V1.s)) : Calls Tryz.prog 23 #[v1, v2] w fun e w' => e = .returned (.bool (zerV V1)) ∧ Below w.heap.size w w' := by
  obtain ⟨V2, h2, m2, e2, d2⟩ := h2
  refine calls_bool (vsame_any w v1 v2 V1 V2 h1 h2) ?_
  unfold sameV zerV
  rw [d2]
  congr 1
  rw [Bool.eq_iff_iff, decide_eq_true_eq, decide_eq_true_eq]
  exact ⟨fun h => (err_ok h).1, fun h => ok_err h m2 e2.symm⟩
set_option maxHeartbeats 8000000 in
theorem viszero_sem (w : World) (v1 : Value) (V1 : Vl) (h1 : VIn w v1 V1) (hs : isSem V1.s) : Calls Tryz.prog 25 #[v1] w fun e w' => e = .returned (.bool (zerV V1)) ∧ Below w.heap.size w w' := by
  have hsf := st_flo
  have HS : Hid (isSem V1.s) := hs
  clear hs
  have H1' := h1
  obtain ⟨a1, c1, rfl, hr1, hL1, hn1, hx1, hl1, hs1⟩ := h1
  obtain ⟨W0, hW0⟩ : ∃ W0, W0 = (w.alloc (.cells #[.int .i64 V1.s, .bool V1.i, .slice a1 V1.n c1, .int .i64 V1.l, .float .f64 V1.x] 27)) := ⟨_, rfl⟩
  have HB0 : Hid (Below w.heap.size w W0) := by rw [hW0]; exact below1 w _
  have Hg1 : Hid (W0.heap[w.heap.size]? = some (.cells #[.int .i64 V1.s, .bool V1.i, .slice a1 V1.n c1, .int .i64 V1.l, .float .f64 V1.x] 27)) := by
    show W0.heap[w.heap.size]? = _
    rw [hW0]; exact heap_at1_0 w _
  have H1 : Hid (VIn W0 (.agg #[.int .i64 V1.s, .bool V1.i, .slice a1 V1.n c1, .int .i64 V1.l, .float .f64 V1.x]) V1) := H1'.below HB0.out
  have HW : Below W0.heap.size W0 W0 := below_refl W0
  clear hr1 hL1 hn1 hx1 hl1 hs1 H1'
  obtain ⟨p10, p11, p12, p13, p14⟩ := box5 Hg1.out HW
  go_enter Tryz.func25, Tryz.ntmps25
  go_wp2_with (go_at_call 8; fail)
  rw [← hW0]
  clear hW0
  refine (vzero_any V1.s _ HS.out).mono ?_
  rintro e w1 ⟨⟨u, rfl, o⟩, b⟩
  replace HW := below_step HW b
  clear b
  clear p10 p11 p12 p13 p14; obtain ⟨p10, p11, p12, p13, p14⟩ := box5 Hg1.out HW
  obtain ⟨s, i, a, n, c, l, x, rfl⟩ := o.form
  have O : Hid (VOut _ _ _ _) := o
  clear o
  have hlt : w.heap.size < w1.heap.size := World.block_lt_of_cell? w1 _ p10
  go_wp2_with (go_at_call 23; fail)
  refine (same_zero _ _ _ V1 (by exact H1.out.below (HW.alloc HW.size _)) (by exact (O.out.ok (pzero_short _)).below (below1 _ _))).mono ?_
  rintro e w2 ⟨rfl, b⟩
  replace HW := below_step (HW.alloc HW.size _) b
  clear b
  go_wp2
  go_ret
  exact ⟨rfl, below_step HB0.out HW⟩
theorem viszero_not (w : World) (v1 : Value) (V1 : Vl) (h1 : VIn w v1 V1) (hs : ¬ isSem V1.s) : Calls Tryz.prog 25 #[v1] w fun e w' => e = .returned (.bool false) ∧ Below w.heap.size w w' := by
  have H1' := h1
  obtain ⟨a1, c1, rfl, hr1, hL1, hn1, hx1, hl1, hs1⟩ := h1
  obtain ⟨W0, hW0⟩ : ∃ W0, W0 = (w.alloc (.cells #[.int .i64 V1.s, .bool V1.i, .slice a1 V1.n c1, .int .i64 V1.l, .float .f64 V1.x] 27)) := ⟨_, rfl⟩
  have HB0 : Hid (Below w.heap.size w W0) := by rw [hW0]; exact below1 w _
  have Hg1 : Hid (W0.heap[w.heap.size]? = some (.cells #[.int .i64 V1.s, .bool V1.i, .slice a1 V1.n c1, .int .i64 V1.l, .float .f64 V1.x] 27)) := by
    show W0.heap[w.heap.size]? = _
    rw [hW0]; exact heap_at1_0 w _
  have H1 : Hid (VIn W0 (.agg #[.int .i64 V1.s, .bool V1.i, .slice a1 V1.n c1, .int .i64 V1.l, .float .f64 V1.x]) V1) := H1'.below HB0.out
  have HW : Below W0.heap.size W0 W0 := below_refl W0
  clear hr1 hL1 hn1 hx1 hl1 hs1 H1'
  obtain ⟨p10, p11, p12, p13, p14⟩ := box5 Hg1.out HW
  have hsf := st_flo
  have HS : Hid (¬ isSem V1.s) := hs
  clear hs
  go_enter Tryz.func25, Tryz.ntmps25
  go_wp2_with (go_at_call 8; fail)
  rw [← hW0]
  clear hW0
  refine (vzero_not V1.s _ HS.out).mono ?_
  rintro e w1 ⟨rfl, b⟩
  replace HW := below_step HW b
  unfold noV
  clear b
  clear p10 p11 p12 p13 p14; obtain ⟨p10, p11, p12, p13, p14⟩ := box5 Hg1.out HW
  go_wp2
  go_ret
  exact ⟨rfl, below_step HB0.out (HW.alloc HW.size _)⟩
/-- SEMI's ISZERO. -/
theorem viszero_any (w : World) (v1 : Value) (V1 : Vl) (h1 : VIn w v1 V1) : Calls Tryz.prog 25 #[v1] w fun e w' => e = .returned (.bool (zerV V1)) ∧ Below w.heap.size w w' := by
  by_cases hs : isSem V1.s
  · exact viszero_sem w v1 V1 h1 hs
  · refine calls_bool (viszero_not w v1 V1 h1 hs) ?_
    unfold zerV
    rw [decide_eq_false (fun h => hs (may_sem h))]
    rfl
theorem star_err (w : World) (v1 : Value) (V1 : Vl) (h1 : VIn w v1 V1) (r : Int) (e1 : mayV V1 = r) (hr : (r == 0) = false) : Calls Tryz.prog 16 #[v1] w fun e w' => e = .returned (.tuple #[noV, .int .i64 r]) ∧ Below w.heap.size w w' := by
  have H1' := h1
  obtain ⟨a1, c1, rfl, hr1, hL1, hn1, hx1, hl1, hs1⟩ := h1
  obtain ⟨W0, hW0⟩ : ∃ W0, W0 = ((w.alloc (.cells #[.int .i64 V1.s, .bool V1.i, .slice a1 V1.n c1, .int .i64 V1.l, .float .f64 V1.x] 27)).alloc (.cells #[.int .i64 0, .bool false, .slice none 0 0, .int .i64 0, .float .f64 0] 27)) := ⟨_, rfl⟩
  have HB0 : Hid (Below w.heap.size w W0) := by rw [hW0]; exact below2 w _ _
  have Hg1 : Hid (W0.heap[w.heap.size]? = some (.cells #[.int .i64 V1.s, .bool V1.i, .slice a1 V1.n c1, .int .i64 V1.l, .float .f64 V1.x] 27)) := by
    show W0.heap[w.heap.size]? = _
    rw [hW0]; exact heap_at2_0 w _ _
  have Hg2 : Hid (W0.heap[w.heap.size + 1]? = some (.cells #[.int .i64 0, .bool false, .slice none 0 0, .int .i64 0, .float .f64 0] 27)) := by
    show W0.heap[w.heap.size + 1]? = _
    rw [hW0]; exact heap_at2_1 w _ _
  have H1 : Hid (VIn W0 (.agg #[.int .i64 V1.s, .bool V1.i, .slice a1 V1.n c1, .int .i64 V1.l, .float .f64 V1.x]) V1) := H1'.below HB0.out
  have HW : Below W0.heap.size W0 W0 := below_refl W0
  clear hr1 hL1 hn1 hx1 hl1 hs1 H1'
  obtain ⟨p10, p11, p12, p13, p14⟩ := box5 Hg1.out HW
  have hsf := st_flo
  have SZ : Hid (w.heap.size + 1 < W0.heap.size) := by show w.heap.size + 1 < W0.heap.size; rw [hW0]; simp
  have E1 : Hid (mayV V1 = r) := e1
  clear e1
  go_enter Tryz.func16, Tryz.ntmps16
  go_wp2_with (go_at_call 21; fail)
  rw [← hW0]
  clear hW0
  refine (vmay_at _ _ V1 r (by exact H1.out.below HW) E1.out).mono ?_
  rintro e w1 ⟨rfl, b⟩
  replace HW := below_step HW b
  clear b
  clear p10 p11 p12 p13 p14; obtain ⟨p10, p11, p12, p13, p14⟩ := box5 Hg1.out HW
  have hgr := (HW.block (w.heap.size + 1) SZ.out).trans Hg2.out
  obtain ⟨⟨z0, z1, z2, z3, z4⟩, ⟨f0, f1, f2, f3, f4⟩, s0, s1, s2, s3, s4⟩ := box5_facts hgr
  have Hgr : Hid (_ = _) := hgr
  clear hgr
  go_wp2
  refine bodyPost_ret (v := .tuple #[noV, .int .i64 r]) (by simp [results, Tryz.results16, go_sem, s0, s1, s2, s3, s4, noV]) rfl ?_
  exact ⟨rfl, below_set5 (below_step HB0.out HW) (by omega) _ _ _ _ _⟩
theorem star_one (w : World) (v1 : Value) (V1 : Vl) (h1 : VIn w v1 V1) (e1 : mayV V1 = 0) (hs : isSem V1.s) (h1s : (V1.s == 1) = false) : Calls Tryz.prog 16 #[v1] w fun e w' => (∃ u, e = .returned (.tuple #[u, .int .i64 0]) ∧ VOut w' u V1.s (pone V1.s)) ∧ Below w.heap.size w w' := by
  have H1' := h1
  obtain ⟨a1, c1, rfl, hr1, hL1, hn1, hx1, hl1, hs1⟩ := h1
  obtain ⟨W0, hW0⟩ : ∃ W0, W0 = ((w.alloc (.cells #[.int .i64 V1.s, .bool V1.i, .slice a1 V1.n c1, .int .i64 V1.l, .float .f64 V1.x] 27)).alloc (.cells #[.int .i64 0, .bool false, .slice none 0 0, .int .i64 0, .float .f64 0] 27)) := ⟨_, rfl⟩
  have HB0 : Hid (Below w.heap.size w W0) := by rw [hW0]; exact below2 w _ _
  have Hg1 : Hid (W0.heap[w.heap.size]? = some (.cells #[.int .i64 V1.s, .bool V1.i, .slice a1 V1.n c1, .int .i64 V1.l, .float .f64 V1.x] 27)) := by
    show W0.heap[w.heap.size]? = _
    rw [hW0]; exact heap_at2_0 w _ _
  have Hg2 : Hid (W0.heap[w.heap.size + 1]? = some (.cells #[.int .i64 0, .bool false, .slice none 0 0, .int .i64 0, .float .f64 0] 27)) := by
    show W0.heap[w.heap.size + 1]? = _
    rw [hW0]; exact heap_at2_1 w _ _
  have H1 : Hid (VIn W0 (.agg #[.int .i64 V1.s, .bool V1.i, .slice a1 V1.n c1, .int .i64 V1.l, .float .f64 V1.x]) V1) := H1'.below HB0.out
  have HW : Below W0.heap.size W0 W0 := below_refl W0
  clear hr1 hL1 hn1 hx1 hl1 hs1 H1'
  obtain ⟨p10, p11, p12, p13, p14⟩ := box5 Hg1.out HW
  have hsf := st_flo
  have SZ : Hid (w.heap.size + 1 < W0.heap.size) := by show w.heap.size + 1 < W0.heap.size; rw [hW0]; simp
  have E1 : Hid (mayV V1 = 0) := e1
  have HS : Hid (isSem V1.s) := hs
  clear e1 hs
  go_enter Tryz.func16, Tryz.ntmps16
  go_wp2_with (go_at_call 21; fail)
  rw [← hW0]
  clear hW0
  refine (vmay_at _ _ V1 0 (by exact H1.out.below HW) E1.out).mono ?_
  rintro e w1 ⟨rfl, b⟩
  replace HW := below_step HW b
  clear b
  clear p10 p11 p12 p13 p14; obtain ⟨p10, p11, p12, p13, p14⟩ := box5 Hg1.out HW
  go_wp2_with (go_at_call 10; fail)
  refine (vone_any _ _ HS.out).mono ?_
  rintro e w2 ⟨⟨u, rfl, o⟩, b⟩
  replace HW := below_step HW b
  obtain ⟨s, i, a, n, c, l, x, rfl⟩ := o.form
  have O : Hid (VOut _ _ _ _) := o
  clear o
  clear b
  clear p10 p11 p12 p13 p14; obtain ⟨p10, p11, p12, p13, p14⟩ := box5 Hg1.out HW
  have hgr := (HW.block (w.heap.size + 1) SZ.out).trans Hg2.out
  obtain ⟨⟨z0, z1, z2, z3, z4⟩, ⟨f0, f1, f2, f3, f4⟩, s0, s1, s2, s3, s4⟩ := box5_facts hgr
  have Hgr : Hid (_ = _) := hgr
  clear hgr
  go_wp2
  refine bodyPost_ret (v := .tuple #[.agg #[.int .i64 s, .bool i, .slice a n c, .int .i64 l, .float .f64 x], .int .i64 0]) (by simp [results, Tryz.results16, go_sem, s0, s1, s2, s3, s4]) rfl ?_
  exact ⟨⟨_, rfl, O.out.set5 Hgr.out _ _ _ _ _⟩, below_set5 (below_step HB0.out HW) (by omega) _ _ _ _ _⟩
theorem star_zero (w : World) (v1 : Value) (V1 : Vl) (h1 : VIn w v1 V1) (es1 : V1.s = 1) (e1 : mayV V1 = 0) (ez : zerV V1 = true) : Calls Tryz.prog 16 #[v1] w fun e w' => (∃ u, e = .returned (.tuple #[u, .int .i64 0]) ∧ VOut w' u 1 (pone 1)) ∧ Below w.heap.size w w' := by
  have H1' := h1
  obtain ⟨a1, c1, rfl, hr1, hL1, hn1, hx1, hl1, hs1⟩ := h1
  rw [es1] at H1' ⊢
  obtain ⟨W0, hW0⟩ : ∃ W0, W0 = ((w.alloc (.cells #[.int .i64 1, .bool V1.i, .slice a1 V1.n c1, .int .i64 V1.l, .float .f64 V1.x] 27)).alloc (.cells #[.int .i64 0, .bool false, .slice none 0 0, .int .i64 0, .float .f64 0] 27)) := ⟨_, rfl⟩
  have HB0 : Hid (Below w.heap.size w W0) := by rw [hW0]; exact below2 w _ _
  have Hg1 : Hid (W0.heap[w.heap.size]? = some (.cells #[.int .i64 1, .bool V1.i, .slice a1 V1.n c1, .int .i64 V1.l, .float .f64 V1.x] 27)) := by
    show W0.heap[w.heap.size]? = _
    rw [hW0]; exact heap_at2_0 w _ _
  have Hg2 : Hid (W0.heap[w.heap.size + 1]? = some (.cells #[.int .i64 0, .bool false, .slice none 0 0, .int .i64 0, .float .f64 0] 27)) := by
    show W0.heap[w.heap.size + 1]? = _
    rw [hW0]; exact heap_at2_1 w _ _
  have H1 : Hid (VIn W0 (.agg #[.int .i64 1, .bool V1.i, .slice a1 V1.n c1, .int .i64 V1.l, .float .f64 V1.x]) V1) := H1'.below HB0.out
  have HW : Below W0.heap.size W0 W0 := below_refl W0
  clear hr1 hL1 hn1 hx1 hl1 hs1 H1'
  obtain ⟨p10, p11, p12, p13, p14⟩ := box5 Hg1.out HW
  have hsf := st_flo
  have SZ : Hid (w.heap.size + 1 < W0.heap.size) := by show w.heap.size + 1 < W0.heap.size; rw [hW0]; simp
  have E1 : Hid (mayV V1 = 0) := e1
  have HS : Hid (isSem 1) := Or.inl rfl
  have EZ : Hid (zerV V1 = true) := ez
  clear e1 ez es1
  go_enter Tryz.func16, Tryz.ntmps16
  go_wp2_with (go_at_call 21; fail)
  rw [← hW0]
  clear hW0
  refine (vmay_at _ _ V1 0 (by exact H1.out.below HW) E1.out).mono ?_
  rintro e w1 ⟨rfl, b⟩
  replace HW := below_step HW b
  clear b
  clear p10 p11 p12 p13 p14; obtain ⟨p10, p11, p12, p13, p14⟩ := box5 Hg1.out HW
  go_wp2_with (go_at_call 25; fail)
  refine (calls_bool (viszero_any _ _ V1 (by exact H1.out.below HW)) (b := true) EZ.out).mono ?_
  rintro e w2 ⟨rfl, b⟩
  replace HW := below_step HW b
  clear b
  clear p10 p11 p12 p13 p14; obtain ⟨p10, p11, p12, p13, p14⟩ := box5 Hg1.out HW
  go_wp2_with (go_at_call 10; fail)
  refine (vone_any _ _ HS.out).mono ?_
  rintro e w3 ⟨⟨u, rfl, o⟩, b⟩
  replace HW := below_step HW b
  obtain ⟨s, i, a, n, c, l, x, rfl⟩ := o.form
  have O : Hid (VOut _ _ _ _) := o
  clear o
  clear b
  clear p10 p11 p12 p13 p14; obtain ⟨p10, p11, p12, p13, p14⟩ := box5 Hg1.out HW
  have hgr := (HW.block (w.heap.size + 1) SZ.out).trans Hg2.out
  obtain ⟨⟨z0, z1, z2, z3, z4⟩, ⟨f0, f1, f2, f3, f4⟩, s0, s1, s2, s3, s4⟩ := box5_facts hgr
  have Hgr : Hid (_ = _) := hgr
  clear hgr
  go_wp2
  refine bodyPost_ret (v := .tuple #[.agg #[.int .i64 s, .bool i, .slice a n c, .int .i64 l, .float .f64 x], .int .i64 0]) (by simp [results, Tryz.results16, go_sem, s0, s1, s2, s3, s4]) rfl ?_
  exact ⟨⟨_, rfl, O.out.set5 Hgr.out _ _ _ _ _⟩, below_set5 (below_step HB0.out HW) (by omega) _ _ _ _ _⟩
theorem star_inf (w : World) (v1 : Value) (V1 : Vl) (h1 : VIn w v1 V1) (es1 : V1.s = 1) (e1 : mayV V1 = 0) (ez : zerV V1 = false) : Calls Tryz.prog 16 #[v1] w fun e w' => (∃ u, e = .returned (.tuple #[u, .int .i64 0]) ∧ VOut w' u 1 none) ∧ Below w.heap.size w w' := by
  have H1' := h1
  obtain ⟨a1, c1, rfl, hr1, hL1, hn1, hx1, hl1, hs1⟩ := h1
  rw [es1] at H1' ⊢
  obtain ⟨W0, hW0⟩ : ∃ W0, W0 = ((w.alloc (.cells #[.int .i64 1, .bool V1.i, .slice a1 V1.n c1, .int .i64 V1.l, .float .f64 V1.x] 27)).alloc (.cells #[.int .i64 0, .bool false, .slice none 0 0, .int .i64 0, .float .f64 0] 27)) := ⟨_, rfl⟩
  have HB0 : Hid (Below w.heap.size w W0) := by rw [hW0]; exact below2 w _ _
  have Hg1 : Hid (W0.heap[w.heap.size]? = some (.cells #[.int .i64 1, .bool V1.i, .slice a1 V1.n c1, .int .i64 V1.l, .float .f64 V1.x] 27)) := by
    show W0.heap[w.heap.size]? = _
    rw [hW0]; exact heap_at2_0 w _ _
  have Hg2 : Hid (W0.heap[w.heap.size + 1]? = some (.cells #[.int .i64 0, .bool false, .slice none 0 0, .int .i64 0, .float .f64 0] 27)) := by
    show W0.heap[w.heap.size + 1]? = _
    rw [hW0]; exact heap_at2_1 w _ _
  have H1 : Hid (VIn W0 (.agg #[.int .i64 1, .bool V1.i, .slice a1 V1.n c1, .int .i64 V1.l, .float .f64 V1.x]) V1) := H1'.below HB0.out
  have HW : Below W0.heap.size W0 W0 := below_refl W0
  clear hr1 hL1 hn1 hx1 hl1 hs1 H1'
  obtain ⟨p10, p11, p12, p13, p14⟩ := box5 Hg1.out HW
  have hsf := st_flo
  have SZ : Hid (w.heap.size + 1 < W0.heap.size) := by show w.heap.size + 1 < W0.heap.size; rw [hW0]; simp
  have E1 : Hid (mayV V1 = 0) := e1
  have EZ : Hid (zerV V1 = false) := ez
  clear e1 ez es1
  go_enter Tryz.func16, Tryz.ntmps16
  go_wp2_with (go_at_call 21; fail)
  rw [← hW0]
  clear hW0
  refine (vmay_at _ _ V1 0 (by exact H1.out.below HW) E1.out).mono ?_
  rintro e w1 ⟨rfl, b⟩
  replace HW := below_step HW b
  clear b
  clear p10 p11 p12 p13 p14; obtain ⟨p10, p11, p12, p13, p14⟩ := box5 Hg1.out HW
  go_wp2_with (go_at_call 25; fail)
  refine (calls_bool (viszero_any _ _ V1 (by exact H1.out.below HW)) (b := false) EZ.out).mono ?_
  rintro e w2 ⟨rfl, b⟩
  replace HW := below_step HW b
  clear b
  clear p10 p11 p12 p13 p14; obtain ⟨p10, p11, p12, p13, p14⟩ := box5 Hg1.out HW
  go_upto_region 5 with fail
  refine wp_region_held_drew (S := (fun w' => w'.cell? ⟨w.heap.size, 0, none⟩ = some (.int .i64 1) ∧ w'.cell? ⟨w.heap.size, 1, none⟩ = some (.bool V1.i) ∧ w'.cell? ⟨w.heap.size, 2, none⟩ = some (.slice a1 V1.n c1) ∧ w'.cell? ⟨w.heap.size, 3, none⟩ = some (.int .i64 V1.l) ∧ w'.cell? ⟨w.heap.size, 4, none⟩ = some (.float .f64 V1.x))) (by kernel_rfl) ?_ (fun hHeld => ?_)
  · (try dsimp only); first | exact ⟨p10, p11, p12, p13, p14⟩ | go_keep
  refine wpAnyH_take (i := 0) (oi := { dst := some 19, op := Op.fieldAddr 27 (Operand.tmp 1) 0, type := 0, pos := "semi.go:170", after := #[], guard := none }) (v := ?vu83) rfl (by kernel_rfl) (by kernel_rfl) (by kernel_rfl) (fun _ _ _ h => h) (Or.inl ⟨by rfl, ?hyu83⟩) (by assumption) ?restu83
  case hyu83 => (intro w hSw; (try dsimp only at hSw); go_simp; (try with_reducible rfl))
  try simp only [Act.put, List.setIfInBounds_toArray, List.set_cons_zero, List.set_cons_succ]
  refine wpAnyH_take (i := 1) (oi := { dst := some 20, op := Op.load 3 (Operand.tmp 19), type := 3, pos := "semi.go:170", after := #[{ on := 0, ground := Ground.data }], guard := none }) (v := ?vu84) rfl (by kernel_rfl) (by kernel_rfl) (by kernel_rfl) (fun _ _ _ h => h) (Or.inl ⟨by rfl, ?hyu84⟩) (by assumption) ?restu84
  case hyu84 => (intro w hSw; (try dsimp only at hSw); go_simp; (try with_reducible rfl))
  try simp only [Act.put, List.setIfInBounds_toArray, List.set_cons_zero, List.set_cons_succ]
  refine wpAnyH_ready (rs := [2]) (by kernel_rfl) (by simp) ?_
  refine AllReadyH.cons (o := { dst := some 21, op := Op.call { callee := Callee.value (Operand.func 34), args := #[], argTypes := #[] }, type := 24, pos := "semi.go:170", after := #[], guard := none }) rfl (fun K hK => ?_) AllReadyH.nil
  go_simp
  go_at_call 34
  refine (inf_any _).mono ?_
  rintro e w3 ⟨rfl, b⟩
  replace HW := below_step (by first | exact HW | exact HW.drew) b
  clear b
  clear p10 p11 p12 p13 p14; obtain ⟨p10, p11, p12, p13, p14⟩ := box5 Hg1.out HW
  refine hK.out _ _ ?_ (fun hHeldB => ?_)
  · (try dsimp only); first | exact ⟨p10, p11, p12, p13, p14⟩ | go_keep
  clear hK K hHeld
  have hHeld := hHeldB
  clear hHeldB
  try simp only [Act.put, List.setIfInBounds_toArray, List.set_cons_zero, List.set_cons_succ]
  refine wpAnyH_ready (rs := [3]) (by kernel_rfl) (by simp) ?_
  refine AllReadyH.cons (o := { dst := some 22, op := Op.call { callee := Callee.value (Operand.func 32), args := #[Operand.tmp 20, Operand.tmp 21], argTypes := #[3, 24] }, type := 27, pos := "semi.go:170", after := #[{ on := 1, ground := Ground.data }, { on := 2, ground := Ground.data }, { on := 2, ground := Ground.chain }], guard := none }) rfl (fun K hK => ?_) AllReadyH.nil
  go_simp
  go_at_call 32
  refine (ofnat_any _ _ _ _ _ _).mono ?_
  rintro e w4 ⟨rfl, b⟩
  replace HW := below_step (by first | exact HW | exact HW.drew) b
  clear b
  clear p10 p11 p12 p13 p14; obtain ⟨p10, p11, p12, p13, p14⟩ := box5 Hg1.out HW
  have hgr := (HW.block (w.heap.size + 1) SZ.out).trans Hg2.out
  obtain ⟨⟨z0, z1, z2, z3, z4⟩, ⟨f0, f1, f2, f3, f4⟩, s0, s1, s2, s3, s4⟩ := box5_facts hgr
  have Hgr : Hid (w4.heap[w.heap.size + 1]? = _) := hgr
  clear hgr
  refine hK.out _ _ ?_ (fun hHeldB => ?_)
  · (try dsimp only); first | exact ⟨p10, p11, p12, p13, p14⟩ | go_keep
  clear hK K hHeld
  have hHeld := hHeldB
  clear hHeldB
  try simp only [Act.put, List.setIfInBounds_toArray, List.set_cons_zero, List.set_cons_succ]
  refine wpAnyH_ready (rs := [4]) (by kernel_rfl) (by simp) ?_
  refine AllReadyH.cons (o := { dst := none, op := Op.store 27 (Operand.tmp 2) (Operand.tmp 22), type := 0, pos := "semi.go:170", after := #[{ on := 3, ground := Ground.data }, { on := 3, ground := Ground.chain }, { on := 0, ground := Ground.phase }, { on := 1, ground := Ground.phase }, { on := 2, ground := Ground.phase }, { on := 3, ground := Ground.phase }], guard := none }) rfl (fun K hK => ?_) AllReadyH.nil
  go_simp
  
  refine hK.out _ _ ?_ (fun hHeldB => ?_)
  · (try dsimp only); (refine ⟨?_, ?_, ?_, ?_, ?_⟩ <;> (rw [set5_other _ _ _ _ (by omega)]; assumption))
  clear hK K hHeld
  have hHeld := hHeldB
  clear hHeldB
  try simp only [Act.put, List.setIfInBounds_toArray, List.set_cons_zero, List.set_cons_succ]
  refine wpAnyH_take (i := 5) (oi := { dst := some 3, op := Op.assign (Operand.const (Value.int IntKind.i64 0)), type := 30, pos := "semi.go:170", after := #[{ on := 4, ground := Ground.chain }, { on := 0, ground := Ground.phase }, { on := 1, ground := Ground.phase }, { on := 2, ground := Ground.phase }, { on := 3, ground := Ground.phase }, { on := 4, ground := Ground.phase }], guard := none }) (v := ?vu85) rfl (by kernel_rfl) (by kernel_rfl) (by kernel_rfl) (fun _ _ _ h => h) (Or.inl ⟨by rfl, ?hyu85⟩) (by assumption) ?restu85
  case hyu85 => (intro w hSw; (try dsimp only at hSw); go_simp; (try with_reducible rfl))
  try simp only [Act.put, List.setIfInBounds_toArray, List.set_cons_zero, List.set_cons_succ]
  refine wpAnyH_done (by kernel_rfl) ?_ _
  go_wp2
  refine bodyPost_ret (v := .tuple #[.agg #[.int .i64 1, .bool true, .slice none 0 0, .int .i64 0, .float .f64 0], .int .i64 0]) (by simp [results, Tryz.results16, go_sem, s0, s1, s2, s3, s4]) rfl ?_
  exact ⟨⟨_, rfl, Or.inl ⟨by decide, true, none, 0, 0, rfl, nout_inf _⟩⟩, below_set5 (below_step HB0.out HW) (by omega) _ _ _ _ _⟩
/-- SEMI's STAR. -/
theorem star_ok (w : World) (v1 : Value) (V1 : Vl) (h1 : VIn w v1 V1) (m1 : mayV V1 = 0) : Calls Tryz.prog 16 #[v1] w fun e w' => (∃ u, e = .returned (.tuple #[u, .int .i64 0]) ∧ VOut w' u V1.s (pstar V1.s (denV V1))) ∧ Below w.heap.size w w' := by
  by_cases h : V1.s = 1
  · unfold pstar
    cases hz : zerV V1
    · have : denV V1 ≠ some 0 := fun e => by
        unfold zerV at hz
        rw [m1, e, h] at hz
        cases hz
      rw [if_pos ⟨h, this⟩, h]
      exact star_inf w v1 V1 h1 h m1 hz
    · have : denV V1 = some 0 := by
        unfold zerV at hz
        simp only [Bool.and_eq_true, decide_eq_true_eq] at hz
        rw [hz.2, h]; rfl
      rw [if_neg (fun hh => hh.2 this), h]
      exact star_zero w v1 V1 h1 h m1 hz
  · unfold pstar
    rw [if_neg (fun hh => h hh.1)]
    exact star_one w v1 V1 h1 m1 (may_sem m1) (by simp [h])
end Go.Proofs.YtjdbapkmaggllaaGreatDoor
