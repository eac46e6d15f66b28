/- The document's own Alike, IsZero, Star, Better. -/
import Derived.Test.YtjdbapkmaggllaaGreatDoorS46
namespace Go.Proofs.YtjdbapkmaggllaaGreatDoor
open Go.RowKit Fo
set_option maxRecDepth 100000

theorem ral_a (w : World) (v1 v2 : Value) (V1 V2 : Vl) (h1 : VIn w v1 V1) (h2 : VIn w v2 V2) (r : Int) (m1 : mayV V1 = r) (hr : (r != 0) = true) : Calls Tryz.prog 24 #[v1, v2] w fun e w' => e = .returned (.bool false) ∧ Below w.heap.size w w' := by
  have H1' := h1
  obtain ⟨a1, c1, rfl, hr1, hL1, hn1, hx1, hl1, hs1⟩ := h1
  have H2' := h2
  obtain ⟨a2, c2, rfl, hr2, hL2, hn2, hx2, hl2, hs2⟩ := h2
  obtain ⟨W0, hW0⟩ : ∃ W0, W0 = ((w.alloc (.cells #[.int .i64 V1.s, .bool V1.i, .slice a1 V1.n c1, .int .i64 V1.l, .float .f64 V1.x] 27)).alloc (.cells #[.int .i64 V2.s, .bool V2.i, .slice a2 V2.n c2, .int .i64 V2.l, .float .f64 V2.x] 27)) := ⟨_, rfl⟩
  have HB0 : Hid (Below w.heap.size w W0) := by rw [hW0]; exact below2 w _ _
  have Hg1 : Hid (W0.heap[w.heap.size]? = some (.cells #[.int .i64 V1.s, .bool V1.i, .slice a1 V1.n c1, .int .i64 V1.l, .float .f64 V1.x] 27)) := by
    show W0.heap[w.heap.size]? = _
    rw [hW0]; exact heap_at2_0 w _ _
  have Hg2 : Hid (W0.heap[w.heap.size + 1]? = some (.cells #[.int .i64 V2.s, .bool V2.i, .slice a2 V2.n c2, .int .i64 V2.l, .float .f64 V2.x] 27)) := by
    show W0.heap[w.heap.size + 1]? = _
    rw [hW0]; exact heap_at2_1 w _ _
  have H1 : Hid (VIn W0 (.agg #[.int .i64 V1.s, .bool V1.i, .slice a1 V1.n c1, .int .i64 V1.l, .float .f64 V1.x]) V1) := H1'.below HB0.out
  have H2 : Hid (VIn W0 (.agg #[.int .i64 V2.s, .bool V2.i, .slice a2 V2.n c2, .int .i64 V2.l, .float .f64 V2.x]) V2) := H2'.below HB0.out
  have HW : Below W0.heap.size W0 W0 := below_refl W0
  clear hr1 hL1 hn1 hx1 hl1 hs1 H1' hr2 hL2 hn2 hx2 hl2 hs2 H2'
  obtain ⟨p10, p11, p12, p13, p14⟩ := box5 Hg1.out HW
  obtain ⟨p20, p21, p22, p23, p24⟩ := box5 Hg2.out HW
  have M1 : Hid (mayV V1 = r) := m1
  clear m1
  go_enter Tryz.func24, Tryz.ntmps24
  go_wp2_with (go_at_call 22; fail)
  rw [← hW0]
  clear hW0
  refine (rmv_at _ _ V1 r (by exact H1.out.below HW) M1.out).mono ?_
  rintro e w1 ⟨rfl, b⟩
  replace HW := below_step HW b
  clear b
  clear p10 p11 p12 p13 p14 p20 p21 p22 p23 p24; obtain ⟨p10, p11, p12, p13, p14⟩ := box5 Hg1.out HW; obtain ⟨p20, p21, p22, p23, p24⟩ := box5 Hg2.out HW
  go_wp2
  go_ret
  exact ⟨rfl, below_step HB0.out HW⟩
theorem ral_b (w : World) (v1 v2 : Value) (V1 V2 : Vl) (h1 : VIn w v1 V1) (h2 : VIn w v2 V2) (r : Int) (m1 : mayV V1 = 0) (m2 : mayV V2 = r) (hr : (r != 0) = true) : Calls Tryz.prog 24 #[v1, v2] w fun e w' => e = .returned (.bool false) ∧ Below w.heap.size w w' := by
  have H1' := h1
  obtain ⟨a1, c1, rfl, hr1, hL1, hn1, hx1, hl1, hs1⟩ := h1
  have H2' := h2
  obtain ⟨a2, c2, rfl, hr2, hL2, hn2, hx2, hl2, hs2⟩ := h2
  obtain ⟨W0, hW0⟩ : ∃ W0, W0 = ((w.alloc (.cells #[.int .i64 V1.s, .bool V1.i, .slice a1 V1.n c1, .int .i64 V1.l, .float .f64 V1.x] 27)).alloc (.cells #[.int .i64 V2.s, .bool V2.i, .slice a2 V2.n c2, .int .i64 V2.l, .float .f64 V2.x] 27)) := ⟨_, rfl⟩
  have HB0 : Hid (Below w.heap.size w W0) := by rw [hW0]; exact below2 w _ _
  have Hg1 : Hid (W0.heap[w.heap.size]? = some (.cells #[.int .i64 V1.s, .bool V1.i, .slice a1 V1.n c1, .int .i64 V1.l, .float .f64 V1.x] 27)) := by
    show W0.heap[w.heap.size]? = _
    rw [hW0]; exact heap_at2_0 w _ _
  have Hg2 : Hid (W0.heap[w.heap.size + 1]? = some (.cells #[.int .i64 V2.s, .bool V2.i, .slice a2 V2.n c2, .int .i64 V2.l, .float .f64 V2.x] 27)) := by
    show W0.heap[w.heap.size + 1]? = _
    rw [hW0]; exact heap_at2_1 w _ _
  have H1 : Hid (VIn W0 (.agg #[.int .i64 V1.s, .bool V1.i, .slice a1 V1.n c1, .int .i64 V1.l, .float .f64 V1.x]) V1) := H1'.below HB0.out
  have H2 : Hid (VIn W0 (.agg #[.int .i64 V2.s, .bool V2.i, .slice a2 V2.n c2, .int .i64 V2.l, .float .f64 V2.x]) V2) := H2'.below HB0.out
  have HW : Below W0.heap.size W0 W0 := below_refl W0
  clear hr1 hL1 hn1 hx1 hl1 hs1 H1' hr2 hL2 hn2 hx2 hl2 hs2 H2'
  obtain ⟨p10, p11, p12, p13, p14⟩ := box5 Hg1.out HW
  obtain ⟨p20, p21, p22, p23, p24⟩ := box5 Hg2.out HW
  have M1 : Hid (mayV V1 = 0) := m1
  have M2 : Hid (mayV V2 = r) := m2
  clear m1 m2
  go_enter Tryz.func24, Tryz.ntmps24
  go_wp2_with (go_at_call 22; fail)
  rw [← hW0]
  clear hW0
  refine (rmv_at _ _ V1 0 (by exact H1.out.below HW) M1.out).mono ?_
  rintro e w1 ⟨rfl, b⟩
  replace HW := below_step HW b
  clear b
  clear p10 p11 p12 p13 p14 p20 p21 p22 p23 p24; obtain ⟨p10, p11, p12, p13, p14⟩ := box5 Hg1.out HW; obtain ⟨p20, p21, p22, p23, p24⟩ := box5 Hg2.out HW
  go_wp2_with (go_at_call 22; fail)
  refine (rmv_at _ _ V2 r (by exact H2.out.below HW) M2.out).mono ?_
  rintro e w2 ⟨rfl, b⟩
  replace HW := below_step HW b
  clear b
  clear p10 p11 p12 p13 p14 p20 p21 p22 p23 p24; obtain ⟨p10, p11, p12, p13, p14⟩ := box5 Hg1.out HW; obtain ⟨p20, p21, p22, p23, p24⟩ := box5 Hg2.out HW
  go_wp2
  go_ret
  exact ⟨rfl, below_step HB0.out HW⟩
theorem ral_c (w : World) (v1 v2 : Value) (V1 V2 : Vl) (h1 : VIn w v1 V1) (h2 : VIn w v2 V2) (m1 : mayV V1 = 0) (m2 : mayV V2 = 0) (es : (V1.s != V2.s) = true) : Calls Tryz.prog 24 #[v1, v2] w fun e w' => e = .returned (.bool false) ∧ Below w.heap.size w w' := by
  have H1' := h1
  obtain ⟨a1, c1, rfl, hr1, hL1, hn1, hx1, hl1, hs1⟩ := h1
  have H2' := h2
  obtain ⟨a2, c2, rfl, hr2, hL2, hn2, hx2, hl2, hs2⟩ := h2
  obtain ⟨W0, hW0⟩ : ∃ W0, W0 = ((w.alloc (.cells #[.int .i64 V1.s, .bool V1.i, .slice a1 V1.n c1, .int .i64 V1.l, .float .f64 V1.x] 27)).alloc (.cells #[.int .i64 V2.s, .bool V2.i, .slice a2 V2.n c2, .int .i64 V2.l, .float .f64 V2.x] 27)) := ⟨_, rfl⟩
  have HB0 : Hid (Below w.heap.size w W0) := by rw [hW0]; exact below2 w _ _
  have Hg1 : Hid (W0.heap[w.heap.size]? = some (.cells #[.int .i64 V1.s, .bool V1.i, .slice a1 V1.n c1, .int .i64 V1.l, .float .f64 V1.x] 27)) := by
    show W0.heap[w.heap.size]? = _
    rw [hW0]; exact heap_at2_0 w _ _
  have Hg2 : Hid (W0.heap[w.heap.size + 1]? = some (.cells #[.int .i64 V2.s, .bool V2.i, .slice a2 V2.n c2, .int .i64 V2.l, .float .f64 V2.x] 27)) := by
    show W0.heap[w.heap.size + 1]? = _
    rw [hW0]; exact heap_at2_1 w _ _
  have H1 : Hid (VIn W0 (.agg #[.int .i64 V1.s, .bool V1.i, .slice a1 V1.n c1, .int .i64 V1.l, .float .f64 V1.x]) V1) := H1'.below HB0.out
  have H2 : Hid (VIn W0 (.agg #[.int .i64 V2.s, .bool V2.i, .slice a2 V2.n c2, .int .i64 V2.l, .float .f64 V2.x]) V2) := H2'.below HB0.out
  have HW : Below W0.heap.size W0 W0 := below_refl W0
  clear hr1 hL1 hn1 hx1 hl1 hs1 H1' hr2 hL2 hn2 hx2 hl2 hs2 H2'
  obtain ⟨p10, p11, p12, p13, p14⟩ := box5 Hg1.out HW
  obtain ⟨p20, p21, p22, p23, p24⟩ := box5 Hg2.out HW
  have M1 : Hid (mayV V1 = 0) := m1
  have M2 : Hid (mayV V2 = 0) := m2
  clear m1 m2
  go_enter Tryz.func24, Tryz.ntmps24
  go_wp2_with (go_at_call 22; fail)
  rw [← hW0]
  clear hW0
  refine (rmv_at _ _ V1 0 (by exact H1.out.below HW) M1.out).mono ?_
  rintro e w1 ⟨rfl, b⟩
  replace HW := below_step HW b
  clear b
  clear p10 p11 p12 p13 p14 p20 p21 p22 p23 p24; obtain ⟨p10, p11, p12, p13, p14⟩ := box5 Hg1.out HW; obtain ⟨p20, p21, p22, p23, p24⟩ := box5 Hg2.out HW
  go_wp2_with (go_at_call 22; fail)
  refine (rmv_at _ _ V2 0 (by exact H2.out.below HW) M2.out).mono ?_
  rintro e w2 ⟨rfl, b⟩
  replace HW := below_step HW b
  clear b
  clear p10 p11 p12 p13 p14 p20 p21 p22 p23 p24; obtain ⟨p10, p11, p12, p13, p14⟩ := box5 Hg1.out HW; obtain ⟨p20, p21, p22, p23, p24⟩ := box5 Hg2.out HW
  go_wp2
  go_ret
  exact ⟨rfl, below_step HB0.out HW⟩
theorem ral_nat1 (w : World) (v1 v2 : Value) (V1 V2 : Vl) (h1 : VIn w v1 V1) (h2 : VIn w v2 V2) (es1 : V1.s = 1) (es2 : V2.s = 1) (m1 : mayV V1 = 0) (m2 : mayV V2 = 0) (q : Int) (eq : ocmp (numV V1) (numV V2) = q) : Calls Tryz.prog 24 #[v1, v2] w fun e w' => e = .returned (.bool (q == 0)) ∧ Below w.heap.size w w' := by
  have H1' := h1
  obtain ⟨a1, c1, rfl, hr1, hL1, hn1, hx1, hl1, hs1⟩ := h1
  rw [es1] at H1' ⊢
  have H2' := h2
  obtain ⟨a2, c2, rfl, hr2, hL2, hn2, hx2, hl2, hs2⟩ := h2
  rw [es2] at H2' ⊢
  obtain ⟨W0, hW0⟩ : ∃ W0, W0 = ((w.alloc (.cells #[.int .i64 1, .bool V1.i, .slice a1 V1.n c1, .int .i64 V1.l, .float .f64 V1.x] 27)).alloc (.cells #[.int .i64 1, .bool V2.i, .slice a2 V2.n c2, .int .i64 V2.l, .float .f64 V2.x] 27)) := ⟨_, rfl⟩
  have HB0 : Hid (Below w.heap.size w W0) := by rw [hW0]; exact below2 w _ _
  have Hg1 : Hid (W0.heap[w.heap.size]? = some (.cells #[.int .i64 1, .bool V1.i, .slice a1 V1.n c1, .int .i64 V1.l, .float .f64 V1.x] 27)) := by
    show W0.heap[w.heap.size]? = _
    rw [hW0]; exact heap_at2_0 w _ _
  have Hg2 : Hid (W0.heap[w.heap.size + 1]? = some (.cells #[.int .i64 1, .bool V2.i, .slice a2 V2.n c2, .int .i64 V2.l, .float .f64 V2.x] 27)) := by
    show W0.heap[w.heap.size + 1]? = _
    rw [hW0]; exact heap_at2_1 w _ _
  have H1 : Hid (VIn W0 (.agg #[.int .i64 1, .bool V1.i, .slice a1 V1.n c1, .int .i64 V1.l, .float .f64 V1.x]) V1) := H1'.below HB0.out
  have H2 : Hid (VIn W0 (.agg #[.int .i64 1, .bool V2.i, .slice a2 V2.n c2, .int .i64 V2.l, .float .f64 V2.x]) V2) := H2'.below HB0.out
  have HW : Below W0.heap.size W0 W0 := below_refl W0
  clear hr1 hL1 hn1 hx1 hl1 hs1 H1' hr2 hL2 hn2 hx2 hl2 hs2 H2'
  obtain ⟨p10, p11, p12, p13, p14⟩ := box5 Hg1.out HW
  obtain ⟨p20, p21, p22, p23, p24⟩ := box5 Hg2.out HW
  have M1 : Hid (mayV V1 = 0) := m1
  have M2 : Hid (mayV V2 = 0) := m2
  clear m1 m2
  have EQ : Hid (ocmp (numV V1) (numV V2) = q) := eq
  clear eq es1 es2
  go_enter Tryz.func24, Tryz.ntmps24
  go_wp2_with (go_at_call 22; fail)
  rw [← hW0]
  clear hW0
  refine (rmv_at _ _ V1 0 (by exact H1.out.below HW) M1.out).mono ?_
  rintro e w1 ⟨rfl, b⟩
  replace HW := below_step HW b
  clear b
  clear p10 p11 p12 p13 p14 p20 p21 p22 p23 p24; obtain ⟨p10, p11, p12, p13, p14⟩ := box5 Hg1.out HW; obtain ⟨p20, p21, p22, p23, p24⟩ := box5 Hg2.out HW
  go_wp2_with (go_at_call 22; fail)
  refine (rmv_at _ _ V2 0 (by exact H2.out.below HW) M2.out).mono ?_
  rintro e w2 ⟨rfl, b⟩
  replace HW := below_step HW b
  clear b
  clear p10 p11 p12 p13 p14 p20 p21 p22 p23 p24; obtain ⟨p10, p11, p12, p13, p14⟩ := box5 Hg1.out HW; obtain ⟨p20, p21, p22, p23, p24⟩ := box5 Hg2.out HW
  go_wp2_with (go_at_call 47; fail)
  refine (rcompare_to _ _ _ (numV V1) (numV V2) q (by exact (H1.out.below HW).num') (by exact (H2.out.below HW).num') EQ.out).mono ?_
  rintro e w3 ⟨rfl, b⟩
  replace HW := below_step HW b
  clear b
  clear p10 p11 p12 p13 p14 p20 p21 p22 p23 p24; obtain ⟨p10, p11, p12, p13, p14⟩ := box5 Hg1.out HW; obtain ⟨p20, p21, p22, p23, p24⟩ := box5 Hg2.out HW
  go_wp2
  go_ret
  exact ⟨rfl, below_step HB0.out HW⟩
theorem ral_nat3 (w : World) (v1 v2 : Value) (V1 V2 : Vl) (h1 : VIn w v1 V1) (h2 : VIn w v2 V2) (es1 : V1.s = 3) (es2 : V2.s = 3) (m1 : mayV V1 = 0) (m2 : mayV V2 = 0) (q : Int) (eq : ocmp (numV V1) (numV V2) = q) : Calls Tryz.prog 24 #[v1, v2] w fun e w' => e = .returned (.bool (q == 0)) ∧ Below w.heap.size w w' := by
  have H1' := h1
  obtain ⟨a1, c1, rfl, hr1, hL1, hn1, hx1, hl1, hs1⟩ := h1
  rw [es1] at H1' ⊢
  have H2' := h2
  obtain ⟨a2, c2, rfl, hr2, hL2, hn2, hx2, hl2, hs2⟩ := h2
  rw [es2] at H2' ⊢
  obtain ⟨W0, hW0⟩ : ∃ W0, W0 = ((w.alloc (.cells #[.int .i64 3, .bool V1.i, .slice a1 V1.n c1, .int .i64 V1.l, .float .f64 V1.x] 27)).alloc (.cells #[.int .i64 3, .bool V2.i, .slice a2 V2.n c2, .int .i64 V2.l, .float .f64 V2.x] 27)) := ⟨_, rfl⟩
  have HB0 : Hid (Below w.heap.size w W0) := by rw [hW0]; exact below2 w _ _
  have Hg1 : Hid (W0.heap[w.heap.size]? = some (.cells #[.int .i64 3, .bool V1.i, .slice a1 V1.n c1, .int .i64 V1.l, .float .f64 V1.x] 27)) := by
    show W0.heap[w.heap.size]? = _
    rw [hW0]; exact heap_at2_0 w _ _
  have Hg2 : Hid (W0.heap[w.heap.size + 1]? = some (.cells #[.int .i64 3, .bool V2.i, .slice a2 V2.n c2, .int .i64 V2.l, .float .f64 V2.x] 27)) := by
    show W0.heap[w.heap.size + 1]? = _
    rw [hW0]; exact heap_at2_1 w _ _
  have H1 : Hid (VIn W0 (.agg #[.int .i64 3, .bool V1.i, .slice a1 V1.n c1, .int .i64 V1.l, .float .f64 V1.x]) V1) := H1'.below HB0.out
  have H2 : Hid (VIn W0 (.agg #[.int .i64 3, .bool V2.i, .slice a2 V2.n c2, .int .i64 V2.l, .float .f64 V2.x]) V2) := H2'.below HB0.out
  have HW : Below W0.heap.size W0 W0 := below_refl W0
  clear hr1 hL1 hn1 hx1 hl1 hs1 H1' hr2 hL2 hn2 hx2 hl2 hs2 H2'
  obtain ⟨p10, p11, p12, p13, p14⟩ := box5 Hg1.out HW
  obtain ⟨p20, p21, p22, p23, p24⟩ := box5 Hg2.out HW
  have M1 : Hid (mayV V1 = 0) := m1
  have M2 : Hid (mayV V2 = 0) := m2
  clear m1 m2
  have EQ : Hid (ocmp (numV V1) (numV V2) = q) := eq
  clear eq es1 es2
  go_enter Tryz.func24, Tryz.ntmps24
  go_wp2_with (go_at_call 22; fail)
  rw [← hW0]
  clear hW0
  refine (rmv_at _ _ V1 0 (by exact H1.out.below HW) M1.out).mono ?_
  rintro e w1 ⟨rfl, b⟩
  replace HW := below_step HW b
  clear b
  clear p10 p11 p12 p13 p14 p20 p21 p22 p23 p24; obtain ⟨p10, p11, p12, p13, p14⟩ := box5 Hg1.out HW; obtain ⟨p20, p21, p22, p23, p24⟩ := box5 Hg2.out HW
  go_wp2_with (go_at_call 22; fail)
  refine (rmv_at _ _ V2 0 (by exact H2.out.below HW) M2.out).mono ?_
  rintro e w2 ⟨rfl, b⟩
  replace HW := below_step HW b
  clear b
  clear p10 p11 p12 p13 p14 p20 p21 p22 p23 p24; obtain ⟨p10, p11, p12, p13, p14⟩ := box5 Hg1.out HW; obtain ⟨p20, p21, p22, p23, p24⟩ := box5 Hg2.out HW
  go_wp2_with (go_at_call 47; fail)
  refine (rcompare_to _ _ _ (numV V1) (numV V2) q (by exact (H1.out.below HW).num') (by exact (H2.out.below HW).num') EQ.out).mono ?_
  rintro e w3 ⟨rfl, b⟩
  replace HW := below_step HW b
  clear b
  clear p10 p11 p12 p13 p14 p20 p21 p22 p23 p24; obtain ⟨p10, p11, p12, p13, p14⟩ := box5 Hg1.out HW; obtain ⟨p20, p21, p22, p23, p24⟩ := box5 Hg2.out HW
  go_wp2
  go_ret
  exact ⟨rfl, below_step HB0.out HW⟩
theorem ral_lev2 (w : World) (v1 v2 : Value) (V1 V2 : Vl) (h1 : VIn w v1 V1) (h2 : VIn w v2 V2) (es1 : V1.s = 2) (es2 : V2.s = 2) (m1 : mayV V1 = 0) (m2 : mayV V2 = 0) : Calls Tryz.prog 24 #[v1, v2] w fun e w' => e = .returned (.bool (V1.l == V2.l)) ∧ Below w.heap.size w w' := by
  have H1' := h1
  obtain ⟨a1, c1, rfl, hr1, hL1, hn1, hx1, hl1, hs1⟩ := h1
  rw [es1] at H1' ⊢
  have H2' := h2
  obtain ⟨a2, c2, rfl, hr2, hL2, hn2, hx2, hl2, hs2⟩ := h2
  rw [es2] at H2' ⊢
  obtain ⟨W0, hW0⟩ : ∃ W0, W0 = ((w.alloc (.cells #[.int .i64 2, .bool V1.i, .slice a1 V1.n c1, .int .i64 V1.l, .float .f64 V1.x] 27)).alloc (.cells #[.int .i64 2, .bool V2.i, .slice a2 V2.n c2, .int .i64 V2.l, .float .f64 V2.x] 27)) := ⟨_, rfl⟩
  have HB0 : Hid (Below w.heap.size w W0) := by rw [hW0]; exact below2 w _ _
  have Hg1 : Hid (W0.heap[w.heap.size]? = some (.cells #[.int .i64 2, .bool V1.i, .slice a1 V1.n c1, .int .i64 V1.l, .float .f64 V1.x] 27)) := by
    show W0.heap[w.heap.size]? = _
    rw [hW0]; exact heap_at2_0 w _ _
  have Hg2 : Hid (W0.heap[w.heap.size + 1]? = some (.cells #[.int .i64 2, .bool V2.i, .slice a2 V2.n c2, .int .i64 V2.l, .float .f64 V2.x] 27)) := by
    show W0.heap[w.heap.size + 1]? = _
    rw [hW0]; exact heap_at2_1 w _ _
  have H1 : Hid (VIn W0 (.agg #[.int .i64 2, .bool V1.i, .slice a1 V1.n c1, .int .i64 V1.l, .float .f64 V1.x]) V1) := H1'.below HB0.out
  have H2 : Hid (VIn W0 (.agg #[.int .i64 2, .bool V2.i, .slice a2 V2.n c2, .int .i64 V2.l, .float .f64 V2.x]) V2) := H2'.below HB0.out
  have HW : Below W0.heap.size W0 W0 := below_refl W0
  clear hr1 hL1 hn1 hx1 hl1 hs1 H1' hr2 hL2 hn2 hx2 hl2 hs2 H2'
  obtain ⟨p10, p11, p12, p13, p14⟩ := box5 Hg1.out HW
  obtain ⟨p20, p21, p22, p23, p24⟩ := box5 Hg2.out HW
  have M1 : Hid (mayV V1 = 0) := m1
  have M2 : Hid (mayV V2 = 0) := m2
  clear m1 m2
  clear es1 es2
  go_enter Tryz.func24, Tryz.ntmps24
  go_wp2_with (go_at_call 22; fail)
  rw [← hW0]
  clear hW0
  refine (rmv_at _ _ V1 0 (by exact H1.out.below HW) M1.out).mono ?_
  rintro e w1 ⟨rfl, b⟩
  replace HW := below_step HW b
  clear b
  clear p10 p11 p12 p13 p14 p20 p21 p22 p23 p24; obtain ⟨p10, p11, p12, p13, p14⟩ := box5 Hg1.out HW; obtain ⟨p20, p21, p22, p23, p24⟩ := box5 Hg2.out HW
  go_wp2_with (go_at_call 22; fail)
  refine (rmv_at _ _ V2 0 (by exact H2.out.below HW) M2.out).mono ?_
  rintro e w2 ⟨rfl, b⟩
  replace HW := below_step HW b
  clear b
  clear p10 p11 p12 p13 p14 p20 p21 p22 p23 p24; obtain ⟨p10, p11, p12, p13, p14⟩ := box5 Hg1.out HW; obtain ⟨p20, p21, p22, p23, p24⟩ := box5 Hg2.out HW
  go_wp2
  go_ret
  exact ⟨rfl, below_step HB0.out HW⟩
theorem ral_lev4 (w : World) (v1 v2 : Value) (V1 V2 : Vl) (h1 : VIn w v1 V1) (h2 : VIn w v2 V2) (es1 : V1.s = 4) (es2 : V2.s = 4) (m1 : mayV V1 = 0) (m2 : mayV V2 = 0) : Calls Tryz.prog 24 #[v1, v2] w fun e w' => e = .returned (.bool (V1.l == V2.l)) ∧ Below w.heap.size w w' := by
  have H1' := h1
  obtain ⟨a1, c1, rfl, hr1, hL1, hn1, hx1, hl1, hs1⟩ := h1
  rw [es1] at H1' ⊢
  have H2' := h2
  obtain ⟨a2, c2, rfl, hr2, hL2, hn2, hx2, hl2, hs2⟩ := h2
  rw [es2] at H2' ⊢
  obtain ⟨W0, hW0⟩ : ∃ W0, W0 = ((w.alloc (.cells #[.int .i64 4, .bool V1.i, .slice a1 V1.n c1, .int .i64 V1.l, .float .f64 V1.x] 27)).alloc (.cells #[.int .i64 4, .bool V2.i, .slice a2 V2.n c2, .int .i64 V2.l, .float .f64 V2.x] 27)) := ⟨_, rfl⟩
  have HB0 : Hid (Below w.heap.size w W0) := by rw [hW0]; exact below2 w _ _
  have Hg1 : Hid (W0.heap[w.heap.size]? = some (.cells #[.int .i64 4, .bool V1.i, .slice a1 V1.n c1, .int .i64 V1.l, .float .f64 V1.x] 27)) := by
    show W0.heap[w.heap.size]? = _
    rw [hW0]; exact heap_at2_0 w _ _
  have Hg2 : Hid (W0.heap[w.heap.size + 1]? = some (.cells #[.int .i64 4, .bool V2.i, .slice a2 V2.n c2, .int .i64 V2.l, .float .f64 V2.x] 27)) := by
    show W0.heap[w.heap.size + 1]? = _
    rw [hW0]; exact heap_at2_1 w _ _
  have H1 : Hid (VIn W0 (.agg #[.int .i64 4, .bool V1.i, .slice a1 V1.n c1, .int .i64 V1.l, .float .f64 V1.x]) V1) := H1'.below HB0.out
  have H2 : Hid (VIn W0 (.agg #[.int .i64 4, .bool V2.i, .slice a2 V2.n c2, .int .i64 V2.l, .float .f64 V2.x]) V2) := H2'.below HB0.out
  have HW : Below W0.heap.size W0 W0 := below_refl W0
  clear hr1 hL1 hn1 hx1 hl1 hs1 H1' hr2 hL2 hn2 hx2 hl2 hs2 H2'
  obtain ⟨p10, p11, p12, p13, p14⟩ := box5 Hg1.out HW
  obtain ⟨p20, p21, p22, p23, p24⟩ := box5 Hg2.out HW
  have M1 : Hid (mayV V1 = 0) := m1
  have M2 : Hid (mayV V2 = 0) := m2
  clear m1 m2
  clear es1 es2
  go_enter Tryz.func24, Tryz.ntmps24
  go_wp2_with (go_at_call 22; fail)
  rw [← hW0]
  clear hW0
  refine (rmv_at _ _ V1 0 (by exact H1.out.below HW) M1.out).mono ?_
  rintro e w1 ⟨rfl, b⟩
  replace HW := below_step HW b
  clear b
  clear p10 p11 p12 p13 p14 p20 p21 p22 p23 p24; obtain ⟨p10, p11, p12, p13, p14⟩ := box5 Hg1.out HW; obtain ⟨p20, p21, p22, p23, p24⟩ := box5 Hg2.out HW
  go_wp2_with (go_at_call 22; fail)
  refine (rmv_at _ _ V2 0 (by exact H2.out.below HW) M2.out).mono ?_
  rintro e w2 ⟨rfl, b⟩
  replace HW := below_step HW b
  clear b
  clear p10 p11 p12 p13 p14 p20 p21 p22 p23 p24; obtain ⟨p10, p11, p12, p13, p14⟩ := box5 Hg1.out HW; obtain ⟨p20, p21, p22, p23, p24⟩ := box5 Hg2.out HW
  go_wp2
  go_ret
  exact ⟨rfl, below_step HB0.out HW⟩
theorem ral_flo5 (w : World) (v1 v2 : Value) (V1 V2 : Vl) (h1 : VIn w v1 V1) (h2 : VIn w v2 V2) (es1 : V1.s = 5) (es2 : V2.s = 5) (m1 : mayV V1 = 0) (m2 : mayV V2 = 0) (bb : Bool) (hbb : decide (Fl.Fo.bitsOf V1.x = Fl.Fo.bitsOf V2.x) = bb) : Calls Tryz.prog 24 #[v1, v2] w fun e w' => e = .returned (.bool bb) ∧ Below w.heap.size w w' := by
  have H1' := h1
  obtain ⟨a1, c1, rfl, hr1, hL1, hn1, hx1, hl1, hs1⟩ := h1
  rw [es1] at H1' ⊢
  have H2' := h2
  obtain ⟨a2, c2, rfl, hr2, hL2, hn2, hx2, hl2, hs2⟩ := h2
  rw [es2] at H2' ⊢
  obtain ⟨W0, hW0⟩ : ∃ W0, W0 = ((w.alloc (.cells #[.int .i64 5, .bool V1.i, .slice a1 V1.n c1, .int .i64 V1.l, .float .f64 V1.x] 27)).alloc (.cells #[.int .i64 5, .bool V2.i, .slice a2 V2.n c2, .int .i64 V2.l, .float .f64 V2.x] 27)) := ⟨_, rfl⟩
  have HB0 : Hid (Below w.heap.size w W0) := by rw [hW0]; exact below2 w _ _
  have Hg1 : Hid (W0.heap[w.heap.size]? = some (.cells #[.int .i64 5, .bool V1.i, .slice a1 V1.n c1, .int .i64 V1.l, .float .f64 V1.x] 27)) := by
    show W0.heap[w.heap.size]? = _
    rw [hW0]; exact heap_at2_0 w _ _
  have Hg2 : Hid (W0.heap[w.heap.size + 1]? = some (.cells #[.int .i64 5, .bool V2.i, .slice a2 V2.n c2, .int .i64 V2.l, .float .f64 V2.x] 27)) := by
    show W0.heap[w.heap.size + 1]? = _
    rw [hW0]; exact heap_at2_1 w _ _
  have H1 : Hid (VIn W0 (.agg #[.int .i64 5, .bool V1.i, .slice a1 V1.n c1, .int .i64 V1.l, .float .f64 V1.x]) V1) := H1'.below HB0.out
  have H2 : Hid (VIn W0 (.agg #[.int .i64 5, .bool V2.i, .slice a2 V2.n c2, .int .i64 V2.l, .float .f64 V2.x]) V2) := H2'.below HB0.out
  have HW : Below W0.heap.size W0 W0 := below_refl W0
  clear hr1 hL1 hn1 hx1 hl1 hs1 H1' hr2 hL2 hn2 hx2 hl2 hs2 H2'
  obtain ⟨p10, p11, p12, p13, p14⟩ := box5 Hg1.out HW
  obtain ⟨p20, p21, p22, p23, p24⟩ := box5 Hg2.out HW
  have CS : Hid (∀ w, Calls Tryz.prog 48 #[.float .f64 V1.x, .float .f64 V2.x] w fun e w' => e = .returned (.bool bb) ∧ w' = w) := by rw [← hbb]; exact Fl.rsame_any V1.x V2.x H1.out.xlt H2.out.xlt
  have M1 : Hid (mayV V1 = 0) := m1
  have M2 : Hid (mayV V2 = 0) := m2
  clear m1 m2
  clear hbb es1 es2
  go_enter Tryz.func24, Tryz.ntmps24
  go_wp2_with (go_at_call 22; fail)
  rw [← hW0]
  clear hW0
  refine (rmv_at _ _ V1 0 (by exact H1.out.below HW) M1.out).mono ?_
  rintro e w1 ⟨rfl, b⟩
  replace HW := below_step HW b
  clear b
  clear p10 p11 p12 p13 p14 p20 p21 p22 p23 p24; obtain ⟨p10, p11, p12, p13, p14⟩ := box5 Hg1.out HW; obtain ⟨p20, p21, p22, p23, p24⟩ := box5 Hg2.out HW
  go_wp2_with (go_at_call 22; fail)
  refine (rmv_at _ _ V2 0 (by exact H2.out.below HW) M2.out).mono ?_
  rintro e w2 ⟨rfl, b⟩
  replace HW := below_step HW b
  clear b
  clear p10 p11 p12 p13 p14 p20 p21 p22 p23 p24; obtain ⟨p10, p11, p12, p13, p14⟩ := box5 Hg1.out HW; obtain ⟨p20, p21, p22, p23, p24⟩ := box5 Hg2.out HW
  go_wp2_with (go_at_call 48; fail)
  refine (CS.out _).mono ?_
  rintro e w3 ⟨rfl, rfl⟩
  clear p10 p11 p12 p13 p14 p20 p21 p22 p23 p24; obtain ⟨p10, p11, p12, p13, p14⟩ := box5 Hg1.out HW; obtain ⟨p20, p21, p22, p23, p24⟩ := box5 Hg2.out HW
  go_wp2
  go_ret
  exact ⟨rfl, below_step HB0.out HW⟩
theorem ral_flo6 (w : World) (v1 v2 : Value) (V1 V2 : Vl) (h1 : VIn w v1 V1) (h2 : VIn w v2 V2) (es1 : V1.s = 6) (es2 : V2.s = 6) (m1 : mayV V1 = 0) (m2 : mayV V2 = 0) (bb : Bool) (hbb : decide (Fl.Fo.bitsOf V1.x = Fl.Fo.bitsOf V2.x) = bb) : Calls Tryz.prog 24 #[v1, v2] w fun e w' => e = .returned (.bool bb) ∧ Below w.heap.size w w' := by
  have H1' := h1
  obtain ⟨a1, c1, rfl, hr1, hL1, hn1, hx1, hl1, hs1⟩ := h1
  rw [es1] at H1' ⊢
  have H2' := h2
  obtain ⟨a2, c2, rfl, hr2, hL2, hn2, hx2, hl2, hs2⟩ := h2
  rw [es2] at H2' ⊢
  obtain ⟨W0, hW0⟩ : ∃ W0, W0 = ((w.alloc (.cells #[.int .i64 6, .bool V1.i, .slice a1 V1.n c1, .int .i64 V1.l, .float .f64 V1.x] 27)).alloc (.cells #[.int .i64 6, .bool V2.i, .slice a2 V2.n c2, .int .i64 V2.l, .float .f64 V2.x] 27)) := ⟨_, rfl⟩
  have HB0 : Hid (Below w.heap.size w W0) := by rw [hW0]; exact below2 w _ _
  have Hg1 : Hid (W0.heap[w.heap.size]? = some (.cells #[.int .i64 6, .bool V1.i, .slice a1 V1.n c1, .int .i64 V1.l, .float .f64 V1.x] 27)) := by
    show W0.heap[w.heap.size]? = _
    rw [hW0]; exact heap_at2_0 w _ _
  have Hg2 : Hid (W0.heap[w.heap.size + 1]? = some (.cells #[.int .i64 6, .bool V2.i, .slice a2 V2.n c2, .int .i64 V2.l, .float .f64 V2.x] 27)) := by
    show W0.heap[w.heap.size + 1]? = _
    rw [hW0]; exact heap_at2_1 w _ _
  have H1 : Hid (VIn W0 (.agg #[.int .i64 6, .bool V1.i, .slice a1 V1.n c1, .int .i64 V1.l, .float .f64 V1.x]) V1) := H1'.below HB0.out
  have H2 : Hid (VIn W0 (.agg #[.int .i64 6, .bool V2.i, .slice a2 V2.n c2, .int .i64 V2.l, .float .f64 V2.x]) V2) := H2'.below HB0.out
  have HW : Below W0.heap.size W0 W0 := below_refl W0
  clear hr1 hL1 hn1 hx1 hl1 hs1 H1' hr2 hL2 hn2 hx2 hl2 hs2 H2'
  obtain ⟨p10, p11, p12, p13, p14⟩ := box5 Hg1.out HW
  obtain ⟨p20, p21, p22, p23, p24⟩ := box5 Hg2.out HW
  have CS : Hid (∀ w, Calls Tryz.prog 48 #[.float .f64 V1.x, .float .f64 V2.x] w fun e w' => e = .returned (.bool bb) ∧ w' = w) := by rw [← hbb]; exact Fl.rsame_any V1.x V2.x H1.out.xlt H2.out.xlt
  have M1 : Hid (mayV V1 = 0) := m1
  have M2 : Hid (mayV V2 = 0) := m2
  clear m1 m2
  clear hbb es1 es2
  go_enter Tryz.func24, Tryz.ntmps24
  go_wp2_with (go_at_call 22; fail)
  rw [← hW0]
  clear hW0
  refine (rmv_at _ _ V1 0 (by exact H1.out.below HW) M1.out).mono ?_
  rintro e w1 ⟨rfl, b⟩
  replace HW := below_step HW b
  clear b
  clear p10 p11 p12 p13 p14 p20 p21 p22 p23 p24; obtain ⟨p10, p11, p12, p13, p14⟩ := box5 Hg1.out HW; obtain ⟨p20, p21, p22, p23, p24⟩ := box5 Hg2.out HW
  go_wp2_with (go_at_call 22; fail)
  refine (rmv_at _ _ V2 0 (by exact H2.out.below HW) M2.out).mono ?_
  rintro e w2 ⟨rfl, b⟩
  replace HW := below_step HW b
  clear b
  clear p10 p11 p12 p13 p14 p20 p21 p22 p23 p24; obtain ⟨p10, p11, p12, p13, p14⟩ := box5 Hg1.out HW; obtain ⟨p20, p21, p22, p23, p24⟩ := box5 Hg2.out HW
  go_wp2_with (go_at_call 48; fail)
  refine (CS.out _).mono ?_
  rintro e w3 ⟨rfl, rfl⟩
  clear p10 p11 p12 p13 p14 p20 p21 p22 p23 p24; obtain ⟨p10, p11, p12, p13, p14⟩ := box5 Hg1.out HW; obtain ⟨p20, p21, p22, p23, p24⟩ := box5 Hg2.out HW
  go_wp2
  go_ret
  exact ⟨rfl, below_step HB0.out HW⟩
/-- THE DOCUMENT's OWN ALIKE. -/
theorem ralike_any (w : World) (v1 v2 : Value) (V1 V2 : Vl) (h1 : VIn w v1 V1) (h2 : VIn w v2 V2) : Calls Tryz.prog 24 #[v1, v2] w fun e w' => e = .returned (.bool (sameV V1 V2)) ∧ Below w.heap.size w w' := by
  unfold sameV
  by_cases m1 : mayV V1 = 0
  · by_cases m2 : mayV V2 = 0
    · by_cases es : V1.s = V2.s
      · rw [ok_err m1 m2 es]
        have r2 := may_range m2
        rcases may_range m1 with ⟨hs, -⟩ | ⟨hs, ha, hb⟩ | ⟨hs, ha, hb⟩ | ⟨hs, hx⟩ | ⟨hs, hx⟩
        · rw [den_nat hs, den_nat (es ▸ hs)]
          rcases hs with hs | hs
          · exact calls_bool (ral_nat1 w v1 v2 V1 V2 h1 h2 hs (es ▸ hs) m1 m2 _ rfl) (by rw [ocmp_zero]; rfl)
          · exact calls_bool (ral_nat3 w v1 v2 V1 V2 h1 h2 hs (es ▸ hs) m1 m2 _ rfl) (by rw [ocmp_zero]; rfl)
        · rw [den_lev (Or.inl hs), den_lev (Or.inl (es ▸ hs))]
          refine calls_bool (ral_lev2 w v1 v2 V1 V2 h1 h2 hs (es ▸ hs) m1 m2) ?_
          rw [Bool.eq_iff_iff]; simp; omega
        · rw [den_lev (Or.inr hs), den_lev (Or.inr (es ▸ hs))]
          refine calls_bool (ral_lev4 w v1 v2 V1 V2 h1 h2 hs (es ▸ hs) m1 m2) ?_
          rw [Bool.eq_iff_iff]; simp; omega
        · rw [den_flo (Or.inl hs), den_flo (Or.inl (es ▸ hs))]
          refine calls_bool (ral_flo5 w v1 v2 V1 V2 h1 h2 hs (es ▸ hs) m1 m2 _ rfl) ?_
          rw [bits_low (by omega), bits_low (by omega), Bool.eq_iff_iff]; simp
        · rw [den_flo (Or.inr hs), den_flo (Or.inr (es ▸ hs))]
          refine calls_bool (ral_flo6 w v1 v2 V1 V2 h1 h2 hs (es ▸ hs) m1 m2 _ rfl) ?_
          rw [bits_low (by omega), bits_low (by omega), Bool.eq_iff_iff]; simp
      · rw [decide_eq_false (fun h => es (err_ok h).2.2), Bool.false_and]
        exact ral_c w v1 v2 V1 V2 h1 h2 m1 m2 (by simpa using es)
    · rw [decide_eq_false (fun h => m2 (err_ok h).2.1), Bool.false_and]
      exact ral_b w v1 v2 V1 V2 h1 h2 _ m1 rfl (by simpa using m2)
  · rw [decide_eq_false (fun h => m1 (err_ok h).1), Bool.false_and]
    exact ral_a w v1 v2 V1 V2 h1 h2 _ rfl (by simpa using m1)
theorem rsame_zero (w : World) (v1 v2 : Value) (V1 : Vl) (h1 : VIn w v1 V1) (h2 : VOk w v2 V1.s (pzero V1.s)) : Calls Tryz.prog 24 #[v1, v2] w fun e w' => e = .returned (.bool (zerV V1)) ∧ Below w.heap.size w w' := by
  obtain ⟨V2, h2, m2, e2, d2⟩ := h2
  refine calls_bool (ralike_any w v1 v2 V1 V2 h1 h2) ?_
  unfold sameV zerV
  rw [d2]
  congr 1
  rw [Bool.eq_iff_iff, decide_eq_true_eq, decide_eq_true_eq]
  exact ⟨fun h => (err_ok h).1, fun h => ok_err h m2 e2.symm⟩
theorem ralike_of (w : World) (v1 v2 : Value) (V2 : Vl) (P : Option Nat) (b : Bool) (h1 : VOk w v1 V2.s P) (h2 : VIn w v2 V2) (m2 : mayV V2 = 0) (hb : decide (P = denV V2) = b) : Calls Tryz.prog 24 #[v1, v2] w fun e w' => e = .returned (.bool b) ∧ Below w.heap.size w w' := by
  obtain ⟨V1, h1, m1, e1, d1⟩ := h1
  refine calls_bool (ralike_any w v1 v2 V1 V2 h1 h2) ?_
  unfold sameV
  rw [ok_err m1 m2 e1, d1, hb]; rfl
set_option maxHeartbeats 8000000 in
theorem riszero_sem (w : World) (v1 : Value) (V1 : Vl) (h1 : VIn w v1 V1) (hs : isSem V1.s) : Calls Tryz.prog 26 #[v1] w fun e w' => e = .returned (.bool (zerV V1)) ∧ Below w.heap.size w w' := by
  have hsf := st_flo
  have HS : Hid (isSem V1.s) := hs
  clear hs
  have H1' := h1
  obtain ⟨a1, c1, rfl, hr1, hL1, hn1, hx1, hl1, hs1⟩ := h1
  obtain ⟨W0, hW0⟩ : ∃ W0, W0 = (w.alloc (.cells #[.int .i64 V1.s, .bool V1.i, .slice a1 V1.n c1, .int .i64 V1.l, .float .f64 V1.x] 27)) := ⟨_, rfl⟩
  have HB0 : Hid (Below w.heap.size w W0) := by rw [hW0]; exact below1 w _
  have Hg1 : Hid (W0.heap[w.heap.size]? = some (.cells #[.int .i64 V1.s, .bool V1.i, .slice a1 V1.n c1, .int .i64 V1.l, .float .f64 V1.x] 27)) := by
    show W0.heap[w.heap.size]? = _
    rw [hW0]; exact heap_at1_0 w _
  have H1 : Hid (VIn W0 (.agg #[.int .i64 V1.s, .bool V1.i, .slice a1 V1.n c1, .int .i64 V1.l, .float .f64 V1.x]) V1) := H1'.below HB0.out
  have HW : Below W0.heap.size W0 W0 := below_refl W0
  clear hr1 hL1 hn1 hx1 hl1 hs1 H1'
  obtain ⟨p10, p11, p12, p13, p14⟩ := box5 Hg1.out HW
  go_enter Tryz.func26, Tryz.ntmps26
  go_wp2_with (go_at_call 9; fail)
  rw [← hW0]
  clear hW0
  refine (rzero_any V1.s _ HS.out).mono ?_
  rintro e w1 ⟨⟨u, rfl, o⟩, b⟩
  replace HW := below_step HW b
  clear b
  clear p10 p11 p12 p13 p14; obtain ⟨p10, p11, p12, p13, p14⟩ := box5 Hg1.out HW
  obtain ⟨s, i, a, n, c, l, x, rfl⟩ := o.form
  have O : Hid (VOut _ _ _ _) := o
  clear o
  have hlt : w.heap.size < w1.heap.size := World.block_lt_of_cell? w1 _ p10
  go_wp2_with (go_at_call 24; fail)
  refine (rsame_zero _ _ _ V1 (by exact H1.out.below (HW.alloc HW.size _)) (by exact (O.out.ok (pzero_short _)).below (below1 _ _))).mono ?_
  rintro e w2 ⟨rfl, b⟩
  replace HW := below_step (HW.alloc HW.size _) b
  clear b
  go_wp2
  go_ret
  exact ⟨rfl, below_step HB0.out HW⟩
theorem riszero_not (w : World) (v1 : Value) (V1 : Vl) (h1 : VIn w v1 V1) (hs : ¬ isSem V1.s) : Calls Tryz.prog 26 #[v1] w fun e w' => e = .returned (.bool false) ∧ Below w.heap.size w w' := by
  have H1' := h1
  obtain ⟨a1, c1, rfl, hr1, hL1, hn1, hx1, hl1, hs1⟩ := h1
  obtain ⟨W0, hW0⟩ : ∃ W0, W0 = (w.alloc (.cells #[.int .i64 V1.s, .bool V1.i, .slice a1 V1.n c1, .int .i64 V1.l, .float .f64 V1.x] 27)) := ⟨_, rfl⟩
  have HB0 : Hid (Below w.heap.size w W0) := by rw [hW0]; exact below1 w _
  have Hg1 : Hid (W0.heap[w.heap.size]? = some (.cells #[.int .i64 V1.s, .bool V1.i, .slice a1 V1.n c1, .int .i64 V1.l, .float .f64 V1.x] 27)) := by
    show W0.heap[w.heap.size]? = _
    rw [hW0]; exact heap_at1_0 w _
  have H1 : Hid (VIn W0 (.agg #[.int .i64 V1.s, .bool V1.i, .slice a1 V1.n c1, .int .i64 V1.l, .float .f64 V1.x]) V1) := H1'.below HB0.out
  have HW : Below W0.heap.size W0 W0 := below_refl W0
  clear hr1 hL1 hn1 hx1 hl1 hs1 H1'
  obtain ⟨p10, p11, p12, p13, p14⟩ := box5 Hg1.out HW
  have hsf := st_flo
  have HS : Hid (¬ isSem V1.s) := hs
  clear hs
  go_enter Tryz.func26, Tryz.ntmps26
  go_wp2_with (go_at_call 9; fail)
  rw [← hW0]
  clear hW0
  refine (rzero_not V1.s _ HS.out).mono ?_
  rintro e w1 ⟨rfl, b⟩
  replace HW := below_step HW b
  unfold noV
  clear b
  clear p10 p11 p12 p13 p14; obtain ⟨p10, p11, p12, p13, p14⟩ := box5 Hg1.out HW
  go_wp2
  go_ret
  exact ⟨rfl, below_step HB0.out (HW.alloc HW.size _)⟩
/-- THE DOCUMENT's OWN ISZERO. -/
theorem riszero_any (w : World) (v1 : Value) (V1 : Vl) (h1 : VIn w v1 V1) : Calls Tryz.prog 26 #[v1] w fun e w' => e = .returned (.bool (zerV V1)) ∧ Below w.heap.size w w' := by
  by_cases hs : isSem V1.s
  · exact riszero_sem w v1 V1 h1 hs
  · refine calls_bool (riszero_not w v1 V1 h1 hs) ?_
    unfold zerV
    rw [decide_eq_false (fun h => hs (may_sem h))]; rfl
end Go.Proofs.YtjdbapkmaggllaaGreatDoor
