/- The document's own sums and products. -/
import Derived.Test.YtjdbapkmaggllaaGreatDoorS42
namespace Go.Proofs.YtjdbapkmaggllaaGreatDoor
open Go.RowKit Fo
set_option maxRecDepth 100000

set_option maxHeartbeats 16000000 in
theorem rop2f (w : World) (v1 v2 : Value) (V1 V2 : Vl) (h1 : VIn w v1 V1) (h2 : VIn w v2 V2) (es1 : V1.s = 2) (es2 : V2.s = 2) (m1 : mayV V1 = 0) (m2 : mayV V2 = 0) (hb1 : 0 ≤ V1.l ∧ V1.l ≤ 1) (hb2 : 0 ≤ V2.l ∧ V2.l ≤ 1) : Calls Tryz.prog 43 #[v1, v2, .bool false] w fun e w' => (∃ u, e = .returned (.tuple #[u, .int .i64 0]) ∧ VOut w' u 2 (some (max V1.l V2.l).toNat)) ∧ Below w.heap.size w w' := by
  have hm := run_maxi V1.l V2.l
  have hm2 := run_mini V1.l V2.l
  have Hb : Hid ((0 ≤ V1.l ∧ V1.l ≤ 1) ∧ (0 ≤ V2.l ∧ V2.l ≤ 1)) := ⟨hb1, hb2⟩
  clear hb1 hb2
  have H1' := h1
  obtain ⟨a1, c1, rfl, hr1, hL1, hn1, hx1, hl1, hs1⟩ := h1
  rw [es1] at H1' ⊢
  have H2' := h2
  obtain ⟨a2, c2, rfl, hr2, hL2, hn2, hx2, hl2, hs2⟩ := h2
  rw [es2] at H2' ⊢
  obtain ⟨W0, hW0⟩ : ∃ W0, W0 = (((w.alloc (.cells #[.int .i64 2, .bool V1.i, .slice a1 V1.n c1, .int .i64 V1.l, .float .f64 V1.x] 27)).alloc (.cells #[.int .i64 2, .bool V2.i, .slice a2 V2.n c2, .int .i64 V2.l, .float .f64 V2.x] 27)).alloc (.cells #[.int .i64 0, .bool false, .slice none 0 0, .int .i64 0, .float .f64 0] 27)) := ⟨_, rfl⟩
  have HB0 : Hid (Below w.heap.size w W0) := by rw [hW0]; exact below3 w _ _ _
  have Hg1 : Hid (W0.heap[w.heap.size]? = some (.cells #[.int .i64 2, .bool V1.i, .slice a1 V1.n c1, .int .i64 V1.l, .float .f64 V1.x] 27)) := by
    show W0.heap[w.heap.size]? = _
    rw [hW0]; exact heap_at3_0 w _ _ _
  have Hg2 : Hid (W0.heap[w.heap.size + 1]? = some (.cells #[.int .i64 2, .bool V2.i, .slice a2 V2.n c2, .int .i64 V2.l, .float .f64 V2.x] 27)) := by
    show W0.heap[w.heap.size + 1]? = _
    rw [hW0]; exact heap_at3_1 w _ _ _
  have Hg3 : Hid (W0.heap[w.heap.size + 1 + 1]? = some (.cells #[.int .i64 0, .bool false, .slice none 0 0, .int .i64 0, .float .f64 0] 27)) := by
    show W0.heap[w.heap.size + 1 + 1]? = _
    rw [hW0]; exact heap_at3_2 w _ _ _
  have H1 : Hid (VIn W0 (.agg #[.int .i64 2, .bool V1.i, .slice a1 V1.n c1, .int .i64 V1.l, .float .f64 V1.x]) V1) := H1'.below HB0.out
  have H2 : Hid (VIn W0 (.agg #[.int .i64 2, .bool V2.i, .slice a2 V2.n c2, .int .i64 V2.l, .float .f64 V2.x]) V2) := H2'.below HB0.out
  have HW : Below W0.heap.size W0 W0 := below_refl W0
  clear hr1 hL1 hn1 hx1 hl1 hs1 H1' hr2 hL2 hn2 hx2 hl2 hs2 H2'
  obtain ⟨p10, p11, p12, p13, p14⟩ := box5 Hg1.out HW
  obtain ⟨p20, p21, p22, p23, p24⟩ := box5 Hg2.out HW
  have hsf := st_flo
  have SZ : Hid (w.heap.size + 1 + 1 < W0.heap.size) := by show w.heap.size + 1 + 1 < W0.heap.size; rw [hW0]; simp
  have M1 : Hid (mayV V1 = 0) := m1
  have M2 : Hid (mayV V2 = 0) := m2
  clear m1 m2 es1 es2
  go_enter Tryz.func43, Tryz.ntmps43
  go_wp2_with (go_at_call 22; fail)
  rw [← hW0]
  clear hW0
  refine (rmv_at _ _ V1 0 (by exact H1.out.below HW) M1.out).mono ?_
  rintro e w1 ⟨rfl, b⟩
  replace HW := below_step HW b
  clear b
  clear p10 p11 p12 p13 p14 p20 p21 p22 p23 p24; obtain ⟨p10, p11, p12, p13, p14⟩ := box5 Hg1.out HW; obtain ⟨p20, p21, p22, p23, p24⟩ := box5 Hg2.out HW
  go_wp2_with (go_at_call 22; fail)
  refine (rmv_at _ _ V2 0 (by exact H2.out.below HW) M2.out).mono ?_
  rintro e w2 ⟨rfl, b⟩
  replace HW := below_step HW b
  clear b
  clear p10 p11 p12 p13 p14 p20 p21 p22 p23 p24; obtain ⟨p10, p11, p12, p13, p14⟩ := box5 Hg1.out HW; obtain ⟨p20, p21, p22, p23, p24⟩ := box5 Hg2.out HW
  go_upto_region 10 with fail
  obtain ⟨W3, hW3⟩ : ∃ W3, W3 = w2.alloc (.cells #[.int .i64 2, .bool false, .slice none 0 0, .int .i64 0, .float .f64 0] 27) := ⟨_, rfl⟩
  rw [← hW3]
  have b3 : Below w2.heap.size w2 W3 := by rw [hW3]; exact below1 _ _
  have G1 : Hid (W3.heap[w.heap.size]? = _) := blk_below (blk_below Hg1.out HW) b3
  have G2 : Hid (W3.heap[w.heap.size + 1]? = _) := blk_below (blk_below Hg2.out HW) b3
  have G3 : Hid (W3.heap[w.heap.size + 1 + 1]? = _) := blk_below (blk_below Hg3.out HW) b3
  have G4 : Hid (W3.heap[w2.heap.size]? = some (.cells #[.int .i64 2, .bool false, .slice none 0 0, .int .i64 0, .float .f64 0] 27)) := by show W3.heap[w2.heap.size]? = _; rw [hW3]; exact heap_alloc_new _ _
  have HB : Hid (Below w.heap.size w W3) := below_step (below_step HB0.out HW) b3
  have hlt : w.heap.size + 1 + 1 < w2.heap.size := Nat.lt_of_lt_of_le SZ.out HW.size
  have I1 : Hid (VIn W3 _ V1) := (H1.out.below HW).below b3
  have I2 : Hid (VIn W3 _ V2) := (H2.out.below HW).below b3
  obtain ⟨gv, hgv⟩ : ∃ gv, gv = w2.heap.size := ⟨_, rfl⟩
  rw [← hgv] at G4 hlt ⊢
  clear hgv hW3 b3 HW H1 H2 Hg1 Hg2 Hg3 HB0 SZ p10 p11 p12 p13 p14 p20 p21 p22 p23 p24
  obtain ⟨p10, p11, p12, p13, p14⟩ := box5 G1.out (below_refl _)
  obtain ⟨p20, p21, p22, p23, p24⟩ := box5 G2.out (below_refl _)
  obtain ⟨⟨p40, p41, p42, p43, p44⟩, ⟨f0, f1, f2, f3, f4⟩, -⟩ := box5_facts G4.out
  go_upto_region 34 with fail
  obtain ⟨W4, hW⟩ : ∃ W4, W4 = (W3.setCell ⟨gv, 3, none⟩ (.int .i64 (max V1.l V2.l))) := ⟨_, rfl⟩
  rw [← hW]
  have G1' : Hid (W4.heap[w.heap.size]? = some (.cells #[.int .i64 2, .bool V1.i, .slice a1 V1.n c1, .int .i64 V1.l, .float .f64 V1.x] 27)) := by show W4.heap[w.heap.size]? = _; rw [hW]; exact (put_far1 _ _ _ _ _ (by omega)).trans G1.out
  have G2' : Hid (W4.heap[w.heap.size + 1]? = some (.cells #[.int .i64 2, .bool V2.i, .slice a2 V2.n c2, .int .i64 V2.l, .float .f64 V2.x] 27)) := by show W4.heap[w.heap.size + 1]? = _; rw [hW]; exact (put_far1 _ _ _ _ _ (by omega)).trans G2.out
  have G3' : Hid (W4.heap[w.heap.size + 1 + 1]? = some (.cells #[.int .i64 0, .bool false, .slice none 0 0, .int .i64 0, .float .f64 0] 27)) := by show W4.heap[w.heap.size + 1 + 1]? = _; rw [hW]; exact (put_far1 _ _ _ _ _ (by omega)).trans G3.out
  have G4' : Hid (W4.heap[gv]? = some (.cells #[.int .i64 2, .bool false, .slice none 0 0, .int .i64 (max V1.l V2.l), .float .f64 0] 27)) := by show W4.heap[gv]? = _; rw [hW]; exact put_lev G4.out _
  clear I1 I2
  have HB' : Hid (Below w.heap.size w W4) := by show Below w.heap.size w W4; rw [hW]; exact HB.out.setCell (by show w.heap.size ≤ gv; omega) _
  clear G1 G2 G3 G4 HB hW
  have G1 := G1'
  have G2 := G2'
  have G3 := G3'
  have G4 := G4'
  have HB := HB'
  clear G1' G2' G3' G4' HB'
  clear p10 p11 p12 p13 p14 p20 p21 p22 p23 p24 p40 p41 p42 p43 p44 f0 f1 f2 f3 f4
  obtain ⟨p10, p11, p12, p13, p14⟩ := box5 G1.out (below_refl _)
  obtain ⟨p20, p21, p22, p23, p24⟩ := box5 G2.out (below_refl _)
  obtain ⟨⟨p40, p41, p42, p43, p44⟩, ⟨f0, f1, f2, f3, f4⟩, -⟩ := box5_facts G4.out
  clear p10 p11 p12 p13 p14 p20 p21 p22 p23 p24 p40 p41 p42 p43 p44 f0 f1 f2 f3 f4
  obtain ⟨p40, p41, p42, p43, p44⟩ := box5 G4.out (below_refl _)
  obtain ⟨⟨z0, z1, z2, z3, z4⟩, ⟨f0, f1, f2, f3, f4⟩, s0, s1, s2, s3, s4⟩ := box5_facts G3.out
  go_wp2
  refine bodyPost_ret (v := .tuple #[.agg #[.int .i64 2, .bool false, .slice none 0 0, .int .i64 (max V1.l V2.l), .float .f64 0], .int .i64 0]) (by simp [results, Tryz.results43, go_sem, s0, s1, s2, s3, s4]) rfl ?_
  exact ⟨⟨_, rfl, Or.inr (Or.inl ⟨by decide, _, rfl, by have := Hb.out; show _ ≤ 1; omega, by rw [Int.toNat_of_nonneg (by have := Hb.out; omega)]⟩)⟩, below_set5 HB.out (by omega) _ _ _ _ _⟩
set_option maxHeartbeats 16000000 in
theorem rop2t (w : World) (v1 v2 : Value) (V1 V2 : Vl) (h1 : VIn w v1 V1) (h2 : VIn w v2 V2) (es1 : V1.s = 2) (es2 : V2.s = 2) (m1 : mayV V1 = 0) (m2 : mayV V2 = 0) (hb1 : 0 ≤ V1.l ∧ V1.l ≤ 1) (hb2 : 0 ≤ V2.l ∧ V2.l ≤ 1) : Calls Tryz.prog 43 #[v1, v2, .bool true] w fun e w' => (∃ u, e = .returned (.tuple #[u, .int .i64 0]) ∧ VOut w' u 2 (some (min V1.l V2.l).toNat)) ∧ Below w.heap.size w w' := by
  have hm := run_maxi V1.l V2.l
  have hm2 := run_mini V1.l V2.l
  have Hb : Hid ((0 ≤ V1.l ∧ V1.l ≤ 1) ∧ (0 ≤ V2.l ∧ V2.l ≤ 1)) := ⟨hb1, hb2⟩
  clear hb1 hb2
  have H1' := h1
  obtain ⟨a1, c1, rfl, hr1, hL1, hn1, hx1, hl1, hs1⟩ := h1
  rw [es1] at H1' ⊢
  have H2' := h2
  obtain ⟨a2, c2, rfl, hr2, hL2, hn2, hx2, hl2, hs2⟩ := h2
  rw [es2] at H2' ⊢
  obtain ⟨W0, hW0⟩ : ∃ W0, W0 = (((w.alloc (.cells #[.int .i64 2, .bool V1.i, .slice a1 V1.n c1, .int .i64 V1.l, .float .f64 V1.x] 27)).alloc (.cells #[.int .i64 2, .bool V2.i, .slice a2 V2.n c2, .int .i64 V2.l, .float .f64 V2.x] 27)).alloc (.cells #[.int .i64 0, .bool false, .slice none 0 0, .int .i64 0, .float .f64 0] 27)) := ⟨_, rfl⟩
  have HB0 : Hid (Below w.heap.size w W0) := by rw [hW0]; exact below3 w _ _ _
  have Hg1 : Hid (W0.heap[w.heap.size]? = some (.cells #[.int .i64 2, .bool V1.i, .slice a1 V1.n c1, .int .i64 V1.l, .float .f64 V1.x] 27)) := by
    show W0.heap[w.heap.size]? = _
    rw [hW0]; exact heap_at3_0 w _ _ _
  have Hg2 : Hid (W0.heap[w.heap.size + 1]? = some (.cells #[.int .i64 2, .bool V2.i, .slice a2 V2.n c2, .int .i64 V2.l, .float .f64 V2.x] 27)) := by
    show W0.heap[w.heap.size + 1]? = _
    rw [hW0]; exact heap_at3_1 w _ _ _
  have Hg3 : Hid (W0.heap[w.heap.size + 1 + 1]? = some (.cells #[.int .i64 0, .bool false, .slice none 0 0, .int .i64 0, .float .f64 0] 27)) := by
    show W0.heap[w.heap.size + 1 + 1]? = _
    rw [hW0]; exact heap_at3_2 w _ _ _
  have H1 : Hid (VIn W0 (.agg #[.int .i64 2, .bool V1.i, .slice a1 V1.n c1, .int .i64 V1.l, .float .f64 V1.x]) V1) := H1'.below HB0.out
  have H2 : Hid (VIn W0 (.agg #[.int .i64 2, .bool V2.i, .slice a2 V2.n c2, .int .i64 V2.l, .float .f64 V2.x]) V2) := H2'.below HB0.out
  have HW : Below W0.heap.size W0 W0 := below_refl W0
  clear hr1 hL1 hn1 hx1 hl1 hs1 H1' hr2 hL2 hn2 hx2 hl2 hs2 H2'
  obtain ⟨p10, p11, p12, p13, p14⟩ := box5 Hg1.out HW
  obtain ⟨p20, p21, p22, p23, p24⟩ := box5 Hg2.out HW
  have hsf := st_flo
  have SZ : Hid (w.heap.size + 1 + 1 < W0.heap.size) := by show w.heap.size + 1 + 1 < W0.heap.size; rw [hW0]; simp
  have M1 : Hid (mayV V1 = 0) := m1
  have M2 : Hid (mayV V2 = 0) := m2
  clear m1 m2 es1 es2
  go_enter Tryz.func43, Tryz.ntmps43
  go_wp2_with (go_at_call 22; fail)
  rw [← hW0]
  clear hW0
  refine (rmv_at _ _ V1 0 (by exact H1.out.below HW) M1.out).mono ?_
  rintro e w1 ⟨rfl, b⟩
  replace HW := below_step HW b
  clear b
  clear p10 p11 p12 p13 p14 p20 p21 p22 p23 p24; obtain ⟨p10, p11, p12, p13, p14⟩ := box5 Hg1.out HW; obtain ⟨p20, p21, p22, p23, p24⟩ := box5 Hg2.out HW
  go_wp2_with (go_at_call 22; fail)
  refine (rmv_at _ _ V2 0 (by exact H2.out.below HW) M2.out).mono ?_
  rintro e w2 ⟨rfl, b⟩
  replace HW := below_step HW b
  clear b
  clear p10 p11 p12 p13 p14 p20 p21 p22 p23 p24; obtain ⟨p10, p11, p12, p13, p14⟩ := box5 Hg1.out HW; obtain ⟨p20, p21, p22, p23, p24⟩ := box5 Hg2.out HW
  go_upto_region 10 with fail
  obtain ⟨W3, hW3⟩ : ∃ W3, W3 = w2.alloc (.cells #[.int .i64 2, .bool false, .slice none 0 0, .int .i64 0, .float .f64 0] 27) := ⟨_, rfl⟩
  rw [← hW3]
  have b3 : Below w2.heap.size w2 W3 := by rw [hW3]; exact below1 _ _
  have G1 : Hid (W3.heap[w.heap.size]? = _) := blk_below (blk_below Hg1.out HW) b3
  have G2 : Hid (W3.heap[w.heap.size + 1]? = _) := blk_below (blk_below Hg2.out HW) b3
  have G3 : Hid (W3.heap[w.heap.size + 1 + 1]? = _) := blk_below (blk_below Hg3.out HW) b3
  have G4 : Hid (W3.heap[w2.heap.size]? = some (.cells #[.int .i64 2, .bool false, .slice none 0 0, .int .i64 0, .float .f64 0] 27)) := by show W3.heap[w2.heap.size]? = _; rw [hW3]; exact heap_alloc_new _ _
  have HB : Hid (Below w.heap.size w W3) := below_step (below_step HB0.out HW) b3
  have hlt : w.heap.size + 1 + 1 < w2.heap.size := Nat.lt_of_lt_of_le SZ.out HW.size
  have I1 : Hid (VIn W3 _ V1) := (H1.out.below HW).below b3
  have I2 : Hid (VIn W3 _ V2) := (H2.out.below HW).below b3
  obtain ⟨gv, hgv⟩ : ∃ gv, gv = w2.heap.size := ⟨_, rfl⟩
  rw [← hgv] at G4 hlt ⊢
  clear hgv hW3 b3 HW H1 H2 Hg1 Hg2 Hg3 HB0 SZ p10 p11 p12 p13 p14 p20 p21 p22 p23 p24
  obtain ⟨p10, p11, p12, p13, p14⟩ := box5 G1.out (below_refl _)
  obtain ⟨p20, p21, p22, p23, p24⟩ := box5 G2.out (below_refl _)
  obtain ⟨⟨p40, p41, p42, p43, p44⟩, ⟨f0, f1, f2, f3, f4⟩, -⟩ := box5_facts G4.out
  go_upto_region 25 with fail
  obtain ⟨W4, hW⟩ : ∃ W4, W4 = (W3.setCell ⟨gv, 3, none⟩ (.int .i64 (max V1.l V2.l))) := ⟨_, rfl⟩
  rw [← hW]
  have G1' : Hid (W4.heap[w.heap.size]? = some (.cells #[.int .i64 2, .bool V1.i, .slice a1 V1.n c1, .int .i64 V1.l, .float .f64 V1.x] 27)) := by show W4.heap[w.heap.size]? = _; rw [hW]; exact (put_far1 _ _ _ _ _ (by omega)).trans G1.out
  have G2' : Hid (W4.heap[w.heap.size + 1]? = some (.cells #[.int .i64 2, .bool V2.i, .slice a2 V2.n c2, .int .i64 V2.l, .float .f64 V2.x] 27)) := by show W4.heap[w.heap.size + 1]? = _; rw [hW]; exact (put_far1 _ _ _ _ _ (by omega)).trans G2.out
  have G3' : Hid (W4.heap[w.heap.size + 1 + 1]? = some (.cells #[.int .i64 0, .bool false, .slice none 0 0, .int .i64 0, .float .f64 0] 27)) := by show W4.heap[w.heap.size + 1 + 1]? = _; rw [hW]; exact (put_far1 _ _ _ _ _ (by omega)).trans G3.out
  have G4' : Hid (W4.heap[gv]? = some (.cells #[.int .i64 2, .bool false, .slice none 0 0, .int .i64 (max V1.l V2.l), .float .f64 0] 27)) := by show W4.heap[gv]? = _; rw [hW]; exact put_lev G4.out _
  clear I1 I2
  have HB' : Hid (Below w.heap.size w W4) := by show Below w.heap.size w W4; rw [hW]; exact HB.out.setCell (by show w.heap.size ≤ gv; omega) _
  clear G1 G2 G3 G4 HB hW
  have G1 := G1'
  have G2 := G2'
  have G3 := G3'
  have G4 := G4'
  have HB := HB'
  clear G1' G2' G3' G4' HB'
  clear p10 p11 p12 p13 p14 p20 p21 p22 p23 p24 p40 p41 p42 p43 p44 f0 f1 f2 f3 f4
  obtain ⟨p10, p11, p12, p13, p14⟩ := box5 G1.out (below_refl _)
  obtain ⟨p20, p21, p22, p23, p24⟩ := box5 G2.out (below_refl _)
  obtain ⟨⟨p40, p41, p42, p43, p44⟩, ⟨f0, f1, f2, f3, f4⟩, -⟩ := box5_facts G4.out
  go_upto_region 34 with fail
  obtain ⟨W5, hW⟩ : ∃ W5, W5 = (W4.setCell ⟨gv, 3, none⟩ (.int .i64 (min V1.l V2.l))) := ⟨_, rfl⟩
  rw [← hW]
  have G1' : Hid (W5.heap[w.heap.size]? = some (.cells #[.int .i64 2, .bool V1.i, .slice a1 V1.n c1, .int .i64 V1.l, .float .f64 V1.x] 27)) := by show W5.heap[w.heap.size]? = _; rw [hW]; exact (put_far1 _ _ _ _ _ (by omega)).trans G1.out
  have G2' : Hid (W5.heap[w.heap.size + 1]? = some (.cells #[.int .i64 2, .bool V2.i, .slice a2 V2.n c2, .int .i64 V2.l, .float .f64 V2.x] 27)) := by show W5.heap[w.heap.size + 1]? = _; rw [hW]; exact (put_far1 _ _ _ _ _ (by omega)).trans G2.out
  have G3' : Hid (W5.heap[w.heap.size + 1 + 1]? = some (.cells #[.int .i64 0, .bool false, .slice none 0 0, .int .i64 0, .float .f64 0] 27)) := by show W5.heap[w.heap.size + 1 + 1]? = _; rw [hW]; exact (put_far1 _ _ _ _ _ (by omega)).trans G3.out
  have G4' : Hid (W5.heap[gv]? = some (.cells #[.int .i64 2, .bool false, .slice none 0 0, .int .i64 (min V1.l V2.l), .float .f64 0] 27)) := by show W5.heap[gv]? = _; rw [hW]; exact put_lev G4.out _
  skip
  have HB' : Hid (Below w.heap.size w W5) := by show Below w.heap.size w W5; rw [hW]; exact HB.out.setCell (by show w.heap.size ≤ gv; omega) _
  clear G1 G2 G3 G4 HB hW
  have G1 := G1'
  have G2 := G2'
  have G3 := G3'
  have G4 := G4'
  have HB := HB'
  clear G1' G2' G3' G4' HB'
  clear p10 p11 p12 p13 p14 p20 p21 p22 p23 p24 p40 p41 p42 p43 p44 f0 f1 f2 f3 f4
  obtain ⟨p10, p11, p12, p13, p14⟩ := box5 G1.out (below_refl _)
  obtain ⟨p20, p21, p22, p23, p24⟩ := box5 G2.out (below_refl _)
  obtain ⟨⟨p40, p41, p42, p43, p44⟩, ⟨f0, f1, f2, f3, f4⟩, -⟩ := box5_facts G4.out
  clear p10 p11 p12 p13 p14 p20 p21 p22 p23 p24 p40 p41 p42 p43 p44 f0 f1 f2 f3 f4
  obtain ⟨p40, p41, p42, p43, p44⟩ := box5 G4.out (below_refl _)
  obtain ⟨⟨z0, z1, z2, z3, z4⟩, ⟨f0, f1, f2, f3, f4⟩, s0, s1, s2, s3, s4⟩ := box5_facts G3.out
  go_wp2
  refine bodyPost_ret (v := .tuple #[.agg #[.int .i64 2, .bool false, .slice none 0 0, .int .i64 (min V1.l V2.l), .float .f64 0], .int .i64 0]) (by simp [results, Tryz.results43, go_sem, s0, s1, s2, s3, s4]) rfl ?_
  exact ⟨⟨_, rfl, Or.inr (Or.inl ⟨by decide, _, rfl, by have := Hb.out; show _ ≤ 1; omega, by rw [Int.toNat_of_nonneg (by have := Hb.out; omega)]⟩)⟩, below_set5 HB.out (by omega) _ _ _ _ _⟩
set_option maxHeartbeats 16000000 in
theorem rop4f (w : World) (v1 v2 : Value) (V1 V2 : Vl) (h1 : VIn w v1 V1) (h2 : VIn w v2 V2) (es1 : V1.s = 4) (es2 : V2.s = 4) (m1 : mayV V1 = 0) (m2 : mayV V2 = 0) (hb1 : 0 ≤ V1.l ∧ V1.l ≤ 7) (hb2 : 0 ≤ V2.l ∧ V2.l ≤ 7) : Calls Tryz.prog 43 #[v1, v2, .bool false] w fun e w' => (∃ u, e = .returned (.tuple #[u, .int .i64 0]) ∧ VOut w' u 4 (some (max V1.l V2.l).toNat)) ∧ Below w.heap.size w w' := by
  have hm := run_maxi V1.l V2.l
  have hm2 := run_mini V1.l V2.l
  have Hb : Hid ((0 ≤ V1.l ∧ V1.l ≤ 7) ∧ (0 ≤ V2.l ∧ V2.l ≤ 7)) := ⟨hb1, hb2⟩
  clear hb1 hb2
  have H1' := h1
  obtain ⟨a1, c1, rfl, hr1, hL1, hn1, hx1, hl1, hs1⟩ := h1
  rw [es1] at H1' ⊢
  have H2' := h2
  obtain ⟨a2, c2, rfl, hr2, hL2, hn2, hx2, hl2, hs2⟩ := h2
  rw [es2] at H2' ⊢
  obtain ⟨W0, hW0⟩ : ∃ W0, W0 = (((w.alloc (.cells #[.int .i64 4, .bool V1.i, .slice a1 V1.n c1, .int .i64 V1.l, .float .f64 V1.x] 27)).alloc (.cells #[.int .i64 4, .bool V2.i, .slice a2 V2.n c2, .int .i64 V2.l, .float .f64 V2.x] 27)).alloc (.cells #[.int .i64 0, .bool false, .slice none 0 0, .int .i64 0, .float .f64 0] 27)) := ⟨_, rfl⟩
  have HB0 : Hid (Below w.heap.size w W0) := by rw [hW0]; exact below3 w _ _ _
  have Hg1 : Hid (W0.heap[w.heap.size]? = some (.cells #[.int .i64 4, .bool V1.i, .slice a1 V1.n c1, .int .i64 V1.l, .float .f64 V1.x] 27)) := by
    show W0.heap[w.heap.size]? = _
    rw [hW0]; exact heap_at3_0 w _ _ _
  have Hg2 : Hid (W0.heap[w.heap.size + 1]? = some (.cells #[.int .i64 4, .bool V2.i, .slice a2 V2.n c2, .int .i64 V2.l, .float .f64 V2.x] 27)) := by
    show W0.heap[w.heap.size + 1]? = _
    rw [hW0]; exact heap_at3_1 w _ _ _
  have Hg3 : Hid (W0.heap[w.heap.size + 1 + 1]? = some (.cells #[.int .i64 0, .bool false, .slice none 0 0, .int .i64 0, .float .f64 0] 27)) := by
    show W0.heap[w.heap.size + 1 + 1]? = _
    rw [hW0]; exact heap_at3_2 w _ _ _
  have H1 : Hid (VIn W0 (.agg #[.int .i64 4, .bool V1.i, .slice a1 V1.n c1, .int .i64 V1.l, .float .f64 V1.x]) V1) := H1'.below HB0.out
  have H2 : Hid (VIn W0 (.agg #[.int .i64 4, .bool V2.i, .slice a2 V2.n c2, .int .i64 V2.l, .float .f64 V2.x]) V2) := H2'.below HB0.out
  have HW : Below W0.heap.size W0 W0 := below_refl W0
  clear hr1 hL1 hn1 hx1 hl1 hs1 H1' hr2 hL2 hn2 hx2 hl2 hs2 H2'
  obtain ⟨p10, p11, p12, p13, p14⟩ := box5 Hg1.out HW
  obtain ⟨p20, p21, p22, p23, p24⟩ := box5 Hg2.out HW
  have hsf := st_flo
  have SZ : Hid (w.heap.size + 1 + 1 < W0.heap.size) := by show w.heap.size + 1 + 1 < W0.heap.size; rw [hW0]; simp
  have M1 : Hid (mayV V1 = 0) := m1
  have M2 : Hid (mayV V2 = 0) := m2
  clear m1 m2 es1 es2
  go_enter Tryz.func43, Tryz.ntmps43
  go_wp2_with (go_at_call 22; fail)
  rw [← hW0]
  clear hW0
  refine (rmv_at _ _ V1 0 (by exact H1.out.below HW) M1.out).mono ?_
  rintro e w1 ⟨rfl, b⟩
  replace HW := below_step HW b
  clear b
  clear p10 p11 p12 p13 p14 p20 p21 p22 p23 p24; obtain ⟨p10, p11, p12, p13, p14⟩ := box5 Hg1.out HW; obtain ⟨p20, p21, p22, p23, p24⟩ := box5 Hg2.out HW
  go_wp2_with (go_at_call 22; fail)
  refine (rmv_at _ _ V2 0 (by exact H2.out.below HW) M2.out).mono ?_
  rintro e w2 ⟨rfl, b⟩
  replace HW := below_step HW b
  clear b
  clear p10 p11 p12 p13 p14 p20 p21 p22 p23 p24; obtain ⟨p10, p11, p12, p13, p14⟩ := box5 Hg1.out HW; obtain ⟨p20, p21, p22, p23, p24⟩ := box5 Hg2.out HW
  go_upto_region 10 with fail
  obtain ⟨W3, hW3⟩ : ∃ W3, W3 = w2.alloc (.cells #[.int .i64 4, .bool false, .slice none 0 0, .int .i64 0, .float .f64 0] 27) := ⟨_, rfl⟩
  rw [← hW3]
  have b3 : Below w2.heap.size w2 W3 := by rw [hW3]; exact below1 _ _
  have G1 : Hid (W3.heap[w.heap.size]? = _) := blk_below (blk_below Hg1.out HW) b3
  have G2 : Hid (W3.heap[w.heap.size + 1]? = _) := blk_below (blk_below Hg2.out HW) b3
  have G3 : Hid (W3.heap[w.heap.size + 1 + 1]? = _) := blk_below (blk_below Hg3.out HW) b3
  have G4 : Hid (W3.heap[w2.heap.size]? = some (.cells #[.int .i64 4, .bool false, .slice none 0 0, .int .i64 0, .float .f64 0] 27)) := by show W3.heap[w2.heap.size]? = _; rw [hW3]; exact heap_alloc_new _ _
  have HB : Hid (Below w.heap.size w W3) := below_step (below_step HB0.out HW) b3
  have hlt : w.heap.size + 1 + 1 < w2.heap.size := Nat.lt_of_lt_of_le SZ.out HW.size
  have I1 : Hid (VIn W3 _ V1) := (H1.out.below HW).below b3
  have I2 : Hid (VIn W3 _ V2) := (H2.out.below HW).below b3
  obtain ⟨gv, hgv⟩ : ∃ gv, gv = w2.heap.size := ⟨_, rfl⟩
  rw [← hgv] at G4 hlt ⊢
  clear hgv hW3 b3 HW H1 H2 Hg1 Hg2 Hg3 HB0 SZ p10 p11 p12 p13 p14 p20 p21 p22 p23 p24
  obtain ⟨p10, p11, p12, p13, p14⟩ := box5 G1.out (below_refl _)
  obtain ⟨p20, p21, p22, p23, p24⟩ := box5 G2.out (below_refl _)
  obtain ⟨⟨p40, p41, p42, p43, p44⟩, ⟨f0, f1, f2, f3, f4⟩, -⟩ := box5_facts G4.out
  go_upto_region 34 with fail
  obtain ⟨W4, hW⟩ : ∃ W4, W4 = (W3.setCell ⟨gv, 3, none⟩ (.int .i64 (max V1.l V2.l))) := ⟨_, rfl⟩
  rw [← hW]
  have G1' : Hid (W4.heap[w.heap.size]? = some (.cells #[.int .i64 4, .bool V1.i, .slice a1 V1.n c1, .int .i64 V1.l, .float .f64 V1.x] 27)) := by show W4.heap[w.heap.size]? = _; rw [hW]; exact (put_far1 _ _ _ _ _ (by omega)).trans G1.out
  have G2' : Hid (W4.heap[w.heap.size + 1]? = some (.cells #[.int .i64 4, .bool V2.i, .slice a2 V2.n c2, .int .i64 V2.l, .float .f64 V2.x] 27)) := by show W4.heap[w.heap.size + 1]? = _; rw [hW]; exact (put_far1 _ _ _ _ _ (by omega)).trans G2.out
  have G3' : Hid (W4.heap[w.heap.size + 1 + 1]? = some (.cells #[.int .i64 0, .bool false, .slice none 0 0, .int .i64 0, .float .f64 0] 27)) := by show W4.heap[w.heap.size + 1 + 1]? = _; rw [hW]; exact (put_far1 _ _ _ _ _ (by omega)).trans G3.out
  have G4' : Hid (W4.heap[gv]? = some (.cells #[.int .i64 4, .bool false, .slice none 0 0, .int .i64 (max V1.l V2.l), .float .f64 0] 27)) := by show W4.heap[gv]? = _; rw [hW]; exact put_lev G4.out _
  clear I1 I2
  have HB' : Hid (Below w.heap.size w W4) := by show Below w.heap.size w W4; rw [hW]; exact HB.out.setCell (by show w.heap.size ≤ gv; omega) _
  clear G1 G2 G3 G4 HB hW
  have G1 := G1'
  have G2 := G2'
  have G3 := G3'
  have G4 := G4'
  have HB := HB'
  clear G1' G2' G3' G4' HB'
  clear p10 p11 p12 p13 p14 p20 p21 p22 p23 p24 p40 p41 p42 p43 p44 f0 f1 f2 f3 f4
  obtain ⟨p10, p11, p12, p13, p14⟩ := box5 G1.out (below_refl _)
  obtain ⟨p20, p21, p22, p23, p24⟩ := box5 G2.out (below_refl _)
  obtain ⟨⟨p40, p41, p42, p43, p44⟩, ⟨f0, f1, f2, f3, f4⟩, -⟩ := box5_facts G4.out
  clear p10 p11 p12 p13 p14 p20 p21 p22 p23 p24 p40 p41 p42 p43 p44 f0 f1 f2 f3 f4
  obtain ⟨p40, p41, p42, p43, p44⟩ := box5 G4.out (below_refl _)
  obtain ⟨⟨z0, z1, z2, z3, z4⟩, ⟨f0, f1, f2, f3, f4⟩, s0, s1, s2, s3, s4⟩ := box5_facts G3.out
  go_wp2
  refine bodyPost_ret (v := .tuple #[.agg #[.int .i64 4, .bool false, .slice none 0 0, .int .i64 (max V1.l V2.l), .float .f64 0], .int .i64 0]) (by simp [results, Tryz.results43, go_sem, s0, s1, s2, s3, s4]) rfl ?_
  exact ⟨⟨_, rfl, Or.inr (Or.inl ⟨by decide, _, rfl, by have := Hb.out; show _ ≤ 7; omega, by rw [Int.toNat_of_nonneg (by have := Hb.out; omega)]⟩)⟩, below_set5 HB.out (by omega) _ _ _ _ _⟩
set_option maxHeartbeats 16000000 in
theorem rop4t (w : World) (v1 v2 : Value) (V1 V2 : Vl) (h1 : VIn w v1 V1) (h2 : VIn w v2 V2) (es1 : V1.s = 4) (es2 : V2.s = 4) (m1 : mayV V1 = 0) (m2 : mayV V2 = 0) (hb1 : 0 ≤ V1.l ∧ V1.l ≤ 7) (hb2 : 0 ≤ V2.l ∧ V2.l ≤ 7) : Calls Tryz.prog 43 #[v1, v2, .bool true] w fun e w' => (∃ u, e = .returned (.tuple #[u, .int .i64 0]) ∧ VOut w' u 4 (some (min V1.l V2.l).toNat)) ∧ Below w.heap.size w w' := by
  have hm := run_maxi V1.l V2.l
  have hm2 := run_mini V1.l V2.l
  have Hb : Hid ((0 ≤ V1.l ∧ V1.l ≤ 7) ∧ (0 ≤ V2.l ∧ V2.l ≤ 7)) := ⟨hb1, hb2⟩
  clear hb1 hb2
  have H1' := h1
  obtain ⟨a1, c1, rfl, hr1, hL1, hn1, hx1, hl1, hs1⟩ := h1
  rw [es1] at H1' ⊢
  have H2' := h2
  obtain ⟨a2, c2, rfl, hr2, hL2, hn2, hx2, hl2, hs2⟩ := h2
  rw [es2] at H2' ⊢
  obtain ⟨W0, hW0⟩ : ∃ W0, W0 = (((w.alloc (.cells #[.int .i64 4, .bool V1.i, .slice a1 V1.n c1, .int .i64 V1.l, .float .f64 V1.x] 27)).alloc (.cells #[.int .i64 4, .bool V2.i, .slice a2 V2.n c2, .int .i64 V2.l, .float .f64 V2.x] 27)).alloc (.cells #[.int .i64 0, .bool false, .slice none 0 0, .int .i64 0, .float .f64 0] 27)) := ⟨_, rfl⟩
  have HB0 : Hid (Below w.heap.size w W0) := by rw [hW0]; exact below3 w _ _ _
  have Hg1 : Hid (W0.heap[w.heap.size]? = some (.cells #[.int .i64 4, .bool V1.i, .slice a1 V1.n c1, .int .i64 V1.l, .float .f64 V1.x] 27)) := by
    show W0.heap[w.heap.size]? = _
    rw [hW0]; exact heap_at3_0 w _ _ _
  have Hg2 : Hid (W0.heap[w.heap.size + 1]? = some (.cells #[.int .i64 4, .bool V2.i, .slice a2 V2.n c2, .int .i64 V2.l, .float .f64 V2.x] 27)) := by
    show W0.heap[w.heap.size + 1]? = _
    rw [hW0]; exact heap_at3_1 w _ _ _
  have Hg3 : Hid (W0.heap[w.heap.size + 1 + 1]? = some (.cells #[.int .i64 0, .bool false, .slice none 0 0, .int .i64 0, .float .f64 0] 27)) := by
    show W0.heap[w.heap.size + 1 + 1]? = _
    rw [hW0]; exact heap_at3_2 w _ _ _
  have H1 : Hid (VIn W0 (.agg #[.int .i64 4, .bool V1.i, .slice a1 V1.n c1, .int .i64 V1.l, .float .f64 V1.x]) V1) := H1'.below HB0.out
  have H2 : Hid (VIn W0 (.agg #[.int .i64 4, .bool V2.i, .slice a2 V2.n c2, .int .i64 V2.l, .float .f64 V2.x]) V2) := H2'.below HB0.out
  have HW : Below W0.heap.size W0 W0 := below_refl W0
  clear hr1 hL1 hn1 hx1 hl1 hs1 H1' hr2 hL2 hn2 hx2 hl2 hs2 H2'
  obtain ⟨p10, p11, p12, p13, p14⟩ := box5 Hg1.out HW
  obtain ⟨p20, p21, p22, p23, p24⟩ := box5 Hg2.out HW
  have hsf := st_flo
  have SZ : Hid (w.heap.size + 1 + 1 < W0.heap.size) := by show w.heap.size + 1 + 1 < W0.heap.size; rw [hW0]; simp
  have M1 : Hid (mayV V1 = 0) := m1
  have M2 : Hid (mayV V2 = 0) := m2
  clear m1 m2 es1 es2
  go_enter Tryz.func43, Tryz.ntmps43
  go_wp2_with (go_at_call 22; fail)
  rw [← hW0]
  clear hW0
  refine (rmv_at _ _ V1 0 (by exact H1.out.below HW) M1.out).mono ?_
  rintro e w1 ⟨rfl, b⟩
  replace HW := below_step HW b
  clear b
  clear p10 p11 p12 p13 p14 p20 p21 p22 p23 p24; obtain ⟨p10, p11, p12, p13, p14⟩ := box5 Hg1.out HW; obtain ⟨p20, p21, p22, p23, p24⟩ := box5 Hg2.out HW
  go_wp2_with (go_at_call 22; fail)
  refine (rmv_at _ _ V2 0 (by exact H2.out.below HW) M2.out).mono ?_
  rintro e w2 ⟨rfl, b⟩
  replace HW := below_step HW b
  clear b
  clear p10 p11 p12 p13 p14 p20 p21 p22 p23 p24; obtain ⟨p10, p11, p12, p13, p14⟩ := box5 Hg1.out HW; obtain ⟨p20, p21, p22, p23, p24⟩ := box5 Hg2.out HW
  go_upto_region 10 with fail
  obtain ⟨W3, hW3⟩ : ∃ W3, W3 = w2.alloc (.cells #[.int .i64 4, .bool false, .slice none 0 0, .int .i64 0, .float .f64 0] 27) := ⟨_, rfl⟩
  rw [← hW3]
  have b3 : Below w2.heap.size w2 W3 := by rw [hW3]; exact below1 _ _
  have G1 : Hid (W3.heap[w.heap.size]? = _) := blk_below (blk_below Hg1.out HW) b3
  have G2 : Hid (W3.heap[w.heap.size + 1]? = _) := blk_below (blk_below Hg2.out HW) b3
  have G3 : Hid (W3.heap[w.heap.size + 1 + 1]? = _) := blk_below (blk_below Hg3.out HW) b3
  have G4 : Hid (W3.heap[w2.heap.size]? = some (.cells #[.int .i64 4, .bool false, .slice none 0 0, .int .i64 0, .float .f64 0] 27)) := by show W3.heap[w2.heap.size]? = _; rw [hW3]; exact heap_alloc_new _ _
  have HB : Hid (Below w.heap.size w W3) := below_step (below_step HB0.out HW) b3
  have hlt : w.heap.size + 1 + 1 < w2.heap.size := Nat.lt_of_lt_of_le SZ.out HW.size
  have I1 : Hid (VIn W3 _ V1) := (H1.out.below HW).below b3
  have I2 : Hid (VIn W3 _ V2) := (H2.out.below HW).below b3
  obtain ⟨gv, hgv⟩ : ∃ gv, gv = w2.heap.size := ⟨_, rfl⟩
  rw [← hgv] at G4 hlt ⊢
  clear hgv hW3 b3 HW H1 H2 Hg1 Hg2 Hg3 HB0 SZ p10 p11 p12 p13 p14 p20 p21 p22 p23 p24
  obtain ⟨p10, p11, p12, p13, p14⟩ := box5 G1.out (below_refl _)
  obtain ⟨p20, p21, p22, p23, p24⟩ := box5 G2.out (below_refl _)
  obtain ⟨⟨p40, p41, p42, p43, p44⟩, ⟨f0, f1, f2, f3, f4⟩, -⟩ := box5_facts G4.out
  go_upto_region 25 with fail
  obtain ⟨W4, hW⟩ : ∃ W4, W4 = (W3.setCell ⟨gv, 3, none⟩ (.int .i64 (max V1.l V2.l))) := ⟨_, rfl⟩
  rw [← hW]
  have G1' : Hid (W4.heap[w.heap.size]? = some (.cells #[.int .i64 4, .bool V1.i, .slice a1 V1.n c1, .int .i64 V1.l, .float .f64 V1.x] 27)) := by show W4.heap[w.heap.size]? = _; rw [hW]; exact (put_far1 _ _ _ _ _ (by omega)).trans G1.out
  have G2' : Hid (W4.heap[w.heap.size + 1]? = some (.cells #[.int .i64 4, .bool V2.i, .slice a2 V2.n c2, .int .i64 V2.l, .float .f64 V2.x] 27)) := by show W4.heap[w.heap.size + 1]? = _; rw [hW]; exact (put_far1 _ _ _ _ _ (by omega)).trans G2.out
  have G3' : Hid (W4.heap[w.heap.size + 1 + 1]? = some (.cells #[.int .i64 0, .bool false, .slice none 0 0, .int .i64 0, .float .f64 0] 27)) := by show W4.heap[w.heap.size + 1 + 1]? = _; rw [hW]; exact (put_far1 _ _ _ _ _ (by omega)).trans G3.out
  have G4' : Hid (W4.heap[gv]? = some (.cells #[.int .i64 4, .bool false, .slice none 0 0, .int .i64 (max V1.l V2.l), .float .f64 0] 27)) := by show W4.heap[gv]? = _; rw [hW]; exact put_lev G4.out _
  clear I1 I2
  have HB' : Hid (Below w.heap.size w W4) := by show Below w.heap.size w W4; rw [hW]; exact HB.out.setCell (by show w.heap.size ≤ gv; omega) _
  clear G1 G2 G3 G4 HB hW
  have G1 := G1'
  have G2 := G2'
  have G3 := G3'
  have G4 := G4'
  have HB := HB'
  clear G1' G2' G3' G4' HB'
  clear p10 p11 p12 p13 p14 p20 p21 p22 p23 p24 p40 p41 p42 p43 p44 f0 f1 f2 f3 f4
  obtain ⟨p10, p11, p12, p13, p14⟩ := box5 G1.out (below_refl _)
  obtain ⟨p20, p21, p22, p23, p24⟩ := box5 G2.out (below_refl _)
  obtain ⟨⟨p40, p41, p42, p43, p44⟩, ⟨f0, f1, f2, f3, f4⟩, -⟩ := box5_facts G4.out
  go_upto_region 34 with fail
  obtain ⟨W5, hW⟩ : ∃ W5, W5 = (W4.setCell ⟨gv, 3, none⟩ (.int .i64 (min V1.l V2.l))) := ⟨_, rfl⟩
  rw [← hW]
  have G1' : Hid (W5.heap[w.heap.size]? = some (.cells #[.int .i64 4, .bool V1.i, .slice a1 V1.n c1, .int .i64 V1.l, .float .f64 V1.x] 27)) := by show W5.heap[w.heap.size]? = _; rw [hW]; exact (put_far1 _ _ _ _ _ (by omega)).trans G1.out
  have G2' : Hid (W5.heap[w.heap.size + 1]? = some (.cells #[.int .i64 4, .bool V2.i, .slice a2 V2.n c2, .int .i64 V2.l, .float .f64 V2.x] 27)) := by show W5.heap[w.heap.size + 1]? = _; rw [hW]; exact (put_far1 _ _ _ _ _ (by omega)).trans G2.out
  have G3' : Hid (W5.heap[w.heap.size + 1 + 1]? = some (.cells #[.int .i64 0, .bool false, .slice none 0 0, .int .i64 0, .float .f64 0] 27)) := by show W5.heap[w.heap.size + 1 + 1]? = _; rw [hW]; exact (put_far1 _ _ _ _ _ (by omega)).trans G3.out
  have G4' : Hid (W5.heap[gv]? = some (.cells #[.int .i64 4, .bool false, .slice none 0 0, .int .i64 (min V1.l V2.l), .float .f64 0] 27)) := by show W5.heap[gv]? = _; rw [hW]; exact put_lev G4.out _
  skip
  have HB' : Hid (Below w.heap.size w W5) := by show Below w.heap.size w W5; rw [hW]; exact HB.out.setCell (by show w.heap.size ≤ gv; omega) _
  clear G1 G2 G3 G4 HB hW
  have G1 := G1'
  have G2 := G2'
  have G3 := G3'
  have G4 := G4'
  have HB := HB'
  clear G1' G2' G3' G4' HB'
  clear p10 p11 p12 p13 p14 p20 p21 p22 p23 p24 p40 p41 p42 p43 p44 f0 f1 f2 f3 f4
  obtain ⟨p10, p11, p12, p13, p14⟩ := box5 G1.out (below_refl _)
  obtain ⟨p20, p21, p22, p23, p24⟩ := box5 G2.out (below_refl _)
  obtain ⟨⟨p40, p41, p42, p43, p44⟩, ⟨f0, f1, f2, f3, f4⟩, -⟩ := box5_facts G4.out
  clear p10 p11 p12 p13 p14 p20 p21 p22 p23 p24 p40 p41 p42 p43 p44 f0 f1 f2 f3 f4
  obtain ⟨p40, p41, p42, p43, p44⟩ := box5 G4.out (below_refl _)
  obtain ⟨⟨z0, z1, z2, z3, z4⟩, ⟨f0, f1, f2, f3, f4⟩, s0, s1, s2, s3, s4⟩ := box5_facts G3.out
  go_wp2
  refine bodyPost_ret (v := .tuple #[.agg #[.int .i64 4, .bool false, .slice none 0 0, .int .i64 (min V1.l V2.l), .float .f64 0], .int .i64 0]) (by simp [results, Tryz.results43, go_sem, s0, s1, s2, s3, s4]) rfl ?_
  exact ⟨⟨_, rfl, Or.inr (Or.inl ⟨by decide, _, rfl, by have := Hb.out; show _ ≤ 7; omega, by rw [Int.toNat_of_nonneg (by have := Hb.out; omega)]⟩)⟩, below_set5 HB.out (by omega) _ _ _ _ _⟩
set_option maxHeartbeats 16000000 in
theorem rop5f (w : World) (v1 v2 : Value) (V1 V2 : Vl) (h1 : VIn w v1 V1) (h2 : VIn w v2 V2) (es1 : V1.s = 5) (es2 : V2.s = 5) (m1 : mayV V1 = 0) (m2 : mayV V2 = 0) (hb1 : V1.x ≤ 4607182418800017408) (hb2 : V2.x ≤ 4607182418800017408) : Calls Tryz.prog 43 #[v1, v2, .bool false] w fun e w' => (∃ u, e = .returned (.tuple #[u, .int .i64 0]) ∧ VOut w' u 5 (some (max V1.x V2.x))) ∧ Below w.heap.size w w' := by
  have Hb : Hid (V1.x ≤ 4607182418800017408 ∧ V2.x ≤ 4607182418800017408) := ⟨hb1, hb2⟩
  have hn := run_max V1.x V2.x (by omega) (by omega)

  clear hb1 hb2
  have H1' := h1
  obtain ⟨a1, c1, rfl, hr1, hL1, hn1, hx1, hl1, hs1⟩ := h1
  rw [es1] at H1' ⊢
  have H2' := h2
  obtain ⟨a2, c2, rfl, hr2, hL2, hn2, hx2, hl2, hs2⟩ := h2
  rw [es2] at H2' ⊢
  obtain ⟨W0, hW0⟩ : ∃ W0, W0 = (((w.alloc (.cells #[.int .i64 5, .bool V1.i, .slice a1 V1.n c1, .int .i64 V1.l, .float .f64 V1.x] 27)).alloc (.cells #[.int .i64 5, .bool V2.i, .slice a2 V2.n c2, .int .i64 V2.l, .float .f64 V2.x] 27)).alloc (.cells #[.int .i64 0, .bool false, .slice none 0 0, .int .i64 0, .float .f64 0] 27)) := ⟨_, rfl⟩
  have HB0 : Hid (Below w.heap.size w W0) := by rw [hW0]; exact below3 w _ _ _
  have Hg1 : Hid (W0.heap[w.heap.size]? = some (.cells #[.int .i64 5, .bool V1.i, .slice a1 V1.n c1, .int .i64 V1.l, .float .f64 V1.x] 27)) := by
    show W0.heap[w.heap.size]? = _
    rw [hW0]; exact heap_at3_0 w _ _ _
  have Hg2 : Hid (W0.heap[w.heap.size + 1]? = some (.cells #[.int .i64 5, .bool V2.i, .slice a2 V2.n c2, .int .i64 V2.l, .float .f64 V2.x] 27)) := by
    show W0.heap[w.heap.size + 1]? = _
    rw [hW0]; exact heap_at3_1 w _ _ _
  have Hg3 : Hid (W0.heap[w.heap.size + 1 + 1]? = some (.cells #[.int .i64 0, .bool false, .slice none 0 0, .int .i64 0, .float .f64 0] 27)) := by
    show W0.heap[w.heap.size + 1 + 1]? = _
    rw [hW0]; exact heap_at3_2 w _ _ _
  have H1 : Hid (VIn W0 (.agg #[.int .i64 5, .bool V1.i, .slice a1 V1.n c1, .int .i64 V1.l, .float .f64 V1.x]) V1) := H1'.below HB0.out
  have H2 : Hid (VIn W0 (.agg #[.int .i64 5, .bool V2.i, .slice a2 V2.n c2, .int .i64 V2.l, .float .f64 V2.x]) V2) := H2'.below HB0.out
  have HW : Below W0.heap.size W0 W0 := below_refl W0
  clear hr1 hL1 hn1 hx1 hl1 hs1 H1' hr2 hL2 hn2 hx2 hl2 hs2 H2'
  obtain ⟨p10, p11, p12, p13, p14⟩ := box5 Hg1.out HW
  obtain ⟨p20, p21, p22, p23, p24⟩ := box5 Hg2.out HW
  have hsf := st_flo
  have SZ : Hid (w.heap.size + 1 + 1 < W0.heap.size) := by show w.heap.size + 1 + 1 < W0.heap.size; rw [hW0]; simp
  have M1 : Hid (mayV V1 = 0) := m1
  have M2 : Hid (mayV V2 = 0) := m2
  clear m1 m2 es1 es2
  go_enter Tryz.func43, Tryz.ntmps43
  go_wp2_with (go_at_call 22; fail)
  rw [← hW0]
  clear hW0
  refine (rmv_at _ _ V1 0 (by exact H1.out.below HW) M1.out).mono ?_
  rintro e w1 ⟨rfl, b⟩
  replace HW := below_step HW b
  clear b
  clear p10 p11 p12 p13 p14 p20 p21 p22 p23 p24; obtain ⟨p10, p11, p12, p13, p14⟩ := box5 Hg1.out HW; obtain ⟨p20, p21, p22, p23, p24⟩ := box5 Hg2.out HW
  go_wp2_with (go_at_call 22; fail)
  refine (rmv_at _ _ V2 0 (by exact H2.out.below HW) M2.out).mono ?_
  rintro e w2 ⟨rfl, b⟩
  replace HW := below_step HW b
  clear b
  clear p10 p11 p12 p13 p14 p20 p21 p22 p23 p24; obtain ⟨p10, p11, p12, p13, p14⟩ := box5 Hg1.out HW; obtain ⟨p20, p21, p22, p23, p24⟩ := box5 Hg2.out HW
  go_upto_region 10 with fail
  obtain ⟨W3, hW3⟩ : ∃ W3, W3 = w2.alloc (.cells #[.int .i64 5, .bool false, .slice none 0 0, .int .i64 0, .float .f64 0] 27) := ⟨_, rfl⟩
  rw [← hW3]
  have b3 : Below w2.heap.size w2 W3 := by rw [hW3]; exact below1 _ _
  have G1 : Hid (W3.heap[w.heap.size]? = _) := blk_below (blk_below Hg1.out HW) b3
  have G2 : Hid (W3.heap[w.heap.size + 1]? = _) := blk_below (blk_below Hg2.out HW) b3
  have G3 : Hid (W3.heap[w.heap.size + 1 + 1]? = _) := blk_below (blk_below Hg3.out HW) b3
  have G4 : Hid (W3.heap[w2.heap.size]? = some (.cells #[.int .i64 5, .bool false, .slice none 0 0, .int .i64 0, .float .f64 0] 27)) := by show W3.heap[w2.heap.size]? = _; rw [hW3]; exact heap_alloc_new _ _
  have HB : Hid (Below w.heap.size w W3) := below_step (below_step HB0.out HW) b3
  have hlt : w.heap.size + 1 + 1 < w2.heap.size := Nat.lt_of_lt_of_le SZ.out HW.size
  have I1 : Hid (VIn W3 _ V1) := (H1.out.below HW).below b3
  have I2 : Hid (VIn W3 _ V2) := (H2.out.below HW).below b3
  obtain ⟨gv, hgv⟩ : ∃ gv, gv = w2.heap.size := ⟨_, rfl⟩
  rw [← hgv] at G4 hlt ⊢
  clear hgv hW3 b3 HW H1 H2 Hg1 Hg2 Hg3 HB0 SZ p10 p11 p12 p13 p14 p20 p21 p22 p23 p24
  obtain ⟨p10, p11, p12, p13, p14⟩ := box5 G1.out (below_refl _)
  obtain ⟨p20, p21, p22, p23, p24⟩ := box5 G2.out (below_refl _)
  obtain ⟨⟨p40, p41, p42, p43, p44⟩, ⟨f0, f1, f2, f3, f4⟩, -⟩ := box5_facts G4.out
  go_upto_region 34 with fail
  obtain ⟨W4, hW⟩ : ∃ W4, W4 = (W3.setCell ⟨gv, 4, none⟩ (.float .f64 (max V1.x V2.x))) := ⟨_, rfl⟩
  rw [← hW]
  have G1' : Hid (W4.heap[w.heap.size]? = some (.cells #[.int .i64 5, .bool V1.i, .slice a1 V1.n c1, .int .i64 V1.l, .float .f64 V1.x] 27)) := by show W4.heap[w.heap.size]? = _; rw [hW]; exact (put_far1 _ _ _ _ _ (by omega)).trans G1.out
  have G2' : Hid (W4.heap[w.heap.size + 1]? = some (.cells #[.int .i64 5, .bool V2.i, .slice a2 V2.n c2, .int .i64 V2.l, .float .f64 V2.x] 27)) := by show W4.heap[w.heap.size + 1]? = _; rw [hW]; exact (put_far1 _ _ _ _ _ (by omega)).trans G2.out
  have G3' : Hid (W4.heap[w.heap.size + 1 + 1]? = some (.cells #[.int .i64 0, .bool false, .slice none 0 0, .int .i64 0, .float .f64 0] 27)) := by show W4.heap[w.heap.size + 1 + 1]? = _; rw [hW]; exact (put_far1 _ _ _ _ _ (by omega)).trans G3.out
  have G4' : Hid (W4.heap[gv]? = some (.cells #[.int .i64 5, .bool false, .slice none 0 0, .int .i64 0, .float .f64 (max V1.x V2.x)] 27)) := by show W4.heap[gv]? = _; rw [hW]; exact put_flo G4.out _
  clear I1 I2
  have HB' : Hid (Below w.heap.size w W4) := by show Below w.heap.size w W4; rw [hW]; exact HB.out.setCell (by show w.heap.size ≤ gv; omega) _
  clear G1 G2 G3 G4 HB hW
  have G1 := G1'
  have G2 := G2'
  have G3 := G3'
  have G4 := G4'
  have HB := HB'
  clear G1' G2' G3' G4' HB'
  clear p10 p11 p12 p13 p14 p20 p21 p22 p23 p24 p40 p41 p42 p43 p44 f0 f1 f2 f3 f4
  obtain ⟨p10, p11, p12, p13, p14⟩ := box5 G1.out (below_refl _)
  obtain ⟨p20, p21, p22, p23, p24⟩ := box5 G2.out (below_refl _)
  obtain ⟨⟨p40, p41, p42, p43, p44⟩, ⟨f0, f1, f2, f3, f4⟩, -⟩ := box5_facts G4.out
  clear p10 p11 p12 p13 p14 p20 p21 p22 p23 p24 p40 p41 p42 p43 p44 f0 f1 f2 f3 f4
  obtain ⟨p40, p41, p42, p43, p44⟩ := box5 G4.out (below_refl _)
  obtain ⟨⟨z0, z1, z2, z3, z4⟩, ⟨f0, f1, f2, f3, f4⟩, s0, s1, s2, s3, s4⟩ := box5_facts G3.out
  go_wp2
  refine bodyPost_ret (v := .tuple #[.agg #[.int .i64 5, .bool false, .slice none 0 0, .int .i64 0, .float .f64 (max V1.x V2.x)], .int .i64 0]) (by simp [results, Tryz.results43, go_sem, s0, s1, s2, s3, s4]) rfl ?_
  exact ⟨⟨_, rfl, Or.inr (Or.inr ⟨by decide, _, rfl, (by have := Hb.out; show max V1.x V2.x ≤ 4607182418800017408; omega), rfl⟩)⟩, below_set5 HB.out (by omega) _ _ _ _ _⟩
set_option maxHeartbeats 16000000 in
theorem rop5t (w : World) (v1 v2 : Value) (V1 V2 : Vl) (h1 : VIn w v1 V1) (h2 : VIn w v2 V2) (es1 : V1.s = 5) (es2 : V2.s = 5) (m1 : mayV V1 = 0) (m2 : mayV V2 = 0) (hb1 : V1.x ≤ 4607182418800017408) (hb2 : V2.x ≤ 4607182418800017408) : Calls Tryz.prog 43 #[v1, v2, .bool true] w fun e w' => (∃ u, e = .returned (.tuple #[u, .int .i64 0]) ∧ VOut w' u 5 (some (Fl.Fo.tm V1.x V2.x))) ∧ Below w.heap.size w w' := by
  have Hb : Hid (V1.x ≤ 4607182418800017408 ∧ V2.x ≤ 4607182418800017408) := ⟨hb1, hb2⟩
  have hn := run_max V1.x V2.x (by omega) (by omega)
  have hm : ∀ w t, (binOp .mul t (.float .f64 V1.x) (.float .f64 V2.x)).run Tryz.prog w = .ok (.float .f64 (Fl.Fo.tm V1.x V2.x)) w := by
    have m := (Fl.Fo.tm_spec V1.x V2.x (by omega) (by omega) (by unfold Fl.Fo.tmOk; rw [Fl.Fo.in_of _ V1.x (by decide) hb1, Fl.Fo.in_of _ V2.x (by decide) hb2]; rfl)).1
    rw [Nat.mod_eq_of_lt (by omega), Nat.mod_eq_of_lt (by omega)] at m
    exact fun w t => run_float_arith w .mul t .f64 _ _ _ m
  clear hb1 hb2
  have H1' := h1
  obtain ⟨a1, c1, rfl, hr1, hL1, hn1, hx1, hl1, hs1⟩ := h1
  rw [es1] at H1' ⊢
  have H2' := h2
  obtain ⟨a2, c2, rfl, hr2, hL2, hn2, hx2, hl2, hs2⟩ := h2
  rw [es2] at H2' ⊢
  obtain ⟨W0, hW0⟩ : ∃ W0, W0 = (((w.alloc (.cells #[.int .i64 5, .bool V1.i, .slice a1 V1.n c1, .int .i64 V1.l, .float .f64 V1.x] 27)).alloc (.cells #[.int .i64 5, .bool V2.i, .slice a2 V2.n c2, .int .i64 V2.l, .float .f64 V2.x] 27)).alloc (.cells #[.int .i64 0, .bool false, .slice none 0 0, .int .i64 0, .float .f64 0] 27)) := ⟨_, rfl⟩
  have HB0 : Hid (Below w.heap.size w W0) := by rw [hW0]; exact below3 w _ _ _
  have Hg1 : Hid (W0.heap[w.heap.size]? = some (.cells #[.int .i64 5, .bool V1.i, .slice a1 V1.n c1, .int .i64 V1.l, .float .f64 V1.x] 27)) := by
    show W0.heap[w.heap.size]? = _
    rw [hW0]; exact heap_at3_0 w _ _ _
  have Hg2 : Hid (W0.heap[w.heap.size + 1]? = some (.cells #[.int .i64 5, .bool V2.i, .slice a2 V2.n c2, .int .i64 V2.l, .float .f64 V2.x] 27)) := by
    show W0.heap[w.heap.size + 1]? = _
    rw [hW0]; exact heap_at3_1 w _ _ _
  have Hg3 : Hid (W0.heap[w.heap.size + 1 + 1]? = some (.cells #[.int .i64 0, .bool false, .slice none 0 0, .int .i64 0, .float .f64 0] 27)) := by
    show W0.heap[w.heap.size + 1 + 1]? = _
    rw [hW0]; exact heap_at3_2 w _ _ _
  have H1 : Hid (VIn W0 (.agg #[.int .i64 5, .bool V1.i, .slice a1 V1.n c1, .int .i64 V1.l, .float .f64 V1.x]) V1) := H1'.below HB0.out
  have H2 : Hid (VIn W0 (.agg #[.int .i64 5, .bool V2.i, .slice a2 V2.n c2, .int .i64 V2.l, .float .f64 V2.x]) V2) := H2'.below HB0.out
  have HW : Below W0.heap.size W0 W0 := below_refl W0
  clear hr1 hL1 hn1 hx1 hl1 hs1 H1' hr2 hL2 hn2 hx2 hl2 hs2 H2'
  obtain ⟨p10, p11, p12, p13, p14⟩ := box5 Hg1.out HW
  obtain ⟨p20, p21, p22, p23, p24⟩ := box5 Hg2.out HW
  have hsf := st_flo
  have SZ : Hid (w.heap.size + 1 + 1 < W0.heap.size) := by show w.heap.size + 1 + 1 < W0.heap.size; rw [hW0]; simp
  have M1 : Hid (mayV V1 = 0) := m1
  have M2 : Hid (mayV V2 = 0) := m2
  clear m1 m2 es1 es2
  go_enter Tryz.func43, Tryz.ntmps43
  go_wp2_with (go_at_call 22; fail)
  rw [← hW0]
  clear hW0
  refine (rmv_at _ _ V1 0 (by exact H1.out.below HW) M1.out).mono ?_
  rintro e w1 ⟨rfl, b⟩
  replace HW := below_step HW b
  clear b
  clear p10 p11 p12 p13 p14 p20 p21 p22 p23 p24; obtain ⟨p10, p11, p12, p13, p14⟩ := box5 Hg1.out HW; obtain ⟨p20, p21, p22, p23, p24⟩ := box5 Hg2.out HW
  go_wp2_with (go_at_call 22; fail)
  refine (rmv_at _ _ V2 0 (by exact H2.out.below HW) M2.out).mono ?_
  rintro e w2 ⟨rfl, b⟩
  replace HW := below_step HW b
  clear b
  clear p10 p11 p12 p13 p14 p20 p21 p22 p23 p24; obtain ⟨p10, p11, p12, p13, p14⟩ := box5 Hg1.out HW; obtain ⟨p20, p21, p22, p23, p24⟩ := box5 Hg2.out HW
  go_upto_region 10 with fail
  obtain ⟨W3, hW3⟩ : ∃ W3, W3 = w2.alloc (.cells #[.int .i64 5, .bool false, .slice none 0 0, .int .i64 0, .float .f64 0] 27) := ⟨_, rfl⟩
  rw [← hW3]
  have b3 : Below w2.heap.size w2 W3 := by rw [hW3]; exact below1 _ _
  have G1 : Hid (W3.heap[w.heap.size]? = _) := blk_below (blk_below Hg1.out HW) b3
  have G2 : Hid (W3.heap[w.heap.size + 1]? = _) := blk_below (blk_below Hg2.out HW) b3
  have G3 : Hid (W3.heap[w.heap.size + 1 + 1]? = _) := blk_below (blk_below Hg3.out HW) b3
  have G4 : Hid (W3.heap[w2.heap.size]? = some (.cells #[.int .i64 5, .bool false, .slice none 0 0, .int .i64 0, .float .f64 0] 27)) := by show W3.heap[w2.heap.size]? = _; rw [hW3]; exact heap_alloc_new _ _
  have HB : Hid (Below w.heap.size w W3) := below_step (below_step HB0.out HW) b3
  have hlt : w.heap.size + 1 + 1 < w2.heap.size := Nat.lt_of_lt_of_le SZ.out HW.size
  have I1 : Hid (VIn W3 _ V1) := (H1.out.below HW).below b3
  have I2 : Hid (VIn W3 _ V2) := (H2.out.below HW).below b3
  obtain ⟨gv, hgv⟩ : ∃ gv, gv = w2.heap.size := ⟨_, rfl⟩
  rw [← hgv] at G4 hlt ⊢
  clear hgv hW3 b3 HW H1 H2 Hg1 Hg2 Hg3 HB0 SZ p10 p11 p12 p13 p14 p20 p21 p22 p23 p24
  obtain ⟨p10, p11, p12, p13, p14⟩ := box5 G1.out (below_refl _)
  obtain ⟨p20, p21, p22, p23, p24⟩ := box5 G2.out (below_refl _)
  obtain ⟨⟨p40, p41, p42, p43, p44⟩, ⟨f0, f1, f2, f3, f4⟩, -⟩ := box5_facts G4.out
  go_upto_region 29 with fail
  obtain ⟨W4, hW⟩ : ∃ W4, W4 = (W3.setCell ⟨gv, 4, none⟩ (.float .f64 (max V1.x V2.x))) := ⟨_, rfl⟩
  rw [← hW]
  have G1' : Hid (W4.heap[w.heap.size]? = some (.cells #[.int .i64 5, .bool V1.i, .slice a1 V1.n c1, .int .i64 V1.l, .float .f64 V1.x] 27)) := by show W4.heap[w.heap.size]? = _; rw [hW]; exact (put_far1 _ _ _ _ _ (by omega)).trans G1.out
  have G2' : Hid (W4.heap[w.heap.size + 1]? = some (.cells #[.int .i64 5, .bool V2.i, .slice a2 V2.n c2, .int .i64 V2.l, .float .f64 V2.x] 27)) := by show W4.heap[w.heap.size + 1]? = _; rw [hW]; exact (put_far1 _ _ _ _ _ (by omega)).trans G2.out
  have G3' : Hid (W4.heap[w.heap.size + 1 + 1]? = some (.cells #[.int .i64 0, .bool false, .slice none 0 0, .int .i64 0, .float .f64 0] 27)) := by show W4.heap[w.heap.size + 1 + 1]? = _; rw [hW]; exact (put_far1 _ _ _ _ _ (by omega)).trans G3.out
  have G4' : Hid (W4.heap[gv]? = some (.cells #[.int .i64 5, .bool false, .slice none 0 0, .int .i64 0, .float .f64 (max V1.x V2.x)] 27)) := by show W4.heap[gv]? = _; rw [hW]; exact put_flo G4.out _
  clear I1 I2
  have HB' : Hid (Below w.heap.size w W4) := by show Below w.heap.size w W4; rw [hW]; exact HB.out.setCell (by show w.heap.size ≤ gv; omega) _
  clear G1 G2 G3 G4 HB hW
  have G1 := G1'
  have G2 := G2'
  have G3 := G3'
  have G4 := G4'
  have HB := HB'
  clear G1' G2' G3' G4' HB'
  clear p10 p11 p12 p13 p14 p20 p21 p22 p23 p24 p40 p41 p42 p43 p44 f0 f1 f2 f3 f4
  obtain ⟨p10, p11, p12, p13, p14⟩ := box5 G1.out (below_refl _)
  obtain ⟨p20, p21, p22, p23, p24⟩ := box5 G2.out (below_refl _)
  obtain ⟨⟨p40, p41, p42, p43, p44⟩, ⟨f0, f1, f2, f3, f4⟩, -⟩ := box5_facts G4.out
  go_upto_region 34 with fail
  obtain ⟨W5, hW⟩ : ∃ W5, W5 = (W4.setCell ⟨gv, 4, none⟩ (.float .f64 (Fl.Fo.tm V1.x V2.x))) := ⟨_, rfl⟩
  rw [← hW]
  have G1' : Hid (W5.heap[w.heap.size]? = some (.cells #[.int .i64 5, .bool V1.i, .slice a1 V1.n c1, .int .i64 V1.l, .float .f64 V1.x] 27)) := by show W5.heap[w.heap.size]? = _; rw [hW]; exact (put_far1 _ _ _ _ _ (by omega)).trans G1.out
  have G2' : Hid (W5.heap[w.heap.size + 1]? = some (.cells #[.int .i64 5, .bool V2.i, .slice a2 V2.n c2, .int .i64 V2.l, .float .f64 V2.x] 27)) := by show W5.heap[w.heap.size + 1]? = _; rw [hW]; exact (put_far1 _ _ _ _ _ (by omega)).trans G2.out
  have G3' : Hid (W5.heap[w.heap.size + 1 + 1]? = some (.cells #[.int .i64 0, .bool false, .slice none 0 0, .int .i64 0, .float .f64 0] 27)) := by show W5.heap[w.heap.size + 1 + 1]? = _; rw [hW]; exact (put_far1 _ _ _ _ _ (by omega)).trans G3.out
  have G4' : Hid (W5.heap[gv]? = some (.cells #[.int .i64 5, .bool false, .slice none 0 0, .int .i64 0, .float .f64 (Fl.Fo.tm V1.x V2.x)] 27)) := by show W5.heap[gv]? = _; rw [hW]; exact put_flo G4.out _
  skip
  have HB' : Hid (Below w.heap.size w W5) := by show Below w.heap.size w W5; rw [hW]; exact HB.out.setCell (by show w.heap.size ≤ gv; omega) _
  clear G1 G2 G3 G4 HB hW
  have G1 := G1'
  have G2 := G2'
  have G3 := G3'
  have G4 := G4'
  have HB := HB'
  clear G1' G2' G3' G4' HB'
  clear p10 p11 p12 p13 p14 p20 p21 p22 p23 p24 p40 p41 p42 p43 p44 f0 f1 f2 f3 f4
  obtain ⟨p10, p11, p12, p13, p14⟩ := box5 G1.out (below_refl _)
  obtain ⟨p20, p21, p22, p23, p24⟩ := box5 G2.out (below_refl _)
  obtain ⟨⟨p40, p41, p42, p43, p44⟩, ⟨f0, f1, f2, f3, f4⟩, -⟩ := box5_facts G4.out
  clear p10 p11 p12 p13 p14 p20 p21 p22 p23 p24 p40 p41 p42 p43 p44 f0 f1 f2 f3 f4
  obtain ⟨p40, p41, p42, p43, p44⟩ := box5 G4.out (below_refl _)
  obtain ⟨⟨z0, z1, z2, z3, z4⟩, ⟨f0, f1, f2, f3, f4⟩, s0, s1, s2, s3, s4⟩ := box5_facts G3.out
  go_wp2
  refine bodyPost_ret (v := .tuple #[.agg #[.int .i64 5, .bool false, .slice none 0 0, .int .i64 0, .float .f64 (Fl.Fo.tm V1.x V2.x)], .int .i64 0]) (by simp [results, Tryz.results43, go_sem, s0, s1, s2, s3, s4]) rfl ?_
  exact ⟨⟨_, rfl, Or.inr (Or.inr ⟨by decide, _, rfl, (by have := Hb.out; exact Fl.Fo.tm_le V1.x V2.x (by omega) (by omega)), rfl⟩)⟩, below_set5 HB.out (by omega) _ _ _ _ _⟩
set_option maxHeartbeats 16000000 in
theorem rop6f (w : World) (v1 v2 : Value) (V1 V2 : Vl) (h1 : VIn w v1 V1) (h2 : VIn w v2 V2) (es1 : V1.s = 6) (es2 : V2.s = 6) (m1 : mayV V1 = 0) (m2 : mayV V2 = 0) (hb1 : V1.x ≤ 9218868437227405312) (hb2 : V2.x ≤ 9218868437227405312) : Calls Tryz.prog 43 #[v1, v2, .bool false] w fun e w' => (∃ u, e = .returned (.tuple #[u, .int .i64 0]) ∧ VOut w' u 6 (some (min V1.x V2.x))) ∧ Below w.heap.size w w' := by
  have Hb : Hid (V1.x ≤ 9218868437227405312 ∧ V2.x ≤ 9218868437227405312) := ⟨hb1, hb2⟩
  have hn := run_min V1.x V2.x (by omega) (by omega)

  clear hb1 hb2
  have H1' := h1
  obtain ⟨a1, c1, rfl, hr1, hL1, hn1, hx1, hl1, hs1⟩ := h1
  rw [es1] at H1' ⊢
  have H2' := h2
  obtain ⟨a2, c2, rfl, hr2, hL2, hn2, hx2, hl2, hs2⟩ := h2
  rw [es2] at H2' ⊢
  obtain ⟨W0, hW0⟩ : ∃ W0, W0 = (((w.alloc (.cells #[.int .i64 6, .bool V1.i, .slice a1 V1.n c1, .int .i64 V1.l, .float .f64 V1.x] 27)).alloc (.cells #[.int .i64 6, .bool V2.i, .slice a2 V2.n c2, .int .i64 V2.l, .float .f64 V2.x] 27)).alloc (.cells #[.int .i64 0, .bool false, .slice none 0 0, .int .i64 0, .float .f64 0] 27)) := ⟨_, rfl⟩
  have HB0 : Hid (Below w.heap.size w W0) := by rw [hW0]; exact below3 w _ _ _
  have Hg1 : Hid (W0.heap[w.heap.size]? = some (.cells #[.int .i64 6, .bool V1.i, .slice a1 V1.n c1, .int .i64 V1.l, .float .f64 V1.x] 27)) := by
    show W0.heap[w.heap.size]? = _
    rw [hW0]; exact heap_at3_0 w _ _ _
  have Hg2 : Hid (W0.heap[w.heap.size + 1]? = some (.cells #[.int .i64 6, .bool V2.i, .slice a2 V2.n c2, .int .i64 V2.l, .float .f64 V2.x] 27)) := by
    show W0.heap[w.heap.size + 1]? = _
    rw [hW0]; exact heap_at3_1 w _ _ _
  have Hg3 : Hid (W0.heap[w.heap.size + 1 + 1]? = some (.cells #[.int .i64 0, .bool false, .slice none 0 0, .int .i64 0, .float .f64 0] 27)) := by
    show W0.heap[w.heap.size + 1 + 1]? = _
    rw [hW0]; exact heap_at3_2 w _ _ _
  have H1 : Hid (VIn W0 (.agg #[.int .i64 6, .bool V1.i, .slice a1 V1.n c1, .int .i64 V1.l, .float .f64 V1.x]) V1) := H1'.below HB0.out
  have H2 : Hid (VIn W0 (.agg #[.int .i64 6, .bool V2.i, .slice a2 V2.n c2, .int .i64 V2.l, .float .f64 V2.x]) V2) := H2'.below HB0.out
  have HW : Below W0.heap.size W0 W0 := below_refl W0
  clear hr1 hL1 hn1 hx1 hl1 hs1 H1' hr2 hL2 hn2 hx2 hl2 hs2 H2'
  obtain ⟨p10, p11, p12, p13, p14⟩ := box5 Hg1.out HW
  obtain ⟨p20, p21, p22, p23, p24⟩ := box5 Hg2.out HW
  have hsf := st_flo
  have SZ : Hid (w.heap.size + 1 + 1 < W0.heap.size) := by show w.heap.size + 1 + 1 < W0.heap.size; rw [hW0]; simp
  have M1 : Hid (mayV V1 = 0) := m1
  have M2 : Hid (mayV V2 = 0) := m2
  clear m1 m2 es1 es2
  go_enter Tryz.func43, Tryz.ntmps43
  go_wp2_with (go_at_call 22; fail)
  rw [← hW0]
  clear hW0
  refine (rmv_at _ _ V1 0 (by exact H1.out.below HW) M1.out).mono ?_
  rintro e w1 ⟨rfl, b⟩
  replace HW := below_step HW b
  clear b
  clear p10 p11 p12 p13 p14 p20 p21 p22 p23 p24; obtain ⟨p10, p11, p12, p13, p14⟩ := box5 Hg1.out HW; obtain ⟨p20, p21, p22, p23, p24⟩ := box5 Hg2.out HW
  go_wp2_with (go_at_call 22; fail)
  refine (rmv_at _ _ V2 0 (by exact H2.out.below HW) M2.out).mono ?_
  rintro e w2 ⟨rfl, b⟩
  replace HW := below_step HW b
  clear b
  clear p10 p11 p12 p13 p14 p20 p21 p22 p23 p24; obtain ⟨p10, p11, p12, p13, p14⟩ := box5 Hg1.out HW; obtain ⟨p20, p21, p22, p23, p24⟩ := box5 Hg2.out HW
  go_upto_region 10 with fail
  obtain ⟨W3, hW3⟩ : ∃ W3, W3 = w2.alloc (.cells #[.int .i64 6, .bool false, .slice none 0 0, .int .i64 0, .float .f64 0] 27) := ⟨_, rfl⟩
  rw [← hW3]
  have b3 : Below w2.heap.size w2 W3 := by rw [hW3]; exact below1 _ _
  have G1 : Hid (W3.heap[w.heap.size]? = _) := blk_below (blk_below Hg1.out HW) b3
  have G2 : Hid (W3.heap[w.heap.size + 1]? = _) := blk_below (blk_below Hg2.out HW) b3
  have G3 : Hid (W3.heap[w.heap.size + 1 + 1]? = _) := blk_below (blk_below Hg3.out HW) b3
  have G4 : Hid (W3.heap[w2.heap.size]? = some (.cells #[.int .i64 6, .bool false, .slice none 0 0, .int .i64 0, .float .f64 0] 27)) := by show W3.heap[w2.heap.size]? = _; rw [hW3]; exact heap_alloc_new _ _
  have HB : Hid (Below w.heap.size w W3) := below_step (below_step HB0.out HW) b3
  have hlt : w.heap.size + 1 + 1 < w2.heap.size := Nat.lt_of_lt_of_le SZ.out HW.size
  have I1 : Hid (VIn W3 _ V1) := (H1.out.below HW).below b3
  have I2 : Hid (VIn W3 _ V2) := (H2.out.below HW).below b3
  obtain ⟨gv, hgv⟩ : ∃ gv, gv = w2.heap.size := ⟨_, rfl⟩
  rw [← hgv] at G4 hlt ⊢
  clear hgv hW3 b3 HW H1 H2 Hg1 Hg2 Hg3 HB0 SZ p10 p11 p12 p13 p14 p20 p21 p22 p23 p24
  obtain ⟨p10, p11, p12, p13, p14⟩ := box5 G1.out (below_refl _)
  obtain ⟨p20, p21, p22, p23, p24⟩ := box5 G2.out (below_refl _)
  obtain ⟨⟨p40, p41, p42, p43, p44⟩, ⟨f0, f1, f2, f3, f4⟩, -⟩ := box5_facts G4.out
  go_upto_region 34 with fail
  obtain ⟨W4, hW⟩ : ∃ W4, W4 = (W3.setCell ⟨gv, 4, none⟩ (.float .f64 (min V1.x V2.x))) := ⟨_, rfl⟩
  rw [← hW]
  have G1' : Hid (W4.heap[w.heap.size]? = some (.cells #[.int .i64 6, .bool V1.i, .slice a1 V1.n c1, .int .i64 V1.l, .float .f64 V1.x] 27)) := by show W4.heap[w.heap.size]? = _; rw [hW]; exact (put_far1 _ _ _ _ _ (by omega)).trans G1.out
  have G2' : Hid (W4.heap[w.heap.size + 1]? = some (.cells #[.int .i64 6, .bool V2.i, .slice a2 V2.n c2, .int .i64 V2.l, .float .f64 V2.x] 27)) := by show W4.heap[w.heap.size + 1]? = _; rw [hW]; exact (put_far1 _ _ _ _ _ (by omega)).trans G2.out
  have G3' : Hid (W4.heap[w.heap.size + 1 + 1]? = some (.cells #[.int .i64 0, .bool false, .slice none 0 0, .int .i64 0, .float .f64 0] 27)) := by show W4.heap[w.heap.size + 1 + 1]? = _; rw [hW]; exact (put_far1 _ _ _ _ _ (by omega)).trans G3.out
  have G4' : Hid (W4.heap[gv]? = some (.cells #[.int .i64 6, .bool false, .slice none 0 0, .int .i64 0, .float .f64 (min V1.x V2.x)] 27)) := by show W4.heap[gv]? = _; rw [hW]; exact put_flo G4.out _
  clear I1 I2
  have HB' : Hid (Below w.heap.size w W4) := by show Below w.heap.size w W4; rw [hW]; exact HB.out.setCell (by show w.heap.size ≤ gv; omega) _
  clear G1 G2 G3 G4 HB hW
  have G1 := G1'
  have G2 := G2'
  have G3 := G3'
  have G4 := G4'
  have HB := HB'
  clear G1' G2' G3' G4' HB'
  clear p10 p11 p12 p13 p14 p20 p21 p22 p23 p24 p40 p41 p42 p43 p44 f0 f1 f2 f3 f4
  obtain ⟨p10, p11, p12, p13, p14⟩ := box5 G1.out (below_refl _)
  obtain ⟨p20, p21, p22, p23, p24⟩ := box5 G2.out (below_refl _)
  obtain ⟨⟨p40, p41, p42, p43, p44⟩, ⟨f0, f1, f2, f3, f4⟩, -⟩ := box5_facts G4.out
  clear p10 p11 p12 p13 p14 p20 p21 p22 p23 p24 p40 p41 p42 p43 p44 f0 f1 f2 f3 f4
  obtain ⟨p40, p41, p42, p43, p44⟩ := box5 G4.out (below_refl _)
  obtain ⟨⟨z0, z1, z2, z3, z4⟩, ⟨f0, f1, f2, f3, f4⟩, s0, s1, s2, s3, s4⟩ := box5_facts G3.out
  go_wp2
  refine bodyPost_ret (v := .tuple #[.agg #[.int .i64 6, .bool false, .slice none 0 0, .int .i64 0, .float .f64 (min V1.x V2.x)], .int .i64 0]) (by simp [results, Tryz.results43, go_sem, s0, s1, s2, s3, s4]) rfl ?_
  exact ⟨⟨_, rfl, Or.inr (Or.inr ⟨by decide, _, rfl, (by have := Hb.out; show min V1.x V2.x ≤ 9218868437227405312; omega), rfl⟩)⟩, below_set5 HB.out (by omega) _ _ _ _ _⟩
set_option maxHeartbeats 16000000 in
theorem rop6t (w : World) (v1 v2 : Value) (V1 V2 : Vl) (h1 : VIn w v1 V1) (h2 : VIn w v2 V2) (es1 : V1.s = 6) (es2 : V2.s = 6) (m1 : mayV V1 = 0) (m2 : mayV V2 = 0) (hb1 : V1.x ≤ 9218868437227405312) (hb2 : V2.x ≤ 9218868437227405312) : Calls Tryz.prog 43 #[v1, v2, .bool true] w fun e w' => (∃ u, e = .returned (.tuple #[u, .int .i64 0]) ∧ VOut w' u 6 (some (Fl.Fo.ps V1.x V2.x))) ∧ Below w.heap.size w w' := by
  have Hb : Hid (V1.x ≤ 9218868437227405312 ∧ V2.x ≤ 9218868437227405312) := ⟨hb1, hb2⟩
  have hn := run_min V1.x V2.x (by omega) (by omega)
  have hm : ∀ w t, (binOp .add t (.float .f64 V1.x) (.float .f64 V2.x)).run Tryz.prog w = .ok (.float .f64 (Fl.Fo.ps V1.x V2.x)) w := by
    have m := (Fl.Fo.ps_spec V1.x V2.x (by omega) (by omega) (by unfold Fl.Fo.psOk; rw [Fl.Fo.in_of _ V1.x (by decide) hb1, Fl.Fo.in_of _ V2.x (by decide) hb2]; rfl)).1
    rw [Nat.mod_eq_of_lt (by omega), Nat.mod_eq_of_lt (by omega)] at m
    exact fun w t => run_float_arith w .add t .f64 _ _ _ m
  clear hb1 hb2
  have H1' := h1
  obtain ⟨a1, c1, rfl, hr1, hL1, hn1, hx1, hl1, hs1⟩ := h1
  rw [es1] at H1' ⊢
  have H2' := h2
  obtain ⟨a2, c2, rfl, hr2, hL2, hn2, hx2, hl2, hs2⟩ := h2
  rw [es2] at H2' ⊢
  obtain ⟨W0, hW0⟩ : ∃ W0, W0 = (((w.alloc (.cells #[.int .i64 6, .bool V1.i, .slice a1 V1.n c1, .int .i64 V1.l, .float .f64 V1.x] 27)).alloc (.cells #[.int .i64 6, .bool V2.i, .slice a2 V2.n c2, .int .i64 V2.l, .float .f64 V2.x] 27)).alloc (.cells #[.int .i64 0, .bool false, .slice none 0 0, .int .i64 0, .float .f64 0] 27)) := ⟨_, rfl⟩
  have HB0 : Hid (Below w.heap.size w W0) := by rw [hW0]; exact below3 w _ _ _
  have Hg1 : Hid (W0.heap[w.heap.size]? = some (.cells #[.int .i64 6, .bool V1.i, .slice a1 V1.n c1, .int .i64 V1.l, .float .f64 V1.x] 27)) := by
    show W0.heap[w.heap.size]? = _
    rw [hW0]; exact heap_at3_0 w _ _ _
  have Hg2 : Hid (W0.heap[w.heap.size + 1]? = some (.cells #[.int .i64 6, .bool V2.i, .slice a2 V2.n c2, .int .i64 V2.l, .float .f64 V2.x] 27)) := by
    show W0.heap[w.heap.size + 1]? = _
    rw [hW0]; exact heap_at3_1 w _ _ _
  have Hg3 : Hid (W0.heap[w.heap.size + 1 + 1]? = some (.cells #[.int .i64 0, .bool false, .slice none 0 0, .int .i64 0, .float .f64 0] 27)) := by
    show W0.heap[w.heap.size + 1 + 1]? = _
    rw [hW0]; exact heap_at3_2 w _ _ _
  have H1 : Hid (VIn W0 (.agg #[.int .i64 6, .bool V1.i, .slice a1 V1.n c1, .int .i64 V1.l, .float .f64 V1.x]) V1) := H1'.below HB0.out
  have H2 : Hid (VIn W0 (.agg #[.int .i64 6, .bool V2.i, .slice a2 V2.n c2, .int .i64 V2.l, .float .f64 V2.x]) V2) := H2'.below HB0.out
  have HW : Below W0.heap.size W0 W0 := below_refl W0
  clear hr1 hL1 hn1 hx1 hl1 hs1 H1' hr2 hL2 hn2 hx2 hl2 hs2 H2'
  obtain ⟨p10, p11, p12, p13, p14⟩ := box5 Hg1.out HW
  obtain ⟨p20, p21, p22, p23, p24⟩ := box5 Hg2.out HW
  have hsf := st_flo
  have SZ : Hid (w.heap.size + 1 + 1 < W0.heap.size) := by show w.heap.size + 1 + 1 < W0.heap.size; rw [hW0]; simp
  have M1 : Hid (mayV V1 = 0) := m1
  have M2 : Hid (mayV V2 = 0) := m2
  clear m1 m2 es1 es2
  go_enter Tryz.func43, Tryz.ntmps43
  go_wp2_with (go_at_call 22; fail)
  rw [← hW0]
  clear hW0
  refine (rmv_at _ _ V1 0 (by exact H1.out.below HW) M1.out).mono ?_
  rintro e w1 ⟨rfl, b⟩
  replace HW := below_step HW b
  clear b
  clear p10 p11 p12 p13 p14 p20 p21 p22 p23 p24; obtain ⟨p10, p11, p12, p13, p14⟩ := box5 Hg1.out HW; obtain ⟨p20, p21, p22, p23, p24⟩ := box5 Hg2.out HW
  go_wp2_with (go_at_call 22; fail)
  refine (rmv_at _ _ V2 0 (by exact H2.out.below HW) M2.out).mono ?_
  rintro e w2 ⟨rfl, b⟩
  replace HW := below_step HW b
  clear b
  clear p10 p11 p12 p13 p14 p20 p21 p22 p23 p24; obtain ⟨p10, p11, p12, p13, p14⟩ := box5 Hg1.out HW; obtain ⟨p20, p21, p22, p23, p24⟩ := box5 Hg2.out HW
  go_upto_region 10 with fail
  obtain ⟨W3, hW3⟩ : ∃ W3, W3 = w2.alloc (.cells #[.int .i64 6, .bool false, .slice none 0 0, .int .i64 0, .float .f64 0] 27) := ⟨_, rfl⟩
  rw [← hW3]
  have b3 : Below w2.heap.size w2 W3 := by rw [hW3]; exact below1 _ _
  have G1 : Hid (W3.heap[w.heap.size]? = _) := blk_below (blk_below Hg1.out HW) b3
  have G2 : Hid (W3.heap[w.heap.size + 1]? = _) := blk_below (blk_below Hg2.out HW) b3
  have G3 : Hid (W3.heap[w.heap.size + 1 + 1]? = _) := blk_below (blk_below Hg3.out HW) b3
  have G4 : Hid (W3.heap[w2.heap.size]? = some (.cells #[.int .i64 6, .bool false, .slice none 0 0, .int .i64 0, .float .f64 0] 27)) := by show W3.heap[w2.heap.size]? = _; rw [hW3]; exact heap_alloc_new _ _
  have HB : Hid (Below w.heap.size w W3) := below_step (below_step HB0.out HW) b3
  have hlt : w.heap.size + 1 + 1 < w2.heap.size := Nat.lt_of_lt_of_le SZ.out HW.size
  have I1 : Hid (VIn W3 _ V1) := (H1.out.below HW).below b3
  have I2 : Hid (VIn W3 _ V2) := (H2.out.below HW).below b3
  obtain ⟨gv, hgv⟩ : ∃ gv, gv = w2.heap.size := ⟨_, rfl⟩
  rw [← hgv] at G4 hlt ⊢
  clear hgv hW3 b3 HW H1 H2 Hg1 Hg2 Hg3 HB0 SZ p10 p11 p12 p13 p14 p20 p21 p22 p23 p24
  obtain ⟨p10, p11, p12, p13, p14⟩ := box5 G1.out (below_refl _)
  obtain ⟨p20, p21, p22, p23, p24⟩ := box5 G2.out (below_refl _)
  obtain ⟨⟨p40, p41, p42, p43, p44⟩, ⟨f0, f1, f2, f3, f4⟩, -⟩ := box5_facts G4.out
  go_upto_region 33 with fail
  obtain ⟨W4, hW⟩ : ∃ W4, W4 = (W3.setCell ⟨gv, 4, none⟩ (.float .f64 (min V1.x V2.x))) := ⟨_, rfl⟩
  rw [← hW]
  have G1' : Hid (W4.heap[w.heap.size]? = some (.cells #[.int .i64 6, .bool V1.i, .slice a1 V1.n c1, .int .i64 V1.l, .float .f64 V1.x] 27)) := by show W4.heap[w.heap.size]? = _; rw [hW]; exact (put_far1 _ _ _ _ _ (by omega)).trans G1.out
  have G2' : Hid (W4.heap[w.heap.size + 1]? = some (.cells #[.int .i64 6, .bool V2.i, .slice a2 V2.n c2, .int .i64 V2.l, .float .f64 V2.x] 27)) := by show W4.heap[w.heap.size + 1]? = _; rw [hW]; exact (put_far1 _ _ _ _ _ (by omega)).trans G2.out
  have G3' : Hid (W4.heap[w.heap.size + 1 + 1]? = some (.cells #[.int .i64 0, .bool false, .slice none 0 0, .int .i64 0, .float .f64 0] 27)) := by show W4.heap[w.heap.size + 1 + 1]? = _; rw [hW]; exact (put_far1 _ _ _ _ _ (by omega)).trans G3.out
  have G4' : Hid (W4.heap[gv]? = some (.cells #[.int .i64 6, .bool false, .slice none 0 0, .int .i64 0, .float .f64 (min V1.x V2.x)] 27)) := by show W4.heap[gv]? = _; rw [hW]; exact put_flo G4.out _
  clear I1 I2
  have HB' : Hid (Below w.heap.size w W4) := by show Below w.heap.size w W4; rw [hW]; exact HB.out.setCell (by show w.heap.size ≤ gv; omega) _
  clear G1 G2 G3 G4 HB hW
  have G1 := G1'
  have G2 := G2'
  have G3 := G3'
  have G4 := G4'
  have HB := HB'
  clear G1' G2' G3' G4' HB'
  clear p10 p11 p12 p13 p14 p20 p21 p22 p23 p24 p40 p41 p42 p43 p44 f0 f1 f2 f3 f4
  obtain ⟨p10, p11, p12, p13, p14⟩ := box5 G1.out (below_refl _)
  obtain ⟨p20, p21, p22, p23, p24⟩ := box5 G2.out (below_refl _)
  obtain ⟨⟨p40, p41, p42, p43, p44⟩, ⟨f0, f1, f2, f3, f4⟩, -⟩ := box5_facts G4.out
  go_upto_region 34 with fail
  obtain ⟨W5, hW⟩ : ∃ W5, W5 = (W4.setCell ⟨gv, 4, none⟩ (.float .f64 (Fl.Fo.ps V1.x V2.x))) := ⟨_, rfl⟩
  rw [← hW]
  have G1' : Hid (W5.heap[w.heap.size]? = some (.cells #[.int .i64 6, .bool V1.i, .slice a1 V1.n c1, .int .i64 V1.l, .float .f64 V1.x] 27)) := by show W5.heap[w.heap.size]? = _; rw [hW]; exact (put_far1 _ _ _ _ _ (by omega)).trans G1.out
  have G2' : Hid (W5.heap[w.heap.size + 1]? = some (.cells #[.int .i64 6, .bool V2.i, .slice a2 V2.n c2, .int .i64 V2.l, .float .f64 V2.x] 27)) := by show W5.heap[w.heap.size + 1]? = _; rw [hW]; exact (put_far1 _ _ _ _ _ (by omega)).trans G2.out
  have G3' : Hid (W5.heap[w.heap.size + 1 + 1]? = some (.cells #[.int .i64 0, .bool false, .slice none 0 0, .int .i64 0, .float .f64 0] 27)) := by show W5.heap[w.heap.size + 1 + 1]? = _; rw [hW]; exact (put_far1 _ _ _ _ _ (by omega)).trans G3.out
  have G4' : Hid (W5.heap[gv]? = some (.cells #[.int .i64 6, .bool false, .slice none 0 0, .int .i64 0, .float .f64 (Fl.Fo.ps V1.x V2.x)] 27)) := by show W5.heap[gv]? = _; rw [hW]; exact put_flo G4.out _
  skip
  have HB' : Hid (Below w.heap.size w W5) := by show Below w.heap.size w W5; rw [hW]; exact HB.out.setCell (by show w.heap.size ≤ gv; omega) _
  clear G1 G2 G3 G4 HB hW
  have G1 := G1'
  have G2 := G2'
  have G3 := G3'
  have G4 := G4'
  have HB := HB'
  clear G1' G2' G3' G4' HB'
  clear p10 p11 p12 p13 p14 p20 p21 p22 p23 p24 p40 p41 p42 p43 p44 f0 f1 f2 f3 f4
  obtain ⟨p10, p11, p12, p13, p14⟩ := box5 G1.out (below_refl _)
  obtain ⟨p20, p21, p22, p23, p24⟩ := box5 G2.out (below_refl _)
  obtain ⟨⟨p40, p41, p42, p43, p44⟩, ⟨f0, f1, f2, f3, f4⟩, -⟩ := box5_facts G4.out
  clear p10 p11 p12 p13 p14 p20 p21 p22 p23 p24 p40 p41 p42 p43 p44 f0 f1 f2 f3 f4
  obtain ⟨p40, p41, p42, p43, p44⟩ := box5 G4.out (below_refl _)
  obtain ⟨⟨z0, z1, z2, z3, z4⟩, ⟨f0, f1, f2, f3, f4⟩, s0, s1, s2, s3, s4⟩ := box5_facts G3.out
  go_wp2
  refine bodyPost_ret (v := .tuple #[.agg #[.int .i64 6, .bool false, .slice none 0 0, .int .i64 0, .float .f64 (Fl.Fo.ps V1.x V2.x)], .int .i64 0]) (by simp [results, Tryz.results43, go_sem, s0, s1, s2, s3, s4]) rfl ?_
  exact ⟨⟨_, rfl, Or.inr (Or.inr ⟨by decide, _, rfl, (by have := Hb.out; exact Fl.Fo.ps_le V1.x V2.x (by omega) (by omega)), rfl⟩)⟩, below_set5 HB.out (by omega) _ _ _ _ _⟩
set_option maxHeartbeats 16000000 in
theorem rop1f (w : World) (v1 v2 : Value) (V1 V2 : Vl) (h1 : VIn w v1 V1) (h2 : VIn w v2 V2) (es1 : V1.s = 1) (es2 : V2.s = 1) (m1 : mayV V1 = 0) (m2 : mayV V2 = 0)  : Calls Tryz.prog 43 #[v1, v2, .bool false] w fun e w' => (∃ u, e = .returned (.tuple #[u, .int .i64 0]) ∧ VOut w' u 1 (oadd (numV V1) (numV V2))) ∧ Below w.heap.size w w' := by
  have Sh1 : Hid (Short 10000 (numV V1)) := h1.short
  have Sh2 : Hid (Short 10000 (numV V2)) := h2.short
  have H1' := h1
  obtain ⟨a1, c1, rfl, hr1, hL1, hn1, hx1, hl1, hs1⟩ := h1
  rw [es1] at H1' ⊢
  have H2' := h2
  obtain ⟨a2, c2, rfl, hr2, hL2, hn2, hx2, hl2, hs2⟩ := h2
  rw [es2] at H2' ⊢
  obtain ⟨W0, hW0⟩ : ∃ W0, W0 = (((w.alloc (.cells #[.int .i64 1, .bool V1.i, .slice a1 V1.n c1, .int .i64 V1.l, .float .f64 V1.x] 27)).alloc (.cells #[.int .i64 1, .bool V2.i, .slice a2 V2.n c2, .int .i64 V2.l, .float .f64 V2.x] 27)).alloc (.cells #[.int .i64 0, .bool false, .slice none 0 0, .int .i64 0, .float .f64 0] 27)) := ⟨_, rfl⟩
  have HB0 : Hid (Below w.heap.size w W0) := by rw [hW0]; exact below3 w _ _ _
  have Hg1 : Hid (W0.heap[w.heap.size]? = some (.cells #[.int .i64 1, .bool V1.i, .slice a1 V1.n c1, .int .i64 V1.l, .float .f64 V1.x] 27)) := by
    show W0.heap[w.heap.size]? = _
    rw [hW0]; exact heap_at3_0 w _ _ _
  have Hg2 : Hid (W0.heap[w.heap.size + 1]? = some (.cells #[.int .i64 1, .bool V2.i, .slice a2 V2.n c2, .int .i64 V2.l, .float .f64 V2.x] 27)) := by
    show W0.heap[w.heap.size + 1]? = _
    rw [hW0]; exact heap_at3_1 w _ _ _
  have Hg3 : Hid (W0.heap[w.heap.size + 1 + 1]? = some (.cells #[.int .i64 0, .bool false, .slice none 0 0, .int .i64 0, .float .f64 0] 27)) := by
    show W0.heap[w.heap.size + 1 + 1]? = _
    rw [hW0]; exact heap_at3_2 w _ _ _
  have H1 : Hid (VIn W0 (.agg #[.int .i64 1, .bool V1.i, .slice a1 V1.n c1, .int .i64 V1.l, .float .f64 V1.x]) V1) := H1'.below HB0.out
  have H2 : Hid (VIn W0 (.agg #[.int .i64 1, .bool V2.i, .slice a2 V2.n c2, .int .i64 V2.l, .float .f64 V2.x]) V2) := H2'.below HB0.out
  have HW : Below W0.heap.size W0 W0 := below_refl W0
  clear hr1 hL1 hn1 hx1 hl1 hs1 H1' hr2 hL2 hn2 hx2 hl2 hs2 H2'
  obtain ⟨p10, p11, p12, p13, p14⟩ := box5 Hg1.out HW
  obtain ⟨p20, p21, p22, p23, p24⟩ := box5 Hg2.out HW
  have hsf := st_flo
  have SZ : Hid (w.heap.size + 1 + 1 < W0.heap.size) := by show w.heap.size + 1 + 1 < W0.heap.size; rw [hW0]; simp
  have M1 : Hid (mayV V1 = 0) := m1
  have M2 : Hid (mayV V2 = 0) := m2
  clear m1 m2 es1 es2
  go_enter Tryz.func43, Tryz.ntmps43
  go_wp2_with (go_at_call 22; fail)
  rw [← hW0]
  clear hW0
  refine (rmv_at _ _ V1 0 (by exact H1.out.below HW) M1.out).mono ?_
  rintro e w1 ⟨rfl, b⟩
  replace HW := below_step HW b
  clear b
  clear p10 p11 p12 p13 p14 p20 p21 p22 p23 p24; obtain ⟨p10, p11, p12, p13, p14⟩ := box5 Hg1.out HW; obtain ⟨p20, p21, p22, p23, p24⟩ := box5 Hg2.out HW
  go_wp2_with (go_at_call 22; fail)
  refine (rmv_at _ _ V2 0 (by exact H2.out.below HW) M2.out).mono ?_
  rintro e w2 ⟨rfl, b⟩
  replace HW := below_step HW b
  clear b
  clear p10 p11 p12 p13 p14 p20 p21 p22 p23 p24; obtain ⟨p10, p11, p12, p13, p14⟩ := box5 Hg1.out HW; obtain ⟨p20, p21, p22, p23, p24⟩ := box5 Hg2.out HW
  go_upto_region 10 with fail
  obtain ⟨W3, hW3⟩ : ∃ W3, W3 = w2.alloc (.cells #[.int .i64 1, .bool false, .slice none 0 0, .int .i64 0, .float .f64 0] 27) := ⟨_, rfl⟩
  rw [← hW3]
  have b3 : Below w2.heap.size w2 W3 := by rw [hW3]; exact below1 _ _
  have G1 : Hid (W3.heap[w.heap.size]? = _) := blk_below (blk_below Hg1.out HW) b3
  have G2 : Hid (W3.heap[w.heap.size + 1]? = _) := blk_below (blk_below Hg2.out HW) b3
  have G3 : Hid (W3.heap[w.heap.size + 1 + 1]? = _) := blk_below (blk_below Hg3.out HW) b3
  have G4 : Hid (W3.heap[w2.heap.size]? = some (.cells #[.int .i64 1, .bool false, .slice none 0 0, .int .i64 0, .float .f64 0] 27)) := by show W3.heap[w2.heap.size]? = _; rw [hW3]; exact heap_alloc_new _ _
  have HB : Hid (Below w.heap.size w W3) := below_step (below_step HB0.out HW) b3
  have hlt : w.heap.size + 1 + 1 < w2.heap.size := Nat.lt_of_lt_of_le SZ.out HW.size
  have I1 : Hid (VIn W3 _ V1) := (H1.out.below HW).below b3
  have I2 : Hid (VIn W3 _ V2) := (H2.out.below HW).below b3
  obtain ⟨gv, hgv⟩ : ∃ gv, gv = w2.heap.size := ⟨_, rfl⟩
  rw [← hgv] at G4 hlt ⊢
  clear hgv hW3 b3 HW H1 H2 Hg1 Hg2 Hg3 HB0 SZ p10 p11 p12 p13 p14 p20 p21 p22 p23 p24
  obtain ⟨p10, p11, p12, p13, p14⟩ := box5 G1.out (below_refl _)
  obtain ⟨p20, p21, p22, p23, p24⟩ := box5 G2.out (below_refl _)
  obtain ⟨⟨p40, p41, p42, p43, p44⟩, ⟨f0, f1, f2, f3, f4⟩, -⟩ := box5_facts G4.out
  go_wp2_with (go_at_call 65; fail)
  refine (radd_any _ _ _ (numV V1) (numV V2) (by exact I1.out.num') (by exact I2.out.num') Sh1.out Sh2.out).mono ?_
  rintro e w4 ⟨⟨u, rfl, o⟩, b⟩
  replace G1 : Hid (w4.heap[w.heap.size]? = _) := blk_below G1.out b
  replace G2 : Hid (w4.heap[w.heap.size + 1]? = _) := blk_below G2.out b
  replace G3 : Hid (w4.heap[w.heap.size + 1 + 1]? = _) := blk_below G3.out b
  replace G4 : Hid (w4.heap[gv]? = _) := blk_below G4.out b
  replace I1 : Hid (VIn w4 _ V1) := I1.out.below b
  replace I2 : Hid (VIn w4 _ V2) := I2.out.below b
  replace HB : Hid (Below _ _ w4) := below_step HB.out b
  clear b
  clear p10 p11 p12 p13 p14 p20 p21 p22 p23 p24 p40 p41 p42 p43 p44 f0 f1 f2 f3 f4
  obtain ⟨p10, p11, p12, p13, p14⟩ := box5 G1.out (below_refl _)
  obtain ⟨p20, p21, p22, p23, p24⟩ := box5 G2.out (below_refl _)
  obtain ⟨⟨p40, p41, p42, p43, p44⟩, ⟨f0, f1, f2, f3, f4⟩, -⟩ := box5_facts G4.out
  obtain ⟨i, a, n, c, rfl, -, -, -⟩ := o.form
  have O : Hid (NOut w4 (.agg #[.bool i, .slice a n c]) (oadd (numV V1) (numV V2))) := o
  clear o
  go_upto_region 34 with fail
  obtain ⟨W5, hW⟩ : ∃ W5, W5 = ((w4.setCell ⟨gv, 1, none⟩ (.bool i)).setCell ⟨gv, 2, none⟩ (.slice a n c)) := ⟨_, rfl⟩
  rw [← hW]
  have G1' : Hid (W5.heap[w.heap.size]? = some (.cells #[.int .i64 1, .bool V1.i, .slice a1 V1.n c1, .int .i64 V1.l, .float .f64 V1.x] 27)) := by show W5.heap[w.heap.size]? = _; rw [hW]; exact (put_far2 _ _ _ _ _ _ _ (by omega)).trans G1.out
  have G2' : Hid (W5.heap[w.heap.size + 1]? = some (.cells #[.int .i64 1, .bool V2.i, .slice a2 V2.n c2, .int .i64 V2.l, .float .f64 V2.x] 27)) := by show W5.heap[w.heap.size + 1]? = _; rw [hW]; exact (put_far2 _ _ _ _ _ _ _ (by omega)).trans G2.out
  have G3' : Hid (W5.heap[w.heap.size + 1 + 1]? = some (.cells #[.int .i64 0, .bool false, .slice none 0 0, .int .i64 0, .float .f64 0] 27)) := by show W5.heap[w.heap.size + 1 + 1]? = _; rw [hW]; exact (put_far2 _ _ _ _ _ _ _ (by omega)).trans G3.out
  have G4' : Hid (W5.heap[gv]? = some (.cells #[.int .i64 1, .bool i, .slice a n c, .int .i64 0, .float .f64 0] 27)) := by show W5.heap[gv]? = _; rw [hW]; exact put_nat G4.out _ _
  have I1' : Hid (VIn W5 (.agg #[.int .i64 1, .bool V1.i, .slice a1 V1.n c1, .int .i64 V1.l, .float .f64 V1.x]) V1) := by show VIn W5 _ V1; rw [hW]; exact I1.out.putn G4.out _ _
  have I2' : Hid (VIn W5 (.agg #[.int .i64 1, .bool V2.i, .slice a2 V2.n c2, .int .i64 V2.l, .float .f64 V2.x]) V2) := by show VIn W5 _ V2; rw [hW]; exact I2.out.putn G4.out _ _
  have O' : Hid (NOut W5 (.agg #[.bool i, .slice a n c]) (oadd (numV V1) (numV V2))) := by show NOut W5 _ _; rw [hW]; exact O.out.putn G4.out _ _
  clear O I1 I2
  have O := O'
  have I1 := I1'
  have I2 := I2'
  clear O' I1' I2'
  have HB' : Hid (Below w.heap.size w W5) := by show Below w.heap.size w W5; rw [hW]; exact (HB.out.setCell (by show w.heap.size ≤ gv; omega) _).setCell (by show w.heap.size ≤ gv; omega) _
  clear G1 G2 G3 G4 HB hW
  have G1 := G1'
  have G2 := G2'
  have G3 := G3'
  have G4 := G4'
  have HB := HB'
  clear G1' G2' G3' G4' HB'
  clear p10 p11 p12 p13 p14 p20 p21 p22 p23 p24 p40 p41 p42 p43 p44 f0 f1 f2 f3 f4
  obtain ⟨p10, p11, p12, p13, p14⟩ := box5 G1.out (below_refl _)
  obtain ⟨p20, p21, p22, p23, p24⟩ := box5 G2.out (below_refl _)
  obtain ⟨⟨p40, p41, p42, p43, p44⟩, ⟨f0, f1, f2, f3, f4⟩, -⟩ := box5_facts G4.out
  clear p10 p11 p12 p13 p14 p20 p21 p22 p23 p24 p40 p41 p42 p43 p44 f0 f1 f2 f3 f4
  obtain ⟨p40, p41, p42, p43, p44⟩ := box5 G4.out (below_refl _)
  obtain ⟨⟨z0, z1, z2, z3, z4⟩, ⟨f0, f1, f2, f3, f4⟩, s0, s1, s2, s3, s4⟩ := box5_facts G3.out
  go_wp2
  refine bodyPost_ret (v := .tuple #[.agg #[.int .i64 1, .bool i, .slice a n c, .int .i64 0, .float .f64 0], .int .i64 0]) (by simp [results, Tryz.results43, go_sem, s0, s1, s2, s3, s4]) rfl ?_
  exact ⟨⟨_, rfl, Or.inl ⟨by decide, _, _, _, _, rfl, O.out.set5 G3.out _ _ _ _ _⟩⟩, below_set5 HB.out (by omega) _ _ _ _ _⟩
set_option maxHeartbeats 16000000 in
theorem rop1t (w : World) (v1 v2 : Value) (V1 V2 : Vl) (h1 : VIn w v1 V1) (h2 : VIn w v2 V2) (es1 : V1.s = 1) (es2 : V2.s = 1) (m1 : mayV V1 = 0) (m2 : mayV V2 = 0)  : Calls Tryz.prog 43 #[v1, v2, .bool true] w fun e w' => (∃ u, e = .returned (.tuple #[u, .int .i64 0]) ∧ VOut w' u 1 (omul (numV V1) (numV V2))) ∧ Below w.heap.size w w' := by
  have Sh1 : Hid (Short 10000 (numV V1)) := h1.short
  have Sh2 : Hid (Short 10000 (numV V2)) := h2.short
  have H1' := h1
  obtain ⟨a1, c1, rfl, hr1, hL1, hn1, hx1, hl1, hs1⟩ := h1
  rw [es1] at H1' ⊢
  have H2' := h2
  obtain ⟨a2, c2, rfl, hr2, hL2, hn2, hx2, hl2, hs2⟩ := h2
  rw [es2] at H2' ⊢
  obtain ⟨W0, hW0⟩ : ∃ W0, W0 = (((w.alloc (.cells #[.int .i64 1, .bool V1.i, .slice a1 V1.n c1, .int .i64 V1.l, .float .f64 V1.x] 27)).alloc (.cells #[.int .i64 1, .bool V2.i, .slice a2 V2.n c2, .int .i64 V2.l, .float .f64 V2.x] 27)).alloc (.cells #[.int .i64 0, .bool false, .slice none 0 0, .int .i64 0, .float .f64 0] 27)) := ⟨_, rfl⟩
  have HB0 : Hid (Below w.heap.size w W0) := by rw [hW0]; exact below3 w _ _ _
  have Hg1 : Hid (W0.heap[w.heap.size]? = some (.cells #[.int .i64 1, .bool V1.i, .slice a1 V1.n c1, .int .i64 V1.l, .float .f64 V1.x] 27)) := by
    show W0.heap[w.heap.size]? = _
    rw [hW0]; exact heap_at3_0 w _ _ _
  have Hg2 : Hid (W0.heap[w.heap.size + 1]? = some (.cells #[.int .i64 1, .bool V2.i, .slice a2 V2.n c2, .int .i64 V2.l, .float .f64 V2.x] 27)) := by
    show W0.heap[w.heap.size + 1]? = _
    rw [hW0]; exact heap_at3_1 w _ _ _
  have Hg3 : Hid (W0.heap[w.heap.size + 1 + 1]? = some (.cells #[.int .i64 0, .bool false, .slice none 0 0, .int .i64 0, .float .f64 0] 27)) := by
    show W0.heap[w.heap.size + 1 + 1]? = _
    rw [hW0]; exact heap_at3_2 w _ _ _
  have H1 : Hid (VIn W0 (.agg #[.int .i64 1, .bool V1.i, .slice a1 V1.n c1, .int .i64 V1.l, .float .f64 V1.x]) V1) := H1'.below HB0.out
  have H2 : Hid (VIn W0 (.agg #[.int .i64 1, .bool V2.i, .slice a2 V2.n c2, .int .i64 V2.l, .float .f64 V2.x]) V2) := H2'.below HB0.out
  have HW : Below W0.heap.size W0 W0 := below_refl W0
  clear hr1 hL1 hn1 hx1 hl1 hs1 H1' hr2 hL2 hn2 hx2 hl2 hs2 H2'
  obtain ⟨p10, p11, p12, p13, p14⟩ := box5 Hg1.out HW
  obtain ⟨p20, p21, p22, p23, p24⟩ := box5 Hg2.out HW
  have hsf := st_flo
  have SZ : Hid (w.heap.size + 1 + 1 < W0.heap.size) := by show w.heap.size + 1 + 1 < W0.heap.size; rw [hW0]; simp
  have M1 : Hid (mayV V1 = 0) := m1
  have M2 : Hid (mayV V2 = 0) := m2
  clear m1 m2 es1 es2
  go_enter Tryz.func43, Tryz.ntmps43
  go_wp2_with (go_at_call 22; fail)
  rw [← hW0]
  clear hW0
  refine (rmv_at _ _ V1 0 (by exact H1.out.below HW) M1.out).mono ?_
  rintro e w1 ⟨rfl, b⟩
  replace HW := below_step HW b
  clear b
  clear p10 p11 p12 p13 p14 p20 p21 p22 p23 p24; obtain ⟨p10, p11, p12, p13, p14⟩ := box5 Hg1.out HW; obtain ⟨p20, p21, p22, p23, p24⟩ := box5 Hg2.out HW
  go_wp2_with (go_at_call 22; fail)
  refine (rmv_at _ _ V2 0 (by exact H2.out.below HW) M2.out).mono ?_
  rintro e w2 ⟨rfl, b⟩
  replace HW := below_step HW b
  clear b
  clear p10 p11 p12 p13 p14 p20 p21 p22 p23 p24; obtain ⟨p10, p11, p12, p13, p14⟩ := box5 Hg1.out HW; obtain ⟨p20, p21, p22, p23, p24⟩ := box5 Hg2.out HW
  go_upto_region 10 with fail
  obtain ⟨W3, hW3⟩ : ∃ W3, W3 = w2.alloc (.cells #[.int .i64 1, .bool false, .slice none 0 0, .int .i64 0, .float .f64 0] 27) := ⟨_, rfl⟩
  rw [← hW3]
  have b3 : Below w2.heap.size w2 W3 := by rw [hW3]; exact below1 _ _
  have G1 : Hid (W3.heap[w.heap.size]? = _) := blk_below (blk_below Hg1.out HW) b3
  have G2 : Hid (W3.heap[w.heap.size + 1]? = _) := blk_below (blk_below Hg2.out HW) b3
  have G3 : Hid (W3.heap[w.heap.size + 1 + 1]? = _) := blk_below (blk_below Hg3.out HW) b3
  have G4 : Hid (W3.heap[w2.heap.size]? = some (.cells #[.int .i64 1, .bool false, .slice none 0 0, .int .i64 0, .float .f64 0] 27)) := by show W3.heap[w2.heap.size]? = _; rw [hW3]; exact heap_alloc_new _ _
  have HB : Hid (Below w.heap.size w W3) := below_step (below_step HB0.out HW) b3
  have hlt : w.heap.size + 1 + 1 < w2.heap.size := Nat.lt_of_lt_of_le SZ.out HW.size
  have I1 : Hid (VIn W3 _ V1) := (H1.out.below HW).below b3
  have I2 : Hid (VIn W3 _ V2) := (H2.out.below HW).below b3
  obtain ⟨gv, hgv⟩ : ∃ gv, gv = w2.heap.size := ⟨_, rfl⟩
  rw [← hgv] at G4 hlt ⊢
  clear hgv hW3 b3 HW H1 H2 Hg1 Hg2 Hg3 HB0 SZ p10 p11 p12 p13 p14 p20 p21 p22 p23 p24
  obtain ⟨p10, p11, p12, p13, p14⟩ := box5 G1.out (below_refl _)
  obtain ⟨p20, p21, p22, p23, p24⟩ := box5 G2.out (below_refl _)
  obtain ⟨⟨p40, p41, p42, p43, p44⟩, ⟨f0, f1, f2, f3, f4⟩, -⟩ := box5_facts G4.out
  go_wp2_with (go_at_call 65; fail)
  refine (radd_any _ _ _ (numV V1) (numV V2) (by exact I1.out.num') (by exact I2.out.num') Sh1.out Sh2.out).mono ?_
  rintro e w4 ⟨⟨u, rfl, o⟩, b⟩
  replace G1 : Hid (w4.heap[w.heap.size]? = _) := blk_below G1.out b
  replace G2 : Hid (w4.heap[w.heap.size + 1]? = _) := blk_below G2.out b
  replace G3 : Hid (w4.heap[w.heap.size + 1 + 1]? = _) := blk_below G3.out b
  replace G4 : Hid (w4.heap[gv]? = _) := blk_below G4.out b
  replace I1 : Hid (VIn w4 _ V1) := I1.out.below b
  replace I2 : Hid (VIn w4 _ V2) := I2.out.below b
  replace HB : Hid (Below _ _ w4) := below_step HB.out b
  clear b
  clear p10 p11 p12 p13 p14 p20 p21 p22 p23 p24 p40 p41 p42 p43 p44 f0 f1 f2 f3 f4
  obtain ⟨p10, p11, p12, p13, p14⟩ := box5 G1.out (below_refl _)
  obtain ⟨p20, p21, p22, p23, p24⟩ := box5 G2.out (below_refl _)
  obtain ⟨⟨p40, p41, p42, p43, p44⟩, ⟨f0, f1, f2, f3, f4⟩, -⟩ := box5_facts G4.out
  obtain ⟨i, a, n, c, rfl, -, -, -⟩ := o.form
  have O : Hid (NOut w4 (.agg #[.bool i, .slice a n c]) (oadd (numV V1) (numV V2))) := o
  clear o
  go_upto_region 14 with fail
  obtain ⟨W5, hW⟩ : ∃ W5, W5 = ((w4.setCell ⟨gv, 1, none⟩ (.bool i)).setCell ⟨gv, 2, none⟩ (.slice a n c)) := ⟨_, rfl⟩
  rw [← hW]
  have G1' : Hid (W5.heap[w.heap.size]? = some (.cells #[.int .i64 1, .bool V1.i, .slice a1 V1.n c1, .int .i64 V1.l, .float .f64 V1.x] 27)) := by show W5.heap[w.heap.size]? = _; rw [hW]; exact (put_far2 _ _ _ _ _ _ _ (by omega)).trans G1.out
  have G2' : Hid (W5.heap[w.heap.size + 1]? = some (.cells #[.int .i64 1, .bool V2.i, .slice a2 V2.n c2, .int .i64 V2.l, .float .f64 V2.x] 27)) := by show W5.heap[w.heap.size + 1]? = _; rw [hW]; exact (put_far2 _ _ _ _ _ _ _ (by omega)).trans G2.out
  have G3' : Hid (W5.heap[w.heap.size + 1 + 1]? = some (.cells #[.int .i64 0, .bool false, .slice none 0 0, .int .i64 0, .float .f64 0] 27)) := by show W5.heap[w.heap.size + 1 + 1]? = _; rw [hW]; exact (put_far2 _ _ _ _ _ _ _ (by omega)).trans G3.out
  have G4' : Hid (W5.heap[gv]? = some (.cells #[.int .i64 1, .bool i, .slice a n c, .int .i64 0, .float .f64 0] 27)) := by show W5.heap[gv]? = _; rw [hW]; exact put_nat G4.out _ _
  have I1' : Hid (VIn W5 (.agg #[.int .i64 1, .bool V1.i, .slice a1 V1.n c1, .int .i64 V1.l, .float .f64 V1.x]) V1) := by show VIn W5 _ V1; rw [hW]; exact I1.out.putn G4.out _ _
  have I2' : Hid (VIn W5 (.agg #[.int .i64 1, .bool V2.i, .slice a2 V2.n c2, .int .i64 V2.l, .float .f64 V2.x]) V2) := by show VIn W5 _ V2; rw [hW]; exact I2.out.putn G4.out _ _
  have O' : Hid (NOut W5 (.agg #[.bool i, .slice a n c]) (oadd (numV V1) (numV V2))) := by show NOut W5 _ _; rw [hW]; exact O.out.putn G4.out _ _
  clear O I1 I2
  have O := O'
  have I1 := I1'
  have I2 := I2'
  clear O' I1' I2'
  have HB' : Hid (Below w.heap.size w W5) := by show Below w.heap.size w W5; rw [hW]; exact (HB.out.setCell (by show w.heap.size ≤ gv; omega) _).setCell (by show w.heap.size ≤ gv; omega) _
  clear G1 G2 G3 G4 HB hW
  have G1 := G1'
  have G2 := G2'
  have G3 := G3'
  have G4 := G4'
  have HB := HB'
  clear G1' G2' G3' G4' HB'
  clear p10 p11 p12 p13 p14 p20 p21 p22 p23 p24 p40 p41 p42 p43 p44 f0 f1 f2 f3 f4
  obtain ⟨p10, p11, p12, p13, p14⟩ := box5 G1.out (below_refl _)
  obtain ⟨p20, p21, p22, p23, p24⟩ := box5 G2.out (below_refl _)
  obtain ⟨⟨p40, p41, p42, p43, p44⟩, ⟨f0, f1, f2, f3, f4⟩, -⟩ := box5_facts G4.out
  clear O
  skip
  go_wp2_with (go_at_call 66; fail)
  refine (rmul_any _ _ _ (numV V1) (numV V2) (by exact I1.out.num') (by exact I2.out.num') Sh1.out Sh2.out).mono ?_
  rintro e w6 ⟨⟨u, rfl, o⟩, b⟩
  replace G1 : Hid (w6.heap[w.heap.size]? = _) := blk_below G1.out b
  replace G2 : Hid (w6.heap[w.heap.size + 1]? = _) := blk_below G2.out b
  replace G3 : Hid (w6.heap[w.heap.size + 1 + 1]? = _) := blk_below G3.out b
  replace G4 : Hid (w6.heap[gv]? = _) := blk_below G4.out b
  replace I1 : Hid (VIn w6 _ V1) := I1.out.below b
  replace I2 : Hid (VIn w6 _ V2) := I2.out.below b
  replace HB : Hid (Below _ _ w6) := below_step HB.out b
  clear b
  clear p10 p11 p12 p13 p14 p20 p21 p22 p23 p24 p40 p41 p42 p43 p44 f0 f1 f2 f3 f4
  obtain ⟨p10, p11, p12, p13, p14⟩ := box5 G1.out (below_refl _)
  obtain ⟨p20, p21, p22, p23, p24⟩ := box5 G2.out (below_refl _)
  obtain ⟨⟨p40, p41, p42, p43, p44⟩, ⟨f0, f1, f2, f3, f4⟩, -⟩ := box5_facts G4.out
  obtain ⟨i', a', n', c', rfl, -, -, -⟩ := o.form
  have O : Hid (NOut w6 (.agg #[.bool i', .slice a' n' c']) (omul (numV V1) (numV V2))) := o
  clear o
  go_upto_region 34 with fail
  obtain ⟨W7, hW⟩ : ∃ W7, W7 = ((w6.setCell ⟨gv, 1, none⟩ (.bool i')).setCell ⟨gv, 2, none⟩ (.slice a' n' c')) := ⟨_, rfl⟩
  rw [← hW]
  have G1' : Hid (W7.heap[w.heap.size]? = some (.cells #[.int .i64 1, .bool V1.i, .slice a1 V1.n c1, .int .i64 V1.l, .float .f64 V1.x] 27)) := by show W7.heap[w.heap.size]? = _; rw [hW]; exact (put_far2 _ _ _ _ _ _ _ (by omega)).trans G1.out
  have G2' : Hid (W7.heap[w.heap.size + 1]? = some (.cells #[.int .i64 1, .bool V2.i, .slice a2 V2.n c2, .int .i64 V2.l, .float .f64 V2.x] 27)) := by show W7.heap[w.heap.size + 1]? = _; rw [hW]; exact (put_far2 _ _ _ _ _ _ _ (by omega)).trans G2.out
  have G3' : Hid (W7.heap[w.heap.size + 1 + 1]? = some (.cells #[.int .i64 0, .bool false, .slice none 0 0, .int .i64 0, .float .f64 0] 27)) := by show W7.heap[w.heap.size + 1 + 1]? = _; rw [hW]; exact (put_far2 _ _ _ _ _ _ _ (by omega)).trans G3.out
  have G4' : Hid (W7.heap[gv]? = some (.cells #[.int .i64 1, .bool i', .slice a' n' c', .int .i64 0, .float .f64 0] 27)) := by show W7.heap[gv]? = _; rw [hW]; exact put_nat G4.out _ _
  have I1' : Hid (VIn W7 (.agg #[.int .i64 1, .bool V1.i, .slice a1 V1.n c1, .int .i64 V1.l, .float .f64 V1.x]) V1) := by show VIn W7 _ V1; rw [hW]; exact I1.out.putn G4.out _ _
  have I2' : Hid (VIn W7 (.agg #[.int .i64 1, .bool V2.i, .slice a2 V2.n c2, .int .i64 V2.l, .float .f64 V2.x]) V2) := by show VIn W7 _ V2; rw [hW]; exact I2.out.putn G4.out _ _
  have O' : Hid (NOut W7 (.agg #[.bool i', .slice a' n' c']) (omul (numV V1) (numV V2))) := by show NOut W7 _ _; rw [hW]; exact O.out.putn G4.out _ _
  clear O I1 I2
  have O := O'
  have I1 := I1'
  have I2 := I2'
  clear O' I1' I2'
  have HB' : Hid (Below w.heap.size w W7) := by show Below w.heap.size w W7; rw [hW]; exact (HB.out.setCell (by show w.heap.size ≤ gv; omega) _).setCell (by show w.heap.size ≤ gv; omega) _
  clear G1 G2 G3 G4 HB hW
  have G1 := G1'
  have G2 := G2'
  have G3 := G3'
  have G4 := G4'
  have HB := HB'
  clear G1' G2' G3' G4' HB'
  clear p10 p11 p12 p13 p14 p20 p21 p22 p23 p24 p40 p41 p42 p43 p44 f0 f1 f2 f3 f4
  obtain ⟨p10, p11, p12, p13, p14⟩ := box5 G1.out (below_refl _)
  obtain ⟨p20, p21, p22, p23, p24⟩ := box5 G2.out (below_refl _)
  obtain ⟨⟨p40, p41, p42, p43, p44⟩, ⟨f0, f1, f2, f3, f4⟩, -⟩ := box5_facts G4.out
  clear p10 p11 p12 p13 p14 p20 p21 p22 p23 p24 p40 p41 p42 p43 p44 f0 f1 f2 f3 f4
  obtain ⟨p40, p41, p42, p43, p44⟩ := box5 G4.out (below_refl _)
  obtain ⟨⟨z0, z1, z2, z3, z4⟩, ⟨f0, f1, f2, f3, f4⟩, s0, s1, s2, s3, s4⟩ := box5_facts G3.out
  go_wp2
  refine bodyPost_ret (v := .tuple #[.agg #[.int .i64 1, .bool i', .slice a' n' c', .int .i64 0, .float .f64 0], .int .i64 0]) (by simp [results, Tryz.results43, go_sem, s0, s1, s2, s3, s4]) rfl ?_
  exact ⟨⟨_, rfl, Or.inl ⟨by decide, _, _, _, _, rfl, O.out.set5 G3.out _ _ _ _ _⟩⟩, below_set5 HB.out (by omega) _ _ _ _ _⟩
set_option maxHeartbeats 16000000 in
theorem rop3fl (w : World) (v1 v2 : Value) (V1 V2 : Vl) (h1 : VIn w v1 V1) (h2 : VIn w v2 V2) (es1 : V1.s = 3) (es2 : V2.s = 3) (m1 : mayV V1 = 0) (m2 : mayV V2 = 0) (q : Int) (eq : ocmp (numV V2) (numV V1) = q) (hq : q < 0) : Calls Tryz.prog 43 #[v1, v2, .bool false] w fun e w' => (∃ u, e = .returned (.tuple #[u, .int .i64 0]) ∧ VOut w' u 3 (numV V2)) ∧ Below w.heap.size w w' := by
  have Sh1 : Hid (Short 10000 (numV V1)) := h1.short
  have Sh2 : Hid (Short 10000 (numV V2)) := h2.short
  have EQ : Hid (ocmp (numV V2) (numV V1) = q) := eq
  clear eq
  have H1' := h1
  obtain ⟨a1, c1, rfl, hr1, hL1, hn1, hx1, hl1, hs1⟩ := h1
  rw [es1] at H1' ⊢
  have H2' := h2
  obtain ⟨a2, c2, rfl, hr2, hL2, hn2, hx2, hl2, hs2⟩ := h2
  rw [es2] at H2' ⊢
  obtain ⟨W0, hW0⟩ : ∃ W0, W0 = (((w.alloc (.cells #[.int .i64 3, .bool V1.i, .slice a1 V1.n c1, .int .i64 V1.l, .float .f64 V1.x] 27)).alloc (.cells #[.int .i64 3, .bool V2.i, .slice a2 V2.n c2, .int .i64 V2.l, .float .f64 V2.x] 27)).alloc (.cells #[.int .i64 0, .bool false, .slice none 0 0, .int .i64 0, .float .f64 0] 27)) := ⟨_, rfl⟩
  have HB0 : Hid (Below w.heap.size w W0) := by rw [hW0]; exact below3 w _ _ _
  have Hg1 : Hid (W0.heap[w.heap.size]? = some (.cells #[.int .i64 3, .bool V1.i, .slice a1 V1.n c1, .int .i64 V1.l, .float .f64 V1.x] 27)) := by
    show W0.heap[w.heap.size]? = _
    rw [hW0]; exact heap_at3_0 w _ _ _
  have Hg2 : Hid (W0.heap[w.heap.size + 1]? = some (.cells #[.int .i64 3, .bool V2.i, .slice a2 V2.n c2, .int .i64 V2.l, .float .f64 V2.x] 27)) := by
    show W0.heap[w.heap.size + 1]? = _
    rw [hW0]; exact heap_at3_1 w _ _ _
  have Hg3 : Hid (W0.heap[w.heap.size + 1 + 1]? = some (.cells #[.int .i64 0, .bool false, .slice none 0 0, .int .i64 0, .float .f64 0] 27)) := by
    show W0.heap[w.heap.size + 1 + 1]? = _
    rw [hW0]; exact heap_at3_2 w _ _ _
  have H1 : Hid (VIn W0 (.agg #[.int .i64 3, .bool V1.i, .slice a1 V1.n c1, .int .i64 V1.l, .float .f64 V1.x]) V1) := H1'.below HB0.out
  have H2 : Hid (VIn W0 (.agg #[.int .i64 3, .bool V2.i, .slice a2 V2.n c2, .int .i64 V2.l, .float .f64 V2.x]) V2) := H2'.below HB0.out
  have HW : Below W0.heap.size W0 W0 := below_refl W0
  clear hr1 hL1 hn1 hx1 hl1 hs1 H1' hr2 hL2 hn2 hx2 hl2 hs2 H2'
  obtain ⟨p10, p11, p12, p13, p14⟩ := box5 Hg1.out HW
  obtain ⟨p20, p21, p22, p23, p24⟩ := box5 Hg2.out HW
  have hsf := st_flo
  have SZ : Hid (w.heap.size + 1 + 1 < W0.heap.size) := by show w.heap.size + 1 + 1 < W0.heap.size; rw [hW0]; simp
  have M1 : Hid (mayV V1 = 0) := m1
  have M2 : Hid (mayV V2 = 0) := m2
  clear m1 m2 es1 es2
  go_enter Tryz.func43, Tryz.ntmps43
  go_wp2_with (go_at_call 22; fail)
  rw [← hW0]
  clear hW0
  refine (rmv_at _ _ V1 0 (by exact H1.out.below HW) M1.out).mono ?_
  rintro e w1 ⟨rfl, b⟩
  replace HW := below_step HW b
  clear b
  clear p10 p11 p12 p13 p14 p20 p21 p22 p23 p24; obtain ⟨p10, p11, p12, p13, p14⟩ := box5 Hg1.out HW; obtain ⟨p20, p21, p22, p23, p24⟩ := box5 Hg2.out HW
  go_wp2_with (go_at_call 22; fail)
  refine (rmv_at _ _ V2 0 (by exact H2.out.below HW) M2.out).mono ?_
  rintro e w2 ⟨rfl, b⟩
  replace HW := below_step HW b
  clear b
  clear p10 p11 p12 p13 p14 p20 p21 p22 p23 p24; obtain ⟨p10, p11, p12, p13, p14⟩ := box5 Hg1.out HW; obtain ⟨p20, p21, p22, p23, p24⟩ := box5 Hg2.out HW
  go_upto_region 10 with fail
  obtain ⟨W3, hW3⟩ : ∃ W3, W3 = w2.alloc (.cells #[.int .i64 3, .bool false, .slice none 0 0, .int .i64 0, .float .f64 0] 27) := ⟨_, rfl⟩
  rw [← hW3]
  have b3 : Below w2.heap.size w2 W3 := by rw [hW3]; exact below1 _ _
  have G1 : Hid (W3.heap[w.heap.size]? = _) := blk_below (blk_below Hg1.out HW) b3
  have G2 : Hid (W3.heap[w.heap.size + 1]? = _) := blk_below (blk_below Hg2.out HW) b3
  have G3 : Hid (W3.heap[w.heap.size + 1 + 1]? = _) := blk_below (blk_below Hg3.out HW) b3
  have G4 : Hid (W3.heap[w2.heap.size]? = some (.cells #[.int .i64 3, .bool false, .slice none 0 0, .int .i64 0, .float .f64 0] 27)) := by show W3.heap[w2.heap.size]? = _; rw [hW3]; exact heap_alloc_new _ _
  have HB : Hid (Below w.heap.size w W3) := below_step (below_step HB0.out HW) b3
  have hlt : w.heap.size + 1 + 1 < w2.heap.size := Nat.lt_of_lt_of_le SZ.out HW.size
  have I1 : Hid (VIn W3 _ V1) := (H1.out.below HW).below b3
  have I2 : Hid (VIn W3 _ V2) := (H2.out.below HW).below b3
  obtain ⟨gv, hgv⟩ : ∃ gv, gv = w2.heap.size := ⟨_, rfl⟩
  rw [← hgv] at G4 hlt ⊢
  clear hgv hW3 b3 HW H1 H2 Hg1 Hg2 Hg3 HB0 SZ p10 p11 p12 p13 p14 p20 p21 p22 p23 p24
  obtain ⟨p10, p11, p12, p13, p14⟩ := box5 G1.out (below_refl _)
  obtain ⟨p20, p21, p22, p23, p24⟩ := box5 G2.out (below_refl _)
  obtain ⟨⟨p40, p41, p42, p43, p44⟩, ⟨f0, f1, f2, f3, f4⟩, -⟩ := box5_facts G4.out
  go_wp2_with (go_at_call 62; fail)
  refine (clean_any _ _ (numV V1) (by exact I1.out.num')).mono ?_
  rintro e w4 ⟨⟨u, rfl, o⟩, b⟩
  replace G1 : Hid (w4.heap[w.heap.size]? = _) := blk_below G1.out b
  replace G2 : Hid (w4.heap[w.heap.size + 1]? = _) := blk_below G2.out b
  replace G3 : Hid (w4.heap[w.heap.size + 1 + 1]? = _) := blk_below G3.out b
  replace G4 : Hid (w4.heap[gv]? = _) := blk_below G4.out b
  replace I1 : Hid (VIn w4 _ V1) := I1.out.below b
  replace I2 : Hid (VIn w4 _ V2) := I2.out.below b
  replace HB : Hid (Below _ _ w4) := below_step HB.out b
  clear b
  clear p10 p11 p12 p13 p14 p20 p21 p22 p23 p24 p40 p41 p42 p43 p44 f0 f1 f2 f3 f4
  obtain ⟨p10, p11, p12, p13, p14⟩ := box5 G1.out (below_refl _)
  obtain ⟨p20, p21, p22, p23, p24⟩ := box5 G2.out (below_refl _)
  obtain ⟨⟨p40, p41, p42, p43, p44⟩, ⟨f0, f1, f2, f3, f4⟩, -⟩ := box5_facts G4.out
  obtain ⟨i, a, n, c, rfl, -, -, -⟩ := o.form
  have O : Hid (NOut w4 (.agg #[.bool i, .slice a n c]) (numV V1)) := o
  clear o
  go_upto_region 17 with fail
  obtain ⟨W5, hW⟩ : ∃ W5, W5 = ((w4.setCell ⟨gv, 1, none⟩ (.bool i)).setCell ⟨gv, 2, none⟩ (.slice a n c)) := ⟨_, rfl⟩
  rw [← hW]
  have G1' : Hid (W5.heap[w.heap.size]? = some (.cells #[.int .i64 3, .bool V1.i, .slice a1 V1.n c1, .int .i64 V1.l, .float .f64 V1.x] 27)) := by show W5.heap[w.heap.size]? = _; rw [hW]; exact (put_far2 _ _ _ _ _ _ _ (by omega)).trans G1.out
  have G2' : Hid (W5.heap[w.heap.size + 1]? = some (.cells #[.int .i64 3, .bool V2.i, .slice a2 V2.n c2, .int .i64 V2.l, .float .f64 V2.x] 27)) := by show W5.heap[w.heap.size + 1]? = _; rw [hW]; exact (put_far2 _ _ _ _ _ _ _ (by omega)).trans G2.out
  have G3' : Hid (W5.heap[w.heap.size + 1 + 1]? = some (.cells #[.int .i64 0, .bool false, .slice none 0 0, .int .i64 0, .float .f64 0] 27)) := by show W5.heap[w.heap.size + 1 + 1]? = _; rw [hW]; exact (put_far2 _ _ _ _ _ _ _ (by omega)).trans G3.out
  have G4' : Hid (W5.heap[gv]? = some (.cells #[.int .i64 3, .bool i, .slice a n c, .int .i64 0, .float .f64 0] 27)) := by show W5.heap[gv]? = _; rw [hW]; exact put_nat G4.out _ _
  have I1' : Hid (VIn W5 (.agg #[.int .i64 3, .bool V1.i, .slice a1 V1.n c1, .int .i64 V1.l, .float .f64 V1.x]) V1) := by show VIn W5 _ V1; rw [hW]; exact I1.out.putn G4.out _ _
  have I2' : Hid (VIn W5 (.agg #[.int .i64 3, .bool V2.i, .slice a2 V2.n c2, .int .i64 V2.l, .float .f64 V2.x]) V2) := by show VIn W5 _ V2; rw [hW]; exact I2.out.putn G4.out _ _
  have O' : Hid (NOut W5 (.agg #[.bool i, .slice a n c]) (numV V1)) := by show NOut W5 _ _; rw [hW]; exact O.out.putn G4.out _ _
  clear O I1 I2
  have O := O'
  have I1 := I1'
  have I2 := I2'
  clear O' I1' I2'
  have HB' : Hid (Below w.heap.size w W5) := by show Below w.heap.size w W5; rw [hW]; exact (HB.out.setCell (by show w.heap.size ≤ gv; omega) _).setCell (by show w.heap.size ≤ gv; omega) _
  clear G1 G2 G3 G4 HB hW
  have G1 := G1'
  have G2 := G2'
  have G3 := G3'
  have G4 := G4'
  have HB := HB'
  clear G1' G2' G3' G4' HB'
  clear p10 p11 p12 p13 p14 p20 p21 p22 p23 p24 p40 p41 p42 p43 p44 f0 f1 f2 f3 f4
  obtain ⟨p10, p11, p12, p13, p14⟩ := box5 G1.out (below_refl _)
  obtain ⟨p20, p21, p22, p23, p24⟩ := box5 G2.out (below_refl _)
  obtain ⟨⟨p40, p41, p42, p43, p44⟩, ⟨f0, f1, f2, f3, f4⟩, -⟩ := box5_facts G4.out
  go_wp2_with (go_at_call 47; fail)
  refine (rcompare_to _ _ _ (numV V2) (numV V1) q (by exact I2.out.num') (by exact I1.out.num') EQ.out).mono ?_
  rintro e w6 ⟨rfl, b⟩
  replace G1 : Hid (w6.heap[w.heap.size]? = _) := blk_below G1.out b
  replace G2 : Hid (w6.heap[w.heap.size + 1]? = _) := blk_below G2.out b
  replace G3 : Hid (w6.heap[w.heap.size + 1 + 1]? = _) := blk_below G3.out b
  replace G4 : Hid (w6.heap[gv]? = _) := blk_below G4.out b
  replace I1 : Hid (VIn w6 _ V1) := I1.out.below b
  replace I2 : Hid (VIn w6 _ V2) := I2.out.below b
  replace O : Hid (NOut w6 (.agg #[.bool i, .slice a n c]) (numV V1)) := O.out.below b
  replace HB : Hid (Below _ _ w6) := below_step HB.out b
  clear b
  clear p10 p11 p12 p13 p14 p20 p21 p22 p23 p24 p40 p41 p42 p43 p44 f0 f1 f2 f3 f4
  obtain ⟨p10, p11, p12, p13, p14⟩ := box5 G1.out (below_refl _)
  obtain ⟨p20, p21, p22, p23, p24⟩ := box5 G2.out (below_refl _)
  obtain ⟨⟨p40, p41, p42, p43, p44⟩, ⟨f0, f1, f2, f3, f4⟩, -⟩ := box5_facts G4.out
  skip
  go_wp2_with (go_at_call 62; fail)
  refine (clean_any _ _ (numV V2) (by exact I2.out.num')).mono ?_
  rintro e w7 ⟨⟨u, rfl, o⟩, b⟩
  replace G1 : Hid (w7.heap[w.heap.size]? = _) := blk_below G1.out b
  replace G2 : Hid (w7.heap[w.heap.size + 1]? = _) := blk_below G2.out b
  replace G3 : Hid (w7.heap[w.heap.size + 1 + 1]? = _) := blk_below G3.out b
  replace G4 : Hid (w7.heap[gv]? = _) := blk_below G4.out b
  replace I1 : Hid (VIn w7 _ V1) := I1.out.below b
  replace I2 : Hid (VIn w7 _ V2) := I2.out.below b
  replace O : Hid (NOut w7 (.agg #[.bool i, .slice a n c]) (numV V1)) := O.out.below b
  replace HB : Hid (Below _ _ w7) := below_step HB.out b
  clear b
  clear p10 p11 p12 p13 p14 p20 p21 p22 p23 p24 p40 p41 p42 p43 p44 f0 f1 f2 f3 f4
  obtain ⟨p10, p11, p12, p13, p14⟩ := box5 G1.out (below_refl _)
  obtain ⟨p20, p21, p22, p23, p24⟩ := box5 G2.out (below_refl _)
  obtain ⟨⟨p40, p41, p42, p43, p44⟩, ⟨f0, f1, f2, f3, f4⟩, -⟩ := box5_facts G4.out
  clear O
  obtain ⟨i2, a2', n2, c2', rfl, -, -, -⟩ := o.form
  have O : Hid (NOut w7 (.agg #[.bool i2, .slice a2' n2 c2']) (numV V2)) := o
  clear o
  go_upto_region 19 with fail
  obtain ⟨W8, hW⟩ : ∃ W8, W8 = ((w7.setCell ⟨gv, 1, none⟩ (.bool i2)).setCell ⟨gv, 2, none⟩ (.slice a2' n2 c2')) := ⟨_, rfl⟩
  rw [← hW]
  have G1' : Hid (W8.heap[w.heap.size]? = some (.cells #[.int .i64 3, .bool V1.i, .slice a1 V1.n c1, .int .i64 V1.l, .float .f64 V1.x] 27)) := by show W8.heap[w.heap.size]? = _; rw [hW]; exact (put_far2 _ _ _ _ _ _ _ (by omega)).trans G1.out
  have G2' : Hid (W8.heap[w.heap.size + 1]? = some (.cells #[.int .i64 3, .bool V2.i, .slice a2 V2.n c2, .int .i64 V2.l, .float .f64 V2.x] 27)) := by show W8.heap[w.heap.size + 1]? = _; rw [hW]; exact (put_far2 _ _ _ _ _ _ _ (by omega)).trans G2.out
  have G3' : Hid (W8.heap[w.heap.size + 1 + 1]? = some (.cells #[.int .i64 0, .bool false, .slice none 0 0, .int .i64 0, .float .f64 0] 27)) := by show W8.heap[w.heap.size + 1 + 1]? = _; rw [hW]; exact (put_far2 _ _ _ _ _ _ _ (by omega)).trans G3.out
  have G4' : Hid (W8.heap[gv]? = some (.cells #[.int .i64 3, .bool i2, .slice a2' n2 c2', .int .i64 0, .float .f64 0] 27)) := by show W8.heap[gv]? = _; rw [hW]; exact put_nat G4.out _ _
  have I1' : Hid (VIn W8 (.agg #[.int .i64 3, .bool V1.i, .slice a1 V1.n c1, .int .i64 V1.l, .float .f64 V1.x]) V1) := by show VIn W8 _ V1; rw [hW]; exact I1.out.putn G4.out _ _
  have I2' : Hid (VIn W8 (.agg #[.int .i64 3, .bool V2.i, .slice a2 V2.n c2, .int .i64 V2.l, .float .f64 V2.x]) V2) := by show VIn W8 _ V2; rw [hW]; exact I2.out.putn G4.out _ _
  have O' : Hid (NOut W8 (.agg #[.bool i2, .slice a2' n2 c2']) (numV V2)) := by show NOut W8 _ _; rw [hW]; exact O.out.putn G4.out _ _
  clear O I1 I2
  have O := O'
  have I1 := I1'
  have I2 := I2'
  clear O' I1' I2'
  have HB' : Hid (Below w.heap.size w W8) := by show Below w.heap.size w W8; rw [hW]; exact (HB.out.setCell (by show w.heap.size ≤ gv; omega) _).setCell (by show w.heap.size ≤ gv; omega) _
  clear G1 G2 G3 G4 HB hW
  have G1 := G1'
  have G2 := G2'
  have G3 := G3'
  have G4 := G4'
  have HB := HB'
  clear G1' G2' G3' G4' HB'
  clear p10 p11 p12 p13 p14 p20 p21 p22 p23 p24 p40 p41 p42 p43 p44 f0 f1 f2 f3 f4
  obtain ⟨p10, p11, p12, p13, p14⟩ := box5 G1.out (below_refl _)
  obtain ⟨p20, p21, p22, p23, p24⟩ := box5 G2.out (below_refl _)
  obtain ⟨⟨p40, p41, p42, p43, p44⟩, ⟨f0, f1, f2, f3, f4⟩, -⟩ := box5_facts G4.out
  go_upto_region 34 with fail
  clear p10 p11 p12 p13 p14 p20 p21 p22 p23 p24 p40 p41 p42 p43 p44 f0 f1 f2 f3 f4
  obtain ⟨p40, p41, p42, p43, p44⟩ := box5 G4.out (below_refl _)
  obtain ⟨⟨z0, z1, z2, z3, z4⟩, ⟨f0, f1, f2, f3, f4⟩, s0, s1, s2, s3, s4⟩ := box5_facts G3.out
  go_wp2
  refine bodyPost_ret (v := .tuple #[.agg #[.int .i64 3, .bool i2, .slice a2' n2 c2', .int .i64 0, .float .f64 0], .int .i64 0]) (by simp [results, Tryz.results43, go_sem, s0, s1, s2, s3, s4]) rfl ?_
  exact ⟨⟨_, rfl, Or.inl ⟨by decide, _, _, _, _, rfl, O.out.set5 G3.out _ _ _ _ _⟩⟩, below_set5 HB.out (by omega) _ _ _ _ _⟩
set_option maxHeartbeats 16000000 in
theorem rop3fg (w : World) (v1 v2 : Value) (V1 V2 : Vl) (h1 : VIn w v1 V1) (h2 : VIn w v2 V2) (es1 : V1.s = 3) (es2 : V2.s = 3) (m1 : mayV V1 = 0) (m2 : mayV V2 = 0) (q : Int) (eq : ocmp (numV V2) (numV V1) = q) (hq : ¬ q < 0) : Calls Tryz.prog 43 #[v1, v2, .bool false] w fun e w' => (∃ u, e = .returned (.tuple #[u, .int .i64 0]) ∧ VOut w' u 3 (numV V1)) ∧ Below w.heap.size w w' := by
  have Sh1 : Hid (Short 10000 (numV V1)) := h1.short
  have Sh2 : Hid (Short 10000 (numV V2)) := h2.short
  have EQ : Hid (ocmp (numV V2) (numV V1) = q) := eq
  clear eq
  have H1' := h1
  obtain ⟨a1, c1, rfl, hr1, hL1, hn1, hx1, hl1, hs1⟩ := h1
  rw [es1] at H1' ⊢
  have H2' := h2
  obtain ⟨a2, c2, rfl, hr2, hL2, hn2, hx2, hl2, hs2⟩ := h2
  rw [es2] at H2' ⊢
  obtain ⟨W0, hW0⟩ : ∃ W0, W0 = (((w.alloc (.cells #[.int .i64 3, .bool V1.i, .slice a1 V1.n c1, .int .i64 V1.l, .float .f64 V1.x] 27)).alloc (.cells #[.int .i64 3, .bool V2.i, .slice a2 V2.n c2, .int .i64 V2.l, .float .f64 V2.x] 27)).alloc (.cells #[.int .i64 0, .bool false, .slice none 0 0, .int .i64 0, .float .f64 0] 27)) := ⟨_, rfl⟩
  have HB0 : Hid (Below w.heap.size w W0) := by rw [hW0]; exact below3 w _ _ _
  have Hg1 : Hid (W0.heap[w.heap.size]? = some (.cells #[.int .i64 3, .bool V1.i, .slice a1 V1.n c1, .int .i64 V1.l, .float .f64 V1.x] 27)) := by
    show W0.heap[w.heap.size]? = _
    rw [hW0]; exact heap_at3_0 w _ _ _
  have Hg2 : Hid (W0.heap[w.heap.size + 1]? = some (.cells #[.int .i64 3, .bool V2.i, .slice a2 V2.n c2, .int .i64 V2.l, .float .f64 V2.x] 27)) := by
    show W0.heap[w.heap.size + 1]? = _
    rw [hW0]; exact heap_at3_1 w _ _ _
  have Hg3 : Hid (W0.heap[w.heap.size + 1 + 1]? = some (.cells #[.int .i64 0, .bool false, .slice none 0 0, .int .i64 0, .float .f64 0] 27)) := by
    show W0.heap[w.heap.size + 1 + 1]? = _
    rw [hW0]; exact heap_at3_2 w _ _ _
  have H1 : Hid (VIn W0 (.agg #[.int .i64 3, .bool V1.i, .slice a1 V1.n c1, .int .i64 V1.l, .float .f64 V1.x]) V1) := H1'.below HB0.out
  have H2 : Hid (VIn W0 (.agg #[.int .i64 3, .bool V2.i, .slice a2 V2.n c2, .int .i64 V2.l, .float .f64 V2.x]) V2) := H2'.below HB0.out
  have HW : Below W0.heap.size W0 W0 := below_refl W0
  clear hr1 hL1 hn1 hx1 hl1 hs1 H1' hr2 hL2 hn2 hx2 hl2 hs2 H2'
  obtain ⟨p10, p11, p12, p13, p14⟩ := box5 Hg1.out HW
  obtain ⟨p20, p21, p22, p23, p24⟩ := box5 Hg2.out HW
  have hsf := st_flo
  have SZ : Hid (w.heap.size + 1 + 1 < W0.heap.size) := by show w.heap.size + 1 + 1 < W0.heap.size; rw [hW0]; simp
  have M1 : Hid (mayV V1 = 0) := m1
  have M2 : Hid (mayV V2 = 0) := m2
  clear m1 m2 es1 es2
  go_enter Tryz.func43, Tryz.ntmps43
  go_wp2_with (go_at_call 22; fail)
  rw [← hW0]
  clear hW0
  refine (rmv_at _ _ V1 0 (by exact H1.out.below HW) M1.out).mono ?_
  rintro e w1 ⟨rfl, b⟩
  replace HW := below_step HW b
  clear b
  clear p10 p11 p12 p13 p14 p20 p21 p22 p23 p24; obtain ⟨p10, p11, p12, p13, p14⟩ := box5 Hg1.out HW; obtain ⟨p20, p21, p22, p23, p24⟩ := box5 Hg2.out HW
  go_wp2_with (go_at_call 22; fail)
  refine (rmv_at _ _ V2 0 (by exact H2.out.below HW) M2.out).mono ?_
  rintro e w2 ⟨rfl, b⟩
  replace HW := below_step HW b
  clear b
  clear p10 p11 p12 p13 p14 p20 p21 p22 p23 p24; obtain ⟨p10, p11, p12, p13, p14⟩ := box5 Hg1.out HW; obtain ⟨p20, p21, p22, p23, p24⟩ := box5 Hg2.out HW
  go_upto_region 10 with fail
  obtain ⟨W3, hW3⟩ : ∃ W3, W3 = w2.alloc (.cells #[.int .i64 3, .bool false, .slice none 0 0, .int .i64 0, .float .f64 0] 27) := ⟨_, rfl⟩
  rw [← hW3]
  have b3 : Below w2.heap.size w2 W3 := by rw [hW3]; exact below1 _ _
  have G1 : Hid (W3.heap[w.heap.size]? = _) := blk_below (blk_below Hg1.out HW) b3
  have G2 : Hid (W3.heap[w.heap.size + 1]? = _) := blk_below (blk_below Hg2.out HW) b3
  have G3 : Hid (W3.heap[w.heap.size + 1 + 1]? = _) := blk_below (blk_below Hg3.out HW) b3
  have G4 : Hid (W3.heap[w2.heap.size]? = some (.cells #[.int .i64 3, .bool false, .slice none 0 0, .int .i64 0, .float .f64 0] 27)) := by show W3.heap[w2.heap.size]? = _; rw [hW3]; exact heap_alloc_new _ _
  have HB : Hid (Below w.heap.size w W3) := below_step (below_step HB0.out HW) b3
  have hlt : w.heap.size + 1 + 1 < w2.heap.size := Nat.lt_of_lt_of_le SZ.out HW.size
  have I1 : Hid (VIn W3 _ V1) := (H1.out.below HW).below b3
  have I2 : Hid (VIn W3 _ V2) := (H2.out.below HW).below b3
  obtain ⟨gv, hgv⟩ : ∃ gv, gv = w2.heap.size := ⟨_, rfl⟩
  rw [← hgv] at G4 hlt ⊢
  clear hgv hW3 b3 HW H1 H2 Hg1 Hg2 Hg3 HB0 SZ p10 p11 p12 p13 p14 p20 p21 p22 p23 p24
  obtain ⟨p10, p11, p12, p13, p14⟩ := box5 G1.out (below_refl _)
  obtain ⟨p20, p21, p22, p23, p24⟩ := box5 G2.out (below_refl _)
  obtain ⟨⟨p40, p41, p42, p43, p44⟩, ⟨f0, f1, f2, f3, f4⟩, -⟩ := box5_facts G4.out
  go_wp2_with (go_at_call 62; fail)
  refine (clean_any _ _ (numV V1) (by exact I1.out.num')).mono ?_
  rintro e w4 ⟨⟨u, rfl, o⟩, b⟩
  replace G1 : Hid (w4.heap[w.heap.size]? = _) := blk_below G1.out b
  replace G2 : Hid (w4.heap[w.heap.size + 1]? = _) := blk_below G2.out b
  replace G3 : Hid (w4.heap[w.heap.size + 1 + 1]? = _) := blk_below G3.out b
  replace G4 : Hid (w4.heap[gv]? = _) := blk_below G4.out b
  replace I1 : Hid (VIn w4 _ V1) := I1.out.below b
  replace I2 : Hid (VIn w4 _ V2) := I2.out.below b
  replace HB : Hid (Below _ _ w4) := below_step HB.out b
  clear b
  clear p10 p11 p12 p13 p14 p20 p21 p22 p23 p24 p40 p41 p42 p43 p44 f0 f1 f2 f3 f4
  obtain ⟨p10, p11, p12, p13, p14⟩ := box5 G1.out (below_refl _)
  obtain ⟨p20, p21, p22, p23, p24⟩ := box5 G2.out (below_refl _)
  obtain ⟨⟨p40, p41, p42, p43, p44⟩, ⟨f0, f1, f2, f3, f4⟩, -⟩ := box5_facts G4.out
  obtain ⟨i, a, n, c, rfl, -, -, -⟩ := o.form
  have O : Hid (NOut w4 (.agg #[.bool i, .slice a n c]) (numV V1)) := o
  clear o
  go_upto_region 17 with fail
  obtain ⟨W5, hW⟩ : ∃ W5, W5 = ((w4.setCell ⟨gv, 1, none⟩ (.bool i)).setCell ⟨gv, 2, none⟩ (.slice a n c)) := ⟨_, rfl⟩
  rw [← hW]
  have G1' : Hid (W5.heap[w.heap.size]? = some (.cells #[.int .i64 3, .bool V1.i, .slice a1 V1.n c1, .int .i64 V1.l, .float .f64 V1.x] 27)) := by show W5.heap[w.heap.size]? = _; rw [hW]; exact (put_far2 _ _ _ _ _ _ _ (by omega)).trans G1.out
  have G2' : Hid (W5.heap[w.heap.size + 1]? = some (.cells #[.int .i64 3, .bool V2.i, .slice a2 V2.n c2, .int .i64 V2.l, .float .f64 V2.x] 27)) := by show W5.heap[w.heap.size + 1]? = _; rw [hW]; exact (put_far2 _ _ _ _ _ _ _ (by omega)).trans G2.out
  have G3' : Hid (W5.heap[w.heap.size + 1 + 1]? = some (.cells #[.int .i64 0, .bool false, .slice none 0 0, .int .i64 0, .float .f64 0] 27)) := by show W5.heap[w.heap.size + 1 + 1]? = _; rw [hW]; exact (put_far2 _ _ _ _ _ _ _ (by omega)).trans G3.out
  have G4' : Hid (W5.heap[gv]? = some (.cells #[.int .i64 3, .bool i, .slice a n c, .int .i64 0, .float .f64 0] 27)) := by show W5.heap[gv]? = _; rw [hW]; exact put_nat G4.out _ _
  have I1' : Hid (VIn W5 (.agg #[.int .i64 3, .bool V1.i, .slice a1 V1.n c1, .int .i64 V1.l, .float .f64 V1.x]) V1) := by show VIn W5 _ V1; rw [hW]; exact I1.out.putn G4.out _ _
  have I2' : Hid (VIn W5 (.agg #[.int .i64 3, .bool V2.i, .slice a2 V2.n c2, .int .i64 V2.l, .float .f64 V2.x]) V2) := by show VIn W5 _ V2; rw [hW]; exact I2.out.putn G4.out _ _
  have O' : Hid (NOut W5 (.agg #[.bool i, .slice a n c]) (numV V1)) := by show NOut W5 _ _; rw [hW]; exact O.out.putn G4.out _ _
  clear O I1 I2
  have O := O'
  have I1 := I1'
  have I2 := I2'
  clear O' I1' I2'
  have HB' : Hid (Below w.heap.size w W5) := by show Below w.heap.size w W5; rw [hW]; exact (HB.out.setCell (by show w.heap.size ≤ gv; omega) _).setCell (by show w.heap.size ≤ gv; omega) _
  clear G1 G2 G3 G4 HB hW
  have G1 := G1'
  have G2 := G2'
  have G3 := G3'
  have G4 := G4'
  have HB := HB'
  clear G1' G2' G3' G4' HB'
  clear p10 p11 p12 p13 p14 p20 p21 p22 p23 p24 p40 p41 p42 p43 p44 f0 f1 f2 f3 f4
  obtain ⟨p10, p11, p12, p13, p14⟩ := box5 G1.out (below_refl _)
  obtain ⟨p20, p21, p22, p23, p24⟩ := box5 G2.out (below_refl _)
  obtain ⟨⟨p40, p41, p42, p43, p44⟩, ⟨f0, f1, f2, f3, f4⟩, -⟩ := box5_facts G4.out
  go_wp2_with (go_at_call 47; fail)
  refine (rcompare_to _ _ _ (numV V2) (numV V1) q (by exact I2.out.num') (by exact I1.out.num') EQ.out).mono ?_
  rintro e w6 ⟨rfl, b⟩
  replace G1 : Hid (w6.heap[w.heap.size]? = _) := blk_below G1.out b
  replace G2 : Hid (w6.heap[w.heap.size + 1]? = _) := blk_below G2.out b
  replace G3 : Hid (w6.heap[w.heap.size + 1 + 1]? = _) := blk_below G3.out b
  replace G4 : Hid (w6.heap[gv]? = _) := blk_below G4.out b
  replace I1 : Hid (VIn w6 _ V1) := I1.out.below b
  replace I2 : Hid (VIn w6 _ V2) := I2.out.below b
  replace O : Hid (NOut w6 (.agg #[.bool i, .slice a n c]) (numV V1)) := O.out.below b
  replace HB : Hid (Below _ _ w6) := below_step HB.out b
  clear b
  clear p10 p11 p12 p13 p14 p20 p21 p22 p23 p24 p40 p41 p42 p43 p44 f0 f1 f2 f3 f4
  obtain ⟨p10, p11, p12, p13, p14⟩ := box5 G1.out (below_refl _)
  obtain ⟨p20, p21, p22, p23, p24⟩ := box5 G2.out (below_refl _)
  obtain ⟨⟨p40, p41, p42, p43, p44⟩, ⟨f0, f1, f2, f3, f4⟩, -⟩ := box5_facts G4.out
  skip
  go_upto_region 34 with fail
  clear p10 p11 p12 p13 p14 p20 p21 p22 p23 p24 p40 p41 p42 p43 p44 f0 f1 f2 f3 f4
  obtain ⟨p40, p41, p42, p43, p44⟩ := box5 G4.out (below_refl _)
  obtain ⟨⟨z0, z1, z2, z3, z4⟩, ⟨f0, f1, f2, f3, f4⟩, s0, s1, s2, s3, s4⟩ := box5_facts G3.out
  go_wp2
  refine bodyPost_ret (v := .tuple #[.agg #[.int .i64 3, .bool i, .slice a n c, .int .i64 0, .float .f64 0], .int .i64 0]) (by simp [results, Tryz.results43, go_sem, s0, s1, s2, s3, s4]) rfl ?_
  exact ⟨⟨_, rfl, Or.inl ⟨by decide, _, _, _, _, rfl, O.out.set5 G3.out _ _ _ _ _⟩⟩, below_set5 HB.out (by omega) _ _ _ _ _⟩
set_option maxHeartbeats 16000000 in
theorem rop3tl (w : World) (v1 v2 : Value) (V1 V2 : Vl) (h1 : VIn w v1 V1) (h2 : VIn w v2 V2) (es1 : V1.s = 3) (es2 : V2.s = 3) (m1 : mayV V1 = 0) (m2 : mayV V2 = 0) (q : Int) (eq : ocmp (numV V2) (numV V1) = q) (hq : q < 0) : Calls Tryz.prog 43 #[v1, v2, .bool true] w fun e w' => (∃ u, e = .returned (.tuple #[u, .int .i64 0]) ∧ VOut w' u 3 (oadd (numV V1) (numV V2))) ∧ Below w.heap.size w w' := by
  have Sh1 : Hid (Short 10000 (numV V1)) := h1.short
  have Sh2 : Hid (Short 10000 (numV V2)) := h2.short
  have EQ : Hid (ocmp (numV V2) (numV V1) = q) := eq
  clear eq
  have H1' := h1
  obtain ⟨a1, c1, rfl, hr1, hL1, hn1, hx1, hl1, hs1⟩ := h1
  rw [es1] at H1' ⊢
  have H2' := h2
  obtain ⟨a2, c2, rfl, hr2, hL2, hn2, hx2, hl2, hs2⟩ := h2
  rw [es2] at H2' ⊢
  obtain ⟨W0, hW0⟩ : ∃ W0, W0 = (((w.alloc (.cells #[.int .i64 3, .bool V1.i, .slice a1 V1.n c1, .int .i64 V1.l, .float .f64 V1.x] 27)).alloc (.cells #[.int .i64 3, .bool V2.i, .slice a2 V2.n c2, .int .i64 V2.l, .float .f64 V2.x] 27)).alloc (.cells #[.int .i64 0, .bool false, .slice none 0 0, .int .i64 0, .float .f64 0] 27)) := ⟨_, rfl⟩
  have HB0 : Hid (Below w.heap.size w W0) := by rw [hW0]; exact below3 w _ _ _
  have Hg1 : Hid (W0.heap[w.heap.size]? = some (.cells #[.int .i64 3, .bool V1.i, .slice a1 V1.n c1, .int .i64 V1.l, .float .f64 V1.x] 27)) := by
    show W0.heap[w.heap.size]? = _
    rw [hW0]; exact heap_at3_0 w _ _ _
  have Hg2 : Hid (W0.heap[w.heap.size + 1]? = some (.cells #[.int .i64 3, .bool V2.i, .slice a2 V2.n c2, .int .i64 V2.l, .float .f64 V2.x] 27)) := by
    show W0.heap[w.heap.size + 1]? = _
    rw [hW0]; exact heap_at3_1 w _ _ _
  have Hg3 : Hid (W0.heap[w.heap.size + 1 + 1]? = some (.cells #[.int .i64 0, .bool false, .slice none 0 0, .int .i64 0, .float .f64 0] 27)) := by
    show W0.heap[w.heap.size + 1 + 1]? = _
    rw [hW0]; exact heap_at3_2 w _ _ _
  have H1 : Hid (VIn W0 (.agg #[.int .i64 3, .bool V1.i, .slice a1 V1.n c1, .int .i64 V1.l, .float .f64 V1.x]) V1) := H1'.below HB0.out
  have H2 : Hid (VIn W0 (.agg #[.int .i64 3, .bool V2.i, .slice a2 V2.n c2, .int .i64 V2.l, .float .f64 V2.x]) V2) := H2'.below HB0.out
  have HW : Below W0.heap.size W0 W0 := below_refl W0
  clear hr1 hL1 hn1 hx1 hl1 hs1 H1' hr2 hL2 hn2 hx2 hl2 hs2 H2'
  obtain ⟨p10, p11, p12, p13, p14⟩ := box5 Hg1.out HW
  obtain ⟨p20, p21, p22, p23, p24⟩ := box5 Hg2.out HW
  have hsf := st_flo
  have SZ : Hid (w.heap.size + 1 + 1 < W0.heap.size) := by show w.heap.size + 1 + 1 < W0.heap.size; rw [hW0]; simp
  have M1 : Hid (mayV V1 = 0) := m1
  have M2 : Hid (mayV V2 = 0) := m2
  clear m1 m2 es1 es2
  go_enter Tryz.func43, Tryz.ntmps43
  go_wp2_with (go_at_call 22; fail)
  rw [← hW0]
  clear hW0
  refine (rmv_at _ _ V1 0 (by exact H1.out.below HW) M1.out).mono ?_
  rintro e w1 ⟨rfl, b⟩
  replace HW := below_step HW b
  clear b
  clear p10 p11 p12 p13 p14 p20 p21 p22 p23 p24; obtain ⟨p10, p11, p12, p13, p14⟩ := box5 Hg1.out HW; obtain ⟨p20, p21, p22, p23, p24⟩ := box5 Hg2.out HW
  go_wp2_with (go_at_call 22; fail)
  refine (rmv_at _ _ V2 0 (by exact H2.out.below HW) M2.out).mono ?_
  rintro e w2 ⟨rfl, b⟩
  replace HW := below_step HW b
  clear b
  clear p10 p11 p12 p13 p14 p20 p21 p22 p23 p24; obtain ⟨p10, p11, p12, p13, p14⟩ := box5 Hg1.out HW; obtain ⟨p20, p21, p22, p23, p24⟩ := box5 Hg2.out HW
  go_upto_region 10 with fail
  obtain ⟨W3, hW3⟩ : ∃ W3, W3 = w2.alloc (.cells #[.int .i64 3, .bool false, .slice none 0 0, .int .i64 0, .float .f64 0] 27) := ⟨_, rfl⟩
  rw [← hW3]
  have b3 : Below w2.heap.size w2 W3 := by rw [hW3]; exact below1 _ _
  have G1 : Hid (W3.heap[w.heap.size]? = _) := blk_below (blk_below Hg1.out HW) b3
  have G2 : Hid (W3.heap[w.heap.size + 1]? = _) := blk_below (blk_below Hg2.out HW) b3
  have G3 : Hid (W3.heap[w.heap.size + 1 + 1]? = _) := blk_below (blk_below Hg3.out HW) b3
  have G4 : Hid (W3.heap[w2.heap.size]? = some (.cells #[.int .i64 3, .bool false, .slice none 0 0, .int .i64 0, .float .f64 0] 27)) := by show W3.heap[w2.heap.size]? = _; rw [hW3]; exact heap_alloc_new _ _
  have HB : Hid (Below w.heap.size w W3) := below_step (below_step HB0.out HW) b3
  have hlt : w.heap.size + 1 + 1 < w2.heap.size := Nat.lt_of_lt_of_le SZ.out HW.size
  have I1 : Hid (VIn W3 _ V1) := (H1.out.below HW).below b3
  have I2 : Hid (VIn W3 _ V2) := (H2.out.below HW).below b3
  obtain ⟨gv, hgv⟩ : ∃ gv, gv = w2.heap.size := ⟨_, rfl⟩
  rw [← hgv] at G4 hlt ⊢
  clear hgv hW3 b3 HW H1 H2 Hg1 Hg2 Hg3 HB0 SZ p10 p11 p12 p13 p14 p20 p21 p22 p23 p24
  obtain ⟨p10, p11, p12, p13, p14⟩ := box5 G1.out (below_refl _)
  obtain ⟨p20, p21, p22, p23, p24⟩ := box5 G2.out (below_refl _)
  obtain ⟨⟨p40, p41, p42, p43, p44⟩, ⟨f0, f1, f2, f3, f4⟩, -⟩ := box5_facts G4.out
  go_wp2_with (go_at_call 62; fail)
  refine (clean_any _ _ (numV V1) (by exact I1.out.num')).mono ?_
  rintro e w4 ⟨⟨u, rfl, o⟩, b⟩
  replace G1 : Hid (w4.heap[w.heap.size]? = _) := blk_below G1.out b
  replace G2 : Hid (w4.heap[w.heap.size + 1]? = _) := blk_below G2.out b
  replace G3 : Hid (w4.heap[w.heap.size + 1 + 1]? = _) := blk_below G3.out b
  replace G4 : Hid (w4.heap[gv]? = _) := blk_below G4.out b
  replace I1 : Hid (VIn w4 _ V1) := I1.out.below b
  replace I2 : Hid (VIn w4 _ V2) := I2.out.below b
  replace HB : Hid (Below _ _ w4) := below_step HB.out b
  clear b
  clear p10 p11 p12 p13 p14 p20 p21 p22 p23 p24 p40 p41 p42 p43 p44 f0 f1 f2 f3 f4
  obtain ⟨p10, p11, p12, p13, p14⟩ := box5 G1.out (below_refl _)
  obtain ⟨p20, p21, p22, p23, p24⟩ := box5 G2.out (below_refl _)
  obtain ⟨⟨p40, p41, p42, p43, p44⟩, ⟨f0, f1, f2, f3, f4⟩, -⟩ := box5_facts G4.out
  obtain ⟨i, a, n, c, rfl, -, -, -⟩ := o.form
  have O : Hid (NOut w4 (.agg #[.bool i, .slice a n c]) (numV V1)) := o
  clear o
  go_upto_region 17 with fail
  obtain ⟨W5, hW⟩ : ∃ W5, W5 = ((w4.setCell ⟨gv, 1, none⟩ (.bool i)).setCell ⟨gv, 2, none⟩ (.slice a n c)) := ⟨_, rfl⟩
  rw [← hW]
  have G1' : Hid (W5.heap[w.heap.size]? = some (.cells #[.int .i64 3, .bool V1.i, .slice a1 V1.n c1, .int .i64 V1.l, .float .f64 V1.x] 27)) := by show W5.heap[w.heap.size]? = _; rw [hW]; exact (put_far2 _ _ _ _ _ _ _ (by omega)).trans G1.out
  have G2' : Hid (W5.heap[w.heap.size + 1]? = some (.cells #[.int .i64 3, .bool V2.i, .slice a2 V2.n c2, .int .i64 V2.l, .float .f64 V2.x] 27)) := by show W5.heap[w.heap.size + 1]? = _; rw [hW]; exact (put_far2 _ _ _ _ _ _ _ (by omega)).trans G2.out
  have G3' : Hid (W5.heap[w.heap.size + 1 + 1]? = some (.cells #[.int .i64 0, .bool false, .slice none 0 0, .int .i64 0, .float .f64 0] 27)) := by show W5.heap[w.heap.size + 1 + 1]? = _; rw [hW]; exact (put_far2 _ _ _ _ _ _ _ (by omega)).trans G3.out
  have G4' : Hid (W5.heap[gv]? = some (.cells #[.int .i64 3, .bool i, .slice a n c, .int .i64 0, .float .f64 0] 27)) := by show W5.heap[gv]? = _; rw [hW]; exact put_nat G4.out _ _
  have I1' : Hid (VIn W5 (.agg #[.int .i64 3, .bool V1.i, .slice a1 V1.n c1, .int .i64 V1.l, .float .f64 V1.x]) V1) := by show VIn W5 _ V1; rw [hW]; exact I1.out.putn G4.out _ _
  have I2' : Hid (VIn W5 (.agg #[.int .i64 3, .bool V2.i, .slice a2 V2.n c2, .int .i64 V2.l, .float .f64 V2.x]) V2) := by show VIn W5 _ V2; rw [hW]; exact I2.out.putn G4.out _ _
  have O' : Hid (NOut W5 (.agg #[.bool i, .slice a n c]) (numV V1)) := by show NOut W5 _ _; rw [hW]; exact O.out.putn G4.out _ _
  clear O I1 I2
  have O := O'
  have I1 := I1'
  have I2 := I2'
  clear O' I1' I2'
  have HB' : Hid (Below w.heap.size w W5) := by show Below w.heap.size w W5; rw [hW]; exact (HB.out.setCell (by show w.heap.size ≤ gv; omega) _).setCell (by show w.heap.size ≤ gv; omega) _
  clear G1 G2 G3 G4 HB hW
  have G1 := G1'
  have G2 := G2'
  have G3 := G3'
  have G4 := G4'
  have HB := HB'
  clear G1' G2' G3' G4' HB'
  clear p10 p11 p12 p13 p14 p20 p21 p22 p23 p24 p40 p41 p42 p43 p44 f0 f1 f2 f3 f4
  obtain ⟨p10, p11, p12, p13, p14⟩ := box5 G1.out (below_refl _)
  obtain ⟨p20, p21, p22, p23, p24⟩ := box5 G2.out (below_refl _)
  obtain ⟨⟨p40, p41, p42, p43, p44⟩, ⟨f0, f1, f2, f3, f4⟩, -⟩ := box5_facts G4.out
  go_wp2_with (go_at_call 47; fail)
  refine (rcompare_to _ _ _ (numV V2) (numV V1) q (by exact I2.out.num') (by exact I1.out.num') EQ.out).mono ?_
  rintro e w6 ⟨rfl, b⟩
  replace G1 : Hid (w6.heap[w.heap.size]? = _) := blk_below G1.out b
  replace G2 : Hid (w6.heap[w.heap.size + 1]? = _) := blk_below G2.out b
  replace G3 : Hid (w6.heap[w.heap.size + 1 + 1]? = _) := blk_below G3.out b
  replace G4 : Hid (w6.heap[gv]? = _) := blk_below G4.out b
  replace I1 : Hid (VIn w6 _ V1) := I1.out.below b
  replace I2 : Hid (VIn w6 _ V2) := I2.out.below b
  replace O : Hid (NOut w6 (.agg #[.bool i, .slice a n c]) (numV V1)) := O.out.below b
  replace HB : Hid (Below _ _ w6) := below_step HB.out b
  clear b
  clear p10 p11 p12 p13 p14 p20 p21 p22 p23 p24 p40 p41 p42 p43 p44 f0 f1 f2 f3 f4
  obtain ⟨p10, p11, p12, p13, p14⟩ := box5 G1.out (below_refl _)
  obtain ⟨p20, p21, p22, p23, p24⟩ := box5 G2.out (below_refl _)
  obtain ⟨⟨p40, p41, p42, p43, p44⟩, ⟨f0, f1, f2, f3, f4⟩, -⟩ := box5_facts G4.out
  skip
  go_wp2_with (go_at_call 62; fail)
  refine (clean_any _ _ (numV V2) (by exact I2.out.num')).mono ?_
  rintro e w7 ⟨⟨u, rfl, o⟩, b⟩
  replace G1 : Hid (w7.heap[w.heap.size]? = _) := blk_below G1.out b
  replace G2 : Hid (w7.heap[w.heap.size + 1]? = _) := blk_below G2.out b
  replace G3 : Hid (w7.heap[w.heap.size + 1 + 1]? = _) := blk_below G3.out b
  replace G4 : Hid (w7.heap[gv]? = _) := blk_below G4.out b
  replace I1 : Hid (VIn w7 _ V1) := I1.out.below b
  replace I2 : Hid (VIn w7 _ V2) := I2.out.below b
  replace O : Hid (NOut w7 (.agg #[.bool i, .slice a n c]) (numV V1)) := O.out.below b
  replace HB : Hid (Below _ _ w7) := below_step HB.out b
  clear b
  clear p10 p11 p12 p13 p14 p20 p21 p22 p23 p24 p40 p41 p42 p43 p44 f0 f1 f2 f3 f4
  obtain ⟨p10, p11, p12, p13, p14⟩ := box5 G1.out (below_refl _)
  obtain ⟨p20, p21, p22, p23, p24⟩ := box5 G2.out (below_refl _)
  obtain ⟨⟨p40, p41, p42, p43, p44⟩, ⟨f0, f1, f2, f3, f4⟩, -⟩ := box5_facts G4.out
  clear O
  obtain ⟨i2, a2', n2, c2', rfl, -, -, -⟩ := o.form
  have O : Hid (NOut w7 (.agg #[.bool i2, .slice a2' n2 c2']) (numV V2)) := o
  clear o
  go_upto_region 19 with fail
  obtain ⟨W8, hW⟩ : ∃ W8, W8 = ((w7.setCell ⟨gv, 1, none⟩ (.bool i2)).setCell ⟨gv, 2, none⟩ (.slice a2' n2 c2')) := ⟨_, rfl⟩
  rw [← hW]
  have G1' : Hid (W8.heap[w.heap.size]? = some (.cells #[.int .i64 3, .bool V1.i, .slice a1 V1.n c1, .int .i64 V1.l, .float .f64 V1.x] 27)) := by show W8.heap[w.heap.size]? = _; rw [hW]; exact (put_far2 _ _ _ _ _ _ _ (by omega)).trans G1.out
  have G2' : Hid (W8.heap[w.heap.size + 1]? = some (.cells #[.int .i64 3, .bool V2.i, .slice a2 V2.n c2, .int .i64 V2.l, .float .f64 V2.x] 27)) := by show W8.heap[w.heap.size + 1]? = _; rw [hW]; exact (put_far2 _ _ _ _ _ _ _ (by omega)).trans G2.out
  have G3' : Hid (W8.heap[w.heap.size + 1 + 1]? = some (.cells #[.int .i64 0, .bool false, .slice none 0 0, .int .i64 0, .float .f64 0] 27)) := by show W8.heap[w.heap.size + 1 + 1]? = _; rw [hW]; exact (put_far2 _ _ _ _ _ _ _ (by omega)).trans G3.out
  have G4' : Hid (W8.heap[gv]? = some (.cells #[.int .i64 3, .bool i2, .slice a2' n2 c2', .int .i64 0, .float .f64 0] 27)) := by show W8.heap[gv]? = _; rw [hW]; exact put_nat G4.out _ _
  have I1' : Hid (VIn W8 (.agg #[.int .i64 3, .bool V1.i, .slice a1 V1.n c1, .int .i64 V1.l, .float .f64 V1.x]) V1) := by show VIn W8 _ V1; rw [hW]; exact I1.out.putn G4.out _ _
  have I2' : Hid (VIn W8 (.agg #[.int .i64 3, .bool V2.i, .slice a2 V2.n c2, .int .i64 V2.l, .float .f64 V2.x]) V2) := by show VIn W8 _ V2; rw [hW]; exact I2.out.putn G4.out _ _
  have O' : Hid (NOut W8 (.agg #[.bool i2, .slice a2' n2 c2']) (numV V2)) := by show NOut W8 _ _; rw [hW]; exact O.out.putn G4.out _ _
  clear O I1 I2
  have O := O'
  have I1 := I1'
  have I2 := I2'
  clear O' I1' I2'
  have HB' : Hid (Below w.heap.size w W8) := by show Below w.heap.size w W8; rw [hW]; exact (HB.out.setCell (by show w.heap.size ≤ gv; omega) _).setCell (by show w.heap.size ≤ gv; omega) _
  clear G1 G2 G3 G4 HB hW
  have G1 := G1'
  have G2 := G2'
  have G3 := G3'
  have G4 := G4'
  have HB := HB'
  clear G1' G2' G3' G4' HB'
  clear p10 p11 p12 p13 p14 p20 p21 p22 p23 p24 p40 p41 p42 p43 p44 f0 f1 f2 f3 f4
  obtain ⟨p10, p11, p12, p13, p14⟩ := box5 G1.out (below_refl _)
  obtain ⟨p20, p21, p22, p23, p24⟩ := box5 G2.out (below_refl _)
  obtain ⟨⟨p40, p41, p42, p43, p44⟩, ⟨f0, f1, f2, f3, f4⟩, -⟩ := box5_facts G4.out
  go_wp2_with (go_at_call 65; fail)
  refine (radd_any _ _ _ (numV V1) (numV V2) (by exact I1.out.num') (by exact I2.out.num') Sh1.out Sh2.out).mono ?_
  rintro e w9 ⟨⟨u, rfl, o⟩, b⟩
  replace G1 : Hid (w9.heap[w.heap.size]? = _) := blk_below G1.out b
  replace G2 : Hid (w9.heap[w.heap.size + 1]? = _) := blk_below G2.out b
  replace G3 : Hid (w9.heap[w.heap.size + 1 + 1]? = _) := blk_below G3.out b
  replace G4 : Hid (w9.heap[gv]? = _) := blk_below G4.out b
  replace I1 : Hid (VIn w9 _ V1) := I1.out.below b
  replace I2 : Hid (VIn w9 _ V2) := I2.out.below b
  replace O : Hid (NOut w9 (.agg #[.bool i2, .slice a2' n2 c2']) (numV V2)) := O.out.below b
  replace HB : Hid (Below _ _ w9) := below_step HB.out b
  clear b
  clear p10 p11 p12 p13 p14 p20 p21 p22 p23 p24 p40 p41 p42 p43 p44 f0 f1 f2 f3 f4
  obtain ⟨p10, p11, p12, p13, p14⟩ := box5 G1.out (below_refl _)
  obtain ⟨p20, p21, p22, p23, p24⟩ := box5 G2.out (below_refl _)
  obtain ⟨⟨p40, p41, p42, p43, p44⟩, ⟨f0, f1, f2, f3, f4⟩, -⟩ := box5_facts G4.out
  clear O
  obtain ⟨i3, a3, n3, c3, rfl, -, -, -⟩ := o.form
  have O : Hid (NOut w9 (.agg #[.bool i3, .slice a3 n3 c3]) (oadd (numV V1) (numV V2))) := o
  clear o
  go_upto_region 34 with fail
  obtain ⟨W10, hW⟩ : ∃ W10, W10 = ((w9.setCell ⟨gv, 1, none⟩ (.bool i3)).setCell ⟨gv, 2, none⟩ (.slice a3 n3 c3)) := ⟨_, rfl⟩
  rw [← hW]
  have G1' : Hid (W10.heap[w.heap.size]? = some (.cells #[.int .i64 3, .bool V1.i, .slice a1 V1.n c1, .int .i64 V1.l, .float .f64 V1.x] 27)) := by show W10.heap[w.heap.size]? = _; rw [hW]; exact (put_far2 _ _ _ _ _ _ _ (by omega)).trans G1.out
  have G2' : Hid (W10.heap[w.heap.size + 1]? = some (.cells #[.int .i64 3, .bool V2.i, .slice a2 V2.n c2, .int .i64 V2.l, .float .f64 V2.x] 27)) := by show W10.heap[w.heap.size + 1]? = _; rw [hW]; exact (put_far2 _ _ _ _ _ _ _ (by omega)).trans G2.out
  have G3' : Hid (W10.heap[w.heap.size + 1 + 1]? = some (.cells #[.int .i64 0, .bool false, .slice none 0 0, .int .i64 0, .float .f64 0] 27)) := by show W10.heap[w.heap.size + 1 + 1]? = _; rw [hW]; exact (put_far2 _ _ _ _ _ _ _ (by omega)).trans G3.out
  have G4' : Hid (W10.heap[gv]? = some (.cells #[.int .i64 3, .bool i3, .slice a3 n3 c3, .int .i64 0, .float .f64 0] 27)) := by show W10.heap[gv]? = _; rw [hW]; exact put_nat G4.out _ _
  have I1' : Hid (VIn W10 (.agg #[.int .i64 3, .bool V1.i, .slice a1 V1.n c1, .int .i64 V1.l, .float .f64 V1.x]) V1) := by show VIn W10 _ V1; rw [hW]; exact I1.out.putn G4.out _ _
  have I2' : Hid (VIn W10 (.agg #[.int .i64 3, .bool V2.i, .slice a2 V2.n c2, .int .i64 V2.l, .float .f64 V2.x]) V2) := by show VIn W10 _ V2; rw [hW]; exact I2.out.putn G4.out _ _
  have O' : Hid (NOut W10 (.agg #[.bool i3, .slice a3 n3 c3]) (oadd (numV V1) (numV V2))) := by show NOut W10 _ _; rw [hW]; exact O.out.putn G4.out _ _
  clear O I1 I2
  have O := O'
  have I1 := I1'
  have I2 := I2'
  clear O' I1' I2'
  have HB' : Hid (Below w.heap.size w W10) := by show Below w.heap.size w W10; rw [hW]; exact (HB.out.setCell (by show w.heap.size ≤ gv; omega) _).setCell (by show w.heap.size ≤ gv; omega) _
  clear G1 G2 G3 G4 HB hW
  have G1 := G1'
  have G2 := G2'
  have G3 := G3'
  have G4 := G4'
  have HB := HB'
  clear G1' G2' G3' G4' HB'
  clear p10 p11 p12 p13 p14 p20 p21 p22 p23 p24 p40 p41 p42 p43 p44 f0 f1 f2 f3 f4
  obtain ⟨p10, p11, p12, p13, p14⟩ := box5 G1.out (below_refl _)
  obtain ⟨p20, p21, p22, p23, p24⟩ := box5 G2.out (below_refl _)
  obtain ⟨⟨p40, p41, p42, p43, p44⟩, ⟨f0, f1, f2, f3, f4⟩, -⟩ := box5_facts G4.out
  clear p10 p11 p12 p13 p14 p20 p21 p22 p23 p24 p40 p41 p42 p43 p44 f0 f1 f2 f3 f4
  obtain ⟨p40, p41, p42, p43, p44⟩ := box5 G4.out (below_refl _)
  obtain ⟨⟨z0, z1, z2, z3, z4⟩, ⟨f0, f1, f2, f3, f4⟩, s0, s1, s2, s3, s4⟩ := box5_facts G3.out
  go_wp2
  refine bodyPost_ret (v := .tuple #[.agg #[.int .i64 3, .bool i3, .slice a3 n3 c3, .int .i64 0, .float .f64 0], .int .i64 0]) (by simp [results, Tryz.results43, go_sem, s0, s1, s2, s3, s4]) rfl ?_
  exact ⟨⟨_, rfl, Or.inl ⟨by decide, _, _, _, _, rfl, O.out.set5 G3.out _ _ _ _ _⟩⟩, below_set5 HB.out (by omega) _ _ _ _ _⟩
set_option maxHeartbeats 16000000 in
theorem rop3tg (w : World) (v1 v2 : Value) (V1 V2 : Vl) (h1 : VIn w v1 V1) (h2 : VIn w v2 V2) (es1 : V1.s = 3) (es2 : V2.s = 3) (m1 : mayV V1 = 0) (m2 : mayV V2 = 0) (q : Int) (eq : ocmp (numV V2) (numV V1) = q) (hq : ¬ q < 0) : Calls Tryz.prog 43 #[v1, v2, .bool true] w fun e w' => (∃ u, e = .returned (.tuple #[u, .int .i64 0]) ∧ VOut w' u 3 (oadd (numV V1) (numV V2))) ∧ Below w.heap.size w w' := by
  have Sh1 : Hid (Short 10000 (numV V1)) := h1.short
  have Sh2 : Hid (Short 10000 (numV V2)) := h2.short
  have EQ : Hid (ocmp (numV V2) (numV V1) = q) := eq
  clear eq
  have H1' := h1
  obtain ⟨a1, c1, rfl, hr1, hL1, hn1, hx1, hl1, hs1⟩ := h1
  rw [es1] at H1' ⊢
  have H2' := h2
  obtain ⟨a2, c2, rfl, hr2, hL2, hn2, hx2, hl2, hs2⟩ := h2
  rw [es2] at H2' ⊢
  obtain ⟨W0, hW0⟩ : ∃ W0, W0 = (((w.alloc (.cells #[.int .i64 3, .bool V1.i, .slice a1 V1.n c1, .int .i64 V1.l, .float .f64 V1.x] 27)).alloc (.cells #[.int .i64 3, .bool V2.i, .slice a2 V2.n c2, .int .i64 V2.l, .float .f64 V2.x] 27)).alloc (.cells #[.int .i64 0, .bool false, .slice none 0 0, .int .i64 0, .float .f64 0] 27)) := ⟨_, rfl⟩
  have HB0 : Hid (Below w.heap.size w W0) := by rw [hW0]; exact below3 w _ _ _
  have Hg1 : Hid (W0.heap[w.heap.size]? = some (.cells #[.int .i64 3, .bool V1.i, .slice a1 V1.n c1, .int .i64 V1.l, .float .f64 V1.x] 27)) := by
    show W0.heap[w.heap.size]? = _
    rw [hW0]; exact heap_at3_0 w _ _ _
  have Hg2 : Hid (W0.heap[w.heap.size + 1]? = some (.cells #[.int .i64 3, .bool V2.i, .slice a2 V2.n c2, .int .i64 V2.l, .float .f64 V2.x] 27)) := by
    show W0.heap[w.heap.size + 1]? = _
    rw [hW0]; exact heap_at3_1 w _ _ _
  have Hg3 : Hid (W0.heap[w.heap.size + 1 + 1]? = some (.cells #[.int .i64 0, .bool false, .slice none 0 0, .int .i64 0, .float .f64 0] 27)) := by
    show W0.heap[w.heap.size + 1 + 1]? = _
    rw [hW0]; exact heap_at3_2 w _ _ _
  have H1 : Hid (VIn W0 (.agg #[.int .i64 3, .bool V1.i, .slice a1 V1.n c1, .int .i64 V1.l, .float .f64 V1.x]) V1) := H1'.below HB0.out
  have H2 : Hid (VIn W0 (.agg #[.int .i64 3, .bool V2.i, .slice a2 V2.n c2, .int .i64 V2.l, .float .f64 V2.x]) V2) := H2'.below HB0.out
  have HW : Below W0.heap.size W0 W0 := below_refl W0
  clear hr1 hL1 hn1 hx1 hl1 hs1 H1' hr2 hL2 hn2 hx2 hl2 hs2 H2'
  obtain ⟨p10, p11, p12, p13, p14⟩ := box5 Hg1.out HW
  obtain ⟨p20, p21, p22, p23, p24⟩ := box5 Hg2.out HW
  have hsf := st_flo
  have SZ : Hid (w.heap.size + 1 + 1 < W0.heap.size) := by show w.heap.size + 1 + 1 < W0.heap.size; rw [hW0]; simp
  have M1 : Hid (mayV V1 = 0) := m1
  have M2 : Hid (mayV V2 = 0) := m2
  clear m1 m2 es1 es2
  go_enter Tryz.func43, Tryz.ntmps43
  go_wp2_with (go_at_call 22; fail)
  rw [← hW0]
  clear hW0
  refine (rmv_at _ _ V1 0 (by exact H1.out.below HW) M1.out).mono ?_
  rintro e w1 ⟨rfl, b⟩
  replace HW := below_step HW b
  clear b
  clear p10 p11 p12 p13 p14 p20 p21 p22 p23 p24; obtain ⟨p10, p11, p12, p13, p14⟩ := box5 Hg1.out HW; obtain ⟨p20, p21, p22, p23, p24⟩ := box5 Hg2.out HW
  go_wp2_with (go_at_call 22; fail)
  refine (rmv_at _ _ V2 0 (by exact H2.out.below HW) M2.out).mono ?_
  rintro e w2 ⟨rfl, b⟩
  replace HW := below_step HW b
  clear b
  clear p10 p11 p12 p13 p14 p20 p21 p22 p23 p24; obtain ⟨p10, p11, p12, p13, p14⟩ := box5 Hg1.out HW; obtain ⟨p20, p21, p22, p23, p24⟩ := box5 Hg2.out HW
  go_upto_region 10 with fail
  obtain ⟨W3, hW3⟩ : ∃ W3, W3 = w2.alloc (.cells #[.int .i64 3, .bool false, .slice none 0 0, .int .i64 0, .float .f64 0] 27) := ⟨_, rfl⟩
  rw [← hW3]
  have b3 : Below w2.heap.size w2 W3 := by rw [hW3]; exact below1 _ _
  have G1 : Hid (W3.heap[w.heap.size]? = _) := blk_below (blk_below Hg1.out HW) b3
  have G2 : Hid (W3.heap[w.heap.size + 1]? = _) := blk_below (blk_below Hg2.out HW) b3
  have G3 : Hid (W3.heap[w.heap.size + 1 + 1]? = _) := blk_below (blk_below Hg3.out HW) b3
  have G4 : Hid (W3.heap[w2.heap.size]? = some (.cells #[.int .i64 3, .bool false, .slice none 0 0, .int .i64 0, .float .f64 0] 27)) := by show W3.heap[w2.heap.size]? = _; rw [hW3]; exact heap_alloc_new _ _
  have HB : Hid (Below w.heap.size w W3) := below_step (below_step HB0.out HW) b3
  have hlt : w.heap.size + 1 + 1 < w2.heap.size := Nat.lt_of_lt_of_le SZ.out HW.size
  have I1 : Hid (VIn W3 _ V1) := (H1.out.below HW).below b3
  have I2 : Hid (VIn W3 _ V2) := (H2.out.below HW).below b3
  obtain ⟨gv, hgv⟩ : ∃ gv, gv = w2.heap.size := ⟨_, rfl⟩
  rw [← hgv] at G4 hlt ⊢
  clear hgv hW3 b3 HW H1 H2 Hg1 Hg2 Hg3 HB0 SZ p10 p11 p12 p13 p14 p20 p21 p22 p23 p24
  obtain ⟨p10, p11, p12, p13, p14⟩ := box5 G1.out (below_refl _)
  obtain ⟨p20, p21, p22, p23, p24⟩ := box5 G2.out (below_refl _)
  obtain ⟨⟨p40, p41, p42, p43, p44⟩, ⟨f0, f1, f2, f3, f4⟩, -⟩ := box5_facts G4.out
  go_wp2_with (go_at_call 62; fail)
  refine (clean_any _ _ (numV V1) (by exact I1.out.num')).mono ?_
  rintro e w4 ⟨⟨u, rfl, o⟩, b⟩
  replace G1 : Hid (w4.heap[w.heap.size]? = _) := blk_below G1.out b
  replace G2 : Hid (w4.heap[w.heap.size + 1]? = _) := blk_below G2.out b
  replace G3 : Hid (w4.heap[w.heap.size + 1 + 1]? = _) := blk_below G3.out b
  replace G4 : Hid (w4.heap[gv]? = _) := blk_below G4.out b
  replace I1 : Hid (VIn w4 _ V1) := I1.out.below b
  replace I2 : Hid (VIn w4 _ V2) := I2.out.below b
  replace HB : Hid (Below _ _ w4) := below_step HB.out b
  clear b
  clear p10 p11 p12 p13 p14 p20 p21 p22 p23 p24 p40 p41 p42 p43 p44 f0 f1 f2 f3 f4
  obtain ⟨p10, p11, p12, p13, p14⟩ := box5 G1.out (below_refl _)
  obtain ⟨p20, p21, p22, p23, p24⟩ := box5 G2.out (below_refl _)
  obtain ⟨⟨p40, p41, p42, p43, p44⟩, ⟨f0, f1, f2, f3, f4⟩, -⟩ := box5_facts G4.out
  obtain ⟨i, a, n, c, rfl, -, -, -⟩ := o.form
  have O : Hid (NOut w4 (.agg #[.bool i, .slice a n c]) (numV V1)) := o
  clear o
  go_upto_region 17 with fail
  obtain ⟨W5, hW⟩ : ∃ W5, W5 = ((w4.setCell ⟨gv, 1, none⟩ (.bool i)).setCell ⟨gv, 2, none⟩ (.slice a n c)) := ⟨_, rfl⟩
  rw [← hW]
  have G1' : Hid (W5.heap[w.heap.size]? = some (.cells #[.int .i64 3, .bool V1.i, .slice a1 V1.n c1, .int .i64 V1.l, .float .f64 V1.x] 27)) := by show W5.heap[w.heap.size]? = _; rw [hW]; exact (put_far2 _ _ _ _ _ _ _ (by omega)).trans G1.out
  have G2' : Hid (W5.heap[w.heap.size + 1]? = some (.cells #[.int .i64 3, .bool V2.i, .slice a2 V2.n c2, .int .i64 V2.l, .float .f64 V2.x] 27)) := by show W5.heap[w.heap.size + 1]? = _; rw [hW]; exact (put_far2 _ _ _ _ _ _ _ (by omega)).trans G2.out
  have G3' : Hid (W5.heap[w.heap.size + 1 + 1]? = some (.cells #[.int .i64 0, .bool false, .slice none 0 0, .int .i64 0, .float .f64 0] 27)) := by show W5.heap[w.heap.size + 1 + 1]? = _; rw [hW]; exact (put_far2 _ _ _ _ _ _ _ (by omega)).trans G3.out
  have G4' : Hid (W5.heap[gv]? = some (.cells #[.int .i64 3, .bool i, .slice a n c, .int .i64 0, .float .f64 0] 27)) := by show W5.heap[gv]? = _; rw [hW]; exact put_nat G4.out _ _
  have I1' : Hid (VIn W5 (.agg #[.int .i64 3, .bool V1.i, .slice a1 V1.n c1, .int .i64 V1.l, .float .f64 V1.x]) V1) := by show VIn W5 _ V1; rw [hW]; exact I1.out.putn G4.out _ _
  have I2' : Hid (VIn W5 (.agg #[.int .i64 3, .bool V2.i, .slice a2 V2.n c2, .int .i64 V2.l, .float .f64 V2.x]) V2) := by show VIn W5 _ V2; rw [hW]; exact I2.out.putn G4.out _ _
  have O' : Hid (NOut W5 (.agg #[.bool i, .slice a n c]) (numV V1)) := by show NOut W5 _ _; rw [hW]; exact O.out.putn G4.out _ _
  clear O I1 I2
  have O := O'
  have I1 := I1'
  have I2 := I2'
  clear O' I1' I2'
  have HB' : Hid (Below w.heap.size w W5) := by show Below w.heap.size w W5; rw [hW]; exact (HB.out.setCell (by show w.heap.size ≤ gv; omega) _).setCell (by show w.heap.size ≤ gv; omega) _
  clear G1 G2 G3 G4 HB hW
  have G1 := G1'
  have G2 := G2'
  have G3 := G3'
  have G4 := G4'
  have HB := HB'
  clear G1' G2' G3' G4' HB'
  clear p10 p11 p12 p13 p14 p20 p21 p22 p23 p24 p40 p41 p42 p43 p44 f0 f1 f2 f3 f4
  obtain ⟨p10, p11, p12, p13, p14⟩ := box5 G1.out (below_refl _)
  obtain ⟨p20, p21, p22, p23, p24⟩ := box5 G2.out (below_refl _)
  obtain ⟨⟨p40, p41, p42, p43, p44⟩, ⟨f0, f1, f2, f3, f4⟩, -⟩ := box5_facts G4.out
  go_wp2_with (go_at_call 47; fail)
  refine (rcompare_to _ _ _ (numV V2) (numV V1) q (by exact I2.out.num') (by exact I1.out.num') EQ.out).mono ?_
  rintro e w6 ⟨rfl, b⟩
  replace G1 : Hid (w6.heap[w.heap.size]? = _) := blk_below G1.out b
  replace G2 : Hid (w6.heap[w.heap.size + 1]? = _) := blk_below G2.out b
  replace G3 : Hid (w6.heap[w.heap.size + 1 + 1]? = _) := blk_below G3.out b
  replace G4 : Hid (w6.heap[gv]? = _) := blk_below G4.out b
  replace I1 : Hid (VIn w6 _ V1) := I1.out.below b
  replace I2 : Hid (VIn w6 _ V2) := I2.out.below b
  replace O : Hid (NOut w6 (.agg #[.bool i, .slice a n c]) (numV V1)) := O.out.below b
  replace HB : Hid (Below _ _ w6) := below_step HB.out b
  clear b
  clear p10 p11 p12 p13 p14 p20 p21 p22 p23 p24 p40 p41 p42 p43 p44 f0 f1 f2 f3 f4
  obtain ⟨p10, p11, p12, p13, p14⟩ := box5 G1.out (below_refl _)
  obtain ⟨p20, p21, p22, p23, p24⟩ := box5 G2.out (below_refl _)
  obtain ⟨⟨p40, p41, p42, p43, p44⟩, ⟨f0, f1, f2, f3, f4⟩, -⟩ := box5_facts G4.out
  skip
  go_wp2_with (go_at_call 65; fail)
  refine (radd_any _ _ _ (numV V1) (numV V2) (by exact I1.out.num') (by exact I2.out.num') Sh1.out Sh2.out).mono ?_
  rintro e w7 ⟨⟨u, rfl, o⟩, b⟩
  replace G1 : Hid (w7.heap[w.heap.size]? = _) := blk_below G1.out b
  replace G2 : Hid (w7.heap[w.heap.size + 1]? = _) := blk_below G2.out b
  replace G3 : Hid (w7.heap[w.heap.size + 1 + 1]? = _) := blk_below G3.out b
  replace G4 : Hid (w7.heap[gv]? = _) := blk_below G4.out b
  replace I1 : Hid (VIn w7 _ V1) := I1.out.below b
  replace I2 : Hid (VIn w7 _ V2) := I2.out.below b
  replace O : Hid (NOut w7 (.agg #[.bool i, .slice a n c]) (numV V1)) := O.out.below b
  replace HB : Hid (Below _ _ w7) := below_step HB.out b
  clear b
  clear p10 p11 p12 p13 p14 p20 p21 p22 p23 p24 p40 p41 p42 p43 p44 f0 f1 f2 f3 f4
  obtain ⟨p10, p11, p12, p13, p14⟩ := box5 G1.out (below_refl _)
  obtain ⟨p20, p21, p22, p23, p24⟩ := box5 G2.out (below_refl _)
  obtain ⟨⟨p40, p41, p42, p43, p44⟩, ⟨f0, f1, f2, f3, f4⟩, -⟩ := box5_facts G4.out
  clear O
  obtain ⟨i3, a3, n3, c3, rfl, -, -, -⟩ := o.form
  have O : Hid (NOut w7 (.agg #[.bool i3, .slice a3 n3 c3]) (oadd (numV V1) (numV V2))) := o
  clear o
  go_upto_region 34 with fail
  obtain ⟨W8, hW⟩ : ∃ W8, W8 = ((w7.setCell ⟨gv, 1, none⟩ (.bool i3)).setCell ⟨gv, 2, none⟩ (.slice a3 n3 c3)) := ⟨_, rfl⟩
  rw [← hW]
  have G1' : Hid (W8.heap[w.heap.size]? = some (.cells #[.int .i64 3, .bool V1.i, .slice a1 V1.n c1, .int .i64 V1.l, .float .f64 V1.x] 27)) := by show W8.heap[w.heap.size]? = _; rw [hW]; exact (put_far2 _ _ _ _ _ _ _ (by omega)).trans G1.out
  have G2' : Hid (W8.heap[w.heap.size + 1]? = some (.cells #[.int .i64 3, .bool V2.i, .slice a2 V2.n c2, .int .i64 V2.l, .float .f64 V2.x] 27)) := by show W8.heap[w.heap.size + 1]? = _; rw [hW]; exact (put_far2 _ _ _ _ _ _ _ (by omega)).trans G2.out
  have G3' : Hid (W8.heap[w.heap.size + 1 + 1]? = some (.cells #[.int .i64 0, .bool false, .slice none 0 0, .int .i64 0, .float .f64 0] 27)) := by show W8.heap[w.heap.size + 1 + 1]? = _; rw [hW]; exact (put_far2 _ _ _ _ _ _ _ (by omega)).trans G3.out
  have G4' : Hid (W8.heap[gv]? = some (.cells #[.int .i64 3, .bool i3, .slice a3 n3 c3, .int .i64 0, .float .f64 0] 27)) := by show W8.heap[gv]? = _; rw [hW]; exact put_nat G4.out _ _
  have I1' : Hid (VIn W8 (.agg #[.int .i64 3, .bool V1.i, .slice a1 V1.n c1, .int .i64 V1.l, .float .f64 V1.x]) V1) := by show VIn W8 _ V1; rw [hW]; exact I1.out.putn G4.out _ _
  have I2' : Hid (VIn W8 (.agg #[.int .i64 3, .bool V2.i, .slice a2 V2.n c2, .int .i64 V2.l, .float .f64 V2.x]) V2) := by show VIn W8 _ V2; rw [hW]; exact I2.out.putn G4.out _ _
  have O' : Hid (NOut W8 (.agg #[.bool i3, .slice a3 n3 c3]) (oadd (numV V1) (numV V2))) := by show NOut W8 _ _; rw [hW]; exact O.out.putn G4.out _ _
  clear O I1 I2
  have O := O'
  have I1 := I1'
  have I2 := I2'
  clear O' I1' I2'
  have HB' : Hid (Below w.heap.size w W8) := by show Below w.heap.size w W8; rw [hW]; exact (HB.out.setCell (by show w.heap.size ≤ gv; omega) _).setCell (by show w.heap.size ≤ gv; omega) _
  clear G1 G2 G3 G4 HB hW
  have G1 := G1'
  have G2 := G2'
  have G3 := G3'
  have G4 := G4'
  have HB := HB'
  clear G1' G2' G3' G4' HB'
  clear p10 p11 p12 p13 p14 p20 p21 p22 p23 p24 p40 p41 p42 p43 p44 f0 f1 f2 f3 f4
  obtain ⟨p10, p11, p12, p13, p14⟩ := box5 G1.out (below_refl _)
  obtain ⟨p20, p21, p22, p23, p24⟩ := box5 G2.out (below_refl _)
  obtain ⟨⟨p40, p41, p42, p43, p44⟩, ⟨f0, f1, f2, f3, f4⟩, -⟩ := box5_facts G4.out
  clear p10 p11 p12 p13 p14 p20 p21 p22 p23 p24 p40 p41 p42 p43 p44 f0 f1 f2 f3 f4
  obtain ⟨p40, p41, p42, p43, p44⟩ := box5 G4.out (below_refl _)
  obtain ⟨⟨z0, z1, z2, z3, z4⟩, ⟨f0, f1, f2, f3, f4⟩, s0, s1, s2, s3, s4⟩ := box5_facts G3.out
  go_wp2
  refine bodyPost_ret (v := .tuple #[.agg #[.int .i64 3, .bool i3, .slice a3 n3 c3, .int .i64 0, .float .f64 0], .int .i64 0]) (by simp [results, Tryz.results43, go_sem, s0, s1, s2, s3, s4]) rfl ?_
  exact ⟨⟨_, rfl, Or.inl ⟨by decide, _, _, _, _, rfl, O.out.set5 G3.out _ _ _ _ _⟩⟩, below_set5 HB.out (by omega) _ _ _ _ _⟩
end Go.Proofs.YtjdbapkmaggllaaGreatDoor
