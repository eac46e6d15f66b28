/- The walk of SemiRules where nothing is rounded. -/
import Derived.Test.YtjdbapkmaggllaaGreatDoorQ48
namespace Go.Proofs.YtjdbapkmaggllaaGreatDoor
open Go.RowKit Fo
set_option maxRecDepth 100000

set_option maxHeartbeats 32000000 in
theorem rul_core (w : World) (v1 v2 v3 : Value) (V1 V2 V3 : Vl) (h1 : VIn w v1 V1) (h2 : VIn w v2 V2) (h3 : VIn w v3 V3) (henv : Env w) (hsm : V1.n ≤ 60 ∧ V2.n ≤ 60 ∧ V3.n ≤ 60) (m1 : mayV V1 = 0) (m2 : mayV V2 = 0) (m3 : mayV V3 = 0) (o1 : okP V1.s (denV V1)) (x1 : exP V1.s (denV V1)) (x2 : exP V1.s (denV V2)) (x3 : exP V1.s (denV V3)) (es2 : V2.s = V1.s) (es3 : V3.s = V1.s) (hex : exV V1.s V1.x V2.x V3.x = true) : Calls Tryz.prog 4 #[v1, v2, v3] w fun e w' => e = .returned (.bool true) ∧ Below w.heap.size w w' := by
  have hsf := st_flo
  have HEnv : Hid (Env w) := henv
  clear henv
  have SM : Hid (V1.n ≤ 60 ∧ V2.n ≤ 60 ∧ V3.n ≤ 60) := hsm
  have SN : Hid (V1.n ≤ 60 ∧ V2.n ≤ 60 ∧ V3.n ≤ 60) := hsm
  clear hsm
  have M1 : Hid (mayV V1 = 0) := m1
  have M2 : Hid (mayV V2 = 0) := m2
  have M3 : Hid (mayV V3 = 0) := m3
  have F2 : Hid (V2.s = V1.s) := es2
  have F3 : Hid (V3.s = V1.s) := es3
  have EX : Hid (exV V1.s V1.x V2.x V3.x = true) := hex
  have SH1 : Hid (V1.s = 1 ∨ V1.s = 3 → Short 60 (denV V1)) := fun hs => den_short h1 SN.out.1 hs
  have SH2 : Hid (V1.s = 1 ∨ V1.s = 3 → Short 60 (denV V2)) := fun hs => den_short h2 SN.out.2.1 (es2 ▸ hs)
  have SH3 : Hid (V1.s = 1 ∨ V1.s = 3 → Short 60 (denV V3)) := fun hs => den_short h3 SN.out.2.2 (es3 ▸ hs)
  clear m1 m2 m3 hex
  have H1' := h1
  obtain ⟨a1, c1, rfl, hr1, hL1, hn1, hx1, hl1, hs1⟩ := h1
  have H2' := h2
  obtain ⟨a2, c2, rfl, hr2, hL2, hn2, hx2, hl2, hs2⟩ := h2
  rw [es2] at H2' ⊢
  have H3' := h3
  obtain ⟨a3, c3, rfl, hr3, hL3, hn3, hx3, hl3, hs3⟩ := h3
  rw [es3] at H3' ⊢
  obtain ⟨W0, hW0⟩ : ∃ W0, W0 = ((((w.alloc (.cells #[.int .i64 V1.s, .bool V1.i, .slice a1 V1.n c1, .int .i64 V1.l, .float .f64 V1.x] 27)).alloc (.cells #[.int .i64 V1.s, .bool V2.i, .slice a2 V2.n c2, .int .i64 V2.l, .float .f64 V2.x] 27)).alloc (.cells #[.int .i64 V1.s, .bool V3.i, .slice a3 V3.n c3, .int .i64 V3.l, .float .f64 V3.x] 27)).alloc (.cells #[.int .i64 V1.s, .bool V1.i, .slice a1 V1.n c1, .int .i64 V1.l, .float .f64 V1.x, .int .i64 V1.s, .bool V2.i, .slice a2 V2.n c2, .int .i64 V2.l, .float .f64 V2.x, .int .i64 V1.s, .bool V3.i, .slice a3 V3.n c3, .int .i64 V3.l, .float .f64 V3.x] 27)) := ⟨_, rfl⟩
  have HB0 : Hid (Below w.heap.size w W0) := by rw [hW0]; exact (below3 w _ _ _).alloc (below3 w _ _ _).size _
  have Hg1 : Hid (W0.heap[w.heap.size]? = some (.cells #[.int .i64 V1.s, .bool V1.i, .slice a1 V1.n c1, .int .i64 V1.l, .float .f64 V1.x] 27)) := by
    show W0.heap[w.heap.size]? = _
    rw [hW0]; exact heap_at4_0 w _ _ _ _
  have Hg2 : Hid (W0.heap[w.heap.size + 1]? = some (.cells #[.int .i64 V1.s, .bool V2.i, .slice a2 V2.n c2, .int .i64 V2.l, .float .f64 V2.x] 27)) := by
    show W0.heap[w.heap.size + 1]? = _
    rw [hW0]; exact heap_at4_1 w _ _ _ _
  have Hg3 : Hid (W0.heap[w.heap.size + 1 + 1]? = some (.cells #[.int .i64 V1.s, .bool V3.i, .slice a3 V3.n c3, .int .i64 V3.l, .float .f64 V3.x] 27)) := by
    show W0.heap[w.heap.size + 1 + 1]? = _
    rw [hW0]; exact heap_at4_2 w _ _ _ _
  have Hg4 : Hid (W0.heap[w.heap.size + 1 + 1 + 1]? = some (.cells #[.int .i64 V1.s, .bool V1.i, .slice a1 V1.n c1, .int .i64 V1.l, .float .f64 V1.x, .int .i64 V1.s, .bool V2.i, .slice a2 V2.n c2, .int .i64 V2.l, .float .f64 V2.x, .int .i64 V1.s, .bool V3.i, .slice a3 V3.n c3, .int .i64 V3.l, .float .f64 V3.x] 27)) := by
    show W0.heap[w.heap.size + 1 + 1 + 1]? = _
    rw [hW0]; exact heap_at4_3 w _ _ _ _
  have H1 : Hid (VIn W0 (.agg #[.int .i64 V1.s, .bool V1.i, .slice a1 V1.n c1, .int .i64 V1.l, .float .f64 V1.x]) V1) := H1'.below HB0.out
  have H2 : Hid (VIn W0 (.agg #[.int .i64 V1.s, .bool V2.i, .slice a2 V2.n c2, .int .i64 V2.l, .float .f64 V2.x]) V2) := H2'.below HB0.out
  have H3 : Hid (VIn W0 (.agg #[.int .i64 V1.s, .bool V3.i, .slice a3 V3.n c3, .int .i64 V3.l, .float .f64 V3.x]) V3) := H3'.below HB0.out
  have HW : Below W0.heap.size W0 W0 := below_refl W0
  clear hr1 hL1 hn1 hx1 hl1 hs1 H1' hr2 hL2 hn2 hx2 hl2 hs2 H2' hr3 hL3 hn3 hx3 hl3 hs3 H3'
  obtain ⟨p10, p11, p12, p13, p14⟩ := box5 Hg1.out HW
  obtain ⟨p20, p21, p22, p23, p24⟩ := box5 Hg2.out HW
  obtain ⟨p30, p31, p32, p33, p34⟩ := box5 Hg3.out HW
  have cS : Calls Tryz.prog 6 #[.slice (some ⟨w.heap.size + 1 + 1 + 1, 0, none⟩) 3 3] W0 fun e w' => e = .returned (.bool true) ∧ w' = W0 := by
    refine vsmall_any (w.heap.size + 1 + 1 + 1) 3 (fun j => if j = 0 then a1 else if j = 1 then a2 else a3) (fun j => if j = 0 then V1.n else if j = 1 then V2.n else V3.n) (fun j => if j = 0 then c1 else if j = 1 then c2 else c3) W0 (by decide) (by decide) true (fun j hj => ?_) (fun h => ?_) (fun j hj h => ?_)
    · rw [cell_of_row W0 _ _ _ _ _ Hg4.out]
      match j, hj with
      | 0, _ => rfl
      | 1, _ => rfl
      | 2, _ => rfl
    · rfl
    · exfalso
      revert h
      have := SM.out
      match j, hj with
      | 0, _ => exact fun h => absurd h (by show ¬ 60 < V1.n; omega)
      | 1, _ => exact fun h => absurd h (by show ¬ 60 < V2.n; omega)
      | 2, _ => exact fun h => absurd h (by show ¬ 60 < V3.n; omega)
  have I1 := H1
  have G1 := Hg1
  have I2 := H2
  have G2 := Hg2
  have I3 := H3
  have G3 := Hg3
  have HB := HB0
  clear HW H1 Hg1 p10 p11 p12 p13 p14 H2 Hg2 p20 p21 p22 p23 p24 H3 Hg3 p30 p31 p32 p33 p34 HB0 SM
  go_enter Tryz.func4, Tryz.ntmps4
  go_wp2_with (go_at_call 6; fail)
  rw [← hW0]
  refine cS.mono ?_
  rintro e w' ⟨rfl, hw⟩
  replace hw := hw.symm
  subst hw
  clear cS hW0 Hg4
  obtain ⟨p10, p11, p12, p13, p14⟩ := box5 G1.out (below_refl _)
  have l1 := blk_lt G1.out
  obtain ⟨p20, p21, p22, p23, p24⟩ := box5 G2.out (below_refl _)
  have l2 := blk_lt G2.out
  obtain ⟨p30, p31, p32, p33, p34⟩ := box5 G3.out (below_refl _)
  have l3 := blk_lt G3.out
  go_wp2_with (go_at_call 21; fail)
  refine (vmay_at _ _ V1 0 (by exact I1.out) M1.out).mono ?_
  rintro e w1 ⟨rfl, b⟩
  replace G1 : Hid (w1.heap[w.heap.size]? = _) := blk_below G1.out b
  replace I1 : Hid (VIn w1 _ _) := I1.out.below b
  replace G2 : Hid (w1.heap[w.heap.size + 1]? = _) := blk_below G2.out b
  replace I2 : Hid (VIn w1 _ _) := I2.out.below b
  replace G3 : Hid (w1.heap[w.heap.size + 1 + 1]? = _) := blk_below G3.out b
  replace I3 : Hid (VIn w1 _ _) := I3.out.below b
  replace HB : Hid (Below _ _ w1) := below_step HB.out b
  clear b
  clear p10 p11 p12 p13 p14 l1 p20 p21 p22 p23 p24 l2 p30 p31 p32 p33 p34 l3
  obtain ⟨p10, p11, p12, p13, p14⟩ := box5 G1.out (below_refl _)
  have l1 := blk_lt G1.out
  obtain ⟨p20, p21, p22, p23, p24⟩ := box5 G2.out (below_refl _)
  have l2 := blk_lt G2.out
  obtain ⟨p30, p31, p32, p33, p34⟩ := box5 G3.out (below_refl _)
  have l3 := blk_lt G3.out
  go_wp2_with (go_at_call 21; fail)
  refine (vmay_at _ _ V2 0 (by exact I2.out) M2.out).mono ?_
  rintro e w2 ⟨rfl, b⟩
  replace G1 : Hid (w2.heap[w.heap.size]? = _) := blk_below G1.out b
  replace I1 : Hid (VIn w2 _ _) := I1.out.below b
  replace G2 : Hid (w2.heap[w.heap.size + 1]? = _) := blk_below G2.out b
  replace I2 : Hid (VIn w2 _ _) := I2.out.below b
  replace G3 : Hid (w2.heap[w.heap.size + 1 + 1]? = _) := blk_below G3.out b
  replace I3 : Hid (VIn w2 _ _) := I3.out.below b
  replace HB : Hid (Below _ _ w2) := below_step HB.out b
  clear b
  clear p10 p11 p12 p13 p14 l1 p20 p21 p22 p23 p24 l2 p30 p31 p32 p33 p34 l3
  obtain ⟨p10, p11, p12, p13, p14⟩ := box5 G1.out (below_refl _)
  have l1 := blk_lt G1.out
  obtain ⟨p20, p21, p22, p23, p24⟩ := box5 G2.out (below_refl _)
  have l2 := blk_lt G2.out
  obtain ⟨p30, p31, p32, p33, p34⟩ := box5 G3.out (below_refl _)
  have l3 := blk_lt G3.out
  go_wp2_with (go_at_call 21; fail)
  refine (vmay_at _ _ V3 0 (by exact I3.out) M3.out).mono ?_
  rintro e w3 ⟨rfl, b⟩
  replace G1 : Hid (w3.heap[w.heap.size]? = _) := blk_below G1.out b
  replace I1 : Hid (VIn w3 _ _) := I1.out.below b
  replace G2 : Hid (w3.heap[w.heap.size + 1]? = _) := blk_below G2.out b
  replace I2 : Hid (VIn w3 _ _) := I2.out.below b
  replace G3 : Hid (w3.heap[w.heap.size + 1 + 1]? = _) := blk_below G3.out b
  replace I3 : Hid (VIn w3 _ _) := I3.out.below b
  replace HB : Hid (Below _ _ w3) := below_step HB.out b
  clear b
  clear p10 p11 p12 p13 p14 l1 p20 p21 p22 p23 p24 l2 p30 p31 p32 p33 p34 l3
  obtain ⟨p10, p11, p12, p13, p14⟩ := box5 G1.out (below_refl _)
  have l1 := blk_lt G1.out
  obtain ⟨p20, p21, p22, p23, p24⟩ := box5 G2.out (below_refl _)
  have l2 := blk_lt G2.out
  obtain ⟨p30, p31, p32, p33, p34⟩ := box5 G3.out (below_refl _)
  have l3 := blk_lt G3.out
  go_wp2_with (go_at_call 22; fail)
  refine (rmv_at _ _ V1 0 (by exact I1.out) M1.out).mono ?_
  rintro e w4 ⟨rfl, b⟩
  replace G1 : Hid (w4.heap[w.heap.size]? = _) := blk_below G1.out b
  replace I1 : Hid (VIn w4 _ _) := I1.out.below b
  replace G2 : Hid (w4.heap[w.heap.size + 1]? = _) := blk_below G2.out b
  replace I2 : Hid (VIn w4 _ _) := I2.out.below b
  replace G3 : Hid (w4.heap[w.heap.size + 1 + 1]? = _) := blk_below G3.out b
  replace I3 : Hid (VIn w4 _ _) := I3.out.below b
  replace HB : Hid (Below _ _ w4) := below_step HB.out b
  clear b
  clear p10 p11 p12 p13 p14 l1 p20 p21 p22 p23 p24 l2 p30 p31 p32 p33 p34 l3
  obtain ⟨p10, p11, p12, p13, p14⟩ := box5 G1.out (below_refl _)
  have l1 := blk_lt G1.out
  obtain ⟨p20, p21, p22, p23, p24⟩ := box5 G2.out (below_refl _)
  have l2 := blk_lt G2.out
  obtain ⟨p30, p31, p32, p33, p34⟩ := box5 G3.out (below_refl _)
  have l3 := blk_lt G3.out
  go_wp2_with (go_at_call 22; fail)
  refine (rmv_at _ _ V2 0 (by exact I2.out) M2.out).mono ?_
  rintro e w5 ⟨rfl, b⟩
  replace G1 : Hid (w5.heap[w.heap.size]? = _) := blk_below G1.out b
  replace I1 : Hid (VIn w5 _ _) := I1.out.below b
  replace G2 : Hid (w5.heap[w.heap.size + 1]? = _) := blk_below G2.out b
  replace I2 : Hid (VIn w5 _ _) := I2.out.below b
  replace G3 : Hid (w5.heap[w.heap.size + 1 + 1]? = _) := blk_below G3.out b
  replace I3 : Hid (VIn w5 _ _) := I3.out.below b
  replace HB : Hid (Below _ _ w5) := below_step HB.out b
  clear b
  clear p10 p11 p12 p13 p14 l1 p20 p21 p22 p23 p24 l2 p30 p31 p32 p33 p34 l3
  obtain ⟨p10, p11, p12, p13, p14⟩ := box5 G1.out (below_refl _)
  have l1 := blk_lt G1.out
  obtain ⟨p20, p21, p22, p23, p24⟩ := box5 G2.out (below_refl _)
  have l2 := blk_lt G2.out
  obtain ⟨p30, p31, p32, p33, p34⟩ := box5 G3.out (below_refl _)
  have l3 := blk_lt G3.out
  go_wp2_with (go_at_call 22; fail)
  refine (rmv_at _ _ V3 0 (by exact I3.out) M3.out).mono ?_
  rintro e w6 ⟨rfl, b⟩
  replace G1 : Hid (w6.heap[w.heap.size]? = _) := blk_below G1.out b
  replace I1 : Hid (VIn w6 _ _) := I1.out.below b
  replace G2 : Hid (w6.heap[w.heap.size + 1]? = _) := blk_below G2.out b
  replace I2 : Hid (VIn w6 _ _) := I2.out.below b
  replace G3 : Hid (w6.heap[w.heap.size + 1 + 1]? = _) := blk_below G3.out b
  replace I3 : Hid (VIn w6 _ _) := I3.out.below b
  replace HB : Hid (Below _ _ w6) := below_step HB.out b
  clear b
  clear p10 p11 p12 p13 p14 l1 p20 p21 p22 p23 p24 l2 p30 p31 p32 p33 p34 l3
  obtain ⟨p10, p11, p12, p13, p14⟩ := box5 G1.out (below_refl _)
  have l1 := blk_lt G1.out
  obtain ⟨p20, p21, p22, p23, p24⟩ := box5 G2.out (below_refl _)
  have l2 := blk_lt G2.out
  obtain ⟨p30, p31, p32, p33, p34⟩ := box5 G3.out (below_refl _)
  have l3 := blk_lt G3.out
  go_wp2_with (go_at_call 27; fail)
  refine (exact_at _ _ _ _ V1 V2 V3 true (by exact I1.out) (by exact I2.out) (by exact I3.out) M1.out M2.out M3.out F2.out F3.out EX.out).mono ?_
  rintro e w7 ⟨rfl, b⟩
  replace G1 : Hid (w7.heap[w.heap.size]? = _) := blk_below G1.out b
  replace I1 : Hid (VIn w7 _ _) := I1.out.below b
  replace G2 : Hid (w7.heap[w.heap.size + 1]? = _) := blk_below G2.out b
  replace I2 : Hid (VIn w7 _ _) := I2.out.below b
  replace G3 : Hid (w7.heap[w.heap.size + 1 + 1]? = _) := blk_below G3.out b
  replace I3 : Hid (VIn w7 _ _) := I3.out.below b
  replace HB : Hid (Below _ _ w7) := below_step HB.out b
  clear b
  clear p10 p11 p12 p13 p14 l1 p20 p21 p22 p23 p24 l2 p30 p31 p32 p33 p34 l3
  obtain ⟨p10, p11, p12, p13, p14⟩ := box5 G1.out (below_refl _)
  have l1 := blk_lt G1.out
  obtain ⟨p20, p21, p22, p23, p24⟩ := box5 G2.out (below_refl _)
  have l2 := blk_lt G2.out
  obtain ⟨p30, p31, p32, p33, p34⟩ := box5 G3.out (below_refl _)
  have l3 := blk_lt G3.out
  have O1 : Hid (okP V1.s (denV V1)) := o1
  have X1 : Hid (exP V1.s (denV V1)) := x1
  have X2 : Hid (exP V1.s (denV V2)) := x2
  have X3 : Hid (exP V1.s (denV V3)) := x3
  clear o1 x1 x2 x3
  go_wp2_with (go_at_call 8; fail)
  refine (vzero_any V1.s _ (may_sem M1.out)).mono ?_
  rintro e w8 ⟨⟨u, rfl, o⟩, b⟩
  replace G1 : Hid (w8.heap[w.heap.size]? = _) := blk_below G1.out b
  replace I1 : Hid (VIn w8 _ _) := I1.out.below b
  replace G2 : Hid (w8.heap[w.heap.size + 1]? = _) := blk_below G2.out b
  replace I2 : Hid (VIn w8 _ _) := I2.out.below b
  replace G3 : Hid (w8.heap[w.heap.size + 1 + 1]? = _) := blk_below G3.out b
  replace I3 : Hid (VIn w8 _ _) := I3.out.below b
  replace HB : Hid (Below _ _ w8) := below_step HB.out b
  obtain ⟨V4, i4, m4, e4, d4⟩ := o.ok (fun hs => pzero_short _ hs)
  have I4 : Hid (VIn w8 _ _) := i4
  obtain ⟨a4, c4, rfl, -⟩ := i4
  have M4 : Hid (mayV V4 = 0) := m4
  have E4 : Hid (V4.s = _) := e4
  have D4 : Hid (denV V4 = _) := d4
  clear m4 e4 d4 o
  clear b
  rw [E4.out] at I4 ⊢
  clear p10 p11 p12 p13 p14 l1 p20 p21 p22 p23 p24 l2 p30 p31 p32 p33 p34 l3
  obtain ⟨p10, p11, p12, p13, p14⟩ := box5 G1.out (below_refl _)
  have l1 := blk_lt G1.out
  obtain ⟨p20, p21, p22, p23, p24⟩ := box5 G2.out (below_refl _)
  have l2 := blk_lt G2.out
  obtain ⟨p30, p31, p32, p33, p34⟩ := box5 G3.out (below_refl _)
  have l3 := blk_lt G3.out
  go_wp2_with (go_at_call 10; fail)
  obtain ⟨W8, hW⟩ : ∃ W8, W8 = w8.alloc (.cells #[.int .i64 V1.s, .bool V4.i, .slice a4 V4.n c4, .int .i64 V4.l, .float .f64 V4.x] 27) := ⟨_, rfl⟩
  rw [← hW]
  have hb : Below w8.heap.size w8 W8 := by rw [hW]; exact below1 _ _
  replace G1 : Hid (W8.heap[w.heap.size]? = _) := blk_below G1.out hb
  replace I1 : Hid (VIn W8 _ _) := I1.out.below hb
  replace G2 : Hid (W8.heap[w.heap.size + 1]? = _) := blk_below G2.out hb
  replace I2 : Hid (VIn W8 _ _) := I2.out.below hb
  replace G3 : Hid (W8.heap[w.heap.size + 1 + 1]? = _) := blk_below G3.out hb
  replace I3 : Hid (VIn W8 _ _) := I3.out.below hb
  replace HB : Hid (Below _ _ W8) := below_step HB.out hb
  have G4 : Hid (W8.heap[w8.heap.size]? = some (.cells #[.int .i64 V1.s, .bool V4.i, .slice a4 V4.n c4, .int .i64 V4.l, .float .f64 V4.x] 27)) := by show W8.heap[w8.heap.size]? = _; rw [hW]; exact heap_alloc_new _ _
  replace I4 : Hid (VIn W8 _ _) := I4.out.below hb
  clear hb hW
  refine (vone_any V1.s _ (may_sem M1.out)).mono ?_
  rintro e w9 ⟨⟨u, rfl, o⟩, b⟩
  replace G1 : Hid (w9.heap[w.heap.size]? = _) := blk_below G1.out b
  replace I1 : Hid (VIn w9 _ _) := I1.out.below b
  replace G2 : Hid (w9.heap[w.heap.size + 1]? = _) := blk_below G2.out b
  replace I2 : Hid (VIn w9 _ _) := I2.out.below b
  replace G3 : Hid (w9.heap[w.heap.size + 1 + 1]? = _) := blk_below G3.out b
  replace I3 : Hid (VIn w9 _ _) := I3.out.below b
  replace G4 : Hid (w9.heap[w8.heap.size]? = _) := blk_below G4.out b
  replace I4 : Hid (VIn w9 _ _) := I4.out.below b
  replace HB : Hid (Below _ _ w9) := below_step HB.out b
  obtain ⟨V5, i5, m5, e5, d5⟩ := o.ok (fun hs => pone_short _ hs)
  have I5 : Hid (VIn w9 _ _) := i5
  obtain ⟨a5, c5, rfl, -⟩ := i5
  have M5 : Hid (mayV V5 = 0) := m5
  have E5 : Hid (V5.s = _) := e5
  have D5 : Hid (denV V5 = _) := d5
  clear m5 e5 d5 o
  clear b
  rw [E5.out] at I5 ⊢
  clear p10 p11 p12 p13 p14 l1 p20 p21 p22 p23 p24 l2 p30 p31 p32 p33 p34 l3
  obtain ⟨p10, p11, p12, p13, p14⟩ := box5 G1.out (below_refl _)
  have l1 := blk_lt G1.out
  obtain ⟨p20, p21, p22, p23, p24⟩ := box5 G2.out (below_refl _)
  have l2 := blk_lt G2.out
  obtain ⟨p30, p31, p32, p33, p34⟩ := box5 G3.out (below_refl _)
  have l3 := blk_lt G3.out
  obtain ⟨p40, p41, p42, p43, p44⟩ := box5 G4.out (below_refl _)
  have l4 := blk_lt G4.out
  go_upto_region 12 with fail
  obtain ⟨W9, hW⟩ : ∃ W9, W9 = w9.alloc (.cells #[.int .i64 V1.s, .bool V5.i, .slice a5 V5.n c5, .int .i64 V5.l, .float .f64 V5.x] 27) := ⟨_, rfl⟩
  rw [← hW]
  have hb : Below w9.heap.size w9 W9 := by rw [hW]; exact below1 _ _
  replace G1 : Hid (W9.heap[w.heap.size]? = _) := blk_below G1.out hb
  replace I1 : Hid (VIn W9 _ _) := I1.out.below hb
  replace G2 : Hid (W9.heap[w.heap.size + 1]? = _) := blk_below G2.out hb
  replace I2 : Hid (VIn W9 _ _) := I2.out.below hb
  replace G3 : Hid (W9.heap[w.heap.size + 1 + 1]? = _) := blk_below G3.out hb
  replace I3 : Hid (VIn W9 _ _) := I3.out.below hb
  replace G4 : Hid (W9.heap[w8.heap.size]? = _) := blk_below G4.out hb
  replace I4 : Hid (VIn W9 _ _) := I4.out.below hb
  replace HB : Hid (Below _ _ W9) := below_step HB.out hb
  have G5 : Hid (W9.heap[w9.heap.size]? = some (.cells #[.int .i64 V1.s, .bool V5.i, .slice a5 V5.n c5, .int .i64 V5.l, .float .f64 V5.x] 27)) := by show W9.heap[w9.heap.size]? = _; rw [hW]; exact heap_alloc_new _ _
  replace I5 : Hid (VIn W9 _ _) := I5.out.below hb
  clear hb hW
  clear p10 p11 p12 p13 p14 l1 p20 p21 p22 p23 p24 l2 p30 p31 p32 p33 p34 l3 p40 p41 p42 p43 p44 l4
  obtain ⟨p10, p11, p12, p13, p14⟩ := box5 G1.out (below_refl _)
  have l1 := blk_lt G1.out
  obtain ⟨p20, p21, p22, p23, p24⟩ := box5 G2.out (below_refl _)
  have l2 := blk_lt G2.out
  obtain ⟨p30, p31, p32, p33, p34⟩ := box5 G3.out (below_refl _)
  have l3 := blk_lt G3.out
  obtain ⟨p40, p41, p42, p43, p44⟩ := box5 G4.out (below_refl _)
  have l4 := blk_lt G4.out
  obtain ⟨p50, p51, p52, p53, p54⟩ := box5 G5.out (below_refl _)
  have l5 := blk_lt G5.out
  have Ka : Hid (VOk W9 (.agg #[.int .i64 V1.s, .bool V1.i, .slice a1 V1.n c1, .int .i64 V1.l, .float .f64 V1.x]) V1.s (denV V1)) := ⟨V1, by exact I1.out, M1.out, rfl, rfl⟩
  have Kb : Hid (VOk W9 (.agg #[.int .i64 V1.s, .bool V2.i, .slice a2 V2.n c2, .int .i64 V2.l, .float .f64 V2.x]) V1.s (denV V2)) := ⟨V2, by exact I2.out, M2.out, F2.out, rfl⟩
  have Kc : Hid (VOk W9 (.agg #[.int .i64 V1.s, .bool V3.i, .slice a3 V3.n c3, .int .i64 V3.l, .float .f64 V3.x]) V1.s (denV V3)) := ⟨V3, by exact I3.out, M3.out, F3.out, rfl⟩
  have Kz : Hid (VOk W9 (.agg #[.int .i64 V1.s, .bool V4.i, .slice a4 V4.n c4, .int .i64 V4.l, .float .f64 V4.x]) V1.s (pzero V1.s)) := ⟨V4, by exact I4.out, M4.out, E4.out, D4.out⟩
  have Ko : Hid (VOk W9 (.agg #[.int .i64 V1.s, .bool V5.i, .slice a5 V5.n c5, .int .i64 V5.l, .float .f64 V5.x]) V1.s (pone V1.s)) := ⟨V5, by exact I5.out, M5.out, E5.out, D5.out⟩
  clear I1 I2 I3 I4 I5 E4 E5 D4 D5 l1 l2 l3 l4 l5
  have HW : Below W9.heap.size W9 W9 := below_refl _
  refine wp_region_held_drew (S := (fun w' => w'.cell? ⟨w.heap.size, 0, none⟩ = some (.int .i64 V1.s) ∧ w'.cell? ⟨w.heap.size, 1, none⟩ = some (.bool V1.i) ∧ w'.cell? ⟨w.heap.size, 2, none⟩ = some (.slice a1 V1.n c1) ∧ w'.cell? ⟨w.heap.size, 3, none⟩ = some (.int .i64 V1.l) ∧ w'.cell? ⟨w.heap.size, 4, none⟩ = some (.float .f64 V1.x) ∧ w'.cell? ⟨w.heap.size + 1, 0, none⟩ = some (.int .i64 V1.s) ∧ w'.cell? ⟨w.heap.size + 1, 1, none⟩ = some (.bool V2.i) ∧ w'.cell? ⟨w.heap.size + 1, 2, none⟩ = some (.slice a2 V2.n c2) ∧ w'.cell? ⟨w.heap.size + 1, 3, none⟩ = some (.int .i64 V2.l) ∧ w'.cell? ⟨w.heap.size + 1, 4, none⟩ = some (.float .f64 V2.x) ∧ w'.cell? ⟨w.heap.size + 1 + 1, 0, none⟩ = some (.int .i64 V1.s) ∧ w'.cell? ⟨w.heap.size + 1 + 1, 1, none⟩ = some (.bool V3.i) ∧ w'.cell? ⟨w.heap.size + 1 + 1, 2, none⟩ = some (.slice a3 V3.n c3) ∧ w'.cell? ⟨w.heap.size + 1 + 1, 3, none⟩ = some (.int .i64 V3.l) ∧ w'.cell? ⟨w.heap.size + 1 + 1, 4, none⟩ = some (.float .f64 V3.x) ∧ w'.cell? ⟨w8.heap.size, 0, none⟩ = some (.int .i64 V1.s) ∧ w'.cell? ⟨w8.heap.size, 1, none⟩ = some (.bool V4.i) ∧ w'.cell? ⟨w8.heap.size, 2, none⟩ = some (.slice a4 V4.n c4) ∧ w'.cell? ⟨w8.heap.size, 3, none⟩ = some (.int .i64 V4.l) ∧ w'.cell? ⟨w8.heap.size, 4, none⟩ = some (.float .f64 V4.x) ∧ w'.cell? ⟨w9.heap.size, 0, none⟩ = some (.int .i64 V1.s) ∧ w'.cell? ⟨w9.heap.size, 1, none⟩ = some (.bool V5.i) ∧ w'.cell? ⟨w9.heap.size, 2, none⟩ = some (.slice a5 V5.n c5) ∧ w'.cell? ⟨w9.heap.size, 3, none⟩ = some (.int .i64 V5.l) ∧ w'.cell? ⟨w9.heap.size, 4, none⟩ = some (.float .f64 V5.x))) (by kernel_rfl) ?_ (fun hHeld => ?_)
  · (try dsimp only); first | exact ⟨p10, p11, p12, p13, p14, p20, p21, p22, p23, p24, p30, p31, p32, p33, p34, p40, p41, p42, p43, p44, p50, p51, p52, p53, p54⟩ | go_keep
  refine wpAnyH_take (i := 0) (oi := { dst := some 82, op := Op.move (Operand.tmp 13), type := 43, pos := "law.go:97", after := #[], guard := none }) (v := ?vu1) rfl (by kernel_rfl) (by kernel_rfl) (by kernel_rfl) (fun _ _ _ h => h) (Or.inl ⟨by rfl, ?hyu1⟩) (by assumption) ?restu1
  case hyu1 => (intro w hSw; (try dsimp only at hSw); go_simp; (try with_reducible rfl))
  try simp only [Act.put, List.setIfInBounds_toArray, List.set_cons_zero, List.set_cons_succ]
  refine wpAnyH_take (i := 1) (oi := { dst := some 83, op := Op.move (Operand.tmp 7), type := 49, pos := "law.go:97", after := #[], guard := none }) (v := ?vu2) rfl (by kernel_rfl) (by kernel_rfl) (by kernel_rfl) (fun _ _ _ h => h) (Or.inl ⟨by rfl, ?hyu2⟩) (by assumption) ?restu2
  case hyu2 => (intro w hSw; (try dsimp only at hSw); go_simp; (try with_reducible rfl))
  try simp only [Act.put, List.setIfInBounds_toArray, List.set_cons_zero, List.set_cons_succ]
  refine wpAnyH_take (i := 2) (oi := { dst := some 84, op := Op.load 27 (Operand.tmp 3), type := 27, pos := "law.go:97", after := #[], guard := none }) (v := ?vu3) rfl (by kernel_rfl) (by kernel_rfl) (by kernel_rfl) (fun _ _ _ h => h) (Or.inl ⟨by rfl, ?hyu3⟩) (by assumption) ?restu3
  case hyu3 => (intro w hSw; (try dsimp only at hSw); go_simp; (try with_reducible rfl))
  try simp only [Act.put, List.setIfInBounds_toArray, List.set_cons_zero, List.set_cons_succ]
  refine wpAnyH_take (i := 3) (oi := { dst := some 85, op := Op.load 27 (Operand.tmp 4), type := 27, pos := "law.go:97", after := #[], guard := none }) (v := ?vu4) rfl (by kernel_rfl) (by kernel_rfl) (by kernel_rfl) (fun _ _ _ h => h) (Or.inl ⟨by rfl, ?hyu4⟩) (by assumption) ?restu4
  case hyu4 => (intro w hSw; (try dsimp only at hSw); go_simp; (try with_reducible rfl))
  try simp only [Act.put, List.setIfInBounds_toArray, List.set_cons_zero, List.set_cons_succ]
  refine wpAnyH_take (i := 5) (oi := { dst := some 87, op := Op.move (Operand.tmp 7), type := 49, pos := "law.go:97", after := #[], guard := none }) (v := ?vu5) rfl (by kernel_rfl) (by kernel_rfl) (by kernel_rfl) (fun _ _ _ h => h) (Or.inl ⟨by rfl, ?hyu5⟩) (by assumption) ?restu5
  case hyu5 => (intro w hSw; (try dsimp only at hSw); go_simp; (try with_reducible rfl))
  try simp only [Act.put, List.setIfInBounds_toArray, List.set_cons_zero, List.set_cons_succ]
  refine wpAnyH_take (i := 6) (oi := { dst := some 88, op := Op.load 27 (Operand.tmp 4), type := 27, pos := "law.go:97", after := #[], guard := none }) (v := ?vu6) rfl (by kernel_rfl) (by kernel_rfl) (by kernel_rfl) (fun _ _ _ h => h) (Or.inl ⟨by rfl, ?hyu6⟩) (by assumption) ?restu6
  case hyu6 => (intro w hSw; (try dsimp only at hSw); go_simp; (try with_reducible rfl))
  try simp only [Act.put, List.setIfInBounds_toArray, List.set_cons_zero, List.set_cons_succ]
  refine wpAnyH_take (i := 7) (oi := { dst := some 89, op := Op.load 27 (Operand.tmp 3), type := 27, pos := "law.go:97", after := #[], guard := none }) (v := ?vu7) rfl (by kernel_rfl) (by kernel_rfl) (by kernel_rfl) (fun _ _ _ h => h) (Or.inl ⟨by rfl, ?hyu7⟩) (by assumption) ?restu7
  case hyu7 => (intro w hSw; (try dsimp only at hSw); go_simp; (try with_reducible rfl))
  try simp only [Act.put, List.setIfInBounds_toArray, List.set_cons_zero, List.set_cons_succ]
  refine wpAnyH_ready (rs := [4]) (by kernel_rfl) (by simp) ?_
  refine AllReadyH.cons (o := { dst := some 86, op := Op.call { callee := Callee.value (Operand.tmp 83), args := #[Operand.tmp 84, Operand.tmp 85], argTypes := #[27, 27] }, type := 27, pos := "law.go:97", after := #[{ on := 1, ground := Ground.data }, { on := 2, ground := Ground.data }, { on := 3, ground := Ground.data }], guard := none }) rfl (fun K hK => ?_) AllReadyH.nil
  go_simp
  go_at_call 28
  refine (cplus_at _ _ _ V1.s (denV V1) (denV V2) (by exact Ka.out.below (by first | exact HW | exact HW.drew)) (by exact Kb.out.below (by first | exact HW | exact HW.drew)) (fun hs => (padd_short (k := 60) hs ((SH1.out hs).le (by decide)) ((SH2.out hs).le (by decide))).le (by decide))).mono ?_
  rintro e zz0 ⟨⟨u0, rfl, o⟩, b⟩
  replace HW := below_step (by first | exact HW | exact HW.drew) b
  have KP0 : Hid (VOk _ _ _ _) := o
  have HWP0 : Hid (Below _ _ _) := below_refl zz0
  clear o
  clear b
  clear p10 p11 p12 p13 p14 p20 p21 p22 p23 p24 p30 p31 p32 p33 p34 p40 p41 p42 p43 p44 p50 p51 p52 p53 p54
  obtain ⟨p10, p11, p12, p13, p14⟩ := box5 G1.out HW
  obtain ⟨p20, p21, p22, p23, p24⟩ := box5 G2.out HW
  obtain ⟨p30, p31, p32, p33, p34⟩ := box5 G3.out HW
  obtain ⟨p40, p41, p42, p43, p44⟩ := box5 G4.out HW
  obtain ⟨p50, p51, p52, p53, p54⟩ := box5 G5.out HW
  refine hK.out _ _ ?_ (fun hHeldB => ?_)
  · (try dsimp only); first | exact ⟨p10, p11, p12, p13, p14, p20, p21, p22, p23, p24, p30, p31, p32, p33, p34, p40, p41, p42, p43, p44, p50, p51, p52, p53, p54⟩ | go_keep
  clear hK K hHeld
  have hHeld := hHeldB
  clear hHeldB
  try simp only [Act.put, List.setIfInBounds_toArray, List.set_cons_zero, List.set_cons_succ]
  refine wpAnyH_ready (rs := [8]) (by kernel_rfl) (by simp) ?_
  refine AllReadyH.cons (o := { dst := some 90, op := Op.call { callee := Callee.value (Operand.tmp 87), args := #[Operand.tmp 88, Operand.tmp 89], argTypes := #[27, 27] }, type := 27, pos := "law.go:97", after := #[{ on := 5, ground := Ground.data }, { on := 6, ground := Ground.data }, { on := 7, ground := Ground.data }, { on := 4, ground := Ground.chain }], guard := none }) rfl (fun K hK => ?_) AllReadyH.nil
  go_simp
  go_at_call 28
  refine (cplus_at _ _ _ V1.s (denV V2) (denV V1) (by exact Kb.out.below (by first | exact HW | exact HW.drew)) (by exact Ka.out.below (by first | exact HW | exact HW.drew)) (fun hs => (padd_short (k := 60) hs ((SH2.out hs).le (by decide)) ((SH1.out hs).le (by decide))).le (by decide))).mono ?_
  rintro e zz1 ⟨⟨u1, rfl, o⟩, b⟩
  replace HW := below_step (by first | exact HW | exact HW.drew) b
  replace HWP0 : Hid (Below _ _ _) := below_step (by first | exact HWP0.out | exact HWP0.out.drew) b
  have KP1 : Hid (VOk _ _ _ _) := o
  have HWP1 : Hid (Below _ _ _) := below_refl zz1
  clear o
  clear b
  clear p10 p11 p12 p13 p14 p20 p21 p22 p23 p24 p30 p31 p32 p33 p34 p40 p41 p42 p43 p44 p50 p51 p52 p53 p54
  obtain ⟨p10, p11, p12, p13, p14⟩ := box5 G1.out HW
  obtain ⟨p20, p21, p22, p23, p24⟩ := box5 G2.out HW
  obtain ⟨p30, p31, p32, p33, p34⟩ := box5 G3.out HW
  obtain ⟨p40, p41, p42, p43, p44⟩ := box5 G4.out HW
  obtain ⟨p50, p51, p52, p53, p54⟩ := box5 G5.out HW
  refine hK.out _ _ ?_ (fun hHeldB => ?_)
  · (try dsimp only); first | exact ⟨p10, p11, p12, p13, p14, p20, p21, p22, p23, p24, p30, p31, p32, p33, p34, p40, p41, p42, p43, p44, p50, p51, p52, p53, p54⟩ | go_keep
  clear hK K hHeld
  have hHeld := hHeldB
  clear hHeldB
  try simp only [Act.put, List.setIfInBounds_toArray, List.set_cons_zero, List.set_cons_succ]
  refine wpAnyH_ready (rs := [9]) (by kernel_rfl) (by simp) ?_
  refine AllReadyH.cons (o := { dst := some 91, op := Op.call { callee := Callee.value (Operand.tmp 82), args := #[Operand.tmp 86, Operand.tmp 90], argTypes := #[27, 27] }, type := 4, pos := "law.go:97", after := #[{ on := 0, ground := Ground.data }, { on := 4, ground := Ground.data }, { on := 8, ground := Ground.data }, { on := 8, ground := Ground.chain }], guard := none }) rfl (fun K hK => ?_) AllReadyH.nil
  go_simp
  go_at_call 23
  refine (same_of _ _ _ V1.s (padd V1.s (denV V1) (denV V2)) (padd V1.s (denV V2) (denV V1)) (by exact KP0.out.below (by first | exact HWP0.out | exact HWP0.out.drew)) (by exact KP1.out.below (by first | exact HWP1.out | exact HWP1.out.drew)) (padd_comm _ _ _)).mono ?_
  rintro e zz2 ⟨rfl, b⟩
  replace HW := below_step (by first | exact HW | exact HW.drew) b
  clear KP0 HWP0
  clear KP1 HWP1
  clear b
  clear p10 p11 p12 p13 p14 p20 p21 p22 p23 p24 p30 p31 p32 p33 p34 p40 p41 p42 p43 p44 p50 p51 p52 p53 p54
  obtain ⟨p10, p11, p12, p13, p14⟩ := box5 G1.out HW
  obtain ⟨p20, p21, p22, p23, p24⟩ := box5 G2.out HW
  obtain ⟨p30, p31, p32, p33, p34⟩ := box5 G3.out HW
  obtain ⟨p40, p41, p42, p43, p44⟩ := box5 G4.out HW
  obtain ⟨p50, p51, p52, p53, p54⟩ := box5 G5.out HW
  refine hK.out _ _ ?_ (fun hHeldB => ?_)
  · (try dsimp only); first | exact ⟨p10, p11, p12, p13, p14, p20, p21, p22, p23, p24, p30, p31, p32, p33, p34, p40, p41, p42, p43, p44, p50, p51, p52, p53, p54⟩ | go_keep
  clear hK K hHeld
  have hHeld := hHeldB
  clear hHeldB
  try simp only [Act.put, List.setIfInBounds_toArray, List.set_cons_zero, List.set_cons_succ]
  refine wpAnyH_take (i := 10) (oi := { dst := some 92, op := Op.move (Operand.tmp 91), type := 4, pos := "law.go:97", after := #[{ on := 9, ground := Ground.data }, { on := 9, ground := Ground.chain }], guard := none }) (v := ?vu8) rfl (by kernel_rfl) (by kernel_rfl) (by kernel_rfl) (fun _ _ _ h => h) (Or.inl ⟨by rfl, ?hyu8⟩) (by assumption) ?restu8
  case hyu8 => (intro w hSw; (try dsimp only at hSw); go_simp; (try with_reducible rfl))
  try simp only [Act.put, List.setIfInBounds_toArray, List.set_cons_zero, List.set_cons_succ]
  refine wpAnyH_take (i := 11) (oi := { dst := some 93, op := Op.move (Operand.tmp 13), type := 43, pos := "law.go:97", after := #[{ on := 10, ground := Ground.guard }], guard := some (10, true) }) (v := ?vu9) rfl (by kernel_rfl) (by kernel_rfl) (by kernel_rfl) (fun _ _ _ h => h) (Or.inl ⟨by rfl, ?hyu9⟩) (by assumption) ?restu9
  case hyu9 => (intro w hSw; (try dsimp only at hSw); go_simp; (try with_reducible rfl))
  try simp only [Act.put, List.setIfInBounds_toArray, List.set_cons_zero, List.set_cons_succ]
  refine wpAnyH_take (i := 12) (oi := { dst := some 94, op := Op.move (Operand.tmp 8), type := 49, pos := "law.go:97", after := #[{ on := 10, ground := Ground.guard }], guard := some (10, true) }) (v := ?vu10) rfl (by kernel_rfl) (by kernel_rfl) (by kernel_rfl) (fun _ _ _ h => h) (Or.inl ⟨by rfl, ?hyu10⟩) (by assumption) ?restu10
  case hyu10 => (intro w hSw; (try dsimp only at hSw); go_simp; (try with_reducible rfl))
  try simp only [Act.put, List.setIfInBounds_toArray, List.set_cons_zero, List.set_cons_succ]
  refine wpAnyH_take (i := 13) (oi := { dst := some 95, op := Op.load 27 (Operand.tmp 3), type := 27, pos := "law.go:97", after := #[{ on := 10, ground := Ground.guard }], guard := some (10, true) }) (v := ?vu11) rfl (by kernel_rfl) (by kernel_rfl) (by kernel_rfl) (fun _ _ _ h => h) (Or.inl ⟨by rfl, ?hyu11⟩) (by assumption) ?restu11
  case hyu11 => (intro w hSw; (try dsimp only at hSw); go_simp; (try with_reducible rfl))
  try simp only [Act.put, List.setIfInBounds_toArray, List.set_cons_zero, List.set_cons_succ]
  refine wpAnyH_take (i := 14) (oi := { dst := some 96, op := Op.load 27 (Operand.tmp 4), type := 27, pos := "law.go:97", after := #[{ on := 10, ground := Ground.guard }], guard := some (10, true) }) (v := ?vu12) rfl (by kernel_rfl) (by kernel_rfl) (by kernel_rfl) (fun _ _ _ h => h) (Or.inl ⟨by rfl, ?hyu12⟩) (by assumption) ?restu12
  case hyu12 => (intro w hSw; (try dsimp only at hSw); go_simp; (try with_reducible rfl))
  try simp only [Act.put, List.setIfInBounds_toArray, List.set_cons_zero, List.set_cons_succ]
  refine wpAnyH_take (i := 16) (oi := { dst := some 98, op := Op.move (Operand.tmp 8), type := 49, pos := "law.go:97", after := #[{ on := 10, ground := Ground.guard }], guard := some (10, true) }) (v := ?vu13) rfl (by kernel_rfl) (by kernel_rfl) (by kernel_rfl) (fun _ _ _ h => h) (Or.inl ⟨by rfl, ?hyu13⟩) (by assumption) ?restu13
  case hyu13 => (intro w hSw; (try dsimp only at hSw); go_simp; (try with_reducible rfl))
  try simp only [Act.put, List.setIfInBounds_toArray, List.set_cons_zero, List.set_cons_succ]
  refine wpAnyH_take (i := 17) (oi := { dst := some 99, op := Op.load 27 (Operand.tmp 4), type := 27, pos := "law.go:97", after := #[{ on := 10, ground := Ground.guard }], guard := some (10, true) }) (v := ?vu14) rfl (by kernel_rfl) (by kernel_rfl) (by kernel_rfl) (fun _ _ _ h => h) (Or.inl ⟨by rfl, ?hyu14⟩) (by assumption) ?restu14
  case hyu14 => (intro w hSw; (try dsimp only at hSw); go_simp; (try with_reducible rfl))
  try simp only [Act.put, List.setIfInBounds_toArray, List.set_cons_zero, List.set_cons_succ]
  refine wpAnyH_take (i := 18) (oi := { dst := some 100, op := Op.load 27 (Operand.tmp 3), type := 27, pos := "law.go:97", after := #[{ on := 10, ground := Ground.guard }], guard := some (10, true) }) (v := ?vu15) rfl (by kernel_rfl) (by kernel_rfl) (by kernel_rfl) (fun _ _ _ h => h) (Or.inl ⟨by rfl, ?hyu15⟩) (by assumption) ?restu15
  case hyu15 => (intro w hSw; (try dsimp only at hSw); go_simp; (try with_reducible rfl))
  try simp only [Act.put, List.setIfInBounds_toArray, List.set_cons_zero, List.set_cons_succ]
  refine wpAnyH_ready (rs := [15]) (by kernel_rfl) (by simp) ?_
  refine AllReadyH.cons (o := { dst := some 97, op := Op.call { callee := Callee.value (Operand.tmp 94), args := #[Operand.tmp 95, Operand.tmp 96], argTypes := #[27, 27] }, type := 27, pos := "law.go:97", after := #[{ on := 12, ground := Ground.data }, { on := 13, ground := Ground.data }, { on := 14, ground := Ground.data }, { on := 10, ground := Ground.chain }, { on := 10, ground := Ground.guard }], guard := some (10, true) }) rfl (fun K hK => ?_) AllReadyH.nil
  go_simp
  go_at_call 29
  refine (ctimes_at _ _ _ V1.s (denV V1) (denV V2) (by exact Ka.out.below (by first | exact HW | exact HW.drew)) (by exact Kb.out.below (by first | exact HW | exact HW.drew)) (fun hs => (pmul_short (k := 60) hs ((SH1.out hs).le (by decide)) ((SH2.out hs).le (by decide))).le (by decide))).mono ?_
  rintro e zz3 ⟨⟨u3, rfl, o⟩, b⟩
  replace HW := below_step (by first | exact HW | exact HW.drew) b
  have KT3 : Hid (VOk _ _ _ _) := o
  have HWT3 : Hid (Below _ _ _) := below_refl zz3
  clear o
  clear b
  clear p10 p11 p12 p13 p14 p20 p21 p22 p23 p24 p30 p31 p32 p33 p34 p40 p41 p42 p43 p44 p50 p51 p52 p53 p54
  obtain ⟨p10, p11, p12, p13, p14⟩ := box5 G1.out HW
  obtain ⟨p20, p21, p22, p23, p24⟩ := box5 G2.out HW
  obtain ⟨p30, p31, p32, p33, p34⟩ := box5 G3.out HW
  obtain ⟨p40, p41, p42, p43, p44⟩ := box5 G4.out HW
  obtain ⟨p50, p51, p52, p53, p54⟩ := box5 G5.out HW
  refine hK.out _ _ ?_ (fun hHeldB => ?_)
  · (try dsimp only); first | exact ⟨p10, p11, p12, p13, p14, p20, p21, p22, p23, p24, p30, p31, p32, p33, p34, p40, p41, p42, p43, p44, p50, p51, p52, p53, p54⟩ | go_keep
  clear hK K hHeld
  have hHeld := hHeldB
  clear hHeldB
  try simp only [Act.put, List.setIfInBounds_toArray, List.set_cons_zero, List.set_cons_succ]
  refine wpAnyH_ready (rs := [19]) (by kernel_rfl) (by simp) ?_
  refine AllReadyH.cons (o := { dst := some 101, op := Op.call { callee := Callee.value (Operand.tmp 98), args := #[Operand.tmp 99, Operand.tmp 100], argTypes := #[27, 27] }, type := 27, pos := "law.go:97", after := #[{ on := 16, ground := Ground.data }, { on := 17, ground := Ground.data }, { on := 18, ground := Ground.data }, { on := 15, ground := Ground.chain }, { on := 10, ground := Ground.guard }], guard := some (10, true) }) rfl (fun K hK => ?_) AllReadyH.nil
  go_simp
  go_at_call 29
  refine (ctimes_at _ _ _ V1.s (denV V2) (denV V1) (by exact Kb.out.below (by first | exact HW | exact HW.drew)) (by exact Ka.out.below (by first | exact HW | exact HW.drew)) (fun hs => (pmul_short (k := 60) hs ((SH2.out hs).le (by decide)) ((SH1.out hs).le (by decide))).le (by decide))).mono ?_
  rintro e zz4 ⟨⟨u4, rfl, o⟩, b⟩
  replace HW := below_step (by first | exact HW | exact HW.drew) b
  replace HWT3 : Hid (Below _ _ _) := below_step (by first | exact HWT3.out | exact HWT3.out.drew) b
  have KT4 : Hid (VOk _ _ _ _) := o
  have HWT4 : Hid (Below _ _ _) := below_refl zz4
  clear o
  clear b
  clear p10 p11 p12 p13 p14 p20 p21 p22 p23 p24 p30 p31 p32 p33 p34 p40 p41 p42 p43 p44 p50 p51 p52 p53 p54
  obtain ⟨p10, p11, p12, p13, p14⟩ := box5 G1.out HW
  obtain ⟨p20, p21, p22, p23, p24⟩ := box5 G2.out HW
  obtain ⟨p30, p31, p32, p33, p34⟩ := box5 G3.out HW
  obtain ⟨p40, p41, p42, p43, p44⟩ := box5 G4.out HW
  obtain ⟨p50, p51, p52, p53, p54⟩ := box5 G5.out HW
  refine hK.out _ _ ?_ (fun hHeldB => ?_)
  · (try dsimp only); first | exact ⟨p10, p11, p12, p13, p14, p20, p21, p22, p23, p24, p30, p31, p32, p33, p34, p40, p41, p42, p43, p44, p50, p51, p52, p53, p54⟩ | go_keep
  clear hK K hHeld
  have hHeld := hHeldB
  clear hHeldB
  try simp only [Act.put, List.setIfInBounds_toArray, List.set_cons_zero, List.set_cons_succ]
  refine wpAnyH_ready (rs := [20]) (by kernel_rfl) (by simp) ?_
  refine AllReadyH.cons (o := { dst := some 102, op := Op.call { callee := Callee.value (Operand.tmp 93), args := #[Operand.tmp 97, Operand.tmp 101], argTypes := #[27, 27] }, type := 4, pos := "law.go:97", after := #[{ on := 11, ground := Ground.data }, { on := 15, ground := Ground.data }, { on := 19, ground := Ground.data }, { on := 19, ground := Ground.chain }, { on := 10, ground := Ground.guard }], guard := some (10, true) }) rfl (fun K hK => ?_) AllReadyH.nil
  go_simp
  go_at_call 23
  refine (same_of _ _ _ V1.s (pmul V1.s (denV V1) (denV V2)) (pmul V1.s (denV V2) (denV V1)) (by exact KT3.out.below (by first | exact HWT3.out | exact HWT3.out.drew)) (by exact KT4.out.below (by first | exact HWT4.out | exact HWT4.out.drew)) (pmul_comm _ _ _)).mono ?_
  rintro e zz5 ⟨rfl, b⟩
  replace HW := below_step (by first | exact HW | exact HW.drew) b
  clear KT3 HWT3
  clear KT4 HWT4
  clear b
  clear p10 p11 p12 p13 p14 p20 p21 p22 p23 p24 p30 p31 p32 p33 p34 p40 p41 p42 p43 p44 p50 p51 p52 p53 p54
  obtain ⟨p10, p11, p12, p13, p14⟩ := box5 G1.out HW
  obtain ⟨p20, p21, p22, p23, p24⟩ := box5 G2.out HW
  obtain ⟨p30, p31, p32, p33, p34⟩ := box5 G3.out HW
  obtain ⟨p40, p41, p42, p43, p44⟩ := box5 G4.out HW
  obtain ⟨p50, p51, p52, p53, p54⟩ := box5 G5.out HW
  refine hK.out _ _ ?_ (fun hHeldB => ?_)
  · (try dsimp only); first | exact ⟨p10, p11, p12, p13, p14, p20, p21, p22, p23, p24, p30, p31, p32, p33, p34, p40, p41, p42, p43, p44, p50, p51, p52, p53, p54⟩ | go_keep
  clear hK K hHeld
  have hHeld := hHeldB
  clear hHeldB
  try simp only [Act.put, List.setIfInBounds_toArray, List.set_cons_zero, List.set_cons_succ]
  refine wpAnyH_take (i := 21) (oi := { dst := some 103, op := Op.pick (Operand.tmp 92) (Operand.tmp 102) (Operand.const (Value.bool false)), type := 4, pos := "law.go:97", after := #[{ on := 10, ground := Ground.data }, { on := 20, ground := Ground.data }], guard := none }) (v := ?vu16) rfl (by kernel_rfl) (by kernel_rfl) (by kernel_rfl) (fun _ _ _ h => h) (Or.inl ⟨by rfl, ?hyu16⟩) (by assumption) ?restu16
  case hyu16 => (intro w hSw; (try dsimp only at hSw); go_simp; (try with_reducible rfl))
  try simp only [Act.put, List.setIfInBounds_toArray, List.set_cons_zero, List.set_cons_succ]
  refine wpAnyH_take (i := 22) (oi := { dst := some 104, op := Op.move (Operand.tmp 103), type := 4, pos := "law.go:97", after := #[{ on := 21, ground := Ground.data }, { on := 20, ground := Ground.chain }], guard := none }) (v := ?vu17) rfl (by kernel_rfl) (by kernel_rfl) (by kernel_rfl) (fun _ _ _ h => h) (Or.inl ⟨by rfl, ?hyu17⟩) (by assumption) ?restu17
  case hyu17 => (intro w hSw; (try dsimp only at hSw); go_simp; (try with_reducible rfl))
  try simp only [Act.put, List.setIfInBounds_toArray, List.set_cons_zero, List.set_cons_succ]
  refine wpAnyH_take (i := 23) (oi := { dst := some 105, op := Op.move (Operand.tmp 13), type := 43, pos := "law.go:97", after := #[{ on := 22, ground := Ground.guard }], guard := some (22, true) }) (v := ?vu18) rfl (by kernel_rfl) (by kernel_rfl) (by kernel_rfl) (fun _ _ _ h => h) (Or.inl ⟨by rfl, ?hyu18⟩) (by assumption) ?restu18
  case hyu18 => (intro w hSw; (try dsimp only at hSw); go_simp; (try with_reducible rfl))
  try simp only [Act.put, List.setIfInBounds_toArray, List.set_cons_zero, List.set_cons_succ]
  refine wpAnyH_take (i := 24) (oi := { dst := some 106, op := Op.move (Operand.tmp 7), type := 49, pos := "law.go:97", after := #[{ on := 22, ground := Ground.guard }], guard := some (22, true) }) (v := ?vu19) rfl (by kernel_rfl) (by kernel_rfl) (by kernel_rfl) (fun _ _ _ h => h) (Or.inl ⟨by rfl, ?hyu19⟩) (by assumption) ?restu19
  case hyu19 => (intro w hSw; (try dsimp only at hSw); go_simp; (try with_reducible rfl))
  try simp only [Act.put, List.setIfInBounds_toArray, List.set_cons_zero, List.set_cons_succ]
  refine wpAnyH_take (i := 25) (oi := { dst := some 107, op := Op.load 27 (Operand.tmp 3), type := 27, pos := "law.go:97", after := #[{ on := 22, ground := Ground.guard }], guard := some (22, true) }) (v := ?vu20) rfl (by kernel_rfl) (by kernel_rfl) (by kernel_rfl) (fun _ _ _ h => h) (Or.inl ⟨by rfl, ?hyu20⟩) (by assumption) ?restu20
  case hyu20 => (intro w hSw; (try dsimp only at hSw); go_simp; (try with_reducible rfl))
  try simp only [Act.put, List.setIfInBounds_toArray, List.set_cons_zero, List.set_cons_succ]
  refine wpAnyH_take (i := 26) (oi := { dst := some 108, op := Op.move (Operand.tmp 7), type := 49, pos := "law.go:97", after := #[{ on := 22, ground := Ground.guard }], guard := some (22, true) }) (v := ?vu21) rfl (by kernel_rfl) (by kernel_rfl) (by kernel_rfl) (fun _ _ _ h => h) (Or.inl ⟨by rfl, ?hyu21⟩) (by assumption) ?restu21
  case hyu21 => (intro w hSw; (try dsimp only at hSw); go_simp; (try with_reducible rfl))
  try simp only [Act.put, List.setIfInBounds_toArray, List.set_cons_zero, List.set_cons_succ]
  refine wpAnyH_take (i := 27) (oi := { dst := some 109, op := Op.load 27 (Operand.tmp 4), type := 27, pos := "law.go:97", after := #[{ on := 22, ground := Ground.guard }], guard := some (22, true) }) (v := ?vu22) rfl (by kernel_rfl) (by kernel_rfl) (by kernel_rfl) (fun _ _ _ h => h) (Or.inl ⟨by rfl, ?hyu22⟩) (by assumption) ?restu22
  case hyu22 => (intro w hSw; (try dsimp only at hSw); go_simp; (try with_reducible rfl))
  try simp only [Act.put, List.setIfInBounds_toArray, List.set_cons_zero, List.set_cons_succ]
  refine wpAnyH_take (i := 28) (oi := { dst := some 110, op := Op.load 27 (Operand.tmp 5), type := 27, pos := "law.go:97", after := #[{ on := 22, ground := Ground.guard }], guard := some (22, true) }) (v := ?vu23) rfl (by kernel_rfl) (by kernel_rfl) (by kernel_rfl) (fun _ _ _ h => h) (Or.inl ⟨by rfl, ?hyu23⟩) (by assumption) ?restu23
  case hyu23 => (intro w hSw; (try dsimp only at hSw); go_simp; (try with_reducible rfl))
  try simp only [Act.put, List.setIfInBounds_toArray, List.set_cons_zero, List.set_cons_succ]
  refine wpAnyH_take (i := 31) (oi := { dst := some 113, op := Op.move (Operand.tmp 7), type := 49, pos := "law.go:97", after := #[{ on := 22, ground := Ground.guard }], guard := some (22, true) }) (v := ?vu24) rfl (by kernel_rfl) (by kernel_rfl) (by kernel_rfl) (fun _ _ _ h => h) (Or.inl ⟨by rfl, ?hyu24⟩) (by assumption) ?restu24
  case hyu24 => (intro w hSw; (try dsimp only at hSw); go_simp; (try with_reducible rfl))
  try simp only [Act.put, List.setIfInBounds_toArray, List.set_cons_zero, List.set_cons_succ]
  refine wpAnyH_take (i := 32) (oi := { dst := some 114, op := Op.move (Operand.tmp 7), type := 49, pos := "law.go:97", after := #[{ on := 22, ground := Ground.guard }], guard := some (22, true) }) (v := ?vu25) rfl (by kernel_rfl) (by kernel_rfl) (by kernel_rfl) (fun _ _ _ h => h) (Or.inl ⟨by rfl, ?hyu25⟩) (by assumption) ?restu25
  case hyu25 => (intro w hSw; (try dsimp only at hSw); go_simp; (try with_reducible rfl))
  try simp only [Act.put, List.setIfInBounds_toArray, List.set_cons_zero, List.set_cons_succ]
  refine wpAnyH_take (i := 33) (oi := { dst := some 115, op := Op.load 27 (Operand.tmp 3), type := 27, pos := "law.go:97", after := #[{ on := 22, ground := Ground.guard }], guard := some (22, true) }) (v := ?vu26) rfl (by kernel_rfl) (by kernel_rfl) (by kernel_rfl) (fun _ _ _ h => h) (Or.inl ⟨by rfl, ?hyu26⟩) (by assumption) ?restu26
  case hyu26 => (intro w hSw; (try dsimp only at hSw); go_simp; (try with_reducible rfl))
  try simp only [Act.put, List.setIfInBounds_toArray, List.set_cons_zero, List.set_cons_succ]
  refine wpAnyH_take (i := 34) (oi := { dst := some 116, op := Op.load 27 (Operand.tmp 4), type := 27, pos := "law.go:97", after := #[{ on := 22, ground := Ground.guard }], guard := some (22, true) }) (v := ?vu27) rfl (by kernel_rfl) (by kernel_rfl) (by kernel_rfl) (fun _ _ _ h => h) (Or.inl ⟨by rfl, ?hyu27⟩) (by assumption) ?restu27
  case hyu27 => (intro w hSw; (try dsimp only at hSw); go_simp; (try with_reducible rfl))
  try simp only [Act.put, List.setIfInBounds_toArray, List.set_cons_zero, List.set_cons_succ]
  refine wpAnyH_take (i := 36) (oi := { dst := some 118, op := Op.load 27 (Operand.tmp 5), type := 27, pos := "law.go:97", after := #[{ on := 22, ground := Ground.guard }], guard := some (22, true) }) (v := ?vu28) rfl (by kernel_rfl) (by kernel_rfl) (by kernel_rfl) (fun _ _ _ h => h) (Or.inl ⟨by rfl, ?hyu28⟩) (by assumption) ?restu28
  case hyu28 => (intro w hSw; (try dsimp only at hSw); go_simp; (try with_reducible rfl))
  try simp only [Act.put, List.setIfInBounds_toArray, List.set_cons_zero, List.set_cons_succ]
  refine wpAnyH_ready (rs := [29]) (by kernel_rfl) (by simp) ?_
  refine AllReadyH.cons (o := { dst := some 111, op := Op.call { callee := Callee.value (Operand.tmp 108), args := #[Operand.tmp 109, Operand.tmp 110], argTypes := #[27, 27] }, type := 27, pos := "law.go:97", after := #[{ on := 26, ground := Ground.data }, { on := 27, ground := Ground.data }, { on := 28, ground := Ground.data }, { on := 22, ground := Ground.chain }, { on := 22, ground := Ground.guard }], guard := some (22, true) }) rfl (fun K hK => ?_) AllReadyH.nil
  go_simp
  go_at_call 28
  refine (cplus_at _ _ _ V1.s (denV V2) (denV V3) (by exact Kb.out.below (by first | exact HW | exact HW.drew)) (by exact Kc.out.below (by first | exact HW | exact HW.drew)) (fun hs => (padd_short (k := 60) hs ((SH2.out hs).le (by decide)) ((SH3.out hs).le (by decide))).le (by decide))).mono ?_
  rintro e zz6 ⟨⟨u6, rfl, o⟩, b⟩
  replace HW := below_step (by first | exact HW | exact HW.drew) b
  have KP6 : Hid (VOk _ _ _ _) := o
  have HWP6 : Hid (Below _ _ _) := below_refl zz6
  clear o
  clear b
  clear p10 p11 p12 p13 p14 p20 p21 p22 p23 p24 p30 p31 p32 p33 p34 p40 p41 p42 p43 p44 p50 p51 p52 p53 p54
  obtain ⟨p10, p11, p12, p13, p14⟩ := box5 G1.out HW
  obtain ⟨p20, p21, p22, p23, p24⟩ := box5 G2.out HW
  obtain ⟨p30, p31, p32, p33, p34⟩ := box5 G3.out HW
  obtain ⟨p40, p41, p42, p43, p44⟩ := box5 G4.out HW
  obtain ⟨p50, p51, p52, p53, p54⟩ := box5 G5.out HW
  refine hK.out _ _ ?_ (fun hHeldB => ?_)
  · (try dsimp only); first | exact ⟨p10, p11, p12, p13, p14, p20, p21, p22, p23, p24, p30, p31, p32, p33, p34, p40, p41, p42, p43, p44, p50, p51, p52, p53, p54⟩ | go_keep
  clear hK K hHeld
  have hHeld := hHeldB
  clear hHeldB
  try simp only [Act.put, List.setIfInBounds_toArray, List.set_cons_zero, List.set_cons_succ]
  refine wpAnyH_ready (rs := [30]) (by kernel_rfl) (by simp) ?_
  refine AllReadyH.cons (o := { dst := some 112, op := Op.call { callee := Callee.value (Operand.tmp 106), args := #[Operand.tmp 107, Operand.tmp 111], argTypes := #[27, 27] }, type := 27, pos := "law.go:97", after := #[{ on := 24, ground := Ground.data }, { on := 25, ground := Ground.data }, { on := 29, ground := Ground.data }, { on := 29, ground := Ground.chain }, { on := 22, ground := Ground.guard }], guard := some (22, true) }) rfl (fun K hK => ?_) AllReadyH.nil
  go_simp
  go_at_call 28
  refine (cplus_at _ _ _ V1.s (denV V1) (padd V1.s (denV V2) (denV V3)) (by exact Ka.out.below (by first | exact HW | exact HW.drew)) (by exact KP6.out.below (by first | exact HWP6.out | exact HWP6.out.drew)) (fun hs => (padd_short (k := 121) hs ((SH1.out hs).le (by decide)) ((padd_short (k := 60) hs ((SH2.out hs).le (by decide)) ((SH3.out hs).le (by decide))).le (by decide))).le (by decide))).mono ?_
  rintro e zz7 ⟨⟨u7, rfl, o⟩, b⟩
  replace HW := below_step (by first | exact HW | exact HW.drew) b
  replace HWP6 : Hid (Below _ _ _) := below_step (by first | exact HWP6.out | exact HWP6.out.drew) b
  have KP7 : Hid (VOk _ _ _ _) := o
  have HWP7 : Hid (Below _ _ _) := below_refl zz7
  clear o
  clear b
  clear p10 p11 p12 p13 p14 p20 p21 p22 p23 p24 p30 p31 p32 p33 p34 p40 p41 p42 p43 p44 p50 p51 p52 p53 p54
  obtain ⟨p10, p11, p12, p13, p14⟩ := box5 G1.out HW
  obtain ⟨p20, p21, p22, p23, p24⟩ := box5 G2.out HW
  obtain ⟨p30, p31, p32, p33, p34⟩ := box5 G3.out HW
  obtain ⟨p40, p41, p42, p43, p44⟩ := box5 G4.out HW
  obtain ⟨p50, p51, p52, p53, p54⟩ := box5 G5.out HW
  clear KP6 HWP6
  refine hK.out _ _ ?_ (fun hHeldB => ?_)
  · (try dsimp only); first | exact ⟨p10, p11, p12, p13, p14, p20, p21, p22, p23, p24, p30, p31, p32, p33, p34, p40, p41, p42, p43, p44, p50, p51, p52, p53, p54⟩ | go_keep
  clear hK K hHeld
  have hHeld := hHeldB
  clear hHeldB
  try simp only [Act.put, List.setIfInBounds_toArray, List.set_cons_zero, List.set_cons_succ]
  refine wpAnyH_ready (rs := [35]) (by kernel_rfl) (by simp) ?_
  refine AllReadyH.cons (o := { dst := some 117, op := Op.call { callee := Callee.value (Operand.tmp 114), args := #[Operand.tmp 115, Operand.tmp 116], argTypes := #[27, 27] }, type := 27, pos := "law.go:97", after := #[{ on := 32, ground := Ground.data }, { on := 33, ground := Ground.data }, { on := 34, ground := Ground.data }, { on := 30, ground := Ground.chain }, { on := 22, ground := Ground.guard }], guard := some (22, true) }) rfl (fun K hK => ?_) AllReadyH.nil
  go_simp
  go_at_call 28
  refine (cplus_at _ _ _ V1.s (denV V1) (denV V2) (by exact Ka.out.below (by first | exact HW | exact HW.drew)) (by exact Kb.out.below (by first | exact HW | exact HW.drew)) (fun hs => (padd_short (k := 60) hs ((SH1.out hs).le (by decide)) ((SH2.out hs).le (by decide))).le (by decide))).mono ?_
  rintro e zz8 ⟨⟨u8, rfl, o⟩, b⟩
  replace HW := below_step (by first | exact HW | exact HW.drew) b
  replace HWP7 : Hid (Below _ _ _) := below_step (by first | exact HWP7.out | exact HWP7.out.drew) b
  have KP8 : Hid (VOk _ _ _ _) := o
  have HWP8 : Hid (Below _ _ _) := below_refl zz8
  clear o
  clear b
  clear p10 p11 p12 p13 p14 p20 p21 p22 p23 p24 p30 p31 p32 p33 p34 p40 p41 p42 p43 p44 p50 p51 p52 p53 p54
  obtain ⟨p10, p11, p12, p13, p14⟩ := box5 G1.out HW
  obtain ⟨p20, p21, p22, p23, p24⟩ := box5 G2.out HW
  obtain ⟨p30, p31, p32, p33, p34⟩ := box5 G3.out HW
  obtain ⟨p40, p41, p42, p43, p44⟩ := box5 G4.out HW
  obtain ⟨p50, p51, p52, p53, p54⟩ := box5 G5.out HW
  refine hK.out _ _ ?_ (fun hHeldB => ?_)
  · (try dsimp only); first | exact ⟨p10, p11, p12, p13, p14, p20, p21, p22, p23, p24, p30, p31, p32, p33, p34, p40, p41, p42, p43, p44, p50, p51, p52, p53, p54⟩ | go_keep
  clear hK K hHeld
  have hHeld := hHeldB
  clear hHeldB
  try simp only [Act.put, List.setIfInBounds_toArray, List.set_cons_zero, List.set_cons_succ]
  refine wpAnyH_ready (rs := [37]) (by kernel_rfl) (by simp) ?_
  refine AllReadyH.cons (o := { dst := some 119, op := Op.call { callee := Callee.value (Operand.tmp 113), args := #[Operand.tmp 117, Operand.tmp 118], argTypes := #[27, 27] }, type := 27, pos := "law.go:97", after := #[{ on := 31, ground := Ground.data }, { on := 35, ground := Ground.data }, { on := 36, ground := Ground.data }, { on := 35, ground := Ground.chain }, { on := 22, ground := Ground.guard }], guard := some (22, true) }) rfl (fun K hK => ?_) AllReadyH.nil
  go_simp
  go_at_call 28
  refine (cplus_at _ _ _ V1.s (padd V1.s (denV V1) (denV V2)) (denV V3) (by exact KP8.out.below (by first | exact HWP8.out | exact HWP8.out.drew)) (by exact Kc.out.below (by first | exact HW | exact HW.drew)) (fun hs => (padd_short (k := 121) hs ((padd_short (k := 60) hs ((SH1.out hs).le (by decide)) ((SH2.out hs).le (by decide))).le (by decide)) ((SH3.out hs).le (by decide))).le (by decide))).mono ?_
  rintro e zz9 ⟨⟨u9, rfl, o⟩, b⟩
  replace HW := below_step (by first | exact HW | exact HW.drew) b
  replace HWP7 : Hid (Below _ _ _) := below_step (by first | exact HWP7.out | exact HWP7.out.drew) b
  replace HWP8 : Hid (Below _ _ _) := below_step (by first | exact HWP8.out | exact HWP8.out.drew) b
  have KP9 : Hid (VOk _ _ _ _) := o
  have HWP9 : Hid (Below _ _ _) := below_refl zz9
  clear o
  clear b
  clear p10 p11 p12 p13 p14 p20 p21 p22 p23 p24 p30 p31 p32 p33 p34 p40 p41 p42 p43 p44 p50 p51 p52 p53 p54
  obtain ⟨p10, p11, p12, p13, p14⟩ := box5 G1.out HW
  obtain ⟨p20, p21, p22, p23, p24⟩ := box5 G2.out HW
  obtain ⟨p30, p31, p32, p33, p34⟩ := box5 G3.out HW
  obtain ⟨p40, p41, p42, p43, p44⟩ := box5 G4.out HW
  obtain ⟨p50, p51, p52, p53, p54⟩ := box5 G5.out HW
  clear KP8 HWP8
  refine hK.out _ _ ?_ (fun hHeldB => ?_)
  · (try dsimp only); first | exact ⟨p10, p11, p12, p13, p14, p20, p21, p22, p23, p24, p30, p31, p32, p33, p34, p40, p41, p42, p43, p44, p50, p51, p52, p53, p54⟩ | go_keep
  clear hK K hHeld
  have hHeld := hHeldB
  clear hHeldB
  try simp only [Act.put, List.setIfInBounds_toArray, List.set_cons_zero, List.set_cons_succ]
  refine wpAnyH_ready (rs := [38]) (by kernel_rfl) (by simp) ?_
  refine AllReadyH.cons (o := { dst := some 120, op := Op.call { callee := Callee.value (Operand.tmp 105), args := #[Operand.tmp 112, Operand.tmp 119], argTypes := #[27, 27] }, type := 4, pos := "law.go:97", after := #[{ on := 23, ground := Ground.data }, { on := 30, ground := Ground.data }, { on := 37, ground := Ground.data }, { on := 37, ground := Ground.chain }, { on := 22, ground := Ground.guard }], guard := some (22, true) }) rfl (fun K hK => ?_) AllReadyH.nil
  go_simp
  go_at_call 23
  refine (same_of _ _ _ V1.s (padd V1.s (denV V1) (padd V1.s (denV V2) (denV V3))) (padd V1.s (padd V1.s (denV V1) (denV V2)) (denV V3)) (by exact KP7.out.below (by first | exact HWP7.out | exact HWP7.out.drew)) (by exact KP9.out.below (by first | exact HWP9.out | exact HWP9.out.drew)) (padd_assoc _ _ _ _)).mono ?_
  rintro e zz10 ⟨rfl, b⟩
  replace HW := below_step (by first | exact HW | exact HW.drew) b
  clear KP7 HWP7
  clear KP9 HWP9
  clear b
  clear p10 p11 p12 p13 p14 p20 p21 p22 p23 p24 p30 p31 p32 p33 p34 p40 p41 p42 p43 p44 p50 p51 p52 p53 p54
  obtain ⟨p10, p11, p12, p13, p14⟩ := box5 G1.out HW
  obtain ⟨p20, p21, p22, p23, p24⟩ := box5 G2.out HW
  obtain ⟨p30, p31, p32, p33, p34⟩ := box5 G3.out HW
  obtain ⟨p40, p41, p42, p43, p44⟩ := box5 G4.out HW
  obtain ⟨p50, p51, p52, p53, p54⟩ := box5 G5.out HW
  refine hK.out _ _ ?_ (fun hHeldB => ?_)
  · (try dsimp only); first | exact ⟨p10, p11, p12, p13, p14, p20, p21, p22, p23, p24, p30, p31, p32, p33, p34, p40, p41, p42, p43, p44, p50, p51, p52, p53, p54⟩ | go_keep
  clear hK K hHeld
  have hHeld := hHeldB
  clear hHeldB
  try simp only [Act.put, List.setIfInBounds_toArray, List.set_cons_zero, List.set_cons_succ]
  refine wpAnyH_take (i := 39) (oi := { dst := some 121, op := Op.pick (Operand.tmp 104) (Operand.tmp 120) (Operand.const (Value.bool false)), type := 4, pos := "law.go:97", after := #[{ on := 22, ground := Ground.data }, { on := 38, ground := Ground.data }], guard := none }) (v := ?vu29) rfl (by kernel_rfl) (by kernel_rfl) (by kernel_rfl) (fun _ _ _ h => h) (Or.inl ⟨by rfl, ?hyu29⟩) (by assumption) ?restu29
  case hyu29 => (intro w hSw; (try dsimp only at hSw); go_simp; (try with_reducible rfl))
  try simp only [Act.put, List.setIfInBounds_toArray, List.set_cons_zero, List.set_cons_succ]
  refine wpAnyH_take (i := 40) (oi := { dst := some 122, op := Op.move (Operand.tmp 121), type := 4, pos := "law.go:97", after := #[{ on := 39, ground := Ground.data }, { on := 38, ground := Ground.chain }], guard := none }) (v := ?vu30) rfl (by kernel_rfl) (by kernel_rfl) (by kernel_rfl) (fun _ _ _ h => h) (Or.inl ⟨by rfl, ?hyu30⟩) (by assumption) ?restu30
  case hyu30 => (intro w hSw; (try dsimp only at hSw); go_simp; (try with_reducible rfl))
  try simp only [Act.put, List.setIfInBounds_toArray, List.set_cons_zero, List.set_cons_succ]
  refine wpAnyH_take (i := 41) (oi := { dst := some 123, op := Op.move (Operand.tmp 13), type := 43, pos := "law.go:97", after := #[{ on := 40, ground := Ground.guard }], guard := some (40, true) }) (v := ?vu31) rfl (by kernel_rfl) (by kernel_rfl) (by kernel_rfl) (fun _ _ _ h => h) (Or.inl ⟨by rfl, ?hyu31⟩) (by assumption) ?restu31
  case hyu31 => (intro w hSw; (try dsimp only at hSw); go_simp; (try with_reducible rfl))
  try simp only [Act.put, List.setIfInBounds_toArray, List.set_cons_zero, List.set_cons_succ]
  refine wpAnyH_take (i := 42) (oi := { dst := some 124, op := Op.move (Operand.tmp 8), type := 49, pos := "law.go:97", after := #[{ on := 40, ground := Ground.guard }], guard := some (40, true) }) (v := ?vu32) rfl (by kernel_rfl) (by kernel_rfl) (by kernel_rfl) (fun _ _ _ h => h) (Or.inl ⟨by rfl, ?hyu32⟩) (by assumption) ?restu32
  case hyu32 => (intro w hSw; (try dsimp only at hSw); go_simp; (try with_reducible rfl))
  try simp only [Act.put, List.setIfInBounds_toArray, List.set_cons_zero, List.set_cons_succ]
  refine wpAnyH_take (i := 43) (oi := { dst := some 125, op := Op.load 27 (Operand.tmp 3), type := 27, pos := "law.go:97", after := #[{ on := 40, ground := Ground.guard }], guard := some (40, true) }) (v := ?vu33) rfl (by kernel_rfl) (by kernel_rfl) (by kernel_rfl) (fun _ _ _ h => h) (Or.inl ⟨by rfl, ?hyu33⟩) (by assumption) ?restu33
  case hyu33 => (intro w hSw; (try dsimp only at hSw); go_simp; (try with_reducible rfl))
  try simp only [Act.put, List.setIfInBounds_toArray, List.set_cons_zero, List.set_cons_succ]
  refine wpAnyH_take (i := 44) (oi := { dst := some 126, op := Op.move (Operand.tmp 8), type := 49, pos := "law.go:97", after := #[{ on := 40, ground := Ground.guard }], guard := some (40, true) }) (v := ?vu34) rfl (by kernel_rfl) (by kernel_rfl) (by kernel_rfl) (fun _ _ _ h => h) (Or.inl ⟨by rfl, ?hyu34⟩) (by assumption) ?restu34
  case hyu34 => (intro w hSw; (try dsimp only at hSw); go_simp; (try with_reducible rfl))
  try simp only [Act.put, List.setIfInBounds_toArray, List.set_cons_zero, List.set_cons_succ]
  refine wpAnyH_take (i := 45) (oi := { dst := some 127, op := Op.load 27 (Operand.tmp 4), type := 27, pos := "law.go:97", after := #[{ on := 40, ground := Ground.guard }], guard := some (40, true) }) (v := ?vu35) rfl (by kernel_rfl) (by kernel_rfl) (by kernel_rfl) (fun _ _ _ h => h) (Or.inl ⟨by rfl, ?hyu35⟩) (by assumption) ?restu35
  case hyu35 => (intro w hSw; (try dsimp only at hSw); go_simp; (try with_reducible rfl))
  try simp only [Act.put, List.setIfInBounds_toArray, List.set_cons_zero, List.set_cons_succ]
  refine wpAnyH_take (i := 46) (oi := { dst := some 128, op := Op.load 27 (Operand.tmp 5), type := 27, pos := "law.go:97", after := #[{ on := 40, ground := Ground.guard }], guard := some (40, true) }) (v := ?vu36) rfl (by kernel_rfl) (by kernel_rfl) (by kernel_rfl) (fun _ _ _ h => h) (Or.inl ⟨by rfl, ?hyu36⟩) (by assumption) ?restu36
  case hyu36 => (intro w hSw; (try dsimp only at hSw); go_simp; (try with_reducible rfl))
  try simp only [Act.put, List.setIfInBounds_toArray, List.set_cons_zero, List.set_cons_succ]
  refine wpAnyH_take (i := 49) (oi := { dst := some 131, op := Op.move (Operand.tmp 8), type := 49, pos := "law.go:97", after := #[{ on := 40, ground := Ground.guard }], guard := some (40, true) }) (v := ?vu37) rfl (by kernel_rfl) (by kernel_rfl) (by kernel_rfl) (fun _ _ _ h => h) (Or.inl ⟨by rfl, ?hyu37⟩) (by assumption) ?restu37
  case hyu37 => (intro w hSw; (try dsimp only at hSw); go_simp; (try with_reducible rfl))
  try simp only [Act.put, List.setIfInBounds_toArray, List.set_cons_zero, List.set_cons_succ]
  refine wpAnyH_take (i := 50) (oi := { dst := some 132, op := Op.move (Operand.tmp 8), type := 49, pos := "law.go:97", after := #[{ on := 40, ground := Ground.guard }], guard := some (40, true) }) (v := ?vu38) rfl (by kernel_rfl) (by kernel_rfl) (by kernel_rfl) (fun _ _ _ h => h) (Or.inl ⟨by rfl, ?hyu38⟩) (by assumption) ?restu38
  case hyu38 => (intro w hSw; (try dsimp only at hSw); go_simp; (try with_reducible rfl))
  try simp only [Act.put, List.setIfInBounds_toArray, List.set_cons_zero, List.set_cons_succ]
  refine wpAnyH_take (i := 51) (oi := { dst := some 133, op := Op.load 27 (Operand.tmp 3), type := 27, pos := "law.go:97", after := #[{ on := 40, ground := Ground.guard }], guard := some (40, true) }) (v := ?vu39) rfl (by kernel_rfl) (by kernel_rfl) (by kernel_rfl) (fun _ _ _ h => h) (Or.inl ⟨by rfl, ?hyu39⟩) (by assumption) ?restu39
  case hyu39 => (intro w hSw; (try dsimp only at hSw); go_simp; (try with_reducible rfl))
  try simp only [Act.put, List.setIfInBounds_toArray, List.set_cons_zero, List.set_cons_succ]
  refine wpAnyH_take (i := 52) (oi := { dst := some 134, op := Op.load 27 (Operand.tmp 4), type := 27, pos := "law.go:97", after := #[{ on := 40, ground := Ground.guard }], guard := some (40, true) }) (v := ?vu40) rfl (by kernel_rfl) (by kernel_rfl) (by kernel_rfl) (fun _ _ _ h => h) (Or.inl ⟨by rfl, ?hyu40⟩) (by assumption) ?restu40
  case hyu40 => (intro w hSw; (try dsimp only at hSw); go_simp; (try with_reducible rfl))
  try simp only [Act.put, List.setIfInBounds_toArray, List.set_cons_zero, List.set_cons_succ]
  refine wpAnyH_take (i := 54) (oi := { dst := some 136, op := Op.load 27 (Operand.tmp 5), type := 27, pos := "law.go:97", after := #[{ on := 40, ground := Ground.guard }], guard := some (40, true) }) (v := ?vu41) rfl (by kernel_rfl) (by kernel_rfl) (by kernel_rfl) (fun _ _ _ h => h) (Or.inl ⟨by rfl, ?hyu41⟩) (by assumption) ?restu41
  case hyu41 => (intro w hSw; (try dsimp only at hSw); go_simp; (try with_reducible rfl))
  try simp only [Act.put, List.setIfInBounds_toArray, List.set_cons_zero, List.set_cons_succ]
  refine wpAnyH_ready (rs := [47]) (by kernel_rfl) (by simp) ?_
  refine AllReadyH.cons (o := { dst := some 129, op := Op.call { callee := Callee.value (Operand.tmp 126), args := #[Operand.tmp 127, Operand.tmp 128], argTypes := #[27, 27] }, type := 27, pos := "law.go:97", after := #[{ on := 44, ground := Ground.data }, { on := 45, ground := Ground.data }, { on := 46, ground := Ground.data }, { on := 40, ground := Ground.chain }, { on := 40, ground := Ground.guard }], guard := some (40, true) }) rfl (fun K hK => ?_) AllReadyH.nil
  go_simp
  go_at_call 29
  refine (ctimes_at _ _ _ V1.s (denV V2) (denV V3) (by exact Kb.out.below (by first | exact HW | exact HW.drew)) (by exact Kc.out.below (by first | exact HW | exact HW.drew)) (fun hs => (pmul_short (k := 60) hs ((SH2.out hs).le (by decide)) ((SH3.out hs).le (by decide))).le (by decide))).mono ?_
  rintro e zz11 ⟨⟨u11, rfl, o⟩, b⟩
  replace HW := below_step (by first | exact HW | exact HW.drew) b
  have KT11 : Hid (VOk _ _ _ _) := o
  have HWT11 : Hid (Below _ _ _) := below_refl zz11
  clear o
  clear b
  clear p10 p11 p12 p13 p14 p20 p21 p22 p23 p24 p30 p31 p32 p33 p34 p40 p41 p42 p43 p44 p50 p51 p52 p53 p54
  obtain ⟨p10, p11, p12, p13, p14⟩ := box5 G1.out HW
  obtain ⟨p20, p21, p22, p23, p24⟩ := box5 G2.out HW
  obtain ⟨p30, p31, p32, p33, p34⟩ := box5 G3.out HW
  obtain ⟨p40, p41, p42, p43, p44⟩ := box5 G4.out HW
  obtain ⟨p50, p51, p52, p53, p54⟩ := box5 G5.out HW
  refine hK.out _ _ ?_ (fun hHeldB => ?_)
  · (try dsimp only); first | exact ⟨p10, p11, p12, p13, p14, p20, p21, p22, p23, p24, p30, p31, p32, p33, p34, p40, p41, p42, p43, p44, p50, p51, p52, p53, p54⟩ | go_keep
  clear hK K hHeld
  have hHeld := hHeldB
  clear hHeldB
  try simp only [Act.put, List.setIfInBounds_toArray, List.set_cons_zero, List.set_cons_succ]
  refine wpAnyH_ready (rs := [48]) (by kernel_rfl) (by simp) ?_
  refine AllReadyH.cons (o := { dst := some 130, op := Op.call { callee := Callee.value (Operand.tmp 124), args := #[Operand.tmp 125, Operand.tmp 129], argTypes := #[27, 27] }, type := 27, pos := "law.go:97", after := #[{ on := 42, ground := Ground.data }, { on := 43, ground := Ground.data }, { on := 47, ground := Ground.data }, { on := 47, ground := Ground.chain }, { on := 40, ground := Ground.guard }], guard := some (40, true) }) rfl (fun K hK => ?_) AllReadyH.nil
  go_simp
  go_at_call 29
  refine (ctimes_at _ _ _ V1.s (denV V1) (pmul V1.s (denV V2) (denV V3)) (by exact Ka.out.below (by first | exact HW | exact HW.drew)) (by exact KT11.out.below (by first | exact HWT11.out | exact HWT11.out.drew)) (fun hs => (pmul_short (k := 121) hs ((SH1.out hs).le (by decide)) ((pmul_short (k := 60) hs ((SH2.out hs).le (by decide)) ((SH3.out hs).le (by decide))).le (by decide))).le (by decide))).mono ?_
  rintro e zz12 ⟨⟨u12, rfl, o⟩, b⟩
  replace HW := below_step (by first | exact HW | exact HW.drew) b
  replace HWT11 : Hid (Below _ _ _) := below_step (by first | exact HWT11.out | exact HWT11.out.drew) b
  have KT12 : Hid (VOk _ _ _ _) := o
  have HWT12 : Hid (Below _ _ _) := below_refl zz12
  clear o
  clear b
  clear p10 p11 p12 p13 p14 p20 p21 p22 p23 p24 p30 p31 p32 p33 p34 p40 p41 p42 p43 p44 p50 p51 p52 p53 p54
  obtain ⟨p10, p11, p12, p13, p14⟩ := box5 G1.out HW
  obtain ⟨p20, p21, p22, p23, p24⟩ := box5 G2.out HW
  obtain ⟨p30, p31, p32, p33, p34⟩ := box5 G3.out HW
  obtain ⟨p40, p41, p42, p43, p44⟩ := box5 G4.out HW
  obtain ⟨p50, p51, p52, p53, p54⟩ := box5 G5.out HW
  clear KT11 HWT11
  refine hK.out _ _ ?_ (fun hHeldB => ?_)
  · (try dsimp only); first | exact ⟨p10, p11, p12, p13, p14, p20, p21, p22, p23, p24, p30, p31, p32, p33, p34, p40, p41, p42, p43, p44, p50, p51, p52, p53, p54⟩ | go_keep
  clear hK K hHeld
  have hHeld := hHeldB
  clear hHeldB
  try simp only [Act.put, List.setIfInBounds_toArray, List.set_cons_zero, List.set_cons_succ]
  refine wpAnyH_ready (rs := [53]) (by kernel_rfl) (by simp) ?_
  refine AllReadyH.cons (o := { dst := some 135, op := Op.call { callee := Callee.value (Operand.tmp 132), args := #[Operand.tmp 133, Operand.tmp 134], argTypes := #[27, 27] }, type := 27, pos := "law.go:97", after := #[{ on := 50, ground := Ground.data }, { on := 51, ground := Ground.data }, { on := 52, ground := Ground.data }, { on := 48, ground := Ground.chain }, { on := 40, ground := Ground.guard }], guard := some (40, true) }) rfl (fun K hK => ?_) AllReadyH.nil
  go_simp
  go_at_call 29
  refine (ctimes_at _ _ _ V1.s (denV V1) (denV V2) (by exact Ka.out.below (by first | exact HW | exact HW.drew)) (by exact Kb.out.below (by first | exact HW | exact HW.drew)) (fun hs => (pmul_short (k := 60) hs ((SH1.out hs).le (by decide)) ((SH2.out hs).le (by decide))).le (by decide))).mono ?_
  rintro e zz13 ⟨⟨u13, rfl, o⟩, b⟩
  replace HW := below_step (by first | exact HW | exact HW.drew) b
  replace HWT12 : Hid (Below _ _ _) := below_step (by first | exact HWT12.out | exact HWT12.out.drew) b
  have KT13 : Hid (VOk _ _ _ _) := o
  have HWT13 : Hid (Below _ _ _) := below_refl zz13
  clear o
  clear b
  clear p10 p11 p12 p13 p14 p20 p21 p22 p23 p24 p30 p31 p32 p33 p34 p40 p41 p42 p43 p44 p50 p51 p52 p53 p54
  obtain ⟨p10, p11, p12, p13, p14⟩ := box5 G1.out HW
  obtain ⟨p20, p21, p22, p23, p24⟩ := box5 G2.out HW
  obtain ⟨p30, p31, p32, p33, p34⟩ := box5 G3.out HW
  obtain ⟨p40, p41, p42, p43, p44⟩ := box5 G4.out HW
  obtain ⟨p50, p51, p52, p53, p54⟩ := box5 G5.out HW
  refine hK.out _ _ ?_ (fun hHeldB => ?_)
  · (try dsimp only); first | exact ⟨p10, p11, p12, p13, p14, p20, p21, p22, p23, p24, p30, p31, p32, p33, p34, p40, p41, p42, p43, p44, p50, p51, p52, p53, p54⟩ | go_keep
  clear hK K hHeld
  have hHeld := hHeldB
  clear hHeldB
  try simp only [Act.put, List.setIfInBounds_toArray, List.set_cons_zero, List.set_cons_succ]
  refine wpAnyH_ready (rs := [55]) (by kernel_rfl) (by simp) ?_
  refine AllReadyH.cons (o := { dst := some 137, op := Op.call { callee := Callee.value (Operand.tmp 131), args := #[Operand.tmp 135, Operand.tmp 136], argTypes := #[27, 27] }, type := 27, pos := "law.go:97", after := #[{ on := 49, ground := Ground.data }, { on := 53, ground := Ground.data }, { on := 54, ground := Ground.data }, { on := 53, ground := Ground.chain }, { on := 40, ground := Ground.guard }], guard := some (40, true) }) rfl (fun K hK => ?_) AllReadyH.nil
  go_simp
  go_at_call 29
  refine (ctimes_at _ _ _ V1.s (pmul V1.s (denV V1) (denV V2)) (denV V3) (by exact KT13.out.below (by first | exact HWT13.out | exact HWT13.out.drew)) (by exact Kc.out.below (by first | exact HW | exact HW.drew)) (fun hs => (pmul_short (k := 121) hs ((pmul_short (k := 60) hs ((SH1.out hs).le (by decide)) ((SH2.out hs).le (by decide))).le (by decide)) ((SH3.out hs).le (by decide))).le (by decide))).mono ?_
  rintro e zz14 ⟨⟨u14, rfl, o⟩, b⟩
  replace HW := below_step (by first | exact HW | exact HW.drew) b
  replace HWT12 : Hid (Below _ _ _) := below_step (by first | exact HWT12.out | exact HWT12.out.drew) b
  replace HWT13 : Hid (Below _ _ _) := below_step (by first | exact HWT13.out | exact HWT13.out.drew) b
  have KT14 : Hid (VOk _ _ _ _) := o
  have HWT14 : Hid (Below _ _ _) := below_refl zz14
  clear o
  clear b
  clear p10 p11 p12 p13 p14 p20 p21 p22 p23 p24 p30 p31 p32 p33 p34 p40 p41 p42 p43 p44 p50 p51 p52 p53 p54
  obtain ⟨p10, p11, p12, p13, p14⟩ := box5 G1.out HW
  obtain ⟨p20, p21, p22, p23, p24⟩ := box5 G2.out HW
  obtain ⟨p30, p31, p32, p33, p34⟩ := box5 G3.out HW
  obtain ⟨p40, p41, p42, p43, p44⟩ := box5 G4.out HW
  obtain ⟨p50, p51, p52, p53, p54⟩ := box5 G5.out HW
  clear KT13 HWT13
  refine hK.out _ _ ?_ (fun hHeldB => ?_)
  · (try dsimp only); first | exact ⟨p10, p11, p12, p13, p14, p20, p21, p22, p23, p24, p30, p31, p32, p33, p34, p40, p41, p42, p43, p44, p50, p51, p52, p53, p54⟩ | go_keep
  clear hK K hHeld
  have hHeld := hHeldB
  clear hHeldB
  try simp only [Act.put, List.setIfInBounds_toArray, List.set_cons_zero, List.set_cons_succ]
  refine wpAnyH_ready (rs := [56]) (by kernel_rfl) (by simp) ?_
  refine AllReadyH.cons (o := { dst := some 138, op := Op.call { callee := Callee.value (Operand.tmp 123), args := #[Operand.tmp 130, Operand.tmp 137], argTypes := #[27, 27] }, type := 4, pos := "law.go:97", after := #[{ on := 41, ground := Ground.data }, { on := 48, ground := Ground.data }, { on := 55, ground := Ground.data }, { on := 55, ground := Ground.chain }, { on := 40, ground := Ground.guard }], guard := some (40, true) }) rfl (fun K hK => ?_) AllReadyH.nil
  go_simp
  go_at_call 23
  refine (same_of _ _ _ V1.s (pmul V1.s (denV V1) (pmul V1.s (denV V2) (denV V3))) (pmul V1.s (pmul V1.s (denV V1) (denV V2)) (denV V3)) (by exact KT12.out.below (by first | exact HWT12.out | exact HWT12.out.drew)) (by exact KT14.out.below (by first | exact HWT14.out | exact HWT14.out.drew)) (pmul_assoc _ _ _ _ X1.out X2.out X3.out)).mono ?_
  rintro e zz15 ⟨rfl, b⟩
  replace HW := below_step (by first | exact HW | exact HW.drew) b
  clear KT12 HWT12
  clear KT14 HWT14
  clear b
  clear p10 p11 p12 p13 p14 p20 p21 p22 p23 p24 p30 p31 p32 p33 p34 p40 p41 p42 p43 p44 p50 p51 p52 p53 p54
  obtain ⟨p10, p11, p12, p13, p14⟩ := box5 G1.out HW
  obtain ⟨p20, p21, p22, p23, p24⟩ := box5 G2.out HW
  obtain ⟨p30, p31, p32, p33, p34⟩ := box5 G3.out HW
  obtain ⟨p40, p41, p42, p43, p44⟩ := box5 G4.out HW
  obtain ⟨p50, p51, p52, p53, p54⟩ := box5 G5.out HW
  refine hK.out _ _ ?_ (fun hHeldB => ?_)
  · (try dsimp only); first | exact ⟨p10, p11, p12, p13, p14, p20, p21, p22, p23, p24, p30, p31, p32, p33, p34, p40, p41, p42, p43, p44, p50, p51, p52, p53, p54⟩ | go_keep
  clear hK K hHeld
  have hHeld := hHeldB
  clear hHeldB
  try simp only [Act.put, List.setIfInBounds_toArray, List.set_cons_zero, List.set_cons_succ]
  refine wpAnyH_take (i := 57) (oi := { dst := some 139, op := Op.pick (Operand.tmp 122) (Operand.tmp 138) (Operand.const (Value.bool false)), type := 4, pos := "law.go:97", after := #[{ on := 40, ground := Ground.data }, { on := 56, ground := Ground.data }], guard := none }) (v := ?vu42) rfl (by kernel_rfl) (by kernel_rfl) (by kernel_rfl) (fun _ _ _ h => h) (Or.inl ⟨by rfl, ?hyu42⟩) (by assumption) ?restu42
  case hyu42 => (intro w hSw; (try dsimp only at hSw); go_simp; (try with_reducible rfl))
  try simp only [Act.put, List.setIfInBounds_toArray, List.set_cons_zero, List.set_cons_succ]
  refine wpAnyH_take (i := 58) (oi := { dst := some 14, op := Op.assign (Operand.tmp 139), type := 4, pos := "law.go:97", after := #[{ on := 57, ground := Ground.data }, { on := 56, ground := Ground.chain }, { on := 0, ground := Ground.phase }, { on := 1, ground := Ground.phase }, { on := 2, ground := Ground.phase }, { on := 3, ground := Ground.phase }, { on := 4, ground := Ground.phase }, { on := 5, ground := Ground.phase }, { on := 6, ground := Ground.phase }, { on := 7, ground := Ground.phase }, { on := 8, ground := Ground.phase }, { on := 9, ground := Ground.phase }, { on := 10, ground := Ground.phase }, { on := 11, ground := Ground.phase }, { on := 12, ground := Ground.phase }, { on := 13, ground := Ground.phase }, { on := 14, ground := Ground.phase }, { on := 15, ground := Ground.phase }, { on := 16, ground := Ground.phase }, { on := 17, ground := Ground.phase }, { on := 18, ground := Ground.phase }, { on := 19, ground := Ground.phase }, { on := 20, ground := Ground.phase }, { on := 21, ground := Ground.phase }, { on := 22, ground := Ground.phase }, { on := 23, ground := Ground.phase }, { on := 24, ground := Ground.phase }, { on := 25, ground := Ground.phase }, { on := 26, ground := Ground.phase }, { on := 27, ground := Ground.phase }, { on := 28, ground := Ground.phase }, { on := 29, ground := Ground.phase }, { on := 30, ground := Ground.phase }, { on := 31, ground := Ground.phase }, { on := 32, ground := Ground.phase }, { on := 33, ground := Ground.phase }, { on := 34, ground := Ground.phase }, { on := 35, ground := Ground.phase }, { on := 36, ground := Ground.phase }, { on := 37, ground := Ground.phase }, { on := 38, ground := Ground.phase }, { on := 39, ground := Ground.phase }, { on := 40, ground := Ground.phase }, { on := 41, ground := Ground.phase }, { on := 42, ground := Ground.phase }, { on := 43, ground := Ground.phase }, { on := 44, ground := Ground.phase }, { on := 45, ground := Ground.phase }, { on := 46, ground := Ground.phase }, { on := 47, ground := Ground.phase }, { on := 48, ground := Ground.phase }, { on := 49, ground := Ground.phase }, { on := 50, ground := Ground.phase }, { on := 51, ground := Ground.phase }, { on := 52, ground := Ground.phase }, { on := 53, ground := Ground.phase }, { on := 54, ground := Ground.phase }, { on := 55, ground := Ground.phase }, { on := 56, ground := Ground.phase }, { on := 57, ground := Ground.phase }], guard := none }) (v := ?vu43) rfl (by kernel_rfl) (by kernel_rfl) (by kernel_rfl) (fun _ _ _ h => h) (Or.inl ⟨by rfl, ?hyu43⟩) (by assumption) ?restu43
  case hyu43 => (intro w hSw; (try dsimp only at hSw); go_simp; (try with_reducible rfl))
  try simp only [Act.put, List.setIfInBounds_toArray, List.set_cons_zero, List.set_cons_succ]
  refine wpAnyH_done (by kernel_rfl) ?_ _
  go_upto_region 13 with fail
  refine wp_region_held_drew (S := (fun w' => w'.cell? ⟨w.heap.size, 0, none⟩ = some (.int .i64 V1.s) ∧ w'.cell? ⟨w.heap.size, 1, none⟩ = some (.bool V1.i) ∧ w'.cell? ⟨w.heap.size, 2, none⟩ = some (.slice a1 V1.n c1) ∧ w'.cell? ⟨w.heap.size, 3, none⟩ = some (.int .i64 V1.l) ∧ w'.cell? ⟨w.heap.size, 4, none⟩ = some (.float .f64 V1.x) ∧ w'.cell? ⟨w.heap.size + 1, 0, none⟩ = some (.int .i64 V1.s) ∧ w'.cell? ⟨w.heap.size + 1, 1, none⟩ = some (.bool V2.i) ∧ w'.cell? ⟨w.heap.size + 1, 2, none⟩ = some (.slice a2 V2.n c2) ∧ w'.cell? ⟨w.heap.size + 1, 3, none⟩ = some (.int .i64 V2.l) ∧ w'.cell? ⟨w.heap.size + 1, 4, none⟩ = some (.float .f64 V2.x) ∧ w'.cell? ⟨w.heap.size + 1 + 1, 0, none⟩ = some (.int .i64 V1.s) ∧ w'.cell? ⟨w.heap.size + 1 + 1, 1, none⟩ = some (.bool V3.i) ∧ w'.cell? ⟨w.heap.size + 1 + 1, 2, none⟩ = some (.slice a3 V3.n c3) ∧ w'.cell? ⟨w.heap.size + 1 + 1, 3, none⟩ = some (.int .i64 V3.l) ∧ w'.cell? ⟨w.heap.size + 1 + 1, 4, none⟩ = some (.float .f64 V3.x) ∧ w'.cell? ⟨w8.heap.size, 0, none⟩ = some (.int .i64 V1.s) ∧ w'.cell? ⟨w8.heap.size, 1, none⟩ = some (.bool V4.i) ∧ w'.cell? ⟨w8.heap.size, 2, none⟩ = some (.slice a4 V4.n c4) ∧ w'.cell? ⟨w8.heap.size, 3, none⟩ = some (.int .i64 V4.l) ∧ w'.cell? ⟨w8.heap.size, 4, none⟩ = some (.float .f64 V4.x) ∧ w'.cell? ⟨w9.heap.size, 0, none⟩ = some (.int .i64 V1.s) ∧ w'.cell? ⟨w9.heap.size, 1, none⟩ = some (.bool V5.i) ∧ w'.cell? ⟨w9.heap.size, 2, none⟩ = some (.slice a5 V5.n c5) ∧ w'.cell? ⟨w9.heap.size, 3, none⟩ = some (.int .i64 V5.l) ∧ w'.cell? ⟨w9.heap.size, 4, none⟩ = some (.float .f64 V5.x))) (by kernel_rfl) ?_ (fun hHeld => ?_)
  · (try dsimp only); first | exact ⟨p10, p11, p12, p13, p14, p20, p21, p22, p23, p24, p30, p31, p32, p33, p34, p40, p41, p42, p43, p44, p50, p51, p52, p53, p54⟩ | go_keep
  refine wpAnyH_take (i := 0) (oi := { dst := some 140, op := Op.move (Operand.tmp 14), type := 4, pos := "law.go:98", after := #[], guard := none }) (v := ?vu44) rfl (by kernel_rfl) (by kernel_rfl) (by kernel_rfl) (fun _ _ _ h => h) (Or.inl ⟨by rfl, ?hyu44⟩) (by assumption) ?restu44
  case hyu44 => (intro w hSw; (try dsimp only at hSw); go_simp; (try with_reducible rfl))
  try simp only [Act.put, List.setIfInBounds_toArray, List.set_cons_zero, List.set_cons_succ]
  refine wpAnyH_take (i := 1) (oi := { dst := some 141, op := Op.move (Operand.tmp 140), type := 4, pos := "law.go:98", after := #[{ on := 0, ground := Ground.data }], guard := none }) (v := ?vu45) rfl (by kernel_rfl) (by kernel_rfl) (by kernel_rfl) (fun _ _ _ h => h) (Or.inl ⟨by rfl, ?hyu45⟩) (by assumption) ?restu45
  case hyu45 => (intro w hSw; (try dsimp only at hSw); go_simp; (try with_reducible rfl))
  try simp only [Act.put, List.setIfInBounds_toArray, List.set_cons_zero, List.set_cons_succ]
  refine wpAnyH_take (i := 2) (oi := { dst := some 142, op := Op.move (Operand.tmp 13), type := 43, pos := "law.go:98", after := #[{ on := 1, ground := Ground.guard }], guard := some (1, true) }) (v := ?vu46) rfl (by kernel_rfl) (by kernel_rfl) (by kernel_rfl) (fun _ _ _ h => h) (Or.inl ⟨by rfl, ?hyu46⟩) (by assumption) ?restu46
  case hyu46 => (intro w hSw; (try dsimp only at hSw); go_simp; (try with_reducible rfl))
  try simp only [Act.put, List.setIfInBounds_toArray, List.set_cons_zero, List.set_cons_succ]
  refine wpAnyH_take (i := 3) (oi := { dst := some 143, op := Op.move (Operand.tmp 8), type := 49, pos := "law.go:98", after := #[{ on := 1, ground := Ground.guard }], guard := some (1, true) }) (v := ?vu47) rfl (by kernel_rfl) (by kernel_rfl) (by kernel_rfl) (fun _ _ _ h => h) (Or.inl ⟨by rfl, ?hyu47⟩) (by assumption) ?restu47
  case hyu47 => (intro w hSw; (try dsimp only at hSw); go_simp; (try with_reducible rfl))
  try simp only [Act.put, List.setIfInBounds_toArray, List.set_cons_zero, List.set_cons_succ]
  refine wpAnyH_take (i := 4) (oi := { dst := some 144, op := Op.load 27 (Operand.tmp 3), type := 27, pos := "law.go:98", after := #[{ on := 1, ground := Ground.guard }], guard := some (1, true) }) (v := ?vu48) rfl (by kernel_rfl) (by kernel_rfl) (by kernel_rfl) (fun _ _ _ h => h) (Or.inl ⟨by rfl, ?hyu48⟩) (by assumption) ?restu48
  case hyu48 => (intro w hSw; (try dsimp only at hSw); go_simp; (try with_reducible rfl))
  try simp only [Act.put, List.setIfInBounds_toArray, List.set_cons_zero, List.set_cons_succ]
  refine wpAnyH_take (i := 5) (oi := { dst := some 145, op := Op.move (Operand.tmp 7), type := 49, pos := "law.go:98", after := #[{ on := 1, ground := Ground.guard }], guard := some (1, true) }) (v := ?vu49) rfl (by kernel_rfl) (by kernel_rfl) (by kernel_rfl) (fun _ _ _ h => h) (Or.inl ⟨by rfl, ?hyu49⟩) (by assumption) ?restu49
  case hyu49 => (intro w hSw; (try dsimp only at hSw); go_simp; (try with_reducible rfl))
  try simp only [Act.put, List.setIfInBounds_toArray, List.set_cons_zero, List.set_cons_succ]
  refine wpAnyH_take (i := 6) (oi := { dst := some 146, op := Op.load 27 (Operand.tmp 4), type := 27, pos := "law.go:98", after := #[{ on := 1, ground := Ground.guard }], guard := some (1, true) }) (v := ?vu50) rfl (by kernel_rfl) (by kernel_rfl) (by kernel_rfl) (fun _ _ _ h => h) (Or.inl ⟨by rfl, ?hyu50⟩) (by assumption) ?restu50
  case hyu50 => (intro w hSw; (try dsimp only at hSw); go_simp; (try with_reducible rfl))
  try simp only [Act.put, List.setIfInBounds_toArray, List.set_cons_zero, List.set_cons_succ]
  refine wpAnyH_take (i := 7) (oi := { dst := some 147, op := Op.load 27 (Operand.tmp 5), type := 27, pos := "law.go:98", after := #[{ on := 1, ground := Ground.guard }], guard := some (1, true) }) (v := ?vu51) rfl (by kernel_rfl) (by kernel_rfl) (by kernel_rfl) (fun _ _ _ h => h) (Or.inl ⟨by rfl, ?hyu51⟩) (by assumption) ?restu51
  case hyu51 => (intro w hSw; (try dsimp only at hSw); go_simp; (try with_reducible rfl))
  try simp only [Act.put, List.setIfInBounds_toArray, List.set_cons_zero, List.set_cons_succ]
  refine wpAnyH_take (i := 10) (oi := { dst := some 150, op := Op.move (Operand.tmp 7), type := 49, pos := "law.go:98", after := #[{ on := 1, ground := Ground.guard }], guard := some (1, true) }) (v := ?vu52) rfl (by kernel_rfl) (by kernel_rfl) (by kernel_rfl) (fun _ _ _ h => h) (Or.inl ⟨by rfl, ?hyu52⟩) (by assumption) ?restu52
  case hyu52 => (intro w hSw; (try dsimp only at hSw); go_simp; (try with_reducible rfl))
  try simp only [Act.put, List.setIfInBounds_toArray, List.set_cons_zero, List.set_cons_succ]
  refine wpAnyH_take (i := 11) (oi := { dst := some 151, op := Op.move (Operand.tmp 8), type := 49, pos := "law.go:98", after := #[{ on := 1, ground := Ground.guard }], guard := some (1, true) }) (v := ?vu53) rfl (by kernel_rfl) (by kernel_rfl) (by kernel_rfl) (fun _ _ _ h => h) (Or.inl ⟨by rfl, ?hyu53⟩) (by assumption) ?restu53
  case hyu53 => (intro w hSw; (try dsimp only at hSw); go_simp; (try with_reducible rfl))
  try simp only [Act.put, List.setIfInBounds_toArray, List.set_cons_zero, List.set_cons_succ]
  refine wpAnyH_take (i := 12) (oi := { dst := some 152, op := Op.load 27 (Operand.tmp 3), type := 27, pos := "law.go:98", after := #[{ on := 1, ground := Ground.guard }], guard := some (1, true) }) (v := ?vu54) rfl (by kernel_rfl) (by kernel_rfl) (by kernel_rfl) (fun _ _ _ h => h) (Or.inl ⟨by rfl, ?hyu54⟩) (by assumption) ?restu54
  case hyu54 => (intro w hSw; (try dsimp only at hSw); go_simp; (try with_reducible rfl))
  try simp only [Act.put, List.setIfInBounds_toArray, List.set_cons_zero, List.set_cons_succ]
  refine wpAnyH_take (i := 13) (oi := { dst := some 153, op := Op.load 27 (Operand.tmp 4), type := 27, pos := "law.go:98", after := #[{ on := 1, ground := Ground.guard }], guard := some (1, true) }) (v := ?vu55) rfl (by kernel_rfl) (by kernel_rfl) (by kernel_rfl) (fun _ _ _ h => h) (Or.inl ⟨by rfl, ?hyu55⟩) (by assumption) ?restu55
  case hyu55 => (intro w hSw; (try dsimp only at hSw); go_simp; (try with_reducible rfl))
  try simp only [Act.put, List.setIfInBounds_toArray, List.set_cons_zero, List.set_cons_succ]
  refine wpAnyH_take (i := 15) (oi := { dst := some 155, op := Op.move (Operand.tmp 8), type := 49, pos := "law.go:98", after := #[{ on := 1, ground := Ground.guard }], guard := some (1, true) }) (v := ?vu56) rfl (by kernel_rfl) (by kernel_rfl) (by kernel_rfl) (fun _ _ _ h => h) (Or.inl ⟨by rfl, ?hyu56⟩) (by assumption) ?restu56
  case hyu56 => (intro w hSw; (try dsimp only at hSw); go_simp; (try with_reducible rfl))
  try simp only [Act.put, List.setIfInBounds_toArray, List.set_cons_zero, List.set_cons_succ]
  refine wpAnyH_take (i := 16) (oi := { dst := some 156, op := Op.load 27 (Operand.tmp 3), type := 27, pos := "law.go:98", after := #[{ on := 1, ground := Ground.guard }], guard := some (1, true) }) (v := ?vu57) rfl (by kernel_rfl) (by kernel_rfl) (by kernel_rfl) (fun _ _ _ h => h) (Or.inl ⟨by rfl, ?hyu57⟩) (by assumption) ?restu57
  case hyu57 => (intro w hSw; (try dsimp only at hSw); go_simp; (try with_reducible rfl))
  try simp only [Act.put, List.setIfInBounds_toArray, List.set_cons_zero, List.set_cons_succ]
  refine wpAnyH_take (i := 17) (oi := { dst := some 157, op := Op.load 27 (Operand.tmp 5), type := 27, pos := "law.go:98", after := #[{ on := 1, ground := Ground.guard }], guard := some (1, true) }) (v := ?vu58) rfl (by kernel_rfl) (by kernel_rfl) (by kernel_rfl) (fun _ _ _ h => h) (Or.inl ⟨by rfl, ?hyu58⟩) (by assumption) ?restu58
  case hyu58 => (intro w hSw; (try dsimp only at hSw); go_simp; (try with_reducible rfl))
  try simp only [Act.put, List.setIfInBounds_toArray, List.set_cons_zero, List.set_cons_succ]
  refine wpAnyH_ready (rs := [8]) (by kernel_rfl) (by simp) ?_
  refine AllReadyH.cons (o := { dst := some 148, op := Op.call { callee := Callee.value (Operand.tmp 145), args := #[Operand.tmp 146, Operand.tmp 147], argTypes := #[27, 27] }, type := 27, pos := "law.go:98", after := #[{ on := 5, ground := Ground.data }, { on := 6, ground := Ground.data }, { on := 7, ground := Ground.data }, { on := 1, ground := Ground.chain }, { on := 1, ground := Ground.guard }], guard := some (1, true) }) rfl (fun K hK => ?_) AllReadyH.nil
  go_simp
  go_at_call 28
  refine (cplus_at _ _ _ V1.s (denV V2) (denV V3) (by exact Kb.out.below (by first | exact HW | exact HW.drew)) (by exact Kc.out.below (by first | exact HW | exact HW.drew)) (fun hs => (padd_short (k := 60) hs ((SH2.out hs).le (by decide)) ((SH3.out hs).le (by decide))).le (by decide))).mono ?_
  rintro e zz16 ⟨⟨u16, rfl, o⟩, b⟩
  replace HW := below_step (by first | exact HW | exact HW.drew) b
  have KP16 : Hid (VOk _ _ _ _) := o
  have HWP16 : Hid (Below _ _ _) := below_refl zz16
  clear o
  clear b
  clear p10 p11 p12 p13 p14 p20 p21 p22 p23 p24 p30 p31 p32 p33 p34 p40 p41 p42 p43 p44 p50 p51 p52 p53 p54
  obtain ⟨p10, p11, p12, p13, p14⟩ := box5 G1.out HW
  obtain ⟨p20, p21, p22, p23, p24⟩ := box5 G2.out HW
  obtain ⟨p30, p31, p32, p33, p34⟩ := box5 G3.out HW
  obtain ⟨p40, p41, p42, p43, p44⟩ := box5 G4.out HW
  obtain ⟨p50, p51, p52, p53, p54⟩ := box5 G5.out HW
  refine hK.out _ _ ?_ (fun hHeldB => ?_)
  · (try dsimp only); first | exact ⟨p10, p11, p12, p13, p14, p20, p21, p22, p23, p24, p30, p31, p32, p33, p34, p40, p41, p42, p43, p44, p50, p51, p52, p53, p54⟩ | go_keep
  clear hK K hHeld
  have hHeld := hHeldB
  clear hHeldB
  try simp only [Act.put, List.setIfInBounds_toArray, List.set_cons_zero, List.set_cons_succ]
  refine wpAnyH_ready (rs := [9]) (by kernel_rfl) (by simp) ?_
  refine AllReadyH.cons (o := { dst := some 149, op := Op.call { callee := Callee.value (Operand.tmp 143), args := #[Operand.tmp 144, Operand.tmp 148], argTypes := #[27, 27] }, type := 27, pos := "law.go:98", after := #[{ on := 3, ground := Ground.data }, { on := 4, ground := Ground.data }, { on := 8, ground := Ground.data }, { on := 8, ground := Ground.chain }, { on := 1, ground := Ground.guard }], guard := some (1, true) }) rfl (fun K hK => ?_) AllReadyH.nil
  go_simp
  go_at_call 29
  refine (ctimes_at _ _ _ V1.s (denV V1) (padd V1.s (denV V2) (denV V3)) (by exact Ka.out.below (by first | exact HW | exact HW.drew)) (by exact KP16.out.below (by first | exact HWP16.out | exact HWP16.out.drew)) (fun hs => (pmul_short (k := 121) hs ((SH1.out hs).le (by decide)) ((padd_short (k := 60) hs ((SH2.out hs).le (by decide)) ((SH3.out hs).le (by decide))).le (by decide))).le (by decide))).mono ?_
  rintro e zz17 ⟨⟨u17, rfl, o⟩, b⟩
  replace HW := below_step (by first | exact HW | exact HW.drew) b
  replace HWP16 : Hid (Below _ _ _) := below_step (by first | exact HWP16.out | exact HWP16.out.drew) b
  have KT17 : Hid (VOk _ _ _ _) := o
  have HWT17 : Hid (Below _ _ _) := below_refl zz17
  clear o
  clear b
  clear p10 p11 p12 p13 p14 p20 p21 p22 p23 p24 p30 p31 p32 p33 p34 p40 p41 p42 p43 p44 p50 p51 p52 p53 p54
  obtain ⟨p10, p11, p12, p13, p14⟩ := box5 G1.out HW
  obtain ⟨p20, p21, p22, p23, p24⟩ := box5 G2.out HW
  obtain ⟨p30, p31, p32, p33, p34⟩ := box5 G3.out HW
  obtain ⟨p40, p41, p42, p43, p44⟩ := box5 G4.out HW
  obtain ⟨p50, p51, p52, p53, p54⟩ := box5 G5.out HW
  refine hK.out _ _ ?_ (fun hHeldB => ?_)
  · (try dsimp only); first | exact ⟨p10, p11, p12, p13, p14, p20, p21, p22, p23, p24, p30, p31, p32, p33, p34, p40, p41, p42, p43, p44, p50, p51, p52, p53, p54⟩ | go_keep
  clear hK K hHeld
  have hHeld := hHeldB
  clear hHeldB
  try simp only [Act.put, List.setIfInBounds_toArray, List.set_cons_zero, List.set_cons_succ]
  refine wpAnyH_ready (rs := [14]) (by kernel_rfl) (by simp) ?_
  refine AllReadyH.cons (o := { dst := some 154, op := Op.call { callee := Callee.value (Operand.tmp 151), args := #[Operand.tmp 152, Operand.tmp 153], argTypes := #[27, 27] }, type := 27, pos := "law.go:98", after := #[{ on := 11, ground := Ground.data }, { on := 12, ground := Ground.data }, { on := 13, ground := Ground.data }, { on := 9, ground := Ground.chain }, { on := 1, ground := Ground.guard }], guard := some (1, true) }) rfl (fun K hK => ?_) AllReadyH.nil
  go_simp
  go_at_call 29
  refine (ctimes_at _ _ _ V1.s (denV V1) (denV V2) (by exact Ka.out.below (by first | exact HW | exact HW.drew)) (by exact Kb.out.below (by first | exact HW | exact HW.drew)) (fun hs => (pmul_short (k := 60) hs ((SH1.out hs).le (by decide)) ((SH2.out hs).le (by decide))).le (by decide))).mono ?_
  rintro e zz18 ⟨⟨u18, rfl, o⟩, b⟩
  replace HW := below_step (by first | exact HW | exact HW.drew) b
  replace HWP16 : Hid (Below _ _ _) := below_step (by first | exact HWP16.out | exact HWP16.out.drew) b
  replace HWT17 : Hid (Below _ _ _) := below_step (by first | exact HWT17.out | exact HWT17.out.drew) b
  have KT18 : Hid (VOk _ _ _ _) := o
  have HWT18 : Hid (Below _ _ _) := below_refl zz18
  clear o
  clear b
  clear p10 p11 p12 p13 p14 p20 p21 p22 p23 p24 p30 p31 p32 p33 p34 p40 p41 p42 p43 p44 p50 p51 p52 p53 p54
  obtain ⟨p10, p11, p12, p13, p14⟩ := box5 G1.out HW
  obtain ⟨p20, p21, p22, p23, p24⟩ := box5 G2.out HW
  obtain ⟨p30, p31, p32, p33, p34⟩ := box5 G3.out HW
  obtain ⟨p40, p41, p42, p43, p44⟩ := box5 G4.out HW
  obtain ⟨p50, p51, p52, p53, p54⟩ := box5 G5.out HW
  refine hK.out _ _ ?_ (fun hHeldB => ?_)
  · (try dsimp only); first | exact ⟨p10, p11, p12, p13, p14, p20, p21, p22, p23, p24, p30, p31, p32, p33, p34, p40, p41, p42, p43, p44, p50, p51, p52, p53, p54⟩ | go_keep
  clear hK K hHeld
  have hHeld := hHeldB
  clear hHeldB
  try simp only [Act.put, List.setIfInBounds_toArray, List.set_cons_zero, List.set_cons_succ]
  refine wpAnyH_ready (rs := [18]) (by kernel_rfl) (by simp) ?_
  refine AllReadyH.cons (o := { dst := some 158, op := Op.call { callee := Callee.value (Operand.tmp 155), args := #[Operand.tmp 156, Operand.tmp 157], argTypes := #[27, 27] }, type := 27, pos := "law.go:98", after := #[{ on := 15, ground := Ground.data }, { on := 16, ground := Ground.data }, { on := 17, ground := Ground.data }, { on := 14, ground := Ground.chain }, { on := 1, ground := Ground.guard }], guard := some (1, true) }) rfl (fun K hK => ?_) AllReadyH.nil
  go_simp
  go_at_call 29
  refine (ctimes_at _ _ _ V1.s (denV V1) (denV V3) (by exact Ka.out.below (by first | exact HW | exact HW.drew)) (by exact Kc.out.below (by first | exact HW | exact HW.drew)) (fun hs => (pmul_short (k := 60) hs ((SH1.out hs).le (by decide)) ((SH3.out hs).le (by decide))).le (by decide))).mono ?_
  rintro e zz19 ⟨⟨u19, rfl, o⟩, b⟩
  replace HW := below_step (by first | exact HW | exact HW.drew) b
  replace HWP16 : Hid (Below _ _ _) := below_step (by first | exact HWP16.out | exact HWP16.out.drew) b
  replace HWT17 : Hid (Below _ _ _) := below_step (by first | exact HWT17.out | exact HWT17.out.drew) b
  replace HWT18 : Hid (Below _ _ _) := below_step (by first | exact HWT18.out | exact HWT18.out.drew) b
  have KT19 : Hid (VOk _ _ _ _) := o
  have HWT19 : Hid (Below _ _ _) := below_refl zz19
  clear o
  clear b
  clear p10 p11 p12 p13 p14 p20 p21 p22 p23 p24 p30 p31 p32 p33 p34 p40 p41 p42 p43 p44 p50 p51 p52 p53 p54
  obtain ⟨p10, p11, p12, p13, p14⟩ := box5 G1.out HW
  obtain ⟨p20, p21, p22, p23, p24⟩ := box5 G2.out HW
  obtain ⟨p30, p31, p32, p33, p34⟩ := box5 G3.out HW
  obtain ⟨p40, p41, p42, p43, p44⟩ := box5 G4.out HW
  obtain ⟨p50, p51, p52, p53, p54⟩ := box5 G5.out HW
  refine hK.out _ _ ?_ (fun hHeldB => ?_)
  · (try dsimp only); first | exact ⟨p10, p11, p12, p13, p14, p20, p21, p22, p23, p24, p30, p31, p32, p33, p34, p40, p41, p42, p43, p44, p50, p51, p52, p53, p54⟩ | go_keep
  clear hK K hHeld
  have hHeld := hHeldB
  clear hHeldB
  try simp only [Act.put, List.setIfInBounds_toArray, List.set_cons_zero, List.set_cons_succ]
  refine wpAnyH_ready (rs := [19]) (by kernel_rfl) (by simp) ?_
  refine AllReadyH.cons (o := { dst := some 159, op := Op.call { callee := Callee.value (Operand.tmp 150), args := #[Operand.tmp 154, Operand.tmp 158], argTypes := #[27, 27] }, type := 27, pos := "law.go:98", after := #[{ on := 10, ground := Ground.data }, { on := 14, ground := Ground.data }, { on := 18, ground := Ground.data }, { on := 18, ground := Ground.chain }, { on := 1, ground := Ground.guard }], guard := some (1, true) }) rfl (fun K hK => ?_) AllReadyH.nil
  go_simp
  go_at_call 28
  refine (cplus_at _ _ _ V1.s (pmul V1.s (denV V1) (denV V2)) (pmul V1.s (denV V1) (denV V3)) (by exact KT18.out.below (by first | exact HWT18.out | exact HWT18.out.drew)) (by exact KT19.out.below (by first | exact HWT19.out | exact HWT19.out.drew)) (fun hs => (padd_short (k := 121) hs ((pmul_short (k := 60) hs ((SH1.out hs).le (by decide)) ((SH2.out hs).le (by decide))).le (by decide)) ((pmul_short (k := 60) hs ((SH1.out hs).le (by decide)) ((SH3.out hs).le (by decide))).le (by decide))).le (by decide))).mono ?_
  rintro e zz20 ⟨⟨u20, rfl, o⟩, b⟩
  replace HW := below_step (by first | exact HW | exact HW.drew) b
  replace HWP16 : Hid (Below _ _ _) := below_step (by first | exact HWP16.out | exact HWP16.out.drew) b
  replace HWT17 : Hid (Below _ _ _) := below_step (by first | exact HWT17.out | exact HWT17.out.drew) b
  replace HWT18 : Hid (Below _ _ _) := below_step (by first | exact HWT18.out | exact HWT18.out.drew) b
  replace HWT19 : Hid (Below _ _ _) := below_step (by first | exact HWT19.out | exact HWT19.out.drew) b
  have KP20 : Hid (VOk _ _ _ _) := o
  have HWP20 : Hid (Below _ _ _) := below_refl zz20
  clear o
  clear b
  clear p10 p11 p12 p13 p14 p20 p21 p22 p23 p24 p30 p31 p32 p33 p34 p40 p41 p42 p43 p44 p50 p51 p52 p53 p54
  obtain ⟨p10, p11, p12, p13, p14⟩ := box5 G1.out HW
  obtain ⟨p20, p21, p22, p23, p24⟩ := box5 G2.out HW
  obtain ⟨p30, p31, p32, p33, p34⟩ := box5 G3.out HW
  obtain ⟨p40, p41, p42, p43, p44⟩ := box5 G4.out HW
  obtain ⟨p50, p51, p52, p53, p54⟩ := box5 G5.out HW
  clear KP16 HWP16
  clear KT18 HWT18
  clear KT19 HWT19
  refine hK.out _ _ ?_ (fun hHeldB => ?_)
  · (try dsimp only); first | exact ⟨p10, p11, p12, p13, p14, p20, p21, p22, p23, p24, p30, p31, p32, p33, p34, p40, p41, p42, p43, p44, p50, p51, p52, p53, p54⟩ | go_keep
  clear hK K hHeld
  have hHeld := hHeldB
  clear hHeldB
  try simp only [Act.put, List.setIfInBounds_toArray, List.set_cons_zero, List.set_cons_succ]
  refine wpAnyH_ready (rs := [20]) (by kernel_rfl) (by simp) ?_
  refine AllReadyH.cons (o := { dst := some 160, op := Op.call { callee := Callee.value (Operand.tmp 142), args := #[Operand.tmp 149, Operand.tmp 159], argTypes := #[27, 27] }, type := 4, pos := "law.go:98", after := #[{ on := 2, ground := Ground.data }, { on := 9, ground := Ground.data }, { on := 19, ground := Ground.data }, { on := 19, ground := Ground.chain }, { on := 1, ground := Ground.guard }], guard := some (1, true) }) rfl (fun K hK => ?_) AllReadyH.nil
  go_simp
  go_at_call 23
  refine (same_of _ _ _ V1.s (pmul V1.s (denV V1) (padd V1.s (denV V2) (denV V3))) (padd V1.s (pmul V1.s (denV V1) (denV V2)) (pmul V1.s (denV V1) (denV V3))) (by exact KT17.out.below (by first | exact HWT17.out | exact HWT17.out.drew)) (by exact KP20.out.below (by first | exact HWP20.out | exact HWP20.out.drew)) (pmul_padd _ _ _ _ X1.out X2.out X3.out)).mono ?_
  rintro e zz21 ⟨rfl, b⟩
  replace HW := below_step (by first | exact HW | exact HW.drew) b
  clear KT17 HWT17
  clear KP20 HWP20
  clear b
  clear p10 p11 p12 p13 p14 p20 p21 p22 p23 p24 p30 p31 p32 p33 p34 p40 p41 p42 p43 p44 p50 p51 p52 p53 p54
  obtain ⟨p10, p11, p12, p13, p14⟩ := box5 G1.out HW
  obtain ⟨p20, p21, p22, p23, p24⟩ := box5 G2.out HW
  obtain ⟨p30, p31, p32, p33, p34⟩ := box5 G3.out HW
  obtain ⟨p40, p41, p42, p43, p44⟩ := box5 G4.out HW
  obtain ⟨p50, p51, p52, p53, p54⟩ := box5 G5.out HW
  refine hK.out _ _ ?_ (fun hHeldB => ?_)
  · (try dsimp only); first | exact ⟨p10, p11, p12, p13, p14, p20, p21, p22, p23, p24, p30, p31, p32, p33, p34, p40, p41, p42, p43, p44, p50, p51, p52, p53, p54⟩ | go_keep
  clear hK K hHeld
  have hHeld := hHeldB
  clear hHeldB
  try simp only [Act.put, List.setIfInBounds_toArray, List.set_cons_zero, List.set_cons_succ]
  refine wpAnyH_take (i := 21) (oi := { dst := some 161, op := Op.pick (Operand.tmp 141) (Operand.tmp 160) (Operand.const (Value.bool false)), type := 4, pos := "law.go:98", after := #[{ on := 1, ground := Ground.data }, { on := 20, ground := Ground.data }], guard := none }) (v := ?vu59) rfl (by kernel_rfl) (by kernel_rfl) (by kernel_rfl) (fun _ _ _ h => h) (Or.inl ⟨by rfl, ?hyu59⟩) (by assumption) ?restu59
  case hyu59 => (intro w hSw; (try dsimp only at hSw); go_simp; (try with_reducible rfl))
  try simp only [Act.put, List.setIfInBounds_toArray, List.set_cons_zero, List.set_cons_succ]
  refine wpAnyH_take (i := 22) (oi := { dst := some 162, op := Op.move (Operand.tmp 161), type := 4, pos := "law.go:98", after := #[{ on := 21, ground := Ground.data }, { on := 20, ground := Ground.chain }], guard := none }) (v := ?vu60) rfl (by kernel_rfl) (by kernel_rfl) (by kernel_rfl) (fun _ _ _ h => h) (Or.inl ⟨by rfl, ?hyu60⟩) (by assumption) ?restu60
  case hyu60 => (intro w hSw; (try dsimp only at hSw); go_simp; (try with_reducible rfl))
  try simp only [Act.put, List.setIfInBounds_toArray, List.set_cons_zero, List.set_cons_succ]
  refine wpAnyH_take (i := 23) (oi := { dst := some 163, op := Op.move (Operand.tmp 13), type := 43, pos := "law.go:98", after := #[{ on := 22, ground := Ground.guard }], guard := some (22, true) }) (v := ?vu61) rfl (by kernel_rfl) (by kernel_rfl) (by kernel_rfl) (fun _ _ _ h => h) (Or.inl ⟨by rfl, ?hyu61⟩) (by assumption) ?restu61
  case hyu61 => (intro w hSw; (try dsimp only at hSw); go_simp; (try with_reducible rfl))
  try simp only [Act.put, List.setIfInBounds_toArray, List.set_cons_zero, List.set_cons_succ]
  refine wpAnyH_take (i := 24) (oi := { dst := some 164, op := Op.move (Operand.tmp 7), type := 49, pos := "law.go:98", after := #[{ on := 22, ground := Ground.guard }], guard := some (22, true) }) (v := ?vu62) rfl (by kernel_rfl) (by kernel_rfl) (by kernel_rfl) (fun _ _ _ h => h) (Or.inl ⟨by rfl, ?hyu62⟩) (by assumption) ?restu62
  case hyu62 => (intro w hSw; (try dsimp only at hSw); go_simp; (try with_reducible rfl))
  try simp only [Act.put, List.setIfInBounds_toArray, List.set_cons_zero, List.set_cons_succ]
  refine wpAnyH_take (i := 25) (oi := { dst := some 165, op := Op.load 27 (Operand.tmp 3), type := 27, pos := "law.go:98", after := #[{ on := 22, ground := Ground.guard }], guard := some (22, true) }) (v := ?vu63) rfl (by kernel_rfl) (by kernel_rfl) (by kernel_rfl) (fun _ _ _ h => h) (Or.inl ⟨by rfl, ?hyu63⟩) (by assumption) ?restu63
  case hyu63 => (intro w hSw; (try dsimp only at hSw); go_simp; (try with_reducible rfl))
  try simp only [Act.put, List.setIfInBounds_toArray, List.set_cons_zero, List.set_cons_succ]
  refine wpAnyH_take (i := 26) (oi := { dst := some 166, op := Op.load 27 (Operand.tmp 9), type := 27, pos := "law.go:98", after := #[{ on := 22, ground := Ground.guard }], guard := some (22, true) }) (v := ?vu64) rfl (by kernel_rfl) (by kernel_rfl) (by kernel_rfl) (fun _ _ _ h => h) (Or.inl ⟨by rfl, ?hyu64⟩) (by assumption) ?restu64
  case hyu64 => (intro w hSw; (try dsimp only at hSw); go_simp; (try with_reducible rfl))
  try simp only [Act.put, List.setIfInBounds_toArray, List.set_cons_zero, List.set_cons_succ]
  refine wpAnyH_take (i := 28) (oi := { dst := some 168, op := Op.load 27 (Operand.tmp 3), type := 27, pos := "law.go:98", after := #[{ on := 22, ground := Ground.guard }], guard := some (22, true) }) (v := ?vu65) rfl (by kernel_rfl) (by kernel_rfl) (by kernel_rfl) (fun _ _ _ h => h) (Or.inl ⟨by rfl, ?hyu65⟩) (by assumption) ?restu65
  case hyu65 => (intro w hSw; (try dsimp only at hSw); go_simp; (try with_reducible rfl))
  try simp only [Act.put, List.setIfInBounds_toArray, List.set_cons_zero, List.set_cons_succ]
  refine wpAnyH_ready (rs := [27]) (by kernel_rfl) (by simp) ?_
  refine AllReadyH.cons (o := { dst := some 167, op := Op.call { callee := Callee.value (Operand.tmp 164), args := #[Operand.tmp 165, Operand.tmp 166], argTypes := #[27, 27] }, type := 27, pos := "law.go:98", after := #[{ on := 24, ground := Ground.data }, { on := 25, ground := Ground.data }, { on := 26, ground := Ground.data }, { on := 22, ground := Ground.chain }, { on := 22, ground := Ground.guard }], guard := some (22, true) }) rfl (fun K hK => ?_) AllReadyH.nil
  go_simp
  go_at_call 28
  refine (cplus_at _ _ _ V1.s (denV V1) (pzero V1.s) (by exact Ka.out.below (by first | exact HW | exact HW.drew)) (by exact Kz.out.below (by first | exact HW | exact HW.drew)) (fun hs => by rw [padd_zero _ _ O1.out]; exact (SH1.out hs).le (by decide))).mono ?_
  rintro e zz22 ⟨⟨u22, rfl, o⟩, b⟩
  replace HW := below_step (by first | exact HW | exact HW.drew) b
  have KP22 : Hid (VOk _ _ _ _) := o
  have HWP22 : Hid (Below _ _ _) := below_refl zz22
  clear o
  clear b
  clear p10 p11 p12 p13 p14 p20 p21 p22 p23 p24 p30 p31 p32 p33 p34 p40 p41 p42 p43 p44 p50 p51 p52 p53 p54
  obtain ⟨p10, p11, p12, p13, p14⟩ := box5 G1.out HW
  obtain ⟨p20, p21, p22, p23, p24⟩ := box5 G2.out HW
  obtain ⟨p30, p31, p32, p33, p34⟩ := box5 G3.out HW
  obtain ⟨p40, p41, p42, p43, p44⟩ := box5 G4.out HW
  obtain ⟨p50, p51, p52, p53, p54⟩ := box5 G5.out HW
  refine hK.out _ _ ?_ (fun hHeldB => ?_)
  · (try dsimp only); first | exact ⟨p10, p11, p12, p13, p14, p20, p21, p22, p23, p24, p30, p31, p32, p33, p34, p40, p41, p42, p43, p44, p50, p51, p52, p53, p54⟩ | go_keep
  clear hK K hHeld
  have hHeld := hHeldB
  clear hHeldB
  try simp only [Act.put, List.setIfInBounds_toArray, List.set_cons_zero, List.set_cons_succ]
  refine wpAnyH_ready (rs := [29]) (by kernel_rfl) (by simp) ?_
  refine AllReadyH.cons (o := { dst := some 169, op := Op.call { callee := Callee.value (Operand.tmp 163), args := #[Operand.tmp 167, Operand.tmp 168], argTypes := #[27, 27] }, type := 4, pos := "law.go:98", after := #[{ on := 23, ground := Ground.data }, { on := 27, ground := Ground.data }, { on := 28, ground := Ground.data }, { on := 27, ground := Ground.chain }, { on := 22, ground := Ground.guard }], guard := some (22, true) }) rfl (fun K hK => ?_) AllReadyH.nil
  go_simp
  go_at_call 23
  refine (same_of _ _ _ V1.s (padd V1.s (denV V1) (pzero V1.s)) (denV V1) (by exact KP22.out.below (by first | exact HWP22.out | exact HWP22.out.drew)) (by exact Ka.out.below (by first | exact HW | exact HW.drew)) (padd_zero _ _ O1.out)).mono ?_
  rintro e zz23 ⟨rfl, b⟩
  replace HW := below_step (by first | exact HW | exact HW.drew) b
  clear KP22 HWP22
  clear b
  clear p10 p11 p12 p13 p14 p20 p21 p22 p23 p24 p30 p31 p32 p33 p34 p40 p41 p42 p43 p44 p50 p51 p52 p53 p54
  obtain ⟨p10, p11, p12, p13, p14⟩ := box5 G1.out HW
  obtain ⟨p20, p21, p22, p23, p24⟩ := box5 G2.out HW
  obtain ⟨p30, p31, p32, p33, p34⟩ := box5 G3.out HW
  obtain ⟨p40, p41, p42, p43, p44⟩ := box5 G4.out HW
  obtain ⟨p50, p51, p52, p53, p54⟩ := box5 G5.out HW
  refine hK.out _ _ ?_ (fun hHeldB => ?_)
  · (try dsimp only); first | exact ⟨p10, p11, p12, p13, p14, p20, p21, p22, p23, p24, p30, p31, p32, p33, p34, p40, p41, p42, p43, p44, p50, p51, p52, p53, p54⟩ | go_keep
  clear hK K hHeld
  have hHeld := hHeldB
  clear hHeldB
  try simp only [Act.put, List.setIfInBounds_toArray, List.set_cons_zero, List.set_cons_succ]
  refine wpAnyH_take (i := 30) (oi := { dst := some 170, op := Op.pick (Operand.tmp 162) (Operand.tmp 169) (Operand.const (Value.bool false)), type := 4, pos := "law.go:98", after := #[{ on := 22, ground := Ground.data }, { on := 29, ground := Ground.data }], guard := none }) (v := ?vu66) rfl (by kernel_rfl) (by kernel_rfl) (by kernel_rfl) (fun _ _ _ h => h) (Or.inl ⟨by rfl, ?hyu66⟩) (by assumption) ?restu66
  case hyu66 => (intro w hSw; (try dsimp only at hSw); go_simp; (try with_reducible rfl))
  try simp only [Act.put, List.setIfInBounds_toArray, List.set_cons_zero, List.set_cons_succ]
  refine wpAnyH_take (i := 31) (oi := { dst := some 171, op := Op.move (Operand.tmp 170), type := 4, pos := "law.go:98", after := #[{ on := 30, ground := Ground.data }, { on := 29, ground := Ground.chain }], guard := none }) (v := ?vu67) rfl (by kernel_rfl) (by kernel_rfl) (by kernel_rfl) (fun _ _ _ h => h) (Or.inl ⟨by rfl, ?hyu67⟩) (by assumption) ?restu67
  case hyu67 => (intro w hSw; (try dsimp only at hSw); go_simp; (try with_reducible rfl))
  try simp only [Act.put, List.setIfInBounds_toArray, List.set_cons_zero, List.set_cons_succ]
  refine wpAnyH_take (i := 32) (oi := { dst := some 172, op := Op.move (Operand.tmp 13), type := 43, pos := "law.go:98", after := #[{ on := 31, ground := Ground.guard }], guard := some (31, true) }) (v := ?vu68) rfl (by kernel_rfl) (by kernel_rfl) (by kernel_rfl) (fun _ _ _ h => h) (Or.inl ⟨by rfl, ?hyu68⟩) (by assumption) ?restu68
  case hyu68 => (intro w hSw; (try dsimp only at hSw); go_simp; (try with_reducible rfl))
  try simp only [Act.put, List.setIfInBounds_toArray, List.set_cons_zero, List.set_cons_succ]
  refine wpAnyH_take (i := 33) (oi := { dst := some 173, op := Op.move (Operand.tmp 8), type := 49, pos := "law.go:98", after := #[{ on := 31, ground := Ground.guard }], guard := some (31, true) }) (v := ?vu69) rfl (by kernel_rfl) (by kernel_rfl) (by kernel_rfl) (fun _ _ _ h => h) (Or.inl ⟨by rfl, ?hyu69⟩) (by assumption) ?restu69
  case hyu69 => (intro w hSw; (try dsimp only at hSw); go_simp; (try with_reducible rfl))
  try simp only [Act.put, List.setIfInBounds_toArray, List.set_cons_zero, List.set_cons_succ]
  refine wpAnyH_take (i := 34) (oi := { dst := some 174, op := Op.load 27 (Operand.tmp 3), type := 27, pos := "law.go:98", after := #[{ on := 31, ground := Ground.guard }], guard := some (31, true) }) (v := ?vu70) rfl (by kernel_rfl) (by kernel_rfl) (by kernel_rfl) (fun _ _ _ h => h) (Or.inl ⟨by rfl, ?hyu70⟩) (by assumption) ?restu70
  case hyu70 => (intro w hSw; (try dsimp only at hSw); go_simp; (try with_reducible rfl))
  try simp only [Act.put, List.setIfInBounds_toArray, List.set_cons_zero, List.set_cons_succ]
  refine wpAnyH_take (i := 35) (oi := { dst := some 175, op := Op.load 27 (Operand.tmp 11), type := 27, pos := "law.go:98", after := #[{ on := 31, ground := Ground.guard }], guard := some (31, true) }) (v := ?vu71) rfl (by kernel_rfl) (by kernel_rfl) (by kernel_rfl) (fun _ _ _ h => h) (Or.inl ⟨by rfl, ?hyu71⟩) (by assumption) ?restu71
  case hyu71 => (intro w hSw; (try dsimp only at hSw); go_simp; (try with_reducible rfl))
  try simp only [Act.put, List.setIfInBounds_toArray, List.set_cons_zero, List.set_cons_succ]
  refine wpAnyH_take (i := 37) (oi := { dst := some 177, op := Op.load 27 (Operand.tmp 3), type := 27, pos := "law.go:98", after := #[{ on := 31, ground := Ground.guard }], guard := some (31, true) }) (v := ?vu72) rfl (by kernel_rfl) (by kernel_rfl) (by kernel_rfl) (fun _ _ _ h => h) (Or.inl ⟨by rfl, ?hyu72⟩) (by assumption) ?restu72
  case hyu72 => (intro w hSw; (try dsimp only at hSw); go_simp; (try with_reducible rfl))
  try simp only [Act.put, List.setIfInBounds_toArray, List.set_cons_zero, List.set_cons_succ]
  refine wpAnyH_ready (rs := [36]) (by kernel_rfl) (by simp) ?_
  refine AllReadyH.cons (o := { dst := some 176, op := Op.call { callee := Callee.value (Operand.tmp 173), args := #[Operand.tmp 174, Operand.tmp 175], argTypes := #[27, 27] }, type := 27, pos := "law.go:98", after := #[{ on := 33, ground := Ground.data }, { on := 34, ground := Ground.data }, { on := 35, ground := Ground.data }, { on := 31, ground := Ground.chain }, { on := 31, ground := Ground.guard }], guard := some (31, true) }) rfl (fun K hK => ?_) AllReadyH.nil
  go_simp
  go_at_call 29
  refine (ctimes_at _ _ _ V1.s (denV V1) (pone V1.s) (by exact Ka.out.below (by first | exact HW | exact HW.drew)) (by exact Ko.out.below (by first | exact HW | exact HW.drew)) (fun hs => by rw [pmul_one _ _ O1.out]; exact (SH1.out hs).le (by decide))).mono ?_
  rintro e zz24 ⟨⟨u24, rfl, o⟩, b⟩
  replace HW := below_step (by first | exact HW | exact HW.drew) b
  have KT24 : Hid (VOk _ _ _ _) := o
  have HWT24 : Hid (Below _ _ _) := below_refl zz24
  clear o
  clear b
  clear p10 p11 p12 p13 p14 p20 p21 p22 p23 p24 p30 p31 p32 p33 p34 p40 p41 p42 p43 p44 p50 p51 p52 p53 p54
  obtain ⟨p10, p11, p12, p13, p14⟩ := box5 G1.out HW
  obtain ⟨p20, p21, p22, p23, p24⟩ := box5 G2.out HW
  obtain ⟨p30, p31, p32, p33, p34⟩ := box5 G3.out HW
  obtain ⟨p40, p41, p42, p43, p44⟩ := box5 G4.out HW
  obtain ⟨p50, p51, p52, p53, p54⟩ := box5 G5.out HW
  refine hK.out _ _ ?_ (fun hHeldB => ?_)
  · (try dsimp only); first | exact ⟨p10, p11, p12, p13, p14, p20, p21, p22, p23, p24, p30, p31, p32, p33, p34, p40, p41, p42, p43, p44, p50, p51, p52, p53, p54⟩ | go_keep
  clear hK K hHeld
  have hHeld := hHeldB
  clear hHeldB
  try simp only [Act.put, List.setIfInBounds_toArray, List.set_cons_zero, List.set_cons_succ]
  refine wpAnyH_ready (rs := [38]) (by kernel_rfl) (by simp) ?_
  refine AllReadyH.cons (o := { dst := some 178, op := Op.call { callee := Callee.value (Operand.tmp 172), args := #[Operand.tmp 176, Operand.tmp 177], argTypes := #[27, 27] }, type := 4, pos := "law.go:98", after := #[{ on := 32, ground := Ground.data }, { on := 36, ground := Ground.data }, { on := 37, ground := Ground.data }, { on := 36, ground := Ground.chain }, { on := 31, ground := Ground.guard }], guard := some (31, true) }) rfl (fun K hK => ?_) AllReadyH.nil
  go_simp
  go_at_call 23
  refine (same_of _ _ _ V1.s (pmul V1.s (denV V1) (pone V1.s)) (denV V1) (by exact KT24.out.below (by first | exact HWT24.out | exact HWT24.out.drew)) (by exact Ka.out.below (by first | exact HW | exact HW.drew)) (pmul_one _ _ O1.out)).mono ?_
  rintro e zz25 ⟨rfl, b⟩
  replace HW := below_step (by first | exact HW | exact HW.drew) b
  clear KT24 HWT24
  clear b
  clear p10 p11 p12 p13 p14 p20 p21 p22 p23 p24 p30 p31 p32 p33 p34 p40 p41 p42 p43 p44 p50 p51 p52 p53 p54
  obtain ⟨p10, p11, p12, p13, p14⟩ := box5 G1.out HW
  obtain ⟨p20, p21, p22, p23, p24⟩ := box5 G2.out HW
  obtain ⟨p30, p31, p32, p33, p34⟩ := box5 G3.out HW
  obtain ⟨p40, p41, p42, p43, p44⟩ := box5 G4.out HW
  obtain ⟨p50, p51, p52, p53, p54⟩ := box5 G5.out HW
  refine hK.out _ _ ?_ (fun hHeldB => ?_)
  · (try dsimp only); first | exact ⟨p10, p11, p12, p13, p14, p20, p21, p22, p23, p24, p30, p31, p32, p33, p34, p40, p41, p42, p43, p44, p50, p51, p52, p53, p54⟩ | go_keep
  clear hK K hHeld
  have hHeld := hHeldB
  clear hHeldB
  try simp only [Act.put, List.setIfInBounds_toArray, List.set_cons_zero, List.set_cons_succ]
  refine wpAnyH_take (i := 39) (oi := { dst := some 179, op := Op.pick (Operand.tmp 171) (Operand.tmp 178) (Operand.const (Value.bool false)), type := 4, pos := "law.go:98", after := #[{ on := 31, ground := Ground.data }, { on := 38, ground := Ground.data }], guard := none }) (v := ?vu73) rfl (by kernel_rfl) (by kernel_rfl) (by kernel_rfl) (fun _ _ _ h => h) (Or.inl ⟨by rfl, ?hyu73⟩) (by assumption) ?restu73
  case hyu73 => (intro w hSw; (try dsimp only at hSw); go_simp; (try with_reducible rfl))
  try simp only [Act.put, List.setIfInBounds_toArray, List.set_cons_zero, List.set_cons_succ]
  refine wpAnyH_take (i := 40) (oi := { dst := some 180, op := Op.move (Operand.tmp 179), type := 4, pos := "law.go:98", after := #[{ on := 39, ground := Ground.data }, { on := 38, ground := Ground.chain }], guard := none }) (v := ?vu74) rfl (by kernel_rfl) (by kernel_rfl) (by kernel_rfl) (fun _ _ _ h => h) (Or.inl ⟨by rfl, ?hyu74⟩) (by assumption) ?restu74
  case hyu74 => (intro w hSw; (try dsimp only at hSw); go_simp; (try with_reducible rfl))
  try simp only [Act.put, List.setIfInBounds_toArray, List.set_cons_zero, List.set_cons_succ]
  refine wpAnyH_take (i := 41) (oi := { dst := some 181, op := Op.move (Operand.tmp 13), type := 43, pos := "law.go:98", after := #[{ on := 40, ground := Ground.guard }], guard := some (40, true) }) (v := ?vu75) rfl (by kernel_rfl) (by kernel_rfl) (by kernel_rfl) (fun _ _ _ h => h) (Or.inl ⟨by rfl, ?hyu75⟩) (by assumption) ?restu75
  case hyu75 => (intro w hSw; (try dsimp only at hSw); go_simp; (try with_reducible rfl))
  try simp only [Act.put, List.setIfInBounds_toArray, List.set_cons_zero, List.set_cons_succ]
  refine wpAnyH_take (i := 42) (oi := { dst := some 182, op := Op.move (Operand.tmp 8), type := 49, pos := "law.go:98", after := #[{ on := 40, ground := Ground.guard }], guard := some (40, true) }) (v := ?vu76) rfl (by kernel_rfl) (by kernel_rfl) (by kernel_rfl) (fun _ _ _ h => h) (Or.inl ⟨by rfl, ?hyu76⟩) (by assumption) ?restu76
  case hyu76 => (intro w hSw; (try dsimp only at hSw); go_simp; (try with_reducible rfl))
  try simp only [Act.put, List.setIfInBounds_toArray, List.set_cons_zero, List.set_cons_succ]
  refine wpAnyH_take (i := 43) (oi := { dst := some 183, op := Op.load 27 (Operand.tmp 3), type := 27, pos := "law.go:98", after := #[{ on := 40, ground := Ground.guard }], guard := some (40, true) }) (v := ?vu77) rfl (by kernel_rfl) (by kernel_rfl) (by kernel_rfl) (fun _ _ _ h => h) (Or.inl ⟨by rfl, ?hyu77⟩) (by assumption) ?restu77
  case hyu77 => (intro w hSw; (try dsimp only at hSw); go_simp; (try with_reducible rfl))
  try simp only [Act.put, List.setIfInBounds_toArray, List.set_cons_zero, List.set_cons_succ]
  refine wpAnyH_take (i := 44) (oi := { dst := some 184, op := Op.load 27 (Operand.tmp 9), type := 27, pos := "law.go:98", after := #[{ on := 40, ground := Ground.guard }], guard := some (40, true) }) (v := ?vu78) rfl (by kernel_rfl) (by kernel_rfl) (by kernel_rfl) (fun _ _ _ h => h) (Or.inl ⟨by rfl, ?hyu78⟩) (by assumption) ?restu78
  case hyu78 => (intro w hSw; (try dsimp only at hSw); go_simp; (try with_reducible rfl))
  try simp only [Act.put, List.setIfInBounds_toArray, List.set_cons_zero, List.set_cons_succ]
  refine wpAnyH_take (i := 46) (oi := { dst := some 186, op := Op.load 27 (Operand.tmp 9), type := 27, pos := "law.go:98", after := #[{ on := 40, ground := Ground.guard }], guard := some (40, true) }) (v := ?vu79) rfl (by kernel_rfl) (by kernel_rfl) (by kernel_rfl) (fun _ _ _ h => h) (Or.inl ⟨by rfl, ?hyu79⟩) (by assumption) ?restu79
  case hyu79 => (intro w hSw; (try dsimp only at hSw); go_simp; (try with_reducible rfl))
  try simp only [Act.put, List.setIfInBounds_toArray, List.set_cons_zero, List.set_cons_succ]
  refine wpAnyH_ready (rs := [45]) (by kernel_rfl) (by simp) ?_
  refine AllReadyH.cons (o := { dst := some 185, op := Op.call { callee := Callee.value (Operand.tmp 182), args := #[Operand.tmp 183, Operand.tmp 184], argTypes := #[27, 27] }, type := 27, pos := "law.go:98", after := #[{ on := 42, ground := Ground.data }, { on := 43, ground := Ground.data }, { on := 44, ground := Ground.data }, { on := 40, ground := Ground.chain }, { on := 40, ground := Ground.guard }], guard := some (40, true) }) rfl (fun K hK => ?_) AllReadyH.nil
  go_simp
  go_at_call 29
  refine (ctimes_at _ _ _ V1.s (denV V1) (pzero V1.s) (by exact Ka.out.below (by first | exact HW | exact HW.drew)) (by exact Kz.out.below (by first | exact HW | exact HW.drew)) (fun hs => by rw [pmul_zero _ _ O1.out X1.out]; exact pzero_short _ hs)).mono ?_
  rintro e zz26 ⟨⟨u26, rfl, o⟩, b⟩
  replace HW := below_step (by first | exact HW | exact HW.drew) b
  have KT26 : Hid (VOk _ _ _ _) := o
  have HWT26 : Hid (Below _ _ _) := below_refl zz26
  clear o
  clear b
  clear p10 p11 p12 p13 p14 p20 p21 p22 p23 p24 p30 p31 p32 p33 p34 p40 p41 p42 p43 p44 p50 p51 p52 p53 p54
  obtain ⟨p10, p11, p12, p13, p14⟩ := box5 G1.out HW
  obtain ⟨p20, p21, p22, p23, p24⟩ := box5 G2.out HW
  obtain ⟨p30, p31, p32, p33, p34⟩ := box5 G3.out HW
  obtain ⟨p40, p41, p42, p43, p44⟩ := box5 G4.out HW
  obtain ⟨p50, p51, p52, p53, p54⟩ := box5 G5.out HW
  refine hK.out _ _ ?_ (fun hHeldB => ?_)
  · (try dsimp only); first | exact ⟨p10, p11, p12, p13, p14, p20, p21, p22, p23, p24, p30, p31, p32, p33, p34, p40, p41, p42, p43, p44, p50, p51, p52, p53, p54⟩ | go_keep
  clear hK K hHeld
  have hHeld := hHeldB
  clear hHeldB
  try simp only [Act.put, List.setIfInBounds_toArray, List.set_cons_zero, List.set_cons_succ]
  refine wpAnyH_ready (rs := [47]) (by kernel_rfl) (by simp) ?_
  refine AllReadyH.cons (o := { dst := some 187, op := Op.call { callee := Callee.value (Operand.tmp 181), args := #[Operand.tmp 185, Operand.tmp 186], argTypes := #[27, 27] }, type := 4, pos := "law.go:98", after := #[{ on := 41, ground := Ground.data }, { on := 45, ground := Ground.data }, { on := 46, ground := Ground.data }, { on := 45, ground := Ground.chain }, { on := 40, ground := Ground.guard }], guard := some (40, true) }) rfl (fun K hK => ?_) AllReadyH.nil
  go_simp
  go_at_call 23
  refine (same_of _ _ _ V1.s (pmul V1.s (denV V1) (pzero V1.s)) (pzero V1.s) (by exact KT26.out.below (by first | exact HWT26.out | exact HWT26.out.drew)) (by exact Kz.out.below (by first | exact HW | exact HW.drew)) (pmul_zero _ _ O1.out X1.out)).mono ?_
  rintro e zz27 ⟨rfl, b⟩
  replace HW := below_step (by first | exact HW | exact HW.drew) b
  clear KT26 HWT26
  clear b
  clear p10 p11 p12 p13 p14 p20 p21 p22 p23 p24 p30 p31 p32 p33 p34 p40 p41 p42 p43 p44 p50 p51 p52 p53 p54
  obtain ⟨p10, p11, p12, p13, p14⟩ := box5 G1.out HW
  obtain ⟨p20, p21, p22, p23, p24⟩ := box5 G2.out HW
  obtain ⟨p30, p31, p32, p33, p34⟩ := box5 G3.out HW
  obtain ⟨p40, p41, p42, p43, p44⟩ := box5 G4.out HW
  obtain ⟨p50, p51, p52, p53, p54⟩ := box5 G5.out HW
  refine hK.out _ _ ?_ (fun hHeldB => ?_)
  · (try dsimp only); first | exact ⟨p10, p11, p12, p13, p14, p20, p21, p22, p23, p24, p30, p31, p32, p33, p34, p40, p41, p42, p43, p44, p50, p51, p52, p53, p54⟩ | go_keep
  clear hK K hHeld
  have hHeld := hHeldB
  clear hHeldB
  try simp only [Act.put, List.setIfInBounds_toArray, List.set_cons_zero, List.set_cons_succ]
  refine wpAnyH_take (i := 48) (oi := { dst := some 188, op := Op.pick (Operand.tmp 180) (Operand.tmp 187) (Operand.const (Value.bool false)), type := 4, pos := "law.go:98", after := #[{ on := 40, ground := Ground.data }, { on := 47, ground := Ground.data }], guard := none }) (v := ?vu80) rfl (by kernel_rfl) (by kernel_rfl) (by kernel_rfl) (fun _ _ _ h => h) (Or.inl ⟨by rfl, ?hyu80⟩) (by assumption) ?restu80
  case hyu80 => (intro w hSw; (try dsimp only at hSw); go_simp; (try with_reducible rfl))
  try simp only [Act.put, List.setIfInBounds_toArray, List.set_cons_zero, List.set_cons_succ]
  refine wpAnyH_take (i := 49) (oi := { dst := some 189, op := Op.move (Operand.tmp 188), type := 4, pos := "law.go:98", after := #[{ on := 48, ground := Ground.data }, { on := 47, ground := Ground.chain }], guard := none }) (v := ?vu81) rfl (by kernel_rfl) (by kernel_rfl) (by kernel_rfl) (fun _ _ _ h => h) (Or.inl ⟨by rfl, ?hyu81⟩) (by assumption) ?restu81
  case hyu81 => (intro w hSw; (try dsimp only at hSw); go_simp; (try with_reducible rfl))
  try simp only [Act.put, List.setIfInBounds_toArray, List.set_cons_zero, List.set_cons_succ]
  refine wpAnyH_take (i := 50) (oi := { dst := some 190, op := Op.load 27 (Operand.tmp 9), type := 27, pos := "law.go:98", after := #[{ on := 49, ground := Ground.guard }], guard := some (49, true) }) (v := ?vu82) rfl (by kernel_rfl) (by kernel_rfl) (by kernel_rfl) (fun _ _ _ h => h) (Or.inl ⟨by rfl, ?hyu82⟩) (by assumption) ?restu82
  case hyu82 => (intro w hSw; (try dsimp only at hSw); go_simp; (try with_reducible rfl))
  try simp only [Act.put, List.setIfInBounds_toArray, List.set_cons_zero, List.set_cons_succ]
  refine wpAnyH_ready (rs := [51]) (by kernel_rfl) (by simp) ?_
  refine AllReadyH.cons (o := { dst := some 191, op := Op.call { callee := Callee.value (Operand.func 25), args := #[Operand.tmp 190], argTypes := #[27] }, type := 4, pos := "law.go:98", after := #[{ on := 50, ground := Ground.data }, { on := 49, ground := Ground.chain }, { on := 49, ground := Ground.guard }], guard := some (49, true) }) rfl (fun K hK => ?_) AllReadyH.nil
  go_simp
  go_at_call 25
  refine (iszero_of _ _ V1.s (pzero V1.s) true (by exact Kz.out.below (by first | exact HW | exact HW.drew)) (decide_eq_true rfl)).mono ?_
  rintro e zz28 ⟨rfl, b⟩
  replace HW := below_step (by first | exact HW | exact HW.drew) b
  clear b
  clear p10 p11 p12 p13 p14 p20 p21 p22 p23 p24 p30 p31 p32 p33 p34 p40 p41 p42 p43 p44 p50 p51 p52 p53 p54
  obtain ⟨p10, p11, p12, p13, p14⟩ := box5 G1.out HW
  obtain ⟨p20, p21, p22, p23, p24⟩ := box5 G2.out HW
  obtain ⟨p30, p31, p32, p33, p34⟩ := box5 G3.out HW
  obtain ⟨p40, p41, p42, p43, p44⟩ := box5 G4.out HW
  obtain ⟨p50, p51, p52, p53, p54⟩ := box5 G5.out HW
  refine hK.out _ _ ?_ (fun hHeldB => ?_)
  · (try dsimp only); first | exact ⟨p10, p11, p12, p13, p14, p20, p21, p22, p23, p24, p30, p31, p32, p33, p34, p40, p41, p42, p43, p44, p50, p51, p52, p53, p54⟩ | go_keep
  clear hK K hHeld
  have hHeld := hHeldB
  clear hHeldB
  try simp only [Act.put, List.setIfInBounds_toArray, List.set_cons_zero, List.set_cons_succ]
  refine wpAnyH_take (i := 52) (oi := { dst := some 192, op := Op.pick (Operand.tmp 189) (Operand.tmp 191) (Operand.const (Value.bool false)), type := 4, pos := "law.go:98", after := #[{ on := 49, ground := Ground.data }, { on := 51, ground := Ground.data }], guard := none }) (v := ?vu83) rfl (by kernel_rfl) (by kernel_rfl) (by kernel_rfl) (fun _ _ _ h => h) (Or.inl ⟨by rfl, ?hyu83⟩) (by assumption) ?restu83
  case hyu83 => (intro w hSw; (try dsimp only at hSw); go_simp; (try with_reducible rfl))
  try simp only [Act.put, List.setIfInBounds_toArray, List.set_cons_zero, List.set_cons_succ]
  refine wpAnyH_take (i := 53) (oi := { dst := some 193, op := Op.move (Operand.tmp 192), type := 4, pos := "law.go:98", after := #[{ on := 52, ground := Ground.data }, { on := 51, ground := Ground.chain }], guard := none }) (v := ?vu84) rfl (by kernel_rfl) (by kernel_rfl) (by kernel_rfl) (fun _ _ _ h => h) (Or.inl ⟨by rfl, ?hyu84⟩) (by assumption) ?restu84
  case hyu84 => (intro w hSw; (try dsimp only at hSw); go_simp; (try with_reducible rfl))
  try simp only [Act.put, List.setIfInBounds_toArray, List.set_cons_zero, List.set_cons_succ]
  refine wpAnyH_take (i := 54) (oi := { dst := some 194, op := Op.load 27 (Operand.tmp 11), type := 27, pos := "law.go:98", after := #[{ on := 53, ground := Ground.guard }], guard := some (53, true) }) (v := ?vu85) rfl (by kernel_rfl) (by kernel_rfl) (by kernel_rfl) (fun _ _ _ h => h) (Or.inl ⟨by rfl, ?hyu85⟩) (by assumption) ?restu85
  case hyu85 => (intro w hSw; (try dsimp only at hSw); go_simp; (try with_reducible rfl))
  try simp only [Act.put, List.setIfInBounds_toArray, List.set_cons_zero, List.set_cons_succ]
  refine wpAnyH_ready (rs := [55]) (by kernel_rfl) (by simp) ?_
  refine AllReadyH.cons (o := { dst := some 195, op := Op.call { callee := Callee.value (Operand.func 25), args := #[Operand.tmp 194], argTypes := #[27] }, type := 4, pos := "law.go:98", after := #[{ on := 54, ground := Ground.data }, { on := 53, ground := Ground.chain }, { on := 53, ground := Ground.guard }], guard := some (53, true) }) rfl (fun K hK => ?_) AllReadyH.nil
  go_simp
  go_at_call 25
  refine (iszero_of _ _ V1.s (pone V1.s) false (by exact Ko.out.below (by first | exact HW | exact HW.drew)) (decide_eq_false (pone_ne _ (may_sem M1.out)))).mono ?_
  rintro e zz29 ⟨rfl, b⟩
  replace HW := below_step (by first | exact HW | exact HW.drew) b
  clear b
  clear p10 p11 p12 p13 p14 p20 p21 p22 p23 p24 p30 p31 p32 p33 p34 p40 p41 p42 p43 p44 p50 p51 p52 p53 p54
  obtain ⟨p10, p11, p12, p13, p14⟩ := box5 G1.out HW
  obtain ⟨p20, p21, p22, p23, p24⟩ := box5 G2.out HW
  obtain ⟨p30, p31, p32, p33, p34⟩ := box5 G3.out HW
  obtain ⟨p40, p41, p42, p43, p44⟩ := box5 G4.out HW
  obtain ⟨p50, p51, p52, p53, p54⟩ := box5 G5.out HW
  refine hK.out _ _ ?_ (fun hHeldB => ?_)
  · (try dsimp only); first | exact ⟨p10, p11, p12, p13, p14, p20, p21, p22, p23, p24, p30, p31, p32, p33, p34, p40, p41, p42, p43, p44, p50, p51, p52, p53, p54⟩ | go_keep
  clear hK K hHeld
  have hHeld := hHeldB
  clear hHeldB
  try simp only [Act.put, List.setIfInBounds_toArray, List.set_cons_zero, List.set_cons_succ]
  refine wpAnyH_take (i := 56) (oi := { dst := some 196, op := Op.unOp UnOp.not 4 (Operand.tmp 195), type := 4, pos := "law.go:98", after := #[{ on := 55, ground := Ground.data }, { on := 53, ground := Ground.guard }], guard := some (53, true) }) (v := ?vu86) rfl (by kernel_rfl) (by kernel_rfl) (by kernel_rfl) (fun _ _ _ h => h) (Or.inl ⟨by rfl, ?hyu86⟩) (by assumption) ?restu86
  case hyu86 => (intro w hSw; (try dsimp only at hSw); go_simp; (try with_reducible rfl))
  try simp only [Act.put, List.setIfInBounds_toArray, List.set_cons_zero, List.set_cons_succ]
  refine wpAnyH_take (i := 57) (oi := { dst := some 197, op := Op.pick (Operand.tmp 193) (Operand.tmp 196) (Operand.const (Value.bool false)), type := 4, pos := "law.go:98", after := #[{ on := 53, ground := Ground.data }, { on := 56, ground := Ground.data }], guard := none }) (v := ?vu87) rfl (by kernel_rfl) (by kernel_rfl) (by kernel_rfl) (fun _ _ _ h => h) (Or.inl ⟨by rfl, ?hyu87⟩) (by assumption) ?restu87
  case hyu87 => (intro w hSw; (try dsimp only at hSw); go_simp; (try with_reducible rfl))
  try simp only [Act.put, List.setIfInBounds_toArray, List.set_cons_zero, List.set_cons_succ]
  refine wpAnyH_take (i := 58) (oi := { dst := some 198, op := Op.move (Operand.tmp 197), type := 4, pos := "law.go:98", after := #[{ on := 57, ground := Ground.data }, { on := 55, ground := Ground.chain }], guard := none }) (v := ?vu88) rfl (by kernel_rfl) (by kernel_rfl) (by kernel_rfl) (fun _ _ _ h => h) (Or.inl ⟨by rfl, ?hyu88⟩) (by assumption) ?restu88
  case hyu88 => (intro w hSw; (try dsimp only at hSw); go_simp; (try with_reducible rfl))
  try simp only [Act.put, List.setIfInBounds_toArray, List.set_cons_zero, List.set_cons_succ]
  refine wpAnyH_ready (rs := [59]) (by kernel_rfl) (by simp) ?_
  refine AllReadyH.cons (o := { dst := some 199, op := Op.call { callee := Callee.value (Operand.func 7), args := #[], argTypes := #[] }, type := 4, pos := "law.go:98", after := #[{ on := 58, ground := Ground.chain }, { on := 58, ground := Ground.guard }], guard := some (58, true) }) rfl (fun K hK => ?_) AllReadyH.nil
  go_simp
  go_at_call 7
  refine (vawake_any _ (by exact HEnv.out.below (below_step HB.out (by first | exact HW | exact HW.drew)))).mono ?_
  rintro e zz30 ⟨rfl, b⟩
  replace HW := below_step (by first | exact HW | exact HW.drew) b
  clear b
  clear p10 p11 p12 p13 p14 p20 p21 p22 p23 p24 p30 p31 p32 p33 p34 p40 p41 p42 p43 p44 p50 p51 p52 p53 p54
  obtain ⟨p10, p11, p12, p13, p14⟩ := box5 G1.out HW
  obtain ⟨p20, p21, p22, p23, p24⟩ := box5 G2.out HW
  obtain ⟨p30, p31, p32, p33, p34⟩ := box5 G3.out HW
  obtain ⟨p40, p41, p42, p43, p44⟩ := box5 G4.out HW
  obtain ⟨p50, p51, p52, p53, p54⟩ := box5 G5.out HW
  refine hK.out _ _ ?_ (fun hHeldB => ?_)
  · (try dsimp only); first | exact ⟨p10, p11, p12, p13, p14, p20, p21, p22, p23, p24, p30, p31, p32, p33, p34, p40, p41, p42, p43, p44, p50, p51, p52, p53, p54⟩ | go_keep
  clear hK K hHeld
  have hHeld := hHeldB
  clear hHeldB
  try simp only [Act.put, List.setIfInBounds_toArray, List.set_cons_zero, List.set_cons_succ]
  refine wpAnyH_take (i := 60) (oi := { dst := some 200, op := Op.pick (Operand.tmp 198) (Operand.tmp 199) (Operand.const (Value.bool false)), type := 4, pos := "law.go:98", after := #[{ on := 58, ground := Ground.data }, { on := 59, ground := Ground.data }], guard := none }) (v := ?vu89) rfl (by kernel_rfl) (by kernel_rfl) (by kernel_rfl) (fun _ _ _ h => h) (Or.inl ⟨by rfl, ?hyu89⟩) (by assumption) ?restu89
  case hyu89 => (intro w hSw; (try dsimp only at hSw); go_simp; (try with_reducible rfl))
  try simp only [Act.put, List.setIfInBounds_toArray, List.set_cons_zero, List.set_cons_succ]
  refine wpAnyH_take (i := 61) (oi := { dst := some 6, op := Op.assign (Operand.tmp 200), type := 4, pos := "law.go:98", after := #[{ on := 60, ground := Ground.data }, { on := 59, ground := Ground.chain }, { on := 0, ground := Ground.phase }, { on := 1, ground := Ground.phase }, { on := 2, ground := Ground.phase }, { on := 3, ground := Ground.phase }, { on := 4, ground := Ground.phase }, { on := 5, ground := Ground.phase }, { on := 6, ground := Ground.phase }, { on := 7, ground := Ground.phase }, { on := 8, ground := Ground.phase }, { on := 9, ground := Ground.phase }, { on := 10, ground := Ground.phase }, { on := 11, ground := Ground.phase }, { on := 12, ground := Ground.phase }, { on := 13, ground := Ground.phase }, { on := 14, ground := Ground.phase }, { on := 15, ground := Ground.phase }, { on := 16, ground := Ground.phase }, { on := 17, ground := Ground.phase }, { on := 18, ground := Ground.phase }, { on := 19, ground := Ground.phase }, { on := 20, ground := Ground.phase }, { on := 21, ground := Ground.phase }, { on := 22, ground := Ground.phase }, { on := 23, ground := Ground.phase }, { on := 24, ground := Ground.phase }, { on := 25, ground := Ground.phase }, { on := 26, ground := Ground.phase }, { on := 27, ground := Ground.phase }, { on := 28, ground := Ground.phase }, { on := 29, ground := Ground.phase }, { on := 30, ground := Ground.phase }, { on := 31, ground := Ground.phase }, { on := 32, ground := Ground.phase }, { on := 33, ground := Ground.phase }, { on := 34, ground := Ground.phase }, { on := 35, ground := Ground.phase }, { on := 36, ground := Ground.phase }, { on := 37, ground := Ground.phase }, { on := 38, ground := Ground.phase }, { on := 39, ground := Ground.phase }, { on := 40, ground := Ground.phase }, { on := 41, ground := Ground.phase }, { on := 42, ground := Ground.phase }, { on := 43, ground := Ground.phase }, { on := 44, ground := Ground.phase }, { on := 45, ground := Ground.phase }, { on := 46, ground := Ground.phase }, { on := 47, ground := Ground.phase }, { on := 48, ground := Ground.phase }, { on := 49, ground := Ground.phase }, { on := 50, ground := Ground.phase }, { on := 51, ground := Ground.phase }, { on := 52, ground := Ground.phase }, { on := 53, ground := Ground.phase }, { on := 54, ground := Ground.phase }, { on := 55, ground := Ground.phase }, { on := 56, ground := Ground.phase }, { on := 57, ground := Ground.phase }, { on := 58, ground := Ground.phase }, { on := 59, ground := Ground.phase }, { on := 60, ground := Ground.phase }], guard := none }) (v := ?vu90) rfl (by kernel_rfl) (by kernel_rfl) (by kernel_rfl) (fun _ _ _ h => h) (Or.inl ⟨by rfl, ?hyu90⟩) (by assumption) ?restu90
  case hyu90 => (intro w hSw; (try dsimp only at hSw); go_simp; (try with_reducible rfl))
  try simp only [Act.put, List.setIfInBounds_toArray, List.set_cons_zero, List.set_cons_succ]
  refine wpAnyH_done (by kernel_rfl) ?_ _
  go_wp2
  go_ret
  exact ⟨rfl, below_step HB.out HW⟩
end Go.Proofs.YtjdbapkmaggllaaGreatDoor
