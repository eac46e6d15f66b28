/- The walk of SemiAsks. -/
import Derived.Test.YtjdbapkmaggllaaGreatDoorS48
import Derived.Test.YtjdbapkmaggllaaGreatDoorS49
namespace Go.Proofs.YtjdbapkmaggllaaGreatDoor
open Go.RowKit Fo
set_option maxRecDepth 100000

set_option maxHeartbeats 8000000 in
theorem asks_big (w : World) (V1 V2 : Vl) (a1 a2 : Option Addr) (c1 c2 : Nat) (sem : Int) (henv : Env w) (hbig : ¬ (V1.n ≤ 60 ∧ V2.n ≤ 60)) : Calls Tryz.prog 3 #[.agg #[.int .i64 V1.s, .bool V1.i, .slice a1 V1.n c1, .int .i64 V1.l, .float .f64 V1.x], .agg #[.int .i64 V2.s, .bool V2.i, .slice a2 V2.n c2, .int .i64 V2.l, .float .f64 V2.x], .int .i64 sem] w fun e w' => e = .returned (.bool true) ∧ Below w.heap.size w w' := by
  have HEnv : Hid (Env w) := henv
  have HBig : Hid (¬ (V1.n ≤ 60 ∧ V2.n ≤ 60)) := hbig
  clear henv hbig
  obtain ⟨W0, hW0⟩ : ∃ W0, W0 = (((w.alloc (.cells #[.int .i64 V1.s, .bool V1.i, .slice a1 V1.n c1, .int .i64 V1.l, .float .f64 V1.x] 27)).alloc (.cells #[.int .i64 V2.s, .bool V2.i, .slice a2 V2.n c2, .int .i64 V2.l, .float .f64 V2.x] 27)).alloc (.cells #[.int .i64 V1.s, .bool V1.i, .slice a1 V1.n c1, .int .i64 V1.l, .float .f64 V1.x, .int .i64 V2.s, .bool V2.i, .slice a2 V2.n c2, .int .i64 V2.l, .float .f64 V2.x] 27)) := ⟨_, rfl⟩
  have HB0 : Hid (Below w.heap.size w W0) := by rw [hW0]; exact below3 w _ _ _
  have hg : W0.heap[w.heap.size + 1 + 1]? = some (.cells #[.int .i64 V1.s, .bool V1.i, .slice a1 V1.n c1, .int .i64 V1.l, .float .f64 V1.x, .int .i64 V2.s, .bool V2.i, .slice a2 V2.n c2, .int .i64 V2.l, .float .f64 V2.x] 27) := by rw [hW0]; exact heap_at3_2 w _ _ _
  have cS : Calls Tryz.prog 6 #[.slice (some ⟨w.heap.size + 1 + 1, 0, none⟩) 2 2] W0 fun e w' => e = .returned (.bool false) ∧ w' = W0 := by
    refine vsmall_any (w.heap.size + 1 + 1) 2 (fun j => if j = 0 then a1 else a2) (fun j => if j = 0 then V1.n else V2.n) (fun j => if j = 0 then c1 else c2) W0 (by decide) (by decide) false (fun j hj => ?_) (fun h => ?_) (fun j hj h => ?_)
    · rw [cell_of_row W0 _ _ _ _ _ hg]
      match j, hj with
      | 0, _ => rfl
      | 1, _ => rfl
    · exfalso; exact HBig.out ⟨h 0 (by decide), h 1 (by decide)⟩
    · rfl
  clear hg
  go_enter Tryz.func3, Tryz.ntmps3
  go_wp2_with (go_at_call 6; fail)
  rw [← hW0]
  clear hW0
  refine cS.mono ?_
  rintro e w' ⟨rfl, hw⟩
  replace hw := hw.symm
  subst hw
  clear cS
  go_wp2_with (go_at_call 7; refine (vawake_any _ (by exact HEnv.out.below HB0.out)).mono ?_; rintro e w1 ⟨rfl, b⟩)
  go_ret
  exact ⟨rfl, below_step HB0.out b⟩
set_option maxHeartbeats 32000000 in
theorem asks_core (w : World) (v1 v2 : Value) (V1 V2 : Vl) (h1 : VIn w v1 V1) (h2 : VIn w v2 V2) (henv : Env w) (hsm : V1.n ≤ 60 ∧ V2.n ≤ 60) (sem r0 r1 r2 : Int) (bb sb zb : Bool) (e0 : semE sem = r0) (e1 : errV V1 V2 = r1) (e2 : mayV V1 = r2) (eb : betR V1 V2 = bb) (esb : sameV V1 V2 = sb) (ezb : zerV V1 = zb)
    (shp : r1 = 0 → (V1.s = 1 ∨ V1.s = 3) → Short 1000000 (padd V1.s (denV V1) (denV V2))) (shm : r1 = 0 → (V1.s = 1 ∨ V1.s = 3) → Short 1000000 (pmul V1.s (denV V1) (denV V2))) : Calls Tryz.prog 3 #[v1, v2, .int .i64 sem] w fun e w' => e = .returned (.bool true) ∧ Below w.heap.size w w' := by
  have hsf := st_flo
  have HEnv : Hid (Env w) := henv
  clear henv
  have SM : Hid (V1.n ≤ 60 ∧ V2.n ≤ 60) := hsm
  have SN : Hid (V1.n ≤ 60 ∧ V2.n ≤ 60) := hsm
  have E0 : Hid (semE sem = r0) := e0
  have E1 : Hid (errV V1 V2 = r1) := e1
  have E2 : Hid (mayV V1 = r2) := e2
  have EB : Hid (betR V1 V2 = bb) := eb
  have ESB : Hid (sameV V1 V2 = sb) := esb
  have EZB : Hid (zerV V1 = zb) := ezb
  have SHP : Hid (r1 = 0 → (V1.s = 1 ∨ V1.s = 3) → Short 1000000 (padd V1.s (denV V1) (denV V2))) := shp
  have SHM : Hid (r1 = 0 → (V1.s = 1 ∨ V1.s = 3) → Short 1000000 (pmul V1.s (denV V1) (denV V2))) := shm
  clear hsm e0 e1 e2 eb esb ezb shp shm
  have H1' := h1
  obtain ⟨a1, c1, rfl, hr1, hL1, hn1, hx1, hl1, hs1⟩ := h1
  have H2' := h2
  obtain ⟨a2, c2, rfl, hr2, hL2, hn2, hx2, hl2, hs2⟩ := h2
  obtain ⟨W0, hW0⟩ : ∃ W0, W0 = (((w.alloc (.cells #[.int .i64 V1.s, .bool V1.i, .slice a1 V1.n c1, .int .i64 V1.l, .float .f64 V1.x] 27)).alloc (.cells #[.int .i64 V2.s, .bool V2.i, .slice a2 V2.n c2, .int .i64 V2.l, .float .f64 V2.x] 27)).alloc (.cells #[.int .i64 V1.s, .bool V1.i, .slice a1 V1.n c1, .int .i64 V1.l, .float .f64 V1.x, .int .i64 V2.s, .bool V2.i, .slice a2 V2.n c2, .int .i64 V2.l, .float .f64 V2.x] 27)) := ⟨_, rfl⟩
  have HB0 : Hid (Below w.heap.size w W0) := by rw [hW0]; exact below3 w _ _ _
  have Hg1 : Hid (W0.heap[w.heap.size]? = some (.cells #[.int .i64 V1.s, .bool V1.i, .slice a1 V1.n c1, .int .i64 V1.l, .float .f64 V1.x] 27)) := by
    show W0.heap[w.heap.size]? = _
    rw [hW0]; exact heap_at3_0 w _ _ _
  have Hg2 : Hid (W0.heap[w.heap.size + 1]? = some (.cells #[.int .i64 V2.s, .bool V2.i, .slice a2 V2.n c2, .int .i64 V2.l, .float .f64 V2.x] 27)) := by
    show W0.heap[w.heap.size + 1]? = _
    rw [hW0]; exact heap_at3_1 w _ _ _
  have Hg3 : Hid (W0.heap[w.heap.size + 1 + 1]? = some (.cells #[.int .i64 V1.s, .bool V1.i, .slice a1 V1.n c1, .int .i64 V1.l, .float .f64 V1.x, .int .i64 V2.s, .bool V2.i, .slice a2 V2.n c2, .int .i64 V2.l, .float .f64 V2.x] 27)) := by
    show W0.heap[w.heap.size + 1 + 1]? = _
    rw [hW0]; exact heap_at3_2 w _ _ _
  have H1 : Hid (VIn W0 (.agg #[.int .i64 V1.s, .bool V1.i, .slice a1 V1.n c1, .int .i64 V1.l, .float .f64 V1.x]) V1) := H1'.below HB0.out
  have H2 : Hid (VIn W0 (.agg #[.int .i64 V2.s, .bool V2.i, .slice a2 V2.n c2, .int .i64 V2.l, .float .f64 V2.x]) V2) := H2'.below HB0.out
  have HW : Below W0.heap.size W0 W0 := below_refl W0
  clear hr1 hL1 hn1 hx1 hl1 hs1 H1' hr2 hL2 hn2 hx2 hl2 hs2 H2'
  obtain ⟨p10, p11, p12, p13, p14⟩ := box5 Hg1.out HW
  obtain ⟨p20, p21, p22, p23, p24⟩ := box5 Hg2.out HW
  have cS : Calls Tryz.prog 6 #[.slice (some ⟨w.heap.size + 1 + 1, 0, none⟩) 2 2] W0 fun e w' => e = .returned (.bool true) ∧ w' = W0 := by
    refine vsmall_any (w.heap.size + 1 + 1) 2 (fun j => if j = 0 then a1 else a2) (fun j => if j = 0 then V1.n else V2.n) (fun j => if j = 0 then c1 else c2) W0 (by decide) (by decide) true (fun j hj => ?_) (fun h => ?_) (fun j hj h => ?_)
    · rw [cell_of_row W0 _ _ _ _ _ Hg3.out]
      match j, hj with
      | 0, _ => rfl
      | 1, _ => rfl
    · rfl
    · exfalso
      revert h
      have := SM.out
      match j, hj with
      | 0, _ => exact fun h => absurd h (by show ¬ 60 < V1.n; omega)
      | 1, _ => exact fun h => absurd h (by show ¬ 60 < V2.n; omega)
  have I1 := H1
  have G1 := Hg1
  have I2 := H2
  have G2 := Hg2
  have HB := HB0
  clear HW H1 Hg1 p10 p11 p12 p13 p14 H2 Hg2 p20 p21 p22 p23 p24 HB0 SM
  go_enter Tryz.func3, Tryz.ntmps3
  go_wp2_with (go_at_call 6; fail)
  rw [← hW0]
  refine cS.mono ?_
  rintro e w' ⟨rfl, hw⟩
  replace hw := hw.symm
  subst hw
  clear cS hW0 Hg3
  obtain ⟨p10, p11, p12, p13, p14⟩ := box5 G1.out (below_refl _)
  have l1 := blk_lt G1.out
  obtain ⟨p20, p21, p22, p23, p24⟩ := box5 G2.out (below_refl _)
  have l2 := blk_lt G2.out
  go_wp2_with (go_at_call 8; fail)
  refine (vzero_all sem r0 _ E0.out).mono ?_
  rintro e w1 ⟨⟨u, rfl, o⟩, b⟩
  replace G1 : Hid (w1.heap[w.heap.size]? = _) := blk_below G1.out b
  replace I1 : Hid (VIn w1 _ _) := I1.out.below b
  replace G2 : Hid (w1.heap[w.heap.size + 1]? = _) := blk_below G2.out b
  replace I2 : Hid (VIn w1 _ _) := I2.out.below b
  replace HB : Hid (Below _ _ w1) := below_step HB.out b
  obtain ⟨s3, i3, a3, n3, c3, l3, x3, rfl⟩ := o.form
  have O3 : Hid (VR w1 (.agg #[.int .i64 s3, .bool i3, .slice a3 n3 c3, .int .i64 l3, .float .f64 x3]) r0 sem (pzero sem)) := o
  clear o b
  clear p10 p11 p12 p13 p14 l1 p20 p21 p22 p23 p24 l2
  obtain ⟨p10, p11, p12, p13, p14⟩ := box5 G1.out (below_refl _)
  have l1 := blk_lt G1.out
  obtain ⟨p20, p21, p22, p23, p24⟩ := box5 G2.out (below_refl _)
  have l2 := blk_lt G2.out
  go_wp2_with (go_at_call 9; fail)
  obtain ⟨W1, hW⟩ : ∃ W1, W1 = w1.alloc (.cells #[.int .i64 s3, .bool i3, .slice a3 n3 c3, .int .i64 l3, .float .f64 x3] 27) := ⟨_, rfl⟩
  rw [← hW]
  have hb : Below w1.heap.size w1 W1 := by rw [hW]; exact below1 _ _
  replace G1 : Hid (W1.heap[w.heap.size]? = _) := blk_below G1.out hb
  replace I1 : Hid (VIn W1 _ _) := I1.out.below hb
  replace G2 : Hid (W1.heap[w.heap.size + 1]? = _) := blk_below G2.out hb
  replace I2 : Hid (VIn W1 _ _) := I2.out.below hb
  replace HB : Hid (Below _ _ W1) := below_step HB.out hb
  replace O3 : Hid (VR W1 _ _ _ _) := O3.out.below hb
  have G3 : Hid (W1.heap[w1.heap.size]? = some (.cells #[.int .i64 s3, .bool i3, .slice a3 n3 c3, .int .i64 l3, .float .f64 x3] 27)) := by show W1.heap[w1.heap.size]? = _; rw [hW]; exact heap_alloc_new _ _
  clear hb hW
  refine (rzero_all sem r0 _ E0.out).mono ?_
  rintro e w2 ⟨⟨u, rfl, o⟩, b⟩
  replace G1 : Hid (w2.heap[w.heap.size]? = _) := blk_below G1.out b
  replace I1 : Hid (VIn w2 _ _) := I1.out.below b
  replace G2 : Hid (w2.heap[w.heap.size + 1]? = _) := blk_below G2.out b
  replace I2 : Hid (VIn w2 _ _) := I2.out.below b
  replace HB : Hid (Below _ _ w2) := below_step HB.out b
  replace G3 : Hid (w2.heap[w1.heap.size]? = _) := blk_below G3.out b
  replace O3 : Hid (VR w2 _ _ _ _) := O3.out.below b
  obtain ⟨s4, i4, a4, n4, c4, l4, x4, rfl⟩ := o.form
  have O4 : Hid (VR w2 (.agg #[.int .i64 s4, .bool i4, .slice a4 n4 c4, .int .i64 l4, .float .f64 x4]) r0 sem (pzero sem)) := o
  clear o b
  clear p10 p11 p12 p13 p14 l1 p20 p21 p22 p23 p24 l2
  obtain ⟨p10, p11, p12, p13, p14⟩ := box5 G1.out (below_refl _)
  have l1 := blk_lt G1.out
  obtain ⟨p20, p21, p22, p23, p24⟩ := box5 G2.out (below_refl _)
  have l2 := blk_lt G2.out
  go_wp2_with (go_at_call 10; fail)
  obtain ⟨W2, hW⟩ : ∃ W2, W2 = w2.alloc (.cells #[.int .i64 s4, .bool i4, .slice a4 n4 c4, .int .i64 l4, .float .f64 x4] 27) := ⟨_, rfl⟩
  rw [← hW]
  have hb : Below w2.heap.size w2 W2 := by rw [hW]; exact below1 _ _
  replace G1 : Hid (W2.heap[w.heap.size]? = _) := blk_below G1.out hb
  replace I1 : Hid (VIn W2 _ _) := I1.out.below hb
  replace G2 : Hid (W2.heap[w.heap.size + 1]? = _) := blk_below G2.out hb
  replace I2 : Hid (VIn W2 _ _) := I2.out.below hb
  replace HB : Hid (Below _ _ W2) := below_step HB.out hb
  replace G3 : Hid (W2.heap[w1.heap.size]? = _) := blk_below G3.out hb
  replace O3 : Hid (VR W2 _ _ _ _) := O3.out.below hb
  replace O4 : Hid (VR W2 _ _ _ _) := O4.out.below hb
  have G4 : Hid (W2.heap[w2.heap.size]? = some (.cells #[.int .i64 s4, .bool i4, .slice a4 n4 c4, .int .i64 l4, .float .f64 x4] 27)) := by show W2.heap[w2.heap.size]? = _; rw [hW]; exact heap_alloc_new _ _
  clear hb hW
  refine (vone_all sem r0 _ E0.out).mono ?_
  rintro e w3 ⟨⟨u, rfl, o⟩, b⟩
  replace G1 : Hid (w3.heap[w.heap.size]? = _) := blk_below G1.out b
  replace I1 : Hid (VIn w3 _ _) := I1.out.below b
  replace G2 : Hid (w3.heap[w.heap.size + 1]? = _) := blk_below G2.out b
  replace I2 : Hid (VIn w3 _ _) := I2.out.below b
  replace HB : Hid (Below _ _ w3) := below_step HB.out b
  replace G3 : Hid (w3.heap[w1.heap.size]? = _) := blk_below G3.out b
  replace G4 : Hid (w3.heap[w2.heap.size]? = _) := blk_below G4.out b
  replace O3 : Hid (VR w3 _ _ _ _) := O3.out.below b
  replace O4 : Hid (VR w3 _ _ _ _) := O4.out.below b
  obtain ⟨s5, i5, a5, n5, c5, l5, x5, rfl⟩ := o.form
  have O5 : Hid (VR w3 (.agg #[.int .i64 s5, .bool i5, .slice a5 n5 c5, .int .i64 l5, .float .f64 x5]) r0 sem (pone sem)) := o
  clear o b
  clear p10 p11 p12 p13 p14 l1 p20 p21 p22 p23 p24 l2
  obtain ⟨p10, p11, p12, p13, p14⟩ := box5 G1.out (below_refl _)
  have l1 := blk_lt G1.out
  obtain ⟨p20, p21, p22, p23, p24⟩ := box5 G2.out (below_refl _)
  have l2 := blk_lt G2.out
  go_wp2_with (go_at_call 11; fail)
  obtain ⟨W3, hW⟩ : ∃ W3, W3 = w3.alloc (.cells #[.int .i64 s5, .bool i5, .slice a5 n5 c5, .int .i64 l5, .float .f64 x5] 27) := ⟨_, rfl⟩
  rw [← hW]
  have hb : Below w3.heap.size w3 W3 := by rw [hW]; exact below1 _ _
  replace G1 : Hid (W3.heap[w.heap.size]? = _) := blk_below G1.out hb
  replace I1 : Hid (VIn W3 _ _) := I1.out.below hb
  replace G2 : Hid (W3.heap[w.heap.size + 1]? = _) := blk_below G2.out hb
  replace I2 : Hid (VIn W3 _ _) := I2.out.below hb
  replace HB : Hid (Below _ _ W3) := below_step HB.out hb
  replace G3 : Hid (W3.heap[w1.heap.size]? = _) := blk_below G3.out hb
  replace G4 : Hid (W3.heap[w2.heap.size]? = _) := blk_below G4.out hb
  replace O3 : Hid (VR W3 _ _ _ _) := O3.out.below hb
  replace O4 : Hid (VR W3 _ _ _ _) := O4.out.below hb
  replace O5 : Hid (VR W3 _ _ _ _) := O5.out.below hb
  have G5 : Hid (W3.heap[w3.heap.size]? = some (.cells #[.int .i64 s5, .bool i5, .slice a5 n5 c5, .int .i64 l5, .float .f64 x5] 27)) := by show W3.heap[w3.heap.size]? = _; rw [hW]; exact heap_alloc_new _ _
  clear hb hW
  refine (rone_all sem r0 _ E0.out).mono ?_
  rintro e w4 ⟨⟨u, rfl, o⟩, b⟩
  replace G1 : Hid (w4.heap[w.heap.size]? = _) := blk_below G1.out b
  replace I1 : Hid (VIn w4 _ _) := I1.out.below b
  replace G2 : Hid (w4.heap[w.heap.size + 1]? = _) := blk_below G2.out b
  replace I2 : Hid (VIn w4 _ _) := I2.out.below b
  replace HB : Hid (Below _ _ w4) := below_step HB.out b
  replace G3 : Hid (w4.heap[w1.heap.size]? = _) := blk_below G3.out b
  replace G4 : Hid (w4.heap[w2.heap.size]? = _) := blk_below G4.out b
  replace G5 : Hid (w4.heap[w3.heap.size]? = _) := blk_below G5.out b
  replace O3 : Hid (VR w4 _ _ _ _) := O3.out.below b
  replace O4 : Hid (VR w4 _ _ _ _) := O4.out.below b
  replace O5 : Hid (VR w4 _ _ _ _) := O5.out.below b
  obtain ⟨s6, i6, a6, n6, c6, l6, x6, rfl⟩ := o.form
  have O6 : Hid (VR w4 (.agg #[.int .i64 s6, .bool i6, .slice a6 n6 c6, .int .i64 l6, .float .f64 x6]) r0 sem (pone sem)) := o
  clear o b
  clear p10 p11 p12 p13 p14 l1 p20 p21 p22 p23 p24 l2
  obtain ⟨p10, p11, p12, p13, p14⟩ := box5 G1.out (below_refl _)
  have l1 := blk_lt G1.out
  obtain ⟨p20, p21, p22, p23, p24⟩ := box5 G2.out (below_refl _)
  have l2 := blk_lt G2.out
  go_wp2_with (go_at_call 12; fail)
  obtain ⟨W4, hW⟩ : ∃ W4, W4 = w4.alloc (.cells #[.int .i64 s6, .bool i6, .slice a6 n6 c6, .int .i64 l6, .float .f64 x6] 27) := ⟨_, rfl⟩
  rw [← hW]
  have hb : Below w4.heap.size w4 W4 := by rw [hW]; exact below1 _ _
  replace G1 : Hid (W4.heap[w.heap.size]? = _) := blk_below G1.out hb
  replace I1 : Hid (VIn W4 _ _) := I1.out.below hb
  replace G2 : Hid (W4.heap[w.heap.size + 1]? = _) := blk_below G2.out hb
  replace I2 : Hid (VIn W4 _ _) := I2.out.below hb
  replace HB : Hid (Below _ _ W4) := below_step HB.out hb
  replace G3 : Hid (W4.heap[w1.heap.size]? = _) := blk_below G3.out hb
  replace G4 : Hid (W4.heap[w2.heap.size]? = _) := blk_below G4.out hb
  replace G5 : Hid (W4.heap[w3.heap.size]? = _) := blk_below G5.out hb
  replace O3 : Hid (VR W4 _ _ _ _) := O3.out.below hb
  replace O4 : Hid (VR W4 _ _ _ _) := O4.out.below hb
  replace O5 : Hid (VR W4 _ _ _ _) := O5.out.below hb
  replace O6 : Hid (VR W4 _ _ _ _) := O6.out.below hb
  have G6 : Hid (W4.heap[w4.heap.size]? = some (.cells #[.int .i64 s6, .bool i6, .slice a6 n6 c6, .int .i64 l6, .float .f64 x6] 27)) := by show W4.heap[w4.heap.size]? = _; rw [hW]; exact heap_alloc_new _ _
  clear hb hW
  refine (vplus_all _ _ _ V1 V2 r1 (by exact I1.out) (by exact I2.out) E1.out).mono ?_
  rintro e w5 ⟨⟨u, rfl, o⟩, b⟩
  replace G1 : Hid (w5.heap[w.heap.size]? = _) := blk_below G1.out b
  replace I1 : Hid (VIn w5 _ _) := I1.out.below b
  replace G2 : Hid (w5.heap[w.heap.size + 1]? = _) := blk_below G2.out b
  replace I2 : Hid (VIn w5 _ _) := I2.out.below b
  replace HB : Hid (Below _ _ w5) := below_step HB.out b
  replace G3 : Hid (w5.heap[w1.heap.size]? = _) := blk_below G3.out b
  replace G4 : Hid (w5.heap[w2.heap.size]? = _) := blk_below G4.out b
  replace G5 : Hid (w5.heap[w3.heap.size]? = _) := blk_below G5.out b
  replace G6 : Hid (w5.heap[w4.heap.size]? = _) := blk_below G6.out b
  replace O3 : Hid (VR w5 _ _ _ _) := O3.out.below b
  replace O4 : Hid (VR w5 _ _ _ _) := O4.out.below b
  replace O5 : Hid (VR w5 _ _ _ _) := O5.out.below b
  replace O6 : Hid (VR w5 _ _ _ _) := O6.out.below b
  obtain ⟨s7, i7, a7, n7, c7, l7, x7, rfl⟩ := o.form
  have O7 : Hid (VR w5 (.agg #[.int .i64 s7, .bool i7, .slice a7 n7 c7, .int .i64 l7, .float .f64 x7]) r1 V1.s (padd V1.s (denV V1) (denV V2))) := o
  clear o b
  clear p10 p11 p12 p13 p14 l1 p20 p21 p22 p23 p24 l2
  obtain ⟨p10, p11, p12, p13, p14⟩ := box5 G1.out (below_refl _)
  have l1 := blk_lt G1.out
  obtain ⟨p20, p21, p22, p23, p24⟩ := box5 G2.out (below_refl _)
  have l2 := blk_lt G2.out
  go_wp2_with (go_at_call 13; fail)
  obtain ⟨W5, hW⟩ : ∃ W5, W5 = w5.alloc (.cells #[.int .i64 s7, .bool i7, .slice a7 n7 c7, .int .i64 l7, .float .f64 x7] 27) := ⟨_, rfl⟩
  rw [← hW]
  have hb : Below w5.heap.size w5 W5 := by rw [hW]; exact below1 _ _
  replace G1 : Hid (W5.heap[w.heap.size]? = _) := blk_below G1.out hb
  replace I1 : Hid (VIn W5 _ _) := I1.out.below hb
  replace G2 : Hid (W5.heap[w.heap.size + 1]? = _) := blk_below G2.out hb
  replace I2 : Hid (VIn W5 _ _) := I2.out.below hb
  replace HB : Hid (Below _ _ W5) := below_step HB.out hb
  replace G3 : Hid (W5.heap[w1.heap.size]? = _) := blk_below G3.out hb
  replace G4 : Hid (W5.heap[w2.heap.size]? = _) := blk_below G4.out hb
  replace G5 : Hid (W5.heap[w3.heap.size]? = _) := blk_below G5.out hb
  replace G6 : Hid (W5.heap[w4.heap.size]? = _) := blk_below G6.out hb
  replace O3 : Hid (VR W5 _ _ _ _) := O3.out.below hb
  replace O4 : Hid (VR W5 _ _ _ _) := O4.out.below hb
  replace O5 : Hid (VR W5 _ _ _ _) := O5.out.below hb
  replace O6 : Hid (VR W5 _ _ _ _) := O6.out.below hb
  replace O7 : Hid (VR W5 _ _ _ _) := O7.out.below hb
  have G7 : Hid (W5.heap[w5.heap.size]? = some (.cells #[.int .i64 s7, .bool i7, .slice a7 n7 c7, .int .i64 l7, .float .f64 x7] 27)) := by show W5.heap[w5.heap.size]? = _; rw [hW]; exact heap_alloc_new _ _
  clear hb hW
  refine (rplus_any _ _ _ V1 V2 (by exact I1.out) (by exact I2.out) r1 E1.out).mono ?_
  rintro e w6 ⟨⟨u, rfl, o⟩, b⟩
  replace G1 : Hid (w6.heap[w.heap.size]? = _) := blk_below G1.out b
  replace I1 : Hid (VIn w6 _ _) := I1.out.below b
  replace G2 : Hid (w6.heap[w.heap.size + 1]? = _) := blk_below G2.out b
  replace I2 : Hid (VIn w6 _ _) := I2.out.below b
  replace HB : Hid (Below _ _ w6) := below_step HB.out b
  replace G3 : Hid (w6.heap[w1.heap.size]? = _) := blk_below G3.out b
  replace G4 : Hid (w6.heap[w2.heap.size]? = _) := blk_below G4.out b
  replace G5 : Hid (w6.heap[w3.heap.size]? = _) := blk_below G5.out b
  replace G6 : Hid (w6.heap[w4.heap.size]? = _) := blk_below G6.out b
  replace G7 : Hid (w6.heap[w5.heap.size]? = _) := blk_below G7.out b
  replace O3 : Hid (VR w6 _ _ _ _) := O3.out.below b
  replace O4 : Hid (VR w6 _ _ _ _) := O4.out.below b
  replace O5 : Hid (VR w6 _ _ _ _) := O5.out.below b
  replace O6 : Hid (VR w6 _ _ _ _) := O6.out.below b
  replace O7 : Hid (VR w6 _ _ _ _) := O7.out.below b
  obtain ⟨s8, i8, a8, n8, c8, l8, x8, rfl⟩ := o.form
  have O8 : Hid (VR w6 (.agg #[.int .i64 s8, .bool i8, .slice a8 n8 c8, .int .i64 l8, .float .f64 x8]) r1 V1.s (padd V1.s (denV V1) (denV V2))) := o
  clear o b
  clear p10 p11 p12 p13 p14 l1 p20 p21 p22 p23 p24 l2
  obtain ⟨p10, p11, p12, p13, p14⟩ := box5 G1.out (below_refl _)
  have l1 := blk_lt G1.out
  obtain ⟨p20, p21, p22, p23, p24⟩ := box5 G2.out (below_refl _)
  have l2 := blk_lt G2.out
  go_wp2_with (go_at_call 14; fail)
  obtain ⟨W6, hW⟩ : ∃ W6, W6 = w6.alloc (.cells #[.int .i64 s8, .bool i8, .slice a8 n8 c8, .int .i64 l8, .float .f64 x8] 27) := ⟨_, rfl⟩
  rw [← hW]
  have hb : Below w6.heap.size w6 W6 := by rw [hW]; exact below1 _ _
  replace G1 : Hid (W6.heap[w.heap.size]? = _) := blk_below G1.out hb
  replace I1 : Hid (VIn W6 _ _) := I1.out.below hb
  replace G2 : Hid (W6.heap[w.heap.size + 1]? = _) := blk_below G2.out hb
  replace I2 : Hid (VIn W6 _ _) := I2.out.below hb
  replace HB : Hid (Below _ _ W6) := below_step HB.out hb
  replace G3 : Hid (W6.heap[w1.heap.size]? = _) := blk_below G3.out hb
  replace G4 : Hid (W6.heap[w2.heap.size]? = _) := blk_below G4.out hb
  replace G5 : Hid (W6.heap[w3.heap.size]? = _) := blk_below G5.out hb
  replace G6 : Hid (W6.heap[w4.heap.size]? = _) := blk_below G6.out hb
  replace G7 : Hid (W6.heap[w5.heap.size]? = _) := blk_below G7.out hb
  replace O3 : Hid (VR W6 _ _ _ _) := O3.out.below hb
  replace O4 : Hid (VR W6 _ _ _ _) := O4.out.below hb
  replace O5 : Hid (VR W6 _ _ _ _) := O5.out.below hb
  replace O6 : Hid (VR W6 _ _ _ _) := O6.out.below hb
  replace O7 : Hid (VR W6 _ _ _ _) := O7.out.below hb
  replace O8 : Hid (VR W6 _ _ _ _) := O8.out.below hb
  have G8 : Hid (W6.heap[w6.heap.size]? = some (.cells #[.int .i64 s8, .bool i8, .slice a8 n8 c8, .int .i64 l8, .float .f64 x8] 27)) := by show W6.heap[w6.heap.size]? = _; rw [hW]; exact heap_alloc_new _ _
  clear hb hW
  refine (vtimes_all _ _ _ V1 V2 r1 (by exact I1.out) (by exact I2.out) E1.out).mono ?_
  rintro e w7 ⟨⟨u, rfl, o⟩, b⟩
  replace G1 : Hid (w7.heap[w.heap.size]? = _) := blk_below G1.out b
  replace I1 : Hid (VIn w7 _ _) := I1.out.below b
  replace G2 : Hid (w7.heap[w.heap.size + 1]? = _) := blk_below G2.out b
  replace I2 : Hid (VIn w7 _ _) := I2.out.below b
  replace HB : Hid (Below _ _ w7) := below_step HB.out b
  replace G3 : Hid (w7.heap[w1.heap.size]? = _) := blk_below G3.out b
  replace G4 : Hid (w7.heap[w2.heap.size]? = _) := blk_below G4.out b
  replace G5 : Hid (w7.heap[w3.heap.size]? = _) := blk_below G5.out b
  replace G6 : Hid (w7.heap[w4.heap.size]? = _) := blk_below G6.out b
  replace G7 : Hid (w7.heap[w5.heap.size]? = _) := blk_below G7.out b
  replace G8 : Hid (w7.heap[w6.heap.size]? = _) := blk_below G8.out b
  replace O3 : Hid (VR w7 _ _ _ _) := O3.out.below b
  replace O4 : Hid (VR w7 _ _ _ _) := O4.out.below b
  replace O5 : Hid (VR w7 _ _ _ _) := O5.out.below b
  replace O6 : Hid (VR w7 _ _ _ _) := O6.out.below b
  replace O7 : Hid (VR w7 _ _ _ _) := O7.out.below b
  replace O8 : Hid (VR w7 _ _ _ _) := O8.out.below b
  obtain ⟨s9, i9, a9, n9, c9, l9, x9, rfl⟩ := o.form
  have O9 : Hid (VR w7 (.agg #[.int .i64 s9, .bool i9, .slice a9 n9 c9, .int .i64 l9, .float .f64 x9]) r1 V1.s (pmul V1.s (denV V1) (denV V2))) := o
  clear o b
  clear p10 p11 p12 p13 p14 l1 p20 p21 p22 p23 p24 l2
  obtain ⟨p10, p11, p12, p13, p14⟩ := box5 G1.out (below_refl _)
  have l1 := blk_lt G1.out
  obtain ⟨p20, p21, p22, p23, p24⟩ := box5 G2.out (below_refl _)
  have l2 := blk_lt G2.out
  go_wp2_with (go_at_call 15; fail)
  obtain ⟨W7, hW⟩ : ∃ W7, W7 = w7.alloc (.cells #[.int .i64 s9, .bool i9, .slice a9 n9 c9, .int .i64 l9, .float .f64 x9] 27) := ⟨_, rfl⟩
  rw [← hW]
  have hb : Below w7.heap.size w7 W7 := by rw [hW]; exact below1 _ _
  replace G1 : Hid (W7.heap[w.heap.size]? = _) := blk_below G1.out hb
  replace I1 : Hid (VIn W7 _ _) := I1.out.below hb
  replace G2 : Hid (W7.heap[w.heap.size + 1]? = _) := blk_below G2.out hb
  replace I2 : Hid (VIn W7 _ _) := I2.out.below hb
  replace HB : Hid (Below _ _ W7) := below_step HB.out hb
  replace G3 : Hid (W7.heap[w1.heap.size]? = _) := blk_below G3.out hb
  replace G4 : Hid (W7.heap[w2.heap.size]? = _) := blk_below G4.out hb
  replace G5 : Hid (W7.heap[w3.heap.size]? = _) := blk_below G5.out hb
  replace G6 : Hid (W7.heap[w4.heap.size]? = _) := blk_below G6.out hb
  replace G7 : Hid (W7.heap[w5.heap.size]? = _) := blk_below G7.out hb
  replace G8 : Hid (W7.heap[w6.heap.size]? = _) := blk_below G8.out hb
  replace O3 : Hid (VR W7 _ _ _ _) := O3.out.below hb
  replace O4 : Hid (VR W7 _ _ _ _) := O4.out.below hb
  replace O5 : Hid (VR W7 _ _ _ _) := O5.out.below hb
  replace O6 : Hid (VR W7 _ _ _ _) := O6.out.below hb
  replace O7 : Hid (VR W7 _ _ _ _) := O7.out.below hb
  replace O8 : Hid (VR W7 _ _ _ _) := O8.out.below hb
  replace O9 : Hid (VR W7 _ _ _ _) := O9.out.below hb
  have G9 : Hid (W7.heap[w7.heap.size]? = some (.cells #[.int .i64 s9, .bool i9, .slice a9 n9 c9, .int .i64 l9, .float .f64 x9] 27)) := by show W7.heap[w7.heap.size]? = _; rw [hW]; exact heap_alloc_new _ _
  clear hb hW
  refine (rtimes_any _ _ _ V1 V2 (by exact I1.out) (by exact I2.out) r1 E1.out).mono ?_
  rintro e w8 ⟨⟨u, rfl, o⟩, b⟩
  replace G1 : Hid (w8.heap[w.heap.size]? = _) := blk_below G1.out b
  replace I1 : Hid (VIn w8 _ _) := I1.out.below b
  replace G2 : Hid (w8.heap[w.heap.size + 1]? = _) := blk_below G2.out b
  replace I2 : Hid (VIn w8 _ _) := I2.out.below b
  replace HB : Hid (Below _ _ w8) := below_step HB.out b
  replace G3 : Hid (w8.heap[w1.heap.size]? = _) := blk_below G3.out b
  replace G4 : Hid (w8.heap[w2.heap.size]? = _) := blk_below G4.out b
  replace G5 : Hid (w8.heap[w3.heap.size]? = _) := blk_below G5.out b
  replace G6 : Hid (w8.heap[w4.heap.size]? = _) := blk_below G6.out b
  replace G7 : Hid (w8.heap[w5.heap.size]? = _) := blk_below G7.out b
  replace G8 : Hid (w8.heap[w6.heap.size]? = _) := blk_below G8.out b
  replace G9 : Hid (w8.heap[w7.heap.size]? = _) := blk_below G9.out b
  replace O3 : Hid (VR w8 _ _ _ _) := O3.out.below b
  replace O4 : Hid (VR w8 _ _ _ _) := O4.out.below b
  replace O5 : Hid (VR w8 _ _ _ _) := O5.out.below b
  replace O6 : Hid (VR w8 _ _ _ _) := O6.out.below b
  replace O7 : Hid (VR w8 _ _ _ _) := O7.out.below b
  replace O8 : Hid (VR w8 _ _ _ _) := O8.out.below b
  replace O9 : Hid (VR w8 _ _ _ _) := O9.out.below b
  obtain ⟨s10, i10, a10, n10, c10, l10, x10, rfl⟩ := o.form
  have O10 : Hid (VR w8 (.agg #[.int .i64 s10, .bool i10, .slice a10 n10 c10, .int .i64 l10, .float .f64 x10]) r1 V1.s (pmul V1.s (denV V1) (denV V2))) := o
  clear o b
  clear p10 p11 p12 p13 p14 l1 p20 p21 p22 p23 p24 l2
  obtain ⟨p10, p11, p12, p13, p14⟩ := box5 G1.out (below_refl _)
  have l1 := blk_lt G1.out
  obtain ⟨p20, p21, p22, p23, p24⟩ := box5 G2.out (below_refl _)
  have l2 := blk_lt G2.out
  go_wp2_with (go_at_call 16; fail)
  obtain ⟨W8, hW⟩ : ∃ W8, W8 = w8.alloc (.cells #[.int .i64 s10, .bool i10, .slice a10 n10 c10, .int .i64 l10, .float .f64 x10] 27) := ⟨_, rfl⟩
  rw [← hW]
  have hb : Below w8.heap.size w8 W8 := by rw [hW]; exact below1 _ _
  replace G1 : Hid (W8.heap[w.heap.size]? = _) := blk_below G1.out hb
  replace I1 : Hid (VIn W8 _ _) := I1.out.below hb
  replace G2 : Hid (W8.heap[w.heap.size + 1]? = _) := blk_below G2.out hb
  replace I2 : Hid (VIn W8 _ _) := I2.out.below hb
  replace HB : Hid (Below _ _ W8) := below_step HB.out hb
  replace G3 : Hid (W8.heap[w1.heap.size]? = _) := blk_below G3.out hb
  replace G4 : Hid (W8.heap[w2.heap.size]? = _) := blk_below G4.out hb
  replace G5 : Hid (W8.heap[w3.heap.size]? = _) := blk_below G5.out hb
  replace G6 : Hid (W8.heap[w4.heap.size]? = _) := blk_below G6.out hb
  replace G7 : Hid (W8.heap[w5.heap.size]? = _) := blk_below G7.out hb
  replace G8 : Hid (W8.heap[w6.heap.size]? = _) := blk_below G8.out hb
  replace G9 : Hid (W8.heap[w7.heap.size]? = _) := blk_below G9.out hb
  replace O3 : Hid (VR W8 _ _ _ _) := O3.out.below hb
  replace O4 : Hid (VR W8 _ _ _ _) := O4.out.below hb
  replace O5 : Hid (VR W8 _ _ _ _) := O5.out.below hb
  replace O6 : Hid (VR W8 _ _ _ _) := O6.out.below hb
  replace O7 : Hid (VR W8 _ _ _ _) := O7.out.below hb
  replace O8 : Hid (VR W8 _ _ _ _) := O8.out.below hb
  replace O9 : Hid (VR W8 _ _ _ _) := O9.out.below hb
  replace O10 : Hid (VR W8 _ _ _ _) := O10.out.below hb
  have G10 : Hid (W8.heap[w8.heap.size]? = some (.cells #[.int .i64 s10, .bool i10, .slice a10 n10 c10, .int .i64 l10, .float .f64 x10] 27)) := by show W8.heap[w8.heap.size]? = _; rw [hW]; exact heap_alloc_new _ _
  clear hb hW
  refine (vstar_all _ _ V1 r2 (by exact I1.out) E2.out).mono ?_
  rintro e w9 ⟨⟨u, rfl, o⟩, b⟩
  replace G1 : Hid (w9.heap[w.heap.size]? = _) := blk_below G1.out b
  replace I1 : Hid (VIn w9 _ _) := I1.out.below b
  replace G2 : Hid (w9.heap[w.heap.size + 1]? = _) := blk_below G2.out b
  replace I2 : Hid (VIn w9 _ _) := I2.out.below b
  replace HB : Hid (Below _ _ w9) := below_step HB.out b
  replace G3 : Hid (w9.heap[w1.heap.size]? = _) := blk_below G3.out b
  replace G4 : Hid (w9.heap[w2.heap.size]? = _) := blk_below G4.out b
  replace G5 : Hid (w9.heap[w3.heap.size]? = _) := blk_below G5.out b
  replace G6 : Hid (w9.heap[w4.heap.size]? = _) := blk_below G6.out b
  replace G7 : Hid (w9.heap[w5.heap.size]? = _) := blk_below G7.out b
  replace G8 : Hid (w9.heap[w6.heap.size]? = _) := blk_below G8.out b
  replace G9 : Hid (w9.heap[w7.heap.size]? = _) := blk_below G9.out b
  replace G10 : Hid (w9.heap[w8.heap.size]? = _) := blk_below G10.out b
  replace O3 : Hid (VR w9 _ _ _ _) := O3.out.below b
  replace O4 : Hid (VR w9 _ _ _ _) := O4.out.below b
  replace O5 : Hid (VR w9 _ _ _ _) := O5.out.below b
  replace O6 : Hid (VR w9 _ _ _ _) := O6.out.below b
  replace O7 : Hid (VR w9 _ _ _ _) := O7.out.below b
  replace O8 : Hid (VR w9 _ _ _ _) := O8.out.below b
  replace O9 : Hid (VR w9 _ _ _ _) := O9.out.below b
  replace O10 : Hid (VR w9 _ _ _ _) := O10.out.below b
  obtain ⟨s11, i11, a11, n11, c11, l11, x11, rfl⟩ := o.form
  have O11 : Hid (VR w9 (.agg #[.int .i64 s11, .bool i11, .slice a11 n11 c11, .int .i64 l11, .float .f64 x11]) r2 V1.s (pstar V1.s (denV V1))) := o
  clear o b
  clear p10 p11 p12 p13 p14 l1 p20 p21 p22 p23 p24 l2
  obtain ⟨p10, p11, p12, p13, p14⟩ := box5 G1.out (below_refl _)
  have l1 := blk_lt G1.out
  obtain ⟨p20, p21, p22, p23, p24⟩ := box5 G2.out (below_refl _)
  have l2 := blk_lt G2.out
  go_wp2_with (go_at_call 17; fail)
  obtain ⟨W9, hW⟩ : ∃ W9, W9 = w9.alloc (.cells #[.int .i64 s11, .bool i11, .slice a11 n11 c11, .int .i64 l11, .float .f64 x11] 27) := ⟨_, rfl⟩
  rw [← hW]
  have hb : Below w9.heap.size w9 W9 := by rw [hW]; exact below1 _ _
  replace G1 : Hid (W9.heap[w.heap.size]? = _) := blk_below G1.out hb
  replace I1 : Hid (VIn W9 _ _) := I1.out.below hb
  replace G2 : Hid (W9.heap[w.heap.size + 1]? = _) := blk_below G2.out hb
  replace I2 : Hid (VIn W9 _ _) := I2.out.below hb
  replace HB : Hid (Below _ _ W9) := below_step HB.out hb
  replace G3 : Hid (W9.heap[w1.heap.size]? = _) := blk_below G3.out hb
  replace G4 : Hid (W9.heap[w2.heap.size]? = _) := blk_below G4.out hb
  replace G5 : Hid (W9.heap[w3.heap.size]? = _) := blk_below G5.out hb
  replace G6 : Hid (W9.heap[w4.heap.size]? = _) := blk_below G6.out hb
  replace G7 : Hid (W9.heap[w5.heap.size]? = _) := blk_below G7.out hb
  replace G8 : Hid (W9.heap[w6.heap.size]? = _) := blk_below G8.out hb
  replace G9 : Hid (W9.heap[w7.heap.size]? = _) := blk_below G9.out hb
  replace G10 : Hid (W9.heap[w8.heap.size]? = _) := blk_below G10.out hb
  replace O3 : Hid (VR W9 _ _ _ _) := O3.out.below hb
  replace O4 : Hid (VR W9 _ _ _ _) := O4.out.below hb
  replace O5 : Hid (VR W9 _ _ _ _) := O5.out.below hb
  replace O6 : Hid (VR W9 _ _ _ _) := O6.out.below hb
  replace O7 : Hid (VR W9 _ _ _ _) := O7.out.below hb
  replace O8 : Hid (VR W9 _ _ _ _) := O8.out.below hb
  replace O9 : Hid (VR W9 _ _ _ _) := O9.out.below hb
  replace O10 : Hid (VR W9 _ _ _ _) := O10.out.below hb
  replace O11 : Hid (VR W9 _ _ _ _) := O11.out.below hb
  have G11 : Hid (W9.heap[w9.heap.size]? = some (.cells #[.int .i64 s11, .bool i11, .slice a11 n11 c11, .int .i64 l11, .float .f64 x11] 27)) := by show W9.heap[w9.heap.size]? = _; rw [hW]; exact heap_alloc_new _ _
  clear hb hW
  refine (rstar_any _ _ V1 r2 (by exact I1.out) E2.out).mono ?_
  rintro e w10 ⟨⟨u, rfl, o⟩, b⟩
  replace G1 : Hid (w10.heap[w.heap.size]? = _) := blk_below G1.out b
  replace I1 : Hid (VIn w10 _ _) := I1.out.below b
  replace G2 : Hid (w10.heap[w.heap.size + 1]? = _) := blk_below G2.out b
  replace I2 : Hid (VIn w10 _ _) := I2.out.below b
  replace HB : Hid (Below _ _ w10) := below_step HB.out b
  replace G3 : Hid (w10.heap[w1.heap.size]? = _) := blk_below G3.out b
  replace G4 : Hid (w10.heap[w2.heap.size]? = _) := blk_below G4.out b
  replace G5 : Hid (w10.heap[w3.heap.size]? = _) := blk_below G5.out b
  replace G6 : Hid (w10.heap[w4.heap.size]? = _) := blk_below G6.out b
  replace G7 : Hid (w10.heap[w5.heap.size]? = _) := blk_below G7.out b
  replace G8 : Hid (w10.heap[w6.heap.size]? = _) := blk_below G8.out b
  replace G9 : Hid (w10.heap[w7.heap.size]? = _) := blk_below G9.out b
  replace G10 : Hid (w10.heap[w8.heap.size]? = _) := blk_below G10.out b
  replace G11 : Hid (w10.heap[w9.heap.size]? = _) := blk_below G11.out b
  replace O3 : Hid (VR w10 _ _ _ _) := O3.out.below b
  replace O4 : Hid (VR w10 _ _ _ _) := O4.out.below b
  replace O5 : Hid (VR w10 _ _ _ _) := O5.out.below b
  replace O6 : Hid (VR w10 _ _ _ _) := O6.out.below b
  replace O7 : Hid (VR w10 _ _ _ _) := O7.out.below b
  replace O8 : Hid (VR w10 _ _ _ _) := O8.out.below b
  replace O9 : Hid (VR w10 _ _ _ _) := O9.out.below b
  replace O10 : Hid (VR w10 _ _ _ _) := O10.out.below b
  replace O11 : Hid (VR w10 _ _ _ _) := O11.out.below b
  obtain ⟨s12, i12, a12, n12, c12, l12, x12, rfl⟩ := o.form
  have O12 : Hid (VR w10 (.agg #[.int .i64 s12, .bool i12, .slice a12 n12 c12, .int .i64 l12, .float .f64 x12]) r2 V1.s (pstar V1.s (denV V1))) := o
  clear o b
  clear p10 p11 p12 p13 p14 l1 p20 p21 p22 p23 p24 l2
  obtain ⟨p10, p11, p12, p13, p14⟩ := box5 G1.out (below_refl _)
  have l1 := blk_lt G1.out
  obtain ⟨p20, p21, p22, p23, p24⟩ := box5 G2.out (below_refl _)
  have l2 := blk_lt G2.out
  go_wp2_with (go_at_call 18; fail)
  obtain ⟨W10, hW⟩ : ∃ W10, W10 = w10.alloc (.cells #[.int .i64 s12, .bool i12, .slice a12 n12 c12, .int .i64 l12, .float .f64 x12] 27) := ⟨_, rfl⟩
  rw [← hW]
  have hb : Below w10.heap.size w10 W10 := by rw [hW]; exact below1 _ _
  replace G1 : Hid (W10.heap[w.heap.size]? = _) := blk_below G1.out hb
  replace I1 : Hid (VIn W10 _ _) := I1.out.below hb
  replace G2 : Hid (W10.heap[w.heap.size + 1]? = _) := blk_below G2.out hb
  replace I2 : Hid (VIn W10 _ _) := I2.out.below hb
  replace HB : Hid (Below _ _ W10) := below_step HB.out hb
  replace G3 : Hid (W10.heap[w1.heap.size]? = _) := blk_below G3.out hb
  replace G4 : Hid (W10.heap[w2.heap.size]? = _) := blk_below G4.out hb
  replace G5 : Hid (W10.heap[w3.heap.size]? = _) := blk_below G5.out hb
  replace G6 : Hid (W10.heap[w4.heap.size]? = _) := blk_below G6.out hb
  replace G7 : Hid (W10.heap[w5.heap.size]? = _) := blk_below G7.out hb
  replace G8 : Hid (W10.heap[w6.heap.size]? = _) := blk_below G8.out hb
  replace G9 : Hid (W10.heap[w7.heap.size]? = _) := blk_below G9.out hb
  replace G10 : Hid (W10.heap[w8.heap.size]? = _) := blk_below G10.out hb
  replace G11 : Hid (W10.heap[w9.heap.size]? = _) := blk_below G11.out hb
  replace O3 : Hid (VR W10 _ _ _ _) := O3.out.below hb
  replace O4 : Hid (VR W10 _ _ _ _) := O4.out.below hb
  replace O5 : Hid (VR W10 _ _ _ _) := O5.out.below hb
  replace O6 : Hid (VR W10 _ _ _ _) := O6.out.below hb
  replace O7 : Hid (VR W10 _ _ _ _) := O7.out.below hb
  replace O8 : Hid (VR W10 _ _ _ _) := O8.out.below hb
  replace O9 : Hid (VR W10 _ _ _ _) := O9.out.below hb
  replace O10 : Hid (VR W10 _ _ _ _) := O10.out.below hb
  replace O11 : Hid (VR W10 _ _ _ _) := O11.out.below hb
  replace O12 : Hid (VR W10 _ _ _ _) := O12.out.below hb
  have G12 : Hid (W10.heap[w10.heap.size]? = some (.cells #[.int .i64 s12, .bool i12, .slice a12 n12 c12, .int .i64 l12, .float .f64 x12] 27)) := by show W10.heap[w10.heap.size]? = _; rw [hW]; exact heap_alloc_new _ _
  clear hb hW
  refine (vbetter_any _ _ _ V1 V2 r1 bb (by exact I1.out) (by exact I2.out) SN.out.1 SN.out.2 E1.out EB.out).mono ?_
  rintro e w11 ⟨rfl, b⟩
  replace G1 : Hid (w11.heap[w.heap.size]? = _) := blk_below G1.out b
  replace I1 : Hid (VIn w11 _ _) := I1.out.below b
  replace G2 : Hid (w11.heap[w.heap.size + 1]? = _) := blk_below G2.out b
  replace I2 : Hid (VIn w11 _ _) := I2.out.below b
  replace HB : Hid (Below _ _ w11) := below_step HB.out b
  replace G3 : Hid (w11.heap[w1.heap.size]? = _) := blk_below G3.out b
  replace G4 : Hid (w11.heap[w2.heap.size]? = _) := blk_below G4.out b
  replace G5 : Hid (w11.heap[w3.heap.size]? = _) := blk_below G5.out b
  replace G6 : Hid (w11.heap[w4.heap.size]? = _) := blk_below G6.out b
  replace G7 : Hid (w11.heap[w5.heap.size]? = _) := blk_below G7.out b
  replace G8 : Hid (w11.heap[w6.heap.size]? = _) := blk_below G8.out b
  replace G9 : Hid (w11.heap[w7.heap.size]? = _) := blk_below G9.out b
  replace G10 : Hid (w11.heap[w8.heap.size]? = _) := blk_below G10.out b
  replace G11 : Hid (w11.heap[w9.heap.size]? = _) := blk_below G11.out b
  replace G12 : Hid (w11.heap[w10.heap.size]? = _) := blk_below G12.out b
  replace O3 : Hid (VR w11 _ _ _ _) := O3.out.below b
  replace O4 : Hid (VR w11 _ _ _ _) := O4.out.below b
  replace O5 : Hid (VR w11 _ _ _ _) := O5.out.below b
  replace O6 : Hid (VR w11 _ _ _ _) := O6.out.below b
  replace O7 : Hid (VR w11 _ _ _ _) := O7.out.below b
  replace O8 : Hid (VR w11 _ _ _ _) := O8.out.below b
  replace O9 : Hid (VR w11 _ _ _ _) := O9.out.below b
  replace O10 : Hid (VR w11 _ _ _ _) := O10.out.below b
  replace O11 : Hid (VR w11 _ _ _ _) := O11.out.below b
  replace O12 : Hid (VR w11 _ _ _ _) := O12.out.below b
  clear b
  clear p10 p11 p12 p13 p14 l1 p20 p21 p22 p23 p24 l2
  obtain ⟨p10, p11, p12, p13, p14⟩ := box5 G1.out (below_refl _)
  have l1 := blk_lt G1.out
  obtain ⟨p20, p21, p22, p23, p24⟩ := box5 G2.out (below_refl _)
  have l2 := blk_lt G2.out
  go_wp2_with (go_at_call 19; fail)
  refine (rbetter_any _ _ _ V1 V2 r1 bb (by exact I1.out) (by exact I2.out) SN.out.1 SN.out.2 E1.out EB.out).mono ?_
  rintro e w12 ⟨rfl, b⟩
  replace G1 : Hid (w12.heap[w.heap.size]? = _) := blk_below G1.out b
  replace I1 : Hid (VIn w12 _ _) := I1.out.below b
  replace G2 : Hid (w12.heap[w.heap.size + 1]? = _) := blk_below G2.out b
  replace I2 : Hid (VIn w12 _ _) := I2.out.below b
  replace HB : Hid (Below _ _ w12) := below_step HB.out b
  replace G3 : Hid (w12.heap[w1.heap.size]? = _) := blk_below G3.out b
  replace G4 : Hid (w12.heap[w2.heap.size]? = _) := blk_below G4.out b
  replace G5 : Hid (w12.heap[w3.heap.size]? = _) := blk_below G5.out b
  replace G6 : Hid (w12.heap[w4.heap.size]? = _) := blk_below G6.out b
  replace G7 : Hid (w12.heap[w5.heap.size]? = _) := blk_below G7.out b
  replace G8 : Hid (w12.heap[w6.heap.size]? = _) := blk_below G8.out b
  replace G9 : Hid (w12.heap[w7.heap.size]? = _) := blk_below G9.out b
  replace G10 : Hid (w12.heap[w8.heap.size]? = _) := blk_below G10.out b
  replace G11 : Hid (w12.heap[w9.heap.size]? = _) := blk_below G11.out b
  replace G12 : Hid (w12.heap[w10.heap.size]? = _) := blk_below G12.out b
  replace O3 : Hid (VR w12 _ _ _ _) := O3.out.below b
  replace O4 : Hid (VR w12 _ _ _ _) := O4.out.below b
  replace O5 : Hid (VR w12 _ _ _ _) := O5.out.below b
  replace O6 : Hid (VR w12 _ _ _ _) := O6.out.below b
  replace O7 : Hid (VR w12 _ _ _ _) := O7.out.below b
  replace O8 : Hid (VR w12 _ _ _ _) := O8.out.below b
  replace O9 : Hid (VR w12 _ _ _ _) := O9.out.below b
  replace O10 : Hid (VR w12 _ _ _ _) := O10.out.below b
  replace O11 : Hid (VR w12 _ _ _ _) := O11.out.below b
  replace O12 : Hid (VR w12 _ _ _ _) := O12.out.below b
  clear b
  clear p10 p11 p12 p13 p14 l1 p20 p21 p22 p23 p24 l2
  obtain ⟨p10, p11, p12, p13, p14⟩ := box5 G1.out (below_refl _)
  have l1 := blk_lt G1.out
  obtain ⟨p20, p21, p22, p23, p24⟩ := box5 G2.out (below_refl _)
  have l2 := blk_lt G2.out
  go_upto_region 16 with fail
  clear p10 p11 p12 p13 p14 l1 p20 p21 p22 p23 p24 l2
  have HW : Below w12.heap.size w12 w12 := below_refl _
  as_aux_lemma =>
    refine wp_region_held_drew (S := (fun w' => Below w12.heap.size w12 w')) (by kernel_rfl) ?_ (fun hHeld => ?_)
    · (try dsimp only); first | exact HW | exact HW.drew
    refine wpAnyH_take (i := 0) (oi := { dst := some 104, op := Op.load 27 (Operand.tmp 3), type := 27, pos := "law.go:46", after := #[], guard := none }) (v := ?vu1) rfl (by kernel_rfl) (by kernel_rfl) (by kernel_rfl) (fun _ _ _ h => h) (Or.inl ⟨by rfl, ?hyu1⟩) (by assumption) ?restu1
    case hyu1 => (intro w hSw; (try dsimp only at hSw); obtain ⟨q0, q1, q2, q3, q4⟩ := box5 G1.out hSw; go_simp; (try with_reducible rfl))
    try simp only [Act.put, List.setIfInBounds_toArray, List.set_cons_zero, List.set_cons_succ]
    refine wpAnyH_take (i := 2) (oi := { dst := some 106, op := Op.load 27 (Operand.tmp 3), type := 27, pos := "law.go:46", after := #[], guard := none }) (v := ?vu2) rfl (by kernel_rfl) (by kernel_rfl) (by kernel_rfl) (fun _ _ _ h => h) (Or.inl ⟨by rfl, ?hyu2⟩) (by assumption) ?restu2
    case hyu2 => (intro w hSw; (try dsimp only at hSw); obtain ⟨q0, q1, q2, q3, q4⟩ := box5 G1.out hSw; go_simp; (try with_reducible rfl))
    try simp only [Act.put, List.setIfInBounds_toArray, List.set_cons_zero, List.set_cons_succ]
    refine wpAnyH_ready (rs := [1]) (by kernel_rfl) (by simp) ?_
    refine AllReadyH.cons (o := { dst := some 105, op := Op.call { callee := Callee.value (Operand.func 21), args := #[Operand.tmp 104], argTypes := #[27] }, type := 30, pos := "law.go:46", after := #[{ on := 0, ground := Ground.data }], guard := none }) rfl (fun K hK => ?_) AllReadyH.nil
    go_simp
    go_at_call 21
    refine (vmay_at _ _ V1 r2 (by exact I1.out.below (by first | exact HW | exact HW.drew)) E2.out).mono ?_
    rintro e z0 ⟨rfl, b⟩
    replace HW := below_step (by first | exact HW | exact HW.drew) b
    clear b
    refine hK.out _ _ ?_ (fun hHeldB => ?_)
    · (try dsimp only); exact HW
    clear hK K hHeld
    have hHeld := hHeldB
    clear hHeldB
    try simp only [Act.put, List.setIfInBounds_toArray, List.set_cons_zero, List.set_cons_succ]
    refine wpAnyH_ready (rs := [3]) (by kernel_rfl) (by simp) ?_
    refine AllReadyH.cons (o := { dst := some 107, op := Op.call { callee := Callee.value (Operand.func 22), args := #[Operand.tmp 106], argTypes := #[27] }, type := 3, pos := "law.go:46", after := #[{ on := 2, ground := Ground.data }, { on := 1, ground := Ground.chain }], guard := none }) rfl (fun K hK => ?_) AllReadyH.nil
    go_simp
    go_at_call 22
    refine (rmv_at _ _ V1 r2 (by exact I1.out.below (by first | exact HW | exact HW.drew)) E2.out).mono ?_
    rintro e z1 ⟨rfl, b⟩
    replace HW := below_step (by first | exact HW | exact HW.drew) b
    clear b
    refine hK.out _ _ ?_ (fun hHeldB => ?_)
    · (try dsimp only); exact HW
    clear hK K hHeld
    have hHeld := hHeldB
    clear hHeldB
    try simp only [Act.put, List.setIfInBounds_toArray, List.set_cons_zero, List.set_cons_succ]
    as_aux_lemma =>
      refine wpAnyH_take (i := 4) (oi := { dst := some 108, op := Op.binOp BinOp.eql 3 (Operand.tmp 105) (Operand.tmp 107) 3, type := 4, pos := "law.go:46", after := #[{ on := 1, ground := Ground.data }, { on := 3, ground := Ground.data }], guard := none }) (v := ?vu3) rfl (by kernel_rfl) (by kernel_rfl) (by kernel_rfl) (fun _ _ _ h => h) (Or.inl ⟨by rfl, ?hyu3⟩) (by assumption) ?restu3
      case hyu3 => (intro w hSw; (try dsimp only at hSw); go_simp; (try with_reducible rfl))
      try simp only [Act.put, List.setIfInBounds_toArray, List.set_cons_zero, List.set_cons_succ]
      refine wpAnyH_take (i := 5) (oi := { dst := some 109, op := Op.move (Operand.tmp 108), type := 4, pos := "law.go:46", after := #[{ on := 4, ground := Ground.data }, { on := 3, ground := Ground.chain }], guard := none }) (v := ?vu4) rfl (by kernel_rfl) (by kernel_rfl) (by kernel_rfl) (fun _ _ _ h => h) (Or.inl ⟨by rfl, ?hyu4⟩) (by assumption) ?restu4
      case hyu4 => (intro w hSw; (try dsimp only at hSw); go_simp; (try with_reducible rfl))
      try simp only [Act.put, List.setIfInBounds_toArray, List.set_cons_zero, List.set_cons_succ]
      refine wpAnyH_take (i := 6) (oi := { dst := some 110, op := Op.move (Operand.tmp 31), type := 43, pos := "law.go:46", after := #[{ on := 5, ground := Ground.guard }], guard := some (5, true) }) (v := ?vu5) rfl (by kernel_rfl) (by kernel_rfl) (by kernel_rfl) (fun _ _ _ h => h) (Or.inl ⟨by rfl, ?hyu5⟩) (by assumption) ?restu5
      case hyu5 => (intro w hSw; (try dsimp only at hSw); go_simp; (try with_reducible rfl))
      try simp only [Act.put, List.setIfInBounds_toArray, List.set_cons_zero, List.set_cons_succ]
      refine wpAnyH_take (i := 7) (oi := { dst := some 111, op := Op.load 27 (Operand.tmp 7), type := 27, pos := "law.go:46", after := #[{ on := 5, ground := Ground.guard }], guard := some (5, true) }) (v := ?vu6) rfl (by kernel_rfl) (by kernel_rfl) (by kernel_rfl) (fun _ _ _ h => h) (Or.inl ⟨by rfl, ?hyu6⟩) (by assumption) ?restu6
      case hyu6 => (intro w hSw; (try dsimp only at hSw); obtain ⟨q0, q1, q2, q3, q4⟩ := box5 G3.out hSw; go_simp; (try with_reducible rfl))
      try simp only [Act.put, List.setIfInBounds_toArray, List.set_cons_zero, List.set_cons_succ]
      refine wpAnyH_take (i := 8) (oi := { dst := some 112, op := Op.load 27 (Operand.tmp 9), type := 27, pos := "law.go:46", after := #[{ on := 5, ground := Ground.guard }], guard := some (5, true) }) (v := ?vu7) rfl (by kernel_rfl) (by kernel_rfl) (by kernel_rfl) (fun _ _ _ h => h) (Or.inl ⟨by rfl, ?hyu7⟩) (by assumption) ?restu7
      case hyu7 => (intro w hSw; (try dsimp only at hSw); obtain ⟨q0, q1, q2, q3, q4⟩ := box5 G4.out hSw; go_simp; (try with_reducible rfl))
      try simp only [Act.put, List.setIfInBounds_toArray, List.set_cons_zero, List.set_cons_succ]
      refine wpAnyH_ready (rs := [9]) (by kernel_rfl) (by simp) ?_
      refine AllReadyH.cons (o := { dst := some 113, op := Op.call { callee := Callee.value (Operand.tmp 110), args := #[Operand.tmp 111, Operand.tmp 112], argTypes := #[27, 27] }, type := 4, pos := "law.go:46", after := #[{ on := 6, ground := Ground.data }, { on := 7, ground := Ground.data }, { on := 8, ground := Ground.data }, { on := 5, ground := Ground.chain }, { on := 5, ground := Ground.guard }], guard := some (5, true) }) rfl (fun K hK => ?_) AllReadyH.nil
      go_simp
      go_at_call 20
      refine (fields_at _ _ _ r0 sem (pzero sem) (by exact O3.out.below (by first | exact HW | exact HW.drew)) (by exact O4.out.below (by first | exact HW | exact HW.drew)) (fun _ hs => (pzero_short _ hs).le (by decide))).mono ?_
      rintro e z2 ⟨rfl, b⟩
      replace HW := below_step (by first | exact HW | exact HW.drew) b
      clear b
      refine hK.out _ _ ?_ (fun hHeldB => ?_)
      · (try dsimp only); exact HW
      clear hK K hHeld
      have hHeld := hHeldB
      clear hHeldB
      try simp only [Act.put, List.setIfInBounds_toArray, List.set_cons_zero, List.set_cons_succ]
      refine wpAnyH_take (i := 10) (oi := { dst := some 114, op := Op.pick (Operand.tmp 109) (Operand.tmp 113) (Operand.const (Value.bool false)), type := 4, pos := "law.go:46", after := #[{ on := 5, ground := Ground.data }, { on := 9, ground := Ground.data }], guard := none }) (v := ?vu8) rfl (by kernel_rfl) (by kernel_rfl) (by kernel_rfl) (fun _ _ _ h => h) (Or.inl ⟨by rfl, ?hyu8⟩) (by assumption) ?restu8
      case hyu8 => (intro w hSw; (try dsimp only at hSw); go_simp; (try with_reducible rfl))
      try simp only [Act.put, List.setIfInBounds_toArray, List.set_cons_zero, List.set_cons_succ]
      refine wpAnyH_take (i := 11) (oi := { dst := some 115, op := Op.move (Operand.tmp 114), type := 4, pos := "law.go:46", after := #[{ on := 10, ground := Ground.data }, { on := 9, ground := Ground.chain }], guard := none }) (v := ?vu9) rfl (by kernel_rfl) (by kernel_rfl) (by kernel_rfl) (fun _ _ _ h => h) (Or.inl ⟨by rfl, ?hyu9⟩) (by assumption) ?restu9
      case hyu9 => (intro w hSw; (try dsimp only at hSw); go_simp; (try with_reducible rfl))
      try simp only [Act.put, List.setIfInBounds_toArray, List.set_cons_zero, List.set_cons_succ]
      refine wpAnyH_take (i := 12) (oi := { dst := some 116, op := Op.move (Operand.tmp 8), type := 30, pos := "law.go:46", after := #[{ on := 11, ground := Ground.guard }], guard := some (11, true) }) (v := ?vu10) rfl (by kernel_rfl) (by kernel_rfl) (by kernel_rfl) (fun _ _ _ h => h) (Or.inl ⟨by rfl, ?hyu10⟩) (by assumption) ?restu10
      case hyu10 => (intro w hSw; (try dsimp only at hSw); go_simp; (try with_reducible rfl))
      try simp only [Act.put, List.setIfInBounds_toArray, List.set_cons_zero, List.set_cons_succ]
      refine wpAnyH_take (i := 13) (oi := { dst := some 117, op := Op.move (Operand.tmp 10), type := 3, pos := "law.go:46", after := #[{ on := 11, ground := Ground.guard }], guard := some (11, true) }) (v := ?vu11) rfl (by kernel_rfl) (by kernel_rfl) (by kernel_rfl) (fun _ _ _ h => h) (Or.inl ⟨by rfl, ?hyu11⟩) (by assumption) ?restu11
      case hyu11 => (intro w hSw; (try dsimp only at hSw); go_simp; (try with_reducible rfl))
      try simp only [Act.put, List.setIfInBounds_toArray, List.set_cons_zero, List.set_cons_succ]
      refine wpAnyH_take (i := 14) (oi := { dst := some 118, op := Op.binOp BinOp.eql 3 (Operand.tmp 116) (Operand.tmp 117) 3, type := 4, pos := "law.go:46", after := #[{ on := 12, ground := Ground.data }, { on := 13, ground := Ground.data }, { on := 11, ground := Ground.guard }], guard := some (11, true) }) (v := ?vu12) rfl (by kernel_rfl) (by kernel_rfl) (by kernel_rfl) (fun _ _ _ h => h) (Or.inl ⟨by rfl, ?hyu12⟩) (by assumption) ?restu12
      case hyu12 => (intro w hSw; (try dsimp only at hSw); go_simp; (try with_reducible rfl))
      try simp only [Act.put, List.setIfInBounds_toArray, List.set_cons_zero, List.set_cons_succ]
      refine wpAnyH_take (i := 15) (oi := { dst := some 119, op := Op.pick (Operand.tmp 115) (Operand.tmp 118) (Operand.const (Value.bool false)), type := 4, pos := "law.go:46", after := #[{ on := 11, ground := Ground.data }, { on := 14, ground := Ground.data }], guard := none }) (v := ?vu13) rfl (by kernel_rfl) (by kernel_rfl) (by kernel_rfl) (fun _ _ _ h => h) (Or.inl ⟨by rfl, ?hyu13⟩) (by assumption) ?restu13
      case hyu13 => (intro w hSw; (try dsimp only at hSw); go_simp; (try with_reducible rfl))
      try simp only [Act.put, List.setIfInBounds_toArray, List.set_cons_zero, List.set_cons_succ]
      refine wpAnyH_take (i := 16) (oi := { dst := some 120, op := Op.move (Operand.tmp 119), type := 4, pos := "law.go:46", after := #[{ on := 15, ground := Ground.data }, { on := 11, ground := Ground.chain }], guard := none }) (v := ?vu14) rfl (by kernel_rfl) (by kernel_rfl) (by kernel_rfl) (fun _ _ _ h => h) (Or.inl ⟨by rfl, ?hyu14⟩) (by assumption) ?restu14
      case hyu14 => (intro w hSw; (try dsimp only at hSw); go_simp; (try with_reducible rfl))
      try simp only [Act.put, List.setIfInBounds_toArray, List.set_cons_zero, List.set_cons_succ]
      refine wpAnyH_take (i := 17) (oi := { dst := some 121, op := Op.move (Operand.tmp 31), type := 43, pos := "law.go:46", after := #[{ on := 16, ground := Ground.guard }], guard := some (16, true) }) (v := ?vu15) rfl (by kernel_rfl) (by kernel_rfl) (by kernel_rfl) (fun _ _ _ h => h) (Or.inl ⟨by rfl, ?hyu15⟩) (by assumption) ?restu15
      case hyu15 => (intro w hSw; (try dsimp only at hSw); go_simp; (try with_reducible rfl))
      try simp only [Act.put, List.setIfInBounds_toArray, List.set_cons_zero, List.set_cons_succ]
      refine wpAnyH_take (i := 18) (oi := { dst := some 122, op := Op.load 27 (Operand.tmp 11), type := 27, pos := "law.go:46", after := #[{ on := 16, ground := Ground.guard }], guard := some (16, true) }) (v := ?vu16) rfl (by kernel_rfl) (by kernel_rfl) (by kernel_rfl) (fun _ _ _ h => h) (Or.inl ⟨by rfl, ?hyu16⟩) (by assumption) ?restu16
      case hyu16 => (intro w hSw; (try dsimp only at hSw); obtain ⟨q0, q1, q2, q3, q4⟩ := box5 G5.out hSw; go_simp; (try with_reducible rfl))
      try simp only [Act.put, List.setIfInBounds_toArray, List.set_cons_zero, List.set_cons_succ]
      refine wpAnyH_take (i := 19) (oi := { dst := some 123, op := Op.load 27 (Operand.tmp 13), type := 27, pos := "law.go:46", after := #[{ on := 16, ground := Ground.guard }], guard := some (16, true) }) (v := ?vu17) rfl (by kernel_rfl) (by kernel_rfl) (by kernel_rfl) (fun _ _ _ h => h) (Or.inl ⟨by rfl, ?hyu17⟩) (by assumption) ?restu17
      case hyu17 => (intro w hSw; (try dsimp only at hSw); obtain ⟨q0, q1, q2, q3, q4⟩ := box5 G6.out hSw; go_simp; (try with_reducible rfl))
      try simp only [Act.put, List.setIfInBounds_toArray, List.set_cons_zero, List.set_cons_succ]
      refine wpAnyH_ready (rs := [20]) (by kernel_rfl) (by simp) ?_
      refine AllReadyH.cons (o := { dst := some 124, op := Op.call { callee := Callee.value (Operand.tmp 121), args := #[Operand.tmp 122, Operand.tmp 123], argTypes := #[27, 27] }, type := 4, pos := "law.go:46", after := #[{ on := 17, ground := Ground.data }, { on := 18, ground := Ground.data }, { on := 19, ground := Ground.data }, { on := 16, ground := Ground.chain }, { on := 16, ground := Ground.guard }], guard := some (16, true) }) rfl (fun K hK => ?_) AllReadyH.nil
      go_simp
      go_at_call 20
      refine (fields_at _ _ _ r0 sem (pone sem) (by exact O5.out.below (by first | exact HW | exact HW.drew)) (by exact O6.out.below (by first | exact HW | exact HW.drew)) (fun _ hs => (pone_short _ hs).le (by decide))).mono ?_
      rintro e z3 ⟨rfl, b⟩
      replace HW := below_step (by first | exact HW | exact HW.drew) b
      clear b
      refine hK.out _ _ ?_ (fun hHeldB => ?_)
      · (try dsimp only); exact HW
      clear hK K hHeld
      have hHeld := hHeldB
      clear hHeldB
      try simp only [Act.put, List.setIfInBounds_toArray, List.set_cons_zero, List.set_cons_succ]
      as_aux_lemma =>
        refine wpAnyH_take (i := 21) (oi := { dst := some 125, op := Op.pick (Operand.tmp 120) (Operand.tmp 124) (Operand.const (Value.bool false)), type := 4, pos := "law.go:46", after := #[{ on := 16, ground := Ground.data }, { on := 20, ground := Ground.data }], guard := none }) (v := ?vu18) rfl (by kernel_rfl) (by kernel_rfl) (by kernel_rfl) (fun _ _ _ h => h) (Or.inl ⟨by rfl, ?hyu18⟩) (by assumption) ?restu18
        case hyu18 => (intro w hSw; (try dsimp only at hSw); go_simp; (try with_reducible rfl))
        try simp only [Act.put, List.setIfInBounds_toArray, List.set_cons_zero, List.set_cons_succ]
        refine wpAnyH_take (i := 22) (oi := { dst := some 126, op := Op.move (Operand.tmp 125), type := 4, pos := "law.go:46", after := #[{ on := 21, ground := Ground.data }, { on := 20, ground := Ground.chain }], guard := none }) (v := ?vu19) rfl (by kernel_rfl) (by kernel_rfl) (by kernel_rfl) (fun _ _ _ h => h) (Or.inl ⟨by rfl, ?hyu19⟩) (by assumption) ?restu19
        case hyu19 => (intro w hSw; (try dsimp only at hSw); go_simp; (try with_reducible rfl))
        try simp only [Act.put, List.setIfInBounds_toArray, List.set_cons_zero, List.set_cons_succ]
        refine wpAnyH_take (i := 23) (oi := { dst := some 127, op := Op.move (Operand.tmp 12), type := 30, pos := "law.go:46", after := #[{ on := 22, ground := Ground.guard }], guard := some (22, true) }) (v := ?vu20) rfl (by kernel_rfl) (by kernel_rfl) (by kernel_rfl) (fun _ _ _ h => h) (Or.inl ⟨by rfl, ?hyu20⟩) (by assumption) ?restu20
        case hyu20 => (intro w hSw; (try dsimp only at hSw); go_simp; (try with_reducible rfl))
        try simp only [Act.put, List.setIfInBounds_toArray, List.set_cons_zero, List.set_cons_succ]
        refine wpAnyH_take (i := 24) (oi := { dst := some 128, op := Op.move (Operand.tmp 14), type := 3, pos := "law.go:46", after := #[{ on := 22, ground := Ground.guard }], guard := some (22, true) }) (v := ?vu21) rfl (by kernel_rfl) (by kernel_rfl) (by kernel_rfl) (fun _ _ _ h => h) (Or.inl ⟨by rfl, ?hyu21⟩) (by assumption) ?restu21
        case hyu21 => (intro w hSw; (try dsimp only at hSw); go_simp; (try with_reducible rfl))
        try simp only [Act.put, List.setIfInBounds_toArray, List.set_cons_zero, List.set_cons_succ]
        refine wpAnyH_take (i := 25) (oi := { dst := some 129, op := Op.binOp BinOp.eql 3 (Operand.tmp 127) (Operand.tmp 128) 3, type := 4, pos := "law.go:46", after := #[{ on := 23, ground := Ground.data }, { on := 24, ground := Ground.data }, { on := 22, ground := Ground.guard }], guard := some (22, true) }) (v := ?vu22) rfl (by kernel_rfl) (by kernel_rfl) (by kernel_rfl) (fun _ _ _ h => h) (Or.inl ⟨by rfl, ?hyu22⟩) (by assumption) ?restu22
        case hyu22 => (intro w hSw; (try dsimp only at hSw); go_simp; (try with_reducible rfl))
        try simp only [Act.put, List.setIfInBounds_toArray, List.set_cons_zero, List.set_cons_succ]
        refine wpAnyH_take (i := 26) (oi := { dst := some 130, op := Op.pick (Operand.tmp 126) (Operand.tmp 129) (Operand.const (Value.bool false)), type := 4, pos := "law.go:46", after := #[{ on := 22, ground := Ground.data }, { on := 25, ground := Ground.data }], guard := none }) (v := ?vu23) rfl (by kernel_rfl) (by kernel_rfl) (by kernel_rfl) (fun _ _ _ h => h) (Or.inl ⟨by rfl, ?hyu23⟩) (by assumption) ?restu23
        case hyu23 => (intro w hSw; (try dsimp only at hSw); go_simp; (try with_reducible rfl))
        try simp only [Act.put, List.setIfInBounds_toArray, List.set_cons_zero, List.set_cons_succ]
        refine wpAnyH_take (i := 27) (oi := { dst := some 131, op := Op.move (Operand.tmp 130), type := 4, pos := "law.go:46", after := #[{ on := 26, ground := Ground.data }, { on := 22, ground := Ground.chain }], guard := none }) (v := ?vu24) rfl (by kernel_rfl) (by kernel_rfl) (by kernel_rfl) (fun _ _ _ h => h) (Or.inl ⟨by rfl, ?hyu24⟩) (by assumption) ?restu24
        case hyu24 => (intro w hSw; (try dsimp only at hSw); go_simp; (try with_reducible rfl))
        try simp only [Act.put, List.setIfInBounds_toArray, List.set_cons_zero, List.set_cons_succ]
        refine wpAnyH_take (i := 28) (oi := { dst := some 132, op := Op.move (Operand.tmp 31), type := 43, pos := "law.go:46", after := #[{ on := 27, ground := Ground.guard }], guard := some (27, true) }) (v := ?vu25) rfl (by kernel_rfl) (by kernel_rfl) (by kernel_rfl) (fun _ _ _ h => h) (Or.inl ⟨by rfl, ?hyu25⟩) (by assumption) ?restu25
        case hyu25 => (intro w hSw; (try dsimp only at hSw); go_simp; (try with_reducible rfl))
        try simp only [Act.put, List.setIfInBounds_toArray, List.set_cons_zero, List.set_cons_succ]
        refine wpAnyH_take (i := 29) (oi := { dst := some 133, op := Op.load 27 (Operand.tmp 15), type := 27, pos := "law.go:46", after := #[{ on := 27, ground := Ground.guard }], guard := some (27, true) }) (v := ?vu26) rfl (by kernel_rfl) (by kernel_rfl) (by kernel_rfl) (fun _ _ _ h => h) (Or.inl ⟨by rfl, ?hyu26⟩) (by assumption) ?restu26
        case hyu26 => (intro w hSw; (try dsimp only at hSw); obtain ⟨q0, q1, q2, q3, q4⟩ := box5 G7.out hSw; go_simp; (try with_reducible rfl))
        try simp only [Act.put, List.setIfInBounds_toArray, List.set_cons_zero, List.set_cons_succ]
        refine wpAnyH_take (i := 30) (oi := { dst := some 134, op := Op.load 27 (Operand.tmp 17), type := 27, pos := "law.go:46", after := #[{ on := 27, ground := Ground.guard }], guard := some (27, true) }) (v := ?vu27) rfl (by kernel_rfl) (by kernel_rfl) (by kernel_rfl) (fun _ _ _ h => h) (Or.inl ⟨by rfl, ?hyu27⟩) (by assumption) ?restu27
        case hyu27 => (intro w hSw; (try dsimp only at hSw); obtain ⟨q0, q1, q2, q3, q4⟩ := box5 G8.out hSw; go_simp; (try with_reducible rfl))
        try simp only [Act.put, List.setIfInBounds_toArray, List.set_cons_zero, List.set_cons_succ]
        refine wpAnyH_ready (rs := [31]) (by kernel_rfl) (by simp) ?_
        refine AllReadyH.cons (o := { dst := some 135, op := Op.call { callee := Callee.value (Operand.tmp 132), args := #[Operand.tmp 133, Operand.tmp 134], argTypes := #[27, 27] }, type := 4, pos := "law.go:46", after := #[{ on := 28, ground := Ground.data }, { on := 29, ground := Ground.data }, { on := 30, ground := Ground.data }, { on := 27, ground := Ground.chain }, { on := 27, ground := Ground.guard }], guard := some (27, true) }) rfl (fun K hK => ?_) AllReadyH.nil
        go_simp
        go_at_call 20
        refine (fields_at _ _ _ r1 V1.s (padd V1.s (denV V1) (denV V2)) (by exact O7.out.below (by first | exact HW | exact HW.drew)) (by exact O8.out.below (by first | exact HW | exact HW.drew)) SHP.out).mono ?_
        rintro e z4 ⟨rfl, b⟩
        replace HW := below_step (by first | exact HW | exact HW.drew) b
        clear b
        refine hK.out _ _ ?_ (fun hHeldB => ?_)
        · (try dsimp only); exact HW
        clear hK K hHeld
        have hHeld := hHeldB
        clear hHeldB
        try simp only [Act.put, List.setIfInBounds_toArray, List.set_cons_zero, List.set_cons_succ]
        refine wpAnyH_take (i := 32) (oi := { dst := some 136, op := Op.pick (Operand.tmp 131) (Operand.tmp 135) (Operand.const (Value.bool false)), type := 4, pos := "law.go:46", after := #[{ on := 27, ground := Ground.data }, { on := 31, ground := Ground.data }], guard := none }) (v := ?vu28) rfl (by kernel_rfl) (by kernel_rfl) (by kernel_rfl) (fun _ _ _ h => h) (Or.inl ⟨by rfl, ?hyu28⟩) (by assumption) ?restu28
        case hyu28 => (intro w hSw; (try dsimp only at hSw); go_simp; (try with_reducible rfl))
        try simp only [Act.put, List.setIfInBounds_toArray, List.set_cons_zero, List.set_cons_succ]
        refine wpAnyH_take (i := 33) (oi := { dst := some 137, op := Op.move (Operand.tmp 136), type := 4, pos := "law.go:46", after := #[{ on := 32, ground := Ground.data }, { on := 31, ground := Ground.chain }], guard := none }) (v := ?vu29) rfl (by kernel_rfl) (by kernel_rfl) (by kernel_rfl) (fun _ _ _ h => h) (Or.inl ⟨by rfl, ?hyu29⟩) (by assumption) ?restu29
        case hyu29 => (intro w hSw; (try dsimp only at hSw); go_simp; (try with_reducible rfl))
        try simp only [Act.put, List.setIfInBounds_toArray, List.set_cons_zero, List.set_cons_succ]
        refine wpAnyH_take (i := 34) (oi := { dst := some 138, op := Op.move (Operand.tmp 16), type := 30, pos := "law.go:46", after := #[{ on := 33, ground := Ground.guard }], guard := some (33, true) }) (v := ?vu30) rfl (by kernel_rfl) (by kernel_rfl) (by kernel_rfl) (fun _ _ _ h => h) (Or.inl ⟨by rfl, ?hyu30⟩) (by assumption) ?restu30
        case hyu30 => (intro w hSw; (try dsimp only at hSw); go_simp; (try with_reducible rfl))
        try simp only [Act.put, List.setIfInBounds_toArray, List.set_cons_zero, List.set_cons_succ]
        refine wpAnyH_take (i := 35) (oi := { dst := some 139, op := Op.move (Operand.tmp 18), type := 3, pos := "law.go:46", after := #[{ on := 33, ground := Ground.guard }], guard := some (33, true) }) (v := ?vu31) rfl (by kernel_rfl) (by kernel_rfl) (by kernel_rfl) (fun _ _ _ h => h) (Or.inl ⟨by rfl, ?hyu31⟩) (by assumption) ?restu31
        case hyu31 => (intro w hSw; (try dsimp only at hSw); go_simp; (try with_reducible rfl))
        try simp only [Act.put, List.setIfInBounds_toArray, List.set_cons_zero, List.set_cons_succ]
        refine wpAnyH_take (i := 36) (oi := { dst := some 140, op := Op.binOp BinOp.eql 3 (Operand.tmp 138) (Operand.tmp 139) 3, type := 4, pos := "law.go:46", after := #[{ on := 34, ground := Ground.data }, { on := 35, ground := Ground.data }, { on := 33, ground := Ground.guard }], guard := some (33, true) }) (v := ?vu32) rfl (by kernel_rfl) (by kernel_rfl) (by kernel_rfl) (fun _ _ _ h => h) (Or.inl ⟨by rfl, ?hyu32⟩) (by assumption) ?restu32
        case hyu32 => (intro w hSw; (try dsimp only at hSw); go_simp; (try with_reducible rfl))
        try simp only [Act.put, List.setIfInBounds_toArray, List.set_cons_zero, List.set_cons_succ]
        refine wpAnyH_take (i := 37) (oi := { dst := some 141, op := Op.pick (Operand.tmp 137) (Operand.tmp 140) (Operand.const (Value.bool false)), type := 4, pos := "law.go:46", after := #[{ on := 33, ground := Ground.data }, { on := 36, ground := Ground.data }], guard := none }) (v := ?vu33) rfl (by kernel_rfl) (by kernel_rfl) (by kernel_rfl) (fun _ _ _ h => h) (Or.inl ⟨by rfl, ?hyu33⟩) (by assumption) ?restu33
        case hyu33 => (intro w hSw; (try dsimp only at hSw); go_simp; (try with_reducible rfl))
        try simp only [Act.put, List.setIfInBounds_toArray, List.set_cons_zero, List.set_cons_succ]
        refine wpAnyH_take (i := 38) (oi := { dst := some 142, op := Op.move (Operand.tmp 141), type := 4, pos := "law.go:46", after := #[{ on := 37, ground := Ground.data }, { on := 33, ground := Ground.chain }], guard := none }) (v := ?vu34) rfl (by kernel_rfl) (by kernel_rfl) (by kernel_rfl) (fun _ _ _ h => h) (Or.inl ⟨by rfl, ?hyu34⟩) (by assumption) ?restu34
        case hyu34 => (intro w hSw; (try dsimp only at hSw); go_simp; (try with_reducible rfl))
        try simp only [Act.put, List.setIfInBounds_toArray, List.set_cons_zero, List.set_cons_succ]
        refine wpAnyH_take (i := 39) (oi := { dst := some 143, op := Op.move (Operand.tmp 31), type := 43, pos := "law.go:46", after := #[{ on := 38, ground := Ground.guard }], guard := some (38, true) }) (v := ?vu35) rfl (by kernel_rfl) (by kernel_rfl) (by kernel_rfl) (fun _ _ _ h => h) (Or.inl ⟨by rfl, ?hyu35⟩) (by assumption) ?restu35
        case hyu35 => (intro w hSw; (try dsimp only at hSw); go_simp; (try with_reducible rfl))
        try simp only [Act.put, List.setIfInBounds_toArray, List.set_cons_zero, List.set_cons_succ]
        refine wpAnyH_take (i := 40) (oi := { dst := some 144, op := Op.load 27 (Operand.tmp 19), type := 27, pos := "law.go:46", after := #[{ on := 38, ground := Ground.guard }], guard := some (38, true) }) (v := ?vu36) rfl (by kernel_rfl) (by kernel_rfl) (by kernel_rfl) (fun _ _ _ h => h) (Or.inl ⟨by rfl, ?hyu36⟩) (by assumption) ?restu36
        case hyu36 => (intro w hSw; (try dsimp only at hSw); obtain ⟨q0, q1, q2, q3, q4⟩ := box5 G9.out hSw; go_simp; (try with_reducible rfl))
        try simp only [Act.put, List.setIfInBounds_toArray, List.set_cons_zero, List.set_cons_succ]
        refine wpAnyH_take (i := 41) (oi := { dst := some 145, op := Op.load 27 (Operand.tmp 21), type := 27, pos := "law.go:46", after := #[{ on := 38, ground := Ground.guard }], guard := some (38, true) }) (v := ?vu37) rfl (by kernel_rfl) (by kernel_rfl) (by kernel_rfl) (fun _ _ _ h => h) (Or.inl ⟨by rfl, ?hyu37⟩) (by assumption) ?restu37
        case hyu37 => (intro w hSw; (try dsimp only at hSw); obtain ⟨q0, q1, q2, q3, q4⟩ := box5 G10.out hSw; go_simp; (try with_reducible rfl))
        try simp only [Act.put, List.setIfInBounds_toArray, List.set_cons_zero, List.set_cons_succ]
        refine wpAnyH_ready (rs := [42]) (by kernel_rfl) (by simp) ?_
        refine AllReadyH.cons (o := { dst := some 146, op := Op.call { callee := Callee.value (Operand.tmp 143), args := #[Operand.tmp 144, Operand.tmp 145], argTypes := #[27, 27] }, type := 4, pos := "law.go:46", after := #[{ on := 39, ground := Ground.data }, { on := 40, ground := Ground.data }, { on := 41, ground := Ground.data }, { on := 38, ground := Ground.chain }, { on := 38, ground := Ground.guard }], guard := some (38, true) }) rfl (fun K hK => ?_) AllReadyH.nil
        go_simp
        go_at_call 20
        refine (fields_at _ _ _ r1 V1.s (pmul V1.s (denV V1) (denV V2)) (by exact O9.out.below (by first | exact HW | exact HW.drew)) (by exact O10.out.below (by first | exact HW | exact HW.drew)) SHM.out).mono ?_
        rintro e z5 ⟨rfl, b⟩
        replace HW := below_step (by first | exact HW | exact HW.drew) b
        clear b
        refine hK.out _ _ ?_ (fun hHeldB => ?_)
        · (try dsimp only); exact HW
        clear hK K hHeld
        have hHeld := hHeldB
        clear hHeldB
        try simp only [Act.put, List.setIfInBounds_toArray, List.set_cons_zero, List.set_cons_succ]
        as_aux_lemma =>
          refine wpAnyH_take (i := 43) (oi := { dst := some 147, op := Op.pick (Operand.tmp 142) (Operand.tmp 146) (Operand.const (Value.bool false)), type := 4, pos := "law.go:46", after := #[{ on := 38, ground := Ground.data }, { on := 42, ground := Ground.data }], guard := none }) (v := ?vu38) rfl (by kernel_rfl) (by kernel_rfl) (by kernel_rfl) (fun _ _ _ h => h) (Or.inl ⟨by rfl, ?hyu38⟩) (by assumption) ?restu38
          case hyu38 => (intro w hSw; (try dsimp only at hSw); go_simp; (try with_reducible rfl))
          try simp only [Act.put, List.setIfInBounds_toArray, List.set_cons_zero, List.set_cons_succ]
          refine wpAnyH_take (i := 44) (oi := { dst := some 148, op := Op.move (Operand.tmp 147), type := 4, pos := "law.go:46", after := #[{ on := 43, ground := Ground.data }, { on := 42, ground := Ground.chain }], guard := none }) (v := ?vu39) rfl (by kernel_rfl) (by kernel_rfl) (by kernel_rfl) (fun _ _ _ h => h) (Or.inl ⟨by rfl, ?hyu39⟩) (by assumption) ?restu39
          case hyu39 => (intro w hSw; (try dsimp only at hSw); go_simp; (try with_reducible rfl))
          try simp only [Act.put, List.setIfInBounds_toArray, List.set_cons_zero, List.set_cons_succ]
          refine wpAnyH_take (i := 45) (oi := { dst := some 149, op := Op.move (Operand.tmp 20), type := 30, pos := "law.go:46", after := #[{ on := 44, ground := Ground.guard }], guard := some (44, true) }) (v := ?vu40) rfl (by kernel_rfl) (by kernel_rfl) (by kernel_rfl) (fun _ _ _ h => h) (Or.inl ⟨by rfl, ?hyu40⟩) (by assumption) ?restu40
          case hyu40 => (intro w hSw; (try dsimp only at hSw); go_simp; (try with_reducible rfl))
          try simp only [Act.put, List.setIfInBounds_toArray, List.set_cons_zero, List.set_cons_succ]
          refine wpAnyH_take (i := 46) (oi := { dst := some 150, op := Op.move (Operand.tmp 22), type := 3, pos := "law.go:46", after := #[{ on := 44, ground := Ground.guard }], guard := some (44, true) }) (v := ?vu41) rfl (by kernel_rfl) (by kernel_rfl) (by kernel_rfl) (fun _ _ _ h => h) (Or.inl ⟨by rfl, ?hyu41⟩) (by assumption) ?restu41
          case hyu41 => (intro w hSw; (try dsimp only at hSw); go_simp; (try with_reducible rfl))
          try simp only [Act.put, List.setIfInBounds_toArray, List.set_cons_zero, List.set_cons_succ]
          refine wpAnyH_take (i := 47) (oi := { dst := some 151, op := Op.binOp BinOp.eql 3 (Operand.tmp 149) (Operand.tmp 150) 3, type := 4, pos := "law.go:46", after := #[{ on := 45, ground := Ground.data }, { on := 46, ground := Ground.data }, { on := 44, ground := Ground.guard }], guard := some (44, true) }) (v := ?vu42) rfl (by kernel_rfl) (by kernel_rfl) (by kernel_rfl) (fun _ _ _ h => h) (Or.inl ⟨by rfl, ?hyu42⟩) (by assumption) ?restu42
          case hyu42 => (intro w hSw; (try dsimp only at hSw); go_simp; (try with_reducible rfl))
          try simp only [Act.put, List.setIfInBounds_toArray, List.set_cons_zero, List.set_cons_succ]
          refine wpAnyH_take (i := 48) (oi := { dst := some 152, op := Op.pick (Operand.tmp 148) (Operand.tmp 151) (Operand.const (Value.bool false)), type := 4, pos := "law.go:46", after := #[{ on := 44, ground := Ground.data }, { on := 47, ground := Ground.data }], guard := none }) (v := ?vu43) rfl (by kernel_rfl) (by kernel_rfl) (by kernel_rfl) (fun _ _ _ h => h) (Or.inl ⟨by rfl, ?hyu43⟩) (by assumption) ?restu43
          case hyu43 => (intro w hSw; (try dsimp only at hSw); go_simp; (try with_reducible rfl))
          try simp only [Act.put, List.setIfInBounds_toArray, List.set_cons_zero, List.set_cons_succ]
          refine wpAnyH_take (i := 49) (oi := { dst := some 153, op := Op.move (Operand.tmp 152), type := 4, pos := "law.go:46", after := #[{ on := 48, ground := Ground.data }, { on := 44, ground := Ground.chain }], guard := none }) (v := ?vu44) rfl (by kernel_rfl) (by kernel_rfl) (by kernel_rfl) (fun _ _ _ h => h) (Or.inl ⟨by rfl, ?hyu44⟩) (by assumption) ?restu44
          case hyu44 => (intro w hSw; (try dsimp only at hSw); go_simp; (try with_reducible rfl))
          try simp only [Act.put, List.setIfInBounds_toArray, List.set_cons_zero, List.set_cons_succ]
          refine wpAnyH_take (i := 50) (oi := { dst := some 154, op := Op.move (Operand.tmp 31), type := 43, pos := "law.go:46", after := #[{ on := 49, ground := Ground.guard }], guard := some (49, true) }) (v := ?vu45) rfl (by kernel_rfl) (by kernel_rfl) (by kernel_rfl) (fun _ _ _ h => h) (Or.inl ⟨by rfl, ?hyu45⟩) (by assumption) ?restu45
          case hyu45 => (intro w hSw; (try dsimp only at hSw); go_simp; (try with_reducible rfl))
          try simp only [Act.put, List.setIfInBounds_toArray, List.set_cons_zero, List.set_cons_succ]
          refine wpAnyH_take (i := 51) (oi := { dst := some 155, op := Op.load 27 (Operand.tmp 23), type := 27, pos := "law.go:46", after := #[{ on := 49, ground := Ground.guard }], guard := some (49, true) }) (v := ?vu46) rfl (by kernel_rfl) (by kernel_rfl) (by kernel_rfl) (fun _ _ _ h => h) (Or.inl ⟨by rfl, ?hyu46⟩) (by assumption) ?restu46
          case hyu46 => (intro w hSw; (try dsimp only at hSw); obtain ⟨q0, q1, q2, q3, q4⟩ := box5 G11.out hSw; go_simp; (try with_reducible rfl))
          try simp only [Act.put, List.setIfInBounds_toArray, List.set_cons_zero, List.set_cons_succ]
          refine wpAnyH_take (i := 52) (oi := { dst := some 156, op := Op.load 27 (Operand.tmp 25), type := 27, pos := "law.go:46", after := #[{ on := 49, ground := Ground.guard }], guard := some (49, true) }) (v := ?vu47) rfl (by kernel_rfl) (by kernel_rfl) (by kernel_rfl) (fun _ _ _ h => h) (Or.inl ⟨by rfl, ?hyu47⟩) (by assumption) ?restu47
          case hyu47 => (intro w hSw; (try dsimp only at hSw); obtain ⟨q0, q1, q2, q3, q4⟩ := box5 G12.out hSw; go_simp; (try with_reducible rfl))
          try simp only [Act.put, List.setIfInBounds_toArray, List.set_cons_zero, List.set_cons_succ]
          refine wpAnyH_ready (rs := [53]) (by kernel_rfl) (by simp) ?_
          refine AllReadyH.cons (o := { dst := some 157, op := Op.call { callee := Callee.value (Operand.tmp 154), args := #[Operand.tmp 155, Operand.tmp 156], argTypes := #[27, 27] }, type := 4, pos := "law.go:46", after := #[{ on := 50, ground := Ground.data }, { on := 51, ground := Ground.data }, { on := 52, ground := Ground.data }, { on := 49, ground := Ground.chain }, { on := 49, ground := Ground.guard }], guard := some (49, true) }) rfl (fun K hK => ?_) AllReadyH.nil
          go_simp
          go_at_call 20
          refine (fields_at _ _ _ r2 V1.s (pstar V1.s (denV V1)) (by exact O11.out.below (by first | exact HW | exact HW.drew)) (by exact O12.out.below (by first | exact HW | exact HW.drew)) (fun _ hs => (pstar_short _ _ hs).le (by decide))).mono ?_
          rintro e z6 ⟨rfl, b⟩
          replace HW := below_step (by first | exact HW | exact HW.drew) b
          clear b
          refine hK.out _ _ ?_ (fun hHeldB => ?_)
          · (try dsimp only); exact HW
          clear hK K hHeld
          have hHeld := hHeldB
          clear hHeldB
          try simp only [Act.put, List.setIfInBounds_toArray, List.set_cons_zero, List.set_cons_succ]
          refine wpAnyH_take (i := 54) (oi := { dst := some 158, op := Op.pick (Operand.tmp 153) (Operand.tmp 157) (Operand.const (Value.bool false)), type := 4, pos := "law.go:46", after := #[{ on := 49, ground := Ground.data }, { on := 53, ground := Ground.data }], guard := none }) (v := ?vu48) rfl (by kernel_rfl) (by kernel_rfl) (by kernel_rfl) (fun _ _ _ h => h) (Or.inl ⟨by rfl, ?hyu48⟩) (by assumption) ?restu48
          case hyu48 => (intro w hSw; (try dsimp only at hSw); go_simp; (try with_reducible rfl))
          try simp only [Act.put, List.setIfInBounds_toArray, List.set_cons_zero, List.set_cons_succ]
          refine wpAnyH_take (i := 55) (oi := { dst := some 159, op := Op.move (Operand.tmp 158), type := 4, pos := "law.go:46", after := #[{ on := 54, ground := Ground.data }, { on := 53, ground := Ground.chain }], guard := none }) (v := ?vu49) rfl (by kernel_rfl) (by kernel_rfl) (by kernel_rfl) (fun _ _ _ h => h) (Or.inl ⟨by rfl, ?hyu49⟩) (by assumption) ?restu49
          case hyu49 => (intro w hSw; (try dsimp only at hSw); go_simp; (try with_reducible rfl))
          try simp only [Act.put, List.setIfInBounds_toArray, List.set_cons_zero, List.set_cons_succ]
          refine wpAnyH_take (i := 56) (oi := { dst := some 160, op := Op.move (Operand.tmp 24), type := 30, pos := "law.go:46", after := #[{ on := 55, ground := Ground.guard }], guard := some (55, true) }) (v := ?vu50) rfl (by kernel_rfl) (by kernel_rfl) (by kernel_rfl) (fun _ _ _ h => h) (Or.inl ⟨by rfl, ?hyu50⟩) (by assumption) ?restu50
          case hyu50 => (intro w hSw; (try dsimp only at hSw); go_simp; (try with_reducible rfl))
          try simp only [Act.put, List.setIfInBounds_toArray, List.set_cons_zero, List.set_cons_succ]
          refine wpAnyH_take (i := 57) (oi := { dst := some 161, op := Op.move (Operand.tmp 26), type := 3, pos := "law.go:46", after := #[{ on := 55, ground := Ground.guard }], guard := some (55, true) }) (v := ?vu51) rfl (by kernel_rfl) (by kernel_rfl) (by kernel_rfl) (fun _ _ _ h => h) (Or.inl ⟨by rfl, ?hyu51⟩) (by assumption) ?restu51
          case hyu51 => (intro w hSw; (try dsimp only at hSw); go_simp; (try with_reducible rfl))
          try simp only [Act.put, List.setIfInBounds_toArray, List.set_cons_zero, List.set_cons_succ]
          refine wpAnyH_take (i := 58) (oi := { dst := some 162, op := Op.binOp BinOp.eql 3 (Operand.tmp 160) (Operand.tmp 161) 3, type := 4, pos := "law.go:46", after := #[{ on := 56, ground := Ground.data }, { on := 57, ground := Ground.data }, { on := 55, ground := Ground.guard }], guard := some (55, true) }) (v := ?vu52) rfl (by kernel_rfl) (by kernel_rfl) (by kernel_rfl) (fun _ _ _ h => h) (Or.inl ⟨by rfl, ?hyu52⟩) (by assumption) ?restu52
          case hyu52 => (intro w hSw; (try dsimp only at hSw); go_simp; (try with_reducible rfl))
          try simp only [Act.put, List.setIfInBounds_toArray, List.set_cons_zero, List.set_cons_succ]
          refine wpAnyH_take (i := 59) (oi := { dst := some 163, op := Op.pick (Operand.tmp 159) (Operand.tmp 162) (Operand.const (Value.bool false)), type := 4, pos := "law.go:46", after := #[{ on := 55, ground := Ground.data }, { on := 58, ground := Ground.data }], guard := none }) (v := ?vu53) rfl (by kernel_rfl) (by kernel_rfl) (by kernel_rfl) (fun _ _ _ h => h) (Or.inl ⟨by rfl, ?hyu53⟩) (by assumption) ?restu53
          case hyu53 => (intro w hSw; (try dsimp only at hSw); go_simp; (try with_reducible rfl))
          try simp only [Act.put, List.setIfInBounds_toArray, List.set_cons_zero, List.set_cons_succ]
          refine wpAnyH_take (i := 60) (oi := { dst := some 164, op := Op.move (Operand.tmp 163), type := 4, pos := "law.go:46", after := #[{ on := 59, ground := Ground.data }, { on := 55, ground := Ground.chain }], guard := none }) (v := ?vu54) rfl (by kernel_rfl) (by kernel_rfl) (by kernel_rfl) (fun _ _ _ h => h) (Or.inl ⟨by rfl, ?hyu54⟩) (by assumption) ?restu54
          case hyu54 => (intro w hSw; (try dsimp only at hSw); go_simp; (try with_reducible rfl))
          try simp only [Act.put, List.setIfInBounds_toArray, List.set_cons_zero, List.set_cons_succ]
          refine wpAnyH_take (i := 61) (oi := { dst := some 165, op := Op.move (Operand.tmp 27), type := 4, pos := "law.go:46", after := #[{ on := 60, ground := Ground.guard }], guard := some (60, true) }) (v := ?vu55) rfl (by kernel_rfl) (by kernel_rfl) (by kernel_rfl) (fun _ _ _ h => h) (Or.inl ⟨by rfl, ?hyu55⟩) (by assumption) ?restu55
          case hyu55 => (intro w hSw; (try dsimp only at hSw); go_simp; (try with_reducible rfl))
          try simp only [Act.put, List.setIfInBounds_toArray, List.set_cons_zero, List.set_cons_succ]
          refine wpAnyH_take (i := 62) (oi := { dst := some 166, op := Op.move (Operand.tmp 29), type := 4, pos := "law.go:46", after := #[{ on := 60, ground := Ground.guard }], guard := some (60, true) }) (v := ?vu56) rfl (by kernel_rfl) (by kernel_rfl) (by kernel_rfl) (fun _ _ _ h => h) (Or.inl ⟨by rfl, ?hyu56⟩) (by assumption) ?restu56
          case hyu56 => (intro w hSw; (try dsimp only at hSw); go_simp; (try with_reducible rfl))
          try simp only [Act.put, List.setIfInBounds_toArray, List.set_cons_zero, List.set_cons_succ]
          refine wpAnyH_take (i := 63) (oi := { dst := some 167, op := Op.binOp BinOp.eql 4 (Operand.tmp 165) (Operand.tmp 166) 4, type := 4, pos := "law.go:46", after := #[{ on := 61, ground := Ground.data }, { on := 62, ground := Ground.data }, { on := 60, ground := Ground.guard }], guard := some (60, true) }) (v := ?vu57) rfl (by kernel_rfl) (by kernel_rfl) (by kernel_rfl) (fun _ _ _ h => h) (Or.inl ⟨by rfl, ?hyu57⟩) (by assumption) ?restu57
          case hyu57 => (intro w hSw; (try dsimp only at hSw); go_simp; (try with_reducible rfl))
          try simp only [Act.put, List.setIfInBounds_toArray, List.set_cons_zero, List.set_cons_succ]
          refine wpAnyH_take (i := 64) (oi := { dst := some 168, op := Op.pick (Operand.tmp 164) (Operand.tmp 167) (Operand.const (Value.bool false)), type := 4, pos := "law.go:46", after := #[{ on := 60, ground := Ground.data }, { on := 63, ground := Ground.data }], guard := none }) (v := ?vu58) rfl (by kernel_rfl) (by kernel_rfl) (by kernel_rfl) (fun _ _ _ h => h) (Or.inl ⟨by rfl, ?hyu58⟩) (by assumption) ?restu58
          case hyu58 => (intro w hSw; (try dsimp only at hSw); go_simp; (try with_reducible rfl))
          try simp only [Act.put, List.setIfInBounds_toArray, List.set_cons_zero, List.set_cons_succ]
          refine wpAnyH_take (i := 65) (oi := { dst := some 169, op := Op.move (Operand.tmp 168), type := 4, pos := "law.go:46", after := #[{ on := 64, ground := Ground.data }, { on := 60, ground := Ground.chain }], guard := none }) (v := ?vu59) rfl (by kernel_rfl) (by kernel_rfl) (by kernel_rfl) (fun _ _ _ h => h) (Or.inl ⟨by rfl, ?hyu59⟩) (by assumption) ?restu59
          case hyu59 => (intro w hSw; (try dsimp only at hSw); go_simp; (try with_reducible rfl))
          try simp only [Act.put, List.setIfInBounds_toArray, List.set_cons_zero, List.set_cons_succ]
          refine wpAnyH_take (i := 66) (oi := { dst := some 170, op := Op.move (Operand.tmp 28), type := 30, pos := "law.go:46", after := #[{ on := 65, ground := Ground.guard }], guard := some (65, true) }) (v := ?vu60) rfl (by kernel_rfl) (by kernel_rfl) (by kernel_rfl) (fun _ _ _ h => h) (Or.inl ⟨by rfl, ?hyu60⟩) (by assumption) ?restu60
          case hyu60 => (intro w hSw; (try dsimp only at hSw); go_simp; (try with_reducible rfl))
          try simp only [Act.put, List.setIfInBounds_toArray, List.set_cons_zero, List.set_cons_succ]
          refine wpAnyH_take (i := 67) (oi := { dst := some 171, op := Op.move (Operand.tmp 30), type := 3, pos := "law.go:46", after := #[{ on := 65, ground := Ground.guard }], guard := some (65, true) }) (v := ?vu61) rfl (by kernel_rfl) (by kernel_rfl) (by kernel_rfl) (fun _ _ _ h => h) (Or.inl ⟨by rfl, ?hyu61⟩) (by assumption) ?restu61
          case hyu61 => (intro w hSw; (try dsimp only at hSw); go_simp; (try with_reducible rfl))
          try simp only [Act.put, List.setIfInBounds_toArray, List.set_cons_zero, List.set_cons_succ]
          refine wpAnyH_take (i := 68) (oi := { dst := some 172, op := Op.binOp BinOp.eql 3 (Operand.tmp 170) (Operand.tmp 171) 3, type := 4, pos := "law.go:46", after := #[{ on := 66, ground := Ground.data }, { on := 67, ground := Ground.data }, { on := 65, ground := Ground.guard }], guard := some (65, true) }) (v := ?vu62) rfl (by kernel_rfl) (by kernel_rfl) (by kernel_rfl) (fun _ _ _ h => h) (Or.inl ⟨by rfl, ?hyu62⟩) (by assumption) ?restu62
          case hyu62 => (intro w hSw; (try dsimp only at hSw); go_simp; (try with_reducible rfl))
          try simp only [Act.put, List.setIfInBounds_toArray, List.set_cons_zero, List.set_cons_succ]
          refine wpAnyH_take (i := 69) (oi := { dst := some 173, op := Op.pick (Operand.tmp 169) (Operand.tmp 172) (Operand.const (Value.bool false)), type := 4, pos := "law.go:46", after := #[{ on := 65, ground := Ground.data }, { on := 68, ground := Ground.data }], guard := none }) (v := ?vu63) rfl (by kernel_rfl) (by kernel_rfl) (by kernel_rfl) (fun _ _ _ h => h) (Or.inl ⟨by rfl, ?hyu63⟩) (by assumption) ?restu63
          case hyu63 => (intro w hSw; (try dsimp only at hSw); go_simp; (try with_reducible rfl))
          try simp only [Act.put, List.setIfInBounds_toArray, List.set_cons_zero, List.set_cons_succ]
          refine wpAnyH_take (i := 70) (oi := { dst := some 174, op := Op.move (Operand.tmp 173), type := 4, pos := "law.go:46", after := #[{ on := 69, ground := Ground.data }, { on := 65, ground := Ground.chain }], guard := none }) (v := ?vu64) rfl (by kernel_rfl) (by kernel_rfl) (by kernel_rfl) (fun _ _ _ h => h) (Or.inl ⟨by rfl, ?hyu64⟩) (by assumption) ?restu64
          case hyu64 => (intro w hSw; (try dsimp only at hSw); go_simp; (try with_reducible rfl))
          try simp only [Act.put, List.setIfInBounds_toArray, List.set_cons_zero, List.set_cons_succ]
          refine wpAnyH_take (i := 71) (oi := { dst := some 175, op := Op.load 27 (Operand.tmp 3), type := 27, pos := "law.go:46", after := #[{ on := 70, ground := Ground.guard }], guard := some (70, true) }) (v := ?vu65) rfl (by kernel_rfl) (by kernel_rfl) (by kernel_rfl) (fun _ _ _ h => h) (Or.inl ⟨by rfl, ?hyu65⟩) (by assumption) ?restu65
          case hyu65 => (intro w hSw; (try dsimp only at hSw); obtain ⟨q0, q1, q2, q3, q4⟩ := box5 G1.out hSw; go_simp; (try with_reducible rfl))
          try simp only [Act.put, List.setIfInBounds_toArray, List.set_cons_zero, List.set_cons_succ]
          refine wpAnyH_take (i := 72) (oi := { dst := some 176, op := Op.load 27 (Operand.tmp 4), type := 27, pos := "law.go:46", after := #[{ on := 70, ground := Ground.guard }], guard := some (70, true) }) (v := ?vu66) rfl (by kernel_rfl) (by kernel_rfl) (by kernel_rfl) (fun _ _ _ h => h) (Or.inl ⟨by rfl, ?hyu66⟩) (by assumption) ?restu66
          case hyu66 => (intro w hSw; (try dsimp only at hSw); obtain ⟨q0, q1, q2, q3, q4⟩ := box5 G2.out hSw; go_simp; (try with_reducible rfl))
          try simp only [Act.put, List.setIfInBounds_toArray, List.set_cons_zero, List.set_cons_succ]
          refine wpAnyH_take (i := 74) (oi := { dst := some 178, op := Op.load 27 (Operand.tmp 3), type := 27, pos := "law.go:46", after := #[{ on := 70, ground := Ground.guard }], guard := some (70, true) }) (v := ?vu67) rfl (by kernel_rfl) (by kernel_rfl) (by kernel_rfl) (fun _ _ _ h => h) (Or.inl ⟨by rfl, ?hyu67⟩) (by assumption) ?restu67
          case hyu67 => (intro w hSw; (try dsimp only at hSw); obtain ⟨q0, q1, q2, q3, q4⟩ := box5 G1.out hSw; go_simp; (try with_reducible rfl))
          try simp only [Act.put, List.setIfInBounds_toArray, List.set_cons_zero, List.set_cons_succ]
          refine wpAnyH_take (i := 75) (oi := { dst := some 179, op := Op.load 27 (Operand.tmp 4), type := 27, pos := "law.go:46", after := #[{ on := 70, ground := Ground.guard }], guard := some (70, true) }) (v := ?vu68) rfl (by kernel_rfl) (by kernel_rfl) (by kernel_rfl) (fun _ _ _ h => h) (Or.inl ⟨by rfl, ?hyu68⟩) (by assumption) ?restu68
          case hyu68 => (intro w hSw; (try dsimp only at hSw); obtain ⟨q0, q1, q2, q3, q4⟩ := box5 G2.out hSw; go_simp; (try with_reducible rfl))
          try simp only [Act.put, List.setIfInBounds_toArray, List.set_cons_zero, List.set_cons_succ]
          refine wpAnyH_ready (rs := [73]) (by kernel_rfl) (by simp) ?_
          refine AllReadyH.cons (o := { dst := some 177, op := Op.call { callee := Callee.value (Operand.func 23), args := #[Operand.tmp 175, Operand.tmp 176], argTypes := #[27, 27] }, type := 4, pos := "law.go:46", after := #[{ on := 71, ground := Ground.data }, { on := 72, ground := Ground.data }, { on := 70, ground := Ground.chain }, { on := 70, ground := Ground.guard }], guard := some (70, true) }) rfl (fun K hK => ?_) AllReadyH.nil
          go_simp
          go_at_call 23
          refine (calls_bool (vsame_any _ _ _ V1 V2 (by exact I1.out.below (by first | exact HW | exact HW.drew)) (by exact I2.out.below (by first | exact HW | exact HW.drew))) ESB.out).mono ?_
          rintro e z7 ⟨rfl, b⟩
          replace HW := below_step (by first | exact HW | exact HW.drew) b
          clear b
          refine hK.out _ _ ?_ (fun hHeldB => ?_)
          · (try dsimp only); exact HW
          clear hK K hHeld
          have hHeld := hHeldB
          clear hHeldB
          try simp only [Act.put, List.setIfInBounds_toArray, List.set_cons_zero, List.set_cons_succ]
          as_aux_lemma =>
            refine wpAnyH_ready (rs := [76]) (by kernel_rfl) (by simp) ?_
            refine AllReadyH.cons (o := { dst := some 180, op := Op.call { callee := Callee.value (Operand.func 24), args := #[Operand.tmp 178, Operand.tmp 179], argTypes := #[27, 27] }, type := 4, pos := "law.go:46", after := #[{ on := 74, ground := Ground.data }, { on := 75, ground := Ground.data }, { on := 73, ground := Ground.chain }, { on := 70, ground := Ground.guard }], guard := some (70, true) }) rfl (fun K hK => ?_) AllReadyH.nil
            go_simp
            go_at_call 24
            refine (calls_bool (ralike_any _ _ _ V1 V2 (by exact I1.out.below (by first | exact HW | exact HW.drew)) (by exact I2.out.below (by first | exact HW | exact HW.drew))) ESB.out).mono ?_
            rintro e z8 ⟨rfl, b⟩
            replace HW := below_step (by first | exact HW | exact HW.drew) b
            clear b
            refine hK.out _ _ ?_ (fun hHeldB => ?_)
            · (try dsimp only); exact HW
            clear hK K hHeld
            have hHeld := hHeldB
            clear hHeldB
            try simp only [Act.put, List.setIfInBounds_toArray, List.set_cons_zero, List.set_cons_succ]
            refine wpAnyH_take (i := 77) (oi := { dst := some 181, op := Op.binOp BinOp.eql 4 (Operand.tmp 177) (Operand.tmp 180) 4, type := 4, pos := "law.go:46", after := #[{ on := 73, ground := Ground.data }, { on := 76, ground := Ground.data }, { on := 70, ground := Ground.guard }], guard := some (70, true) }) (v := ?vu69) rfl (by kernel_rfl) (by kernel_rfl) (by kernel_rfl) (fun _ _ _ h => h) (Or.inl ⟨by rfl, ?hyu69⟩) (by assumption) ?restu69
            case hyu69 => (intro w hSw; (try dsimp only at hSw); go_simp; (try with_reducible rfl))
            try simp only [Act.put, List.setIfInBounds_toArray, List.set_cons_zero, List.set_cons_succ]
            refine wpAnyH_take (i := 78) (oi := { dst := some 182, op := Op.pick (Operand.tmp 174) (Operand.tmp 181) (Operand.const (Value.bool false)), type := 4, pos := "law.go:46", after := #[{ on := 70, ground := Ground.data }, { on := 77, ground := Ground.data }], guard := none }) (v := ?vu70) rfl (by kernel_rfl) (by kernel_rfl) (by kernel_rfl) (fun _ _ _ h => h) (Or.inl ⟨by rfl, ?hyu70⟩) (by assumption) ?restu70
            case hyu70 => (intro w hSw; (try dsimp only at hSw); go_simp; (try with_reducible rfl))
            try simp only [Act.put, List.setIfInBounds_toArray, List.set_cons_zero, List.set_cons_succ]
            refine wpAnyH_take (i := 79) (oi := { dst := some 183, op := Op.move (Operand.tmp 182), type := 4, pos := "law.go:46", after := #[{ on := 78, ground := Ground.data }, { on := 76, ground := Ground.chain }], guard := none }) (v := ?vu71) rfl (by kernel_rfl) (by kernel_rfl) (by kernel_rfl) (fun _ _ _ h => h) (Or.inl ⟨by rfl, ?hyu71⟩) (by assumption) ?restu71
            case hyu71 => (intro w hSw; (try dsimp only at hSw); go_simp; (try with_reducible rfl))
            try simp only [Act.put, List.setIfInBounds_toArray, List.set_cons_zero, List.set_cons_succ]
            refine wpAnyH_take (i := 80) (oi := { dst := some 184, op := Op.load 27 (Operand.tmp 3), type := 27, pos := "law.go:46", after := #[{ on := 79, ground := Ground.guard }], guard := some (79, true) }) (v := ?vu72) rfl (by kernel_rfl) (by kernel_rfl) (by kernel_rfl) (fun _ _ _ h => h) (Or.inl ⟨by rfl, ?hyu72⟩) (by assumption) ?restu72
            case hyu72 => (intro w hSw; (try dsimp only at hSw); obtain ⟨q0, q1, q2, q3, q4⟩ := box5 G1.out hSw; go_simp; (try with_reducible rfl))
            try simp only [Act.put, List.setIfInBounds_toArray, List.set_cons_zero, List.set_cons_succ]
            refine wpAnyH_take (i := 82) (oi := { dst := some 186, op := Op.load 27 (Operand.tmp 3), type := 27, pos := "law.go:46", after := #[{ on := 79, ground := Ground.guard }], guard := some (79, true) }) (v := ?vu73) rfl (by kernel_rfl) (by kernel_rfl) (by kernel_rfl) (fun _ _ _ h => h) (Or.inl ⟨by rfl, ?hyu73⟩) (by assumption) ?restu73
            case hyu73 => (intro w hSw; (try dsimp only at hSw); obtain ⟨q0, q1, q2, q3, q4⟩ := box5 G1.out hSw; go_simp; (try with_reducible rfl))
            try simp only [Act.put, List.setIfInBounds_toArray, List.set_cons_zero, List.set_cons_succ]
            refine wpAnyH_ready (rs := [81]) (by kernel_rfl) (by simp) ?_
            refine AllReadyH.cons (o := { dst := some 185, op := Op.call { callee := Callee.value (Operand.func 25), args := #[Operand.tmp 184], argTypes := #[27] }, type := 4, pos := "law.go:46", after := #[{ on := 80, ground := Ground.data }, { on := 79, ground := Ground.chain }, { on := 79, ground := Ground.guard }], guard := some (79, true) }) rfl (fun K hK => ?_) AllReadyH.nil
            go_simp
            go_at_call 25
            refine (calls_bool (viszero_any _ _ V1 (by exact I1.out.below (by first | exact HW | exact HW.drew))) EZB.out).mono ?_
            rintro e z9 ⟨rfl, b⟩
            replace HW := below_step (by first | exact HW | exact HW.drew) b
            clear b
            refine hK.out _ _ ?_ (fun hHeldB => ?_)
            · (try dsimp only); exact HW
            clear hK K hHeld
            have hHeld := hHeldB
            clear hHeldB
            try simp only [Act.put, List.setIfInBounds_toArray, List.set_cons_zero, List.set_cons_succ]
            as_aux_lemma =>
              refine wpAnyH_ready (rs := [83]) (by kernel_rfl) (by simp) ?_
              refine AllReadyH.cons (o := { dst := some 187, op := Op.call { callee := Callee.value (Operand.func 26), args := #[Operand.tmp 186], argTypes := #[27] }, type := 4, pos := "law.go:46", after := #[{ on := 82, ground := Ground.data }, { on := 81, ground := Ground.chain }, { on := 79, ground := Ground.guard }], guard := some (79, true) }) rfl (fun K hK => ?_) AllReadyH.nil
              go_simp
              go_at_call 26
              refine (calls_bool (riszero_any _ _ V1 (by exact I1.out.below (by first | exact HW | exact HW.drew))) EZB.out).mono ?_
              rintro e z10 ⟨rfl, b⟩
              replace HW := below_step (by first | exact HW | exact HW.drew) b
              clear b
              refine hK.out _ _ ?_ (fun hHeldB => ?_)
              · (try dsimp only); exact HW
              clear hK K hHeld
              have hHeld := hHeldB
              clear hHeldB
              try simp only [Act.put, List.setIfInBounds_toArray, List.set_cons_zero, List.set_cons_succ]
              refine wpAnyH_take (i := 84) (oi := { dst := some 188, op := Op.binOp BinOp.eql 4 (Operand.tmp 185) (Operand.tmp 187) 4, type := 4, pos := "law.go:46", after := #[{ on := 81, ground := Ground.data }, { on := 83, ground := Ground.data }, { on := 79, ground := Ground.guard }], guard := some (79, true) }) (v := ?vu74) rfl (by kernel_rfl) (by kernel_rfl) (by kernel_rfl) (fun _ _ _ h => h) (Or.inl ⟨by rfl, ?hyu74⟩) (by assumption) ?restu74
              case hyu74 => (intro w hSw; (try dsimp only at hSw); go_simp; (try with_reducible rfl))
              try simp only [Act.put, List.setIfInBounds_toArray, List.set_cons_zero, List.set_cons_succ]
              refine wpAnyH_take (i := 85) (oi := { dst := some 189, op := Op.pick (Operand.tmp 183) (Operand.tmp 188) (Operand.const (Value.bool false)), type := 4, pos := "law.go:46", after := #[{ on := 79, ground := Ground.data }, { on := 84, ground := Ground.data }], guard := none }) (v := ?vu75) rfl (by kernel_rfl) (by kernel_rfl) (by kernel_rfl) (fun _ _ _ h => h) (Or.inl ⟨by rfl, ?hyu75⟩) (by assumption) ?restu75
              case hyu75 => (intro w hSw; (try dsimp only at hSw); go_simp; (try with_reducible rfl))
              try simp only [Act.put, List.setIfInBounds_toArray, List.set_cons_zero, List.set_cons_succ]
              refine wpAnyH_take (i := 86) (oi := { dst := some 190, op := Op.move (Operand.tmp 189), type := 4, pos := "law.go:46", after := #[{ on := 85, ground := Ground.data }, { on := 83, ground := Ground.chain }], guard := none }) (v := ?vu76) rfl (by kernel_rfl) (by kernel_rfl) (by kernel_rfl) (fun _ _ _ h => h) (Or.inl ⟨by rfl, ?hyu76⟩) (by assumption) ?restu76
              case hyu76 => (intro w hSw; (try dsimp only at hSw); go_simp; (try with_reducible rfl))
              try simp only [Act.put, List.setIfInBounds_toArray, List.set_cons_zero, List.set_cons_succ]
              refine wpAnyH_ready (rs := [87]) (by kernel_rfl) (by simp) ?_
              refine AllReadyH.cons (o := { dst := some 191, op := Op.call { callee := Callee.value (Operand.func 7), args := #[], argTypes := #[] }, type := 4, pos := "law.go:46", after := #[{ on := 86, ground := Ground.chain }, { on := 86, ground := Ground.guard }], guard := some (86, true) }) rfl (fun K hK => ?_) AllReadyH.nil
              go_simp
              go_at_call 7
              refine (vawake_any _ (by exact HEnv.out.below (below_step HB.out (by first | exact HW | exact HW.drew)))).mono ?_
              rintro e z11 ⟨rfl, b⟩
              replace HW := below_step (by first | exact HW | exact HW.drew) b
              clear b
              refine hK.out _ _ ?_ (fun hHeldB => ?_)
              · (try dsimp only); exact HW
              clear hK K hHeld
              have hHeld := hHeldB
              clear hHeldB
              try simp only [Act.put, List.setIfInBounds_toArray, List.set_cons_zero, List.set_cons_succ]
              refine wpAnyH_take (i := 88) (oi := { dst := some 192, op := Op.pick (Operand.tmp 190) (Operand.tmp 191) (Operand.const (Value.bool false)), type := 4, pos := "law.go:46", after := #[{ on := 86, ground := Ground.data }, { on := 87, ground := Ground.data }], guard := none }) (v := ?vu77) rfl (by kernel_rfl) (by kernel_rfl) (by kernel_rfl) (fun _ _ _ h => h) (Or.inl ⟨by rfl, ?hyu77⟩) (by assumption) ?restu77
              case hyu77 => (intro w hSw; (try dsimp only at hSw); go_simp; (try with_reducible rfl))
              try simp only [Act.put, List.setIfInBounds_toArray, List.set_cons_zero, List.set_cons_succ]
              refine wpAnyH_take (i := 89) (oi := { dst := some 6, op := Op.assign (Operand.tmp 192), type := 4, pos := "law.go:46", after := ([{ on := 88, ground := Ground.data }, { on := 87, ground := Ground.chain }, { on := 0, ground := Ground.phase }, { on := 1, ground := Ground.phase }, { on := 2, ground := Ground.phase }, { on := 3, ground := Ground.phase }, { on := 4, ground := Ground.phase }, { on := 5, ground := Ground.phase }, { on := 6, ground := Ground.phase }, { on := 7, ground := Ground.phase }, { on := 8, ground := Ground.phase }, { on := 9, ground := Ground.phase }, { on := 10, ground := Ground.phase }, { on := 11, ground := Ground.phase }, { on := 12, ground := Ground.phase }, { on := 13, ground := Ground.phase }, { on := 14, ground := Ground.phase }, { on := 15, ground := Ground.phase }, { on := 16, ground := Ground.phase }, { on := 17, ground := Ground.phase }, { on := 18, ground := Ground.phase }, { on := 19, ground := Ground.phase }, { on := 20, ground := Ground.phase }, { on := 21, ground := Ground.phase }, { on := 22, ground := Ground.phase }, { on := 23, ground := Ground.phase }, { on := 24, ground := Ground.phase }, { on := 25, ground := Ground.phase }, { on := 26, ground := Ground.phase }, { on := 27, ground := Ground.phase }, { on := 28, ground := Ground.phase }, { on := 29, ground := Ground.phase }, { on := 30, ground := Ground.phase }, { on := 31, ground := Ground.phase }, { on := 32, ground := Ground.phase }, { on := 33, ground := Ground.phase }, { on := 34, ground := Ground.phase }, { on := 35, ground := Ground.phase }, { on := 36, ground := Ground.phase }, { on := 37, ground := Ground.phase }, { on := 38, ground := Ground.phase }, { on := 39, ground := Ground.phase }, { on := 40, ground := Ground.phase }, { on := 41, ground := Ground.phase }, { on := 42, ground := Ground.phase }].append [{ on := 43, ground := Ground.phase }, { on := 44, ground := Ground.phase }, { on := 45, ground := Ground.phase }, { on := 46, ground := Ground.phase }, { on := 47, ground := Ground.phase }, { on := 48, ground := Ground.phase }, { on := 49, ground := Ground.phase }, { on := 50, ground := Ground.phase }, { on := 51, ground := Ground.phase }, { on := 52, ground := Ground.phase }, { on := 53, ground := Ground.phase }, { on := 54, ground := Ground.phase }, { on := 55, ground := Ground.phase }, { on := 56, ground := Ground.phase }, { on := 57, ground := Ground.phase }, { on := 58, ground := Ground.phase }, { on := 59, ground := Ground.phase }, { on := 60, ground := Ground.phase }, { on := 61, ground := Ground.phase }, { on := 62, ground := Ground.phase }, { on := 63, ground := Ground.phase }, { on := 64, ground := Ground.phase }, { on := 65, ground := Ground.phase }, { on := 66, ground := Ground.phase }, { on := 67, ground := Ground.phase }, { on := 68, ground := Ground.phase }, { on := 69, ground := Ground.phase }, { on := 70, ground := Ground.phase }, { on := 71, ground := Ground.phase }, { on := 72, ground := Ground.phase }, { on := 73, ground := Ground.phase }, { on := 74, ground := Ground.phase }, { on := 75, ground := Ground.phase }, { on := 76, ground := Ground.phase }, { on := 77, ground := Ground.phase }, { on := 78, ground := Ground.phase }, { on := 79, ground := Ground.phase }, { on := 80, ground := Ground.phase }, { on := 81, ground := Ground.phase }, { on := 82, ground := Ground.phase }, { on := 83, ground := Ground.phase }, { on := 84, ground := Ground.phase }, { on := 85, ground := Ground.phase }, { on := 86, ground := Ground.phase }, { on := 87, ground := Ground.phase }, { on := 88, ground := Ground.phase }]).toArray, guard := none }) (v := ?vu78) rfl (by kernel_rfl) (by kernel_rfl) (by kernel_rfl) (fun _ _ _ h => h) (Or.inl ⟨by rfl, ?hyu78⟩) (by assumption) ?restu78
              case hyu78 => (intro w hSw; (try dsimp only at hSw); go_simp; (try with_reducible rfl))
              try simp only [Act.put, List.setIfInBounds_toArray, List.set_cons_zero, List.set_cons_succ]
              refine wpAnyH_done (by kernel_rfl) ?_ _
              go_wp2
              go_ret
              exact ⟨rfl, below_step HB.out HW⟩
end Go.Proofs.YtjdbapkmaggllaaGreatDoor
