/- The walk of SemiStars. -/
import Derived.Test.YtjdbapkmaggllaaDoorLab
namespace Go.Proofs.YtjdbapkmaggllaaDoor
open Go.RowKit Fo
set_option maxRecDepth 100000

set_option maxHeartbeats 8000000 in
theorem stars_big (w : World) (V1 : Vl) (a1 : Option Addr) (c1 : Nat)  (henv : Env w) (hbig : ¬ (V1.n ≤ 60)) : Calls Tryd.prog 3 #[.agg #[.int .i64 V1.s, .bool V1.i, .slice a1 V1.n c1, .int .i64 V1.l, .float .f64 V1.x]] w fun e w' => e = .returned (.bool true) ∧ Below w.heap.size w w' := by
  have HEnv : Hid (Env w) := henv
  have HBig : Hid (¬ (V1.n ≤ 60)) := hbig
  clear henv hbig
  obtain ⟨W0, hW0⟩ : ∃ W0, W0 = ((w.alloc (.cells #[.int .i64 V1.s, .bool V1.i, .slice a1 V1.n c1, .int .i64 V1.l, .float .f64 V1.x] 27)).alloc (.cells #[.int .i64 V1.s, .bool V1.i, .slice a1 V1.n c1, .int .i64 V1.l, .float .f64 V1.x] 27)) := ⟨_, rfl⟩
  have HB0 : Hid (Below w.heap.size w W0) := by rw [hW0]; exact below2 w _ _
  have hg : W0.heap[w.heap.size + 1]? = some (.cells #[.int .i64 V1.s, .bool V1.i, .slice a1 V1.n c1, .int .i64 V1.l, .float .f64 V1.x] 27) := by rw [hW0]; exact heap_at2_1 w _ _
  have cS : Calls Tryd.prog 6 #[.slice (some ⟨w.heap.size + 1, 0, none⟩) 1 1] W0 fun e w' => e = .returned (.bool false) ∧ w' = W0 := by
    refine vsmall_any (w.heap.size + 1) 1 (fun j => a1) (fun j => V1.n) (fun j => c1) W0 (by decide) (by decide) false (fun j hj => ?_) (fun h => ?_) (fun j hj h => ?_)
    · rw [cell_of_row W0 _ _ _ _ _ hg]
      match j, hj with
      | 0, _ => rfl
    · exfalso; exact HBig.out (h 0 (by decide))
    · rfl
  clear hg
  go_enter Tryd.func3, Tryd.ntmps3
  go_wp2_with (go_at_call 6; fail)
  rw [← hW0]
  clear hW0
  refine cS.mono ?_
  rintro e w' ⟨rfl, hw⟩
  replace hw := hw.symm
  subst hw
  clear cS
  go_wp2_with (go_at_call 7; refine (vawake_any _ (by exact HEnv.out.below HB0.out)).mono ?_; rintro e w1 ⟨rfl, b⟩)
  go_ret
  exact ⟨rfl, below_step HB0.out b⟩
set_option maxHeartbeats 32000000 in
theorem stars_err (w : World) (v1 : Value) (V1 : Vl) (h1 : VIn w v1 V1) (henv : Env w) (hsm : V1.n ≤ 60) (r : Int) (m1 : mayV V1 = r) (hr : (r == 0) = false) : Calls Tryd.prog 3 #[v1] w fun e w' => e = .returned (.bool true) ∧ Below w.heap.size w w' := by
  have hsf := st_flo
  have HEnv : Hid (Env w) := henv
  clear henv
  have SM : Hid (V1.n ≤ 60) := hsm
  clear hsm
  have M1 : Hid (mayV V1 = r) := m1
  clear m1
  have H1' := h1
  obtain ⟨a1, c1, rfl, hr1, hL1, hn1, hx1, hl1, hs1⟩ := h1
  obtain ⟨W0, hW0⟩ : ∃ W0, W0 = ((w.alloc (.cells #[.int .i64 V1.s, .bool V1.i, .slice a1 V1.n c1, .int .i64 V1.l, .float .f64 V1.x] 27)).alloc (.cells #[.int .i64 V1.s, .bool V1.i, .slice a1 V1.n c1, .int .i64 V1.l, .float .f64 V1.x] 27)) := ⟨_, rfl⟩
  have HB0 : Hid (Below w.heap.size w W0) := by rw [hW0]; exact below2 w _ _
  have Hg1 : Hid (W0.heap[w.heap.size]? = some (.cells #[.int .i64 V1.s, .bool V1.i, .slice a1 V1.n c1, .int .i64 V1.l, .float .f64 V1.x] 27)) := by
    show W0.heap[w.heap.size]? = _
    rw [hW0]; exact heap_at2_0 w _ _
  have Hg2 : Hid (W0.heap[w.heap.size + 1]? = some (.cells #[.int .i64 V1.s, .bool V1.i, .slice a1 V1.n c1, .int .i64 V1.l, .float .f64 V1.x] 27)) := by
    show W0.heap[w.heap.size + 1]? = _
    rw [hW0]; exact heap_at2_1 w _ _
  have H1 : Hid (VIn W0 (.agg #[.int .i64 V1.s, .bool V1.i, .slice a1 V1.n c1, .int .i64 V1.l, .float .f64 V1.x]) V1) := H1'.below HB0.out
  have HW : Below W0.heap.size W0 W0 := below_refl W0
  clear hr1 hL1 hn1 hx1 hl1 hs1 H1'
  obtain ⟨p10, p11, p12, p13, p14⟩ := box5 Hg1.out HW
  have cS : Calls Tryd.prog 6 #[.slice (some ⟨w.heap.size + 1, 0, none⟩) 1 1] W0 fun e w' => e = .returned (.bool true) ∧ w' = W0 := by
    refine vsmall_any (w.heap.size + 1) 1 (fun j => a1) (fun j => V1.n) (fun j => c1) W0 (by decide) (by decide) true (fun j hj => ?_) (fun h => ?_) (fun j hj h => ?_)
    · rw [cell_of_row W0 _ _ _ _ _ Hg2.out]
      match j, hj with
      | 0, _ => rfl
    · rfl
    · exfalso
      revert h
      have := SM.out
      match j, hj with
      | 0, _ => exact fun h => absurd h (by show ¬ 60 < V1.n; omega)
  have I1 := H1
  have G1 := Hg1
  have HB := HB0
  clear HW H1 Hg1 p10 p11 p12 p13 p14 HB0 SM
  go_enter Tryd.func3, Tryd.ntmps3
  go_wp2_with (go_at_call 6; fail)
  rw [← hW0]
  refine cS.mono ?_
  rintro e w' ⟨rfl, hw⟩
  replace hw := hw.symm
  subst hw
  clear cS hW0 Hg2
  obtain ⟨p10, p11, p12, p13, p14⟩ := box5 G1.out (below_refl _)
  have l1 := blk_lt G1.out
  go_wp2_with (go_at_call 8; fail)
  refine (star_err _ _ V1 (by exact I1.out) r M1.out hr).mono ?_
  rintro e w1 ⟨rfl, b⟩
  replace G1 : Hid (w1.heap[w.heap.size]? = _) := blk_below G1.out b
  replace I1 : Hid (VIn w1 _ _) := I1.out.below b
  replace HB : Hid (Below _ _ w1) := below_step HB.out b
  clear b
  unfold noV
  clear p10 p11 p12 p13 p14 l1
  obtain ⟨p10, p11, p12, p13, p14⟩ := box5 G1.out (below_refl _)
  have l1 := blk_lt G1.out
  go_wp2_with (go_at_call 9; fail)
  obtain ⟨W1, hW⟩ : ∃ W1, W1 = w1.alloc (.cells #[.int .i64 0, .bool false, .slice none 0 0, .int .i64 0, .float .f64 0] 27) := ⟨_, rfl⟩
  rw [← hW]
  have hb : Below w1.heap.size w1 W1 := by rw [hW]; exact below1 _ _
  replace G1 : Hid (W1.heap[w.heap.size]? = _) := blk_below G1.out hb
  replace I1 : Hid (VIn W1 _ _) := I1.out.below hb
  replace HB : Hid (Below _ _ W1) := below_step HB.out hb
  clear hb hW
  refine (rmv_at _ _ V1 r (by exact I1.out) M1.out).mono ?_
  rintro e w2 ⟨rfl, b⟩
  replace G1 : Hid (w2.heap[w.heap.size]? = _) := blk_below G1.out b
  replace I1 : Hid (VIn w2 _ _) := I1.out.below b
  replace HB : Hid (Below _ _ w2) := below_step HB.out b
  clear b
  clear p10 p11 p12 p13 p14 l1
  obtain ⟨p10, p11, p12, p13, p14⟩ := box5 G1.out (below_refl _)
  have l1 := blk_lt G1.out
  go_wp2_with (go_at_call 7; fail)
  refine (vawake_any _ (by exact HEnv.out.below HB.out)).mono ?_
  rintro e w3 ⟨rfl, b⟩
  replace G1 : Hid (w3.heap[w.heap.size]? = _) := blk_below G1.out b
  replace I1 : Hid (VIn w3 _ _) := I1.out.below b
  replace HB : Hid (Below _ _ w3) := below_step HB.out b
  clear b
  clear p10 p11 p12 p13 p14 l1
  obtain ⟨p10, p11, p12, p13, p14⟩ := box5 G1.out (below_refl _)
  have l1 := blk_lt G1.out
  go_wp2
  go_ret
  exact ⟨rfl, HB.out⟩
set_option maxHeartbeats 32000000 in
theorem stars_one (w : World) (v1 : Value) (V1 : Vl) (h1 : VIn w v1 V1) (henv : Env w) (hsm : V1.n ≤ 60) (m1 : mayV V1 = 0) (es1 : V1.s = 1) : Calls Tryd.prog 3 #[v1] w fun e w' => e = .returned (.bool true) ∧ Below w.heap.size w w' := by
  have hsf := st_flo
  have HEnv : Hid (Env w) := henv
  clear henv
  have SM : Hid (V1.n ≤ 60) := hsm
  clear hsm
  have M1 : Hid (mayV V1 = 0) := m1
  have ES : Hid (V1.s = 1) := es1
  have SH : Hid (V1.s = 1 ∨ V1.s = 3 → Short 60 (denV V1)) := fun hs => den_short h1 SM.out hs
  have OK : Hid (okP V1.s (denV V1)) := okP_of m1
  clear m1 
  have H1' := h1
  obtain ⟨a1, c1, rfl, hr1, hL1, hn1, hx1, hl1, hs1⟩ := h1
  rw [es1] at H1' ⊢
  obtain ⟨W0, hW0⟩ : ∃ W0, W0 = ((w.alloc (.cells #[.int .i64 1, .bool V1.i, .slice a1 V1.n c1, .int .i64 V1.l, .float .f64 V1.x] 27)).alloc (.cells #[.int .i64 1, .bool V1.i, .slice a1 V1.n c1, .int .i64 V1.l, .float .f64 V1.x] 27)) := ⟨_, rfl⟩
  have HB0 : Hid (Below w.heap.size w W0) := by rw [hW0]; exact below2 w _ _
  have Hg1 : Hid (W0.heap[w.heap.size]? = some (.cells #[.int .i64 1, .bool V1.i, .slice a1 V1.n c1, .int .i64 V1.l, .float .f64 V1.x] 27)) := by
    show W0.heap[w.heap.size]? = _
    rw [hW0]; exact heap_at2_0 w _ _
  have Hg2 : Hid (W0.heap[w.heap.size + 1]? = some (.cells #[.int .i64 1, .bool V1.i, .slice a1 V1.n c1, .int .i64 V1.l, .float .f64 V1.x] 27)) := by
    show W0.heap[w.heap.size + 1]? = _
    rw [hW0]; exact heap_at2_1 w _ _
  have H1 : Hid (VIn W0 (.agg #[.int .i64 1, .bool V1.i, .slice a1 V1.n c1, .int .i64 V1.l, .float .f64 V1.x]) V1) := H1'.below HB0.out
  have HW : Below W0.heap.size W0 W0 := below_refl W0
  clear hr1 hL1 hn1 hx1 hl1 hs1 H1'
  obtain ⟨p10, p11, p12, p13, p14⟩ := box5 Hg1.out HW
  have cS : Calls Tryd.prog 6 #[.slice (some ⟨w.heap.size + 1, 0, none⟩) 1 1] W0 fun e w' => e = .returned (.bool true) ∧ w' = W0 := by
    refine vsmall_any (w.heap.size + 1) 1 (fun j => a1) (fun j => V1.n) (fun j => c1) W0 (by decide) (by decide) true (fun j hj => ?_) (fun h => ?_) (fun j hj h => ?_)
    · rw [cell_of_row W0 _ _ _ _ _ Hg2.out]
      match j, hj with
      | 0, _ => rfl
    · rfl
    · exfalso
      revert h
      have := SM.out
      match j, hj with
      | 0, _ => exact fun h => absurd h (by show ¬ 60 < V1.n; omega)
  have I1 := H1
  have G1 := Hg1
  have HB := HB0
  clear HW H1 Hg1 p10 p11 p12 p13 p14 HB0 SM
  go_enter Tryd.func3, Tryd.ntmps3
  go_wp2_with (go_at_call 6; fail)
  rw [← hW0]
  refine cS.mono ?_
  rintro e w' ⟨rfl, hw⟩
  replace hw := hw.symm
  subst hw
  clear cS hW0 Hg2
  obtain ⟨p10, p11, p12, p13, p14⟩ := box5 G1.out (below_refl _)
  have l1 := blk_lt G1.out
  go_wp2_with (go_at_call 8; fail)
  refine (star_of _ _ V1.s (denV V1) ⟨V1, by exact I1.out, M1.out, rfl, rfl⟩).mono ?_
  rintro e w1 ⟨⟨u, rfl, o⟩, b⟩
  replace G1 : Hid (w1.heap[w.heap.size]? = _) := blk_below G1.out b
  replace I1 : Hid (VIn w1 _ _) := I1.out.below b
  replace HB : Hid (Below _ _ w1) := below_step HB.out b
  obtain ⟨V2, i2, m2, e2, d2⟩ := o.ok (fun hs => (pstar_short _ _ hs).le (by decide))
  have I2 : Hid (VIn w1 _ _) := i2
  obtain ⟨a2, c2, rfl, -⟩ := i2
  have M2 : Hid (mayV V2 = 0) := m2
  have E2 : Hid (V2.s = _) := e2
  have D2 : Hid (denV V2 = _) := d2
  clear m2 e2 d2 o
  clear b
  clear p10 p11 p12 p13 p14 l1
  obtain ⟨p10, p11, p12, p13, p14⟩ := box5 G1.out (below_refl _)
  have l1 := blk_lt G1.out
  go_wp2_with (go_at_call 10; fail)
  obtain ⟨W1, hW⟩ : ∃ W1, W1 = w1.alloc (.cells #[.int .i64 V2.s, .bool V2.i, .slice a2 V2.n c2, .int .i64 V2.l, .float .f64 V2.x] 27) := ⟨_, rfl⟩
  rw [← hW]
  have hb : Below w1.heap.size w1 W1 := by rw [hW]; exact below1 _ _
  replace G1 : Hid (W1.heap[w.heap.size]? = _) := blk_below G1.out hb
  replace I1 : Hid (VIn W1 _ _) := I1.out.below hb
  replace HB : Hid (Below _ _ W1) := below_step HB.out hb
  have G2 : Hid (W1.heap[w1.heap.size]? = some (.cells #[.int .i64 V2.s, .bool V2.i, .slice a2 V2.n c2, .int .i64 V2.l, .float .f64 V2.x] 27)) := by show W1.heap[w1.heap.size]? = _; rw [hW]; exact heap_alloc_new _ _
  replace I2 : Hid (VIn W1 _ _) := I2.out.below hb
  clear hb hW
  refine (vone_any 1 _ (Or.inl rfl)).mono ?_
  rintro e w2 ⟨⟨u, rfl, o⟩, b⟩
  replace G1 : Hid (w2.heap[w.heap.size]? = _) := blk_below G1.out b
  replace I1 : Hid (VIn w2 _ _) := I1.out.below b
  replace G2 : Hid (w2.heap[w1.heap.size]? = _) := blk_below G2.out b
  replace I2 : Hid (VIn w2 _ _) := I2.out.below b
  replace HB : Hid (Below _ _ w2) := below_step HB.out b
  obtain ⟨V3, i3, m3, e3, d3⟩ := o.ok (fun hs => pone_short _ hs)
  have I3 : Hid (VIn w2 _ _) := i3
  obtain ⟨a3, c3, rfl, -⟩ := i3
  have M3 : Hid (mayV V3 = 0) := m3
  have E3 : Hid (V3.s = _) := e3
  have D3 : Hid (denV V3 = _) := d3
  clear m3 e3 d3 o
  clear b
  clear p10 p11 p12 p13 p14 l1
  obtain ⟨p10, p11, p12, p13, p14⟩ := box5 G1.out (below_refl _)
  have l1 := blk_lt G1.out
  obtain ⟨p20, p21, p22, p23, p24⟩ := box5 G2.out (below_refl _)
  have l2 := blk_lt G2.out
  go_wp2_with (go_at_call 11; fail)
  obtain ⟨W2, hW⟩ : ∃ W2, W2 = w2.alloc (.cells #[.int .i64 V3.s, .bool V3.i, .slice a3 V3.n c3, .int .i64 V3.l, .float .f64 V3.x] 27) := ⟨_, rfl⟩
  rw [← hW]
  have hb : Below w2.heap.size w2 W2 := by rw [hW]; exact below1 _ _
  replace G1 : Hid (W2.heap[w.heap.size]? = _) := blk_below G1.out hb
  replace I1 : Hid (VIn W2 _ _) := I1.out.below hb
  replace G2 : Hid (W2.heap[w1.heap.size]? = _) := blk_below G2.out hb
  replace I2 : Hid (VIn W2 _ _) := I2.out.below hb
  replace HB : Hid (Below _ _ W2) := below_step HB.out hb
  have G3 : Hid (W2.heap[w2.heap.size]? = some (.cells #[.int .i64 V3.s, .bool V3.i, .slice a3 V3.n c3, .int .i64 V3.l, .float .f64 V3.x] 27)) := by show W2.heap[w2.heap.size]? = _; rw [hW]; exact heap_alloc_new _ _
  replace I3 : Hid (VIn W2 _ _) := I3.out.below hb
  clear hb hW
  refine (vtimes_at _ _ _ V1 V2 V1.s (denV V1) (pstar V1.s (denV V1)) (by exact I1.out) (by exact I2.out) M1.out M2.out rfl E2.out rfl D2.out).mono ?_
  rintro e w3 ⟨⟨u, rfl, o⟩, b⟩
  replace G1 : Hid (w3.heap[w.heap.size]? = _) := blk_below G1.out b
  replace I1 : Hid (VIn w3 _ _) := I1.out.below b
  replace G2 : Hid (w3.heap[w1.heap.size]? = _) := blk_below G2.out b
  replace I2 : Hid (VIn w3 _ _) := I2.out.below b
  replace G3 : Hid (w3.heap[w2.heap.size]? = _) := blk_below G3.out b
  replace I3 : Hid (VIn w3 _ _) := I3.out.below b
  replace HB : Hid (Below _ _ w3) := below_step HB.out b
  obtain ⟨V4, i4, m4, e4, d4⟩ := o.ok (fun hs => (pmul_short hs (SH.out hs) ((pstar_short _ _ hs).le (by decide))).le (by decide))
  have I4 : Hid (VIn w3 _ _) := i4
  obtain ⟨a4, c4, rfl, -⟩ := i4
  have M4 : Hid (mayV V4 = 0) := m4
  have E4 : Hid (V4.s = _) := e4
  have D4 : Hid (denV V4 = _) := d4
  clear m4 e4 d4 o
  clear b
  clear p10 p11 p12 p13 p14 l1 p20 p21 p22 p23 p24 l2
  obtain ⟨p10, p11, p12, p13, p14⟩ := box5 G1.out (below_refl _)
  have l1 := blk_lt G1.out
  obtain ⟨p20, p21, p22, p23, p24⟩ := box5 G2.out (below_refl _)
  have l2 := blk_lt G2.out
  obtain ⟨p30, p31, p32, p33, p34⟩ := box5 G3.out (below_refl _)
  have l3 := blk_lt G3.out
  go_wp2_with (go_at_call 12; fail)
  obtain ⟨W3, hW⟩ : ∃ W3, W3 = w3.alloc (.cells #[.int .i64 V4.s, .bool V4.i, .slice a4 V4.n c4, .int .i64 V4.l, .float .f64 V4.x] 27) := ⟨_, rfl⟩
  rw [← hW]
  have hb : Below w3.heap.size w3 W3 := by rw [hW]; exact below1 _ _
  replace G1 : Hid (W3.heap[w.heap.size]? = _) := blk_below G1.out hb
  replace I1 : Hid (VIn W3 _ _) := I1.out.below hb
  replace G2 : Hid (W3.heap[w1.heap.size]? = _) := blk_below G2.out hb
  replace I2 : Hid (VIn W3 _ _) := I2.out.below hb
  replace G3 : Hid (W3.heap[w2.heap.size]? = _) := blk_below G3.out hb
  replace I3 : Hid (VIn W3 _ _) := I3.out.below hb
  replace HB : Hid (Below _ _ W3) := below_step HB.out hb
  have G4 : Hid (W3.heap[w3.heap.size]? = some (.cells #[.int .i64 V4.s, .bool V4.i, .slice a4 V4.n c4, .int .i64 V4.l, .float .f64 V4.x] 27)) := by show W3.heap[w3.heap.size]? = _; rw [hW]; exact heap_alloc_new _ _
  replace I4 : Hid (VIn W3 _ _) := I4.out.below hb
  clear hb hW
  refine (vplus_at _ _ _ V3 V4 V1.s (pone V1.s) (pmul V1.s (denV V1) (pstar V1.s (denV V1))) (by exact I3.out) (by exact I4.out) M3.out M4.out (E3.out.trans ES.out.symm) E4.out (D3.out.trans (by rw [ES.out])) D4.out).mono ?_
  rintro e w4 ⟨⟨u, rfl, o⟩, b⟩
  replace G1 : Hid (w4.heap[w.heap.size]? = _) := blk_below G1.out b
  replace I1 : Hid (VIn w4 _ _) := I1.out.below b
  replace G2 : Hid (w4.heap[w1.heap.size]? = _) := blk_below G2.out b
  replace I2 : Hid (VIn w4 _ _) := I2.out.below b
  replace G3 : Hid (w4.heap[w2.heap.size]? = _) := blk_below G3.out b
  replace I3 : Hid (VIn w4 _ _) := I3.out.below b
  replace G4 : Hid (w4.heap[w3.heap.size]? = _) := blk_below G4.out b
  replace I4 : Hid (VIn w4 _ _) := I4.out.below b
  replace HB : Hid (Below _ _ w4) := below_step HB.out b
  obtain ⟨V5, i5, m5, e5, d5⟩ := o.ok (fun hs => by rw [star_rule _ _ OK.out]; exact (pstar_short _ _ hs).le (by decide))
  have I5 : Hid (VIn w4 _ _) := i5
  obtain ⟨a5, c5, rfl, -⟩ := i5
  have M5 : Hid (mayV V5 = 0) := m5
  have E5 : Hid (V5.s = _) := e5
  have D5 : Hid (denV V5 = _) := d5
  clear m5 e5 d5 o
  clear b
  clear p10 p11 p12 p13 p14 l1 p20 p21 p22 p23 p24 l2 p30 p31 p32 p33 p34 l3
  obtain ⟨p10, p11, p12, p13, p14⟩ := box5 G1.out (below_refl _)
  have l1 := blk_lt G1.out
  obtain ⟨p20, p21, p22, p23, p24⟩ := box5 G2.out (below_refl _)
  have l2 := blk_lt G2.out
  obtain ⟨p30, p31, p32, p33, p34⟩ := box5 G3.out (below_refl _)
  have l3 := blk_lt G3.out
  obtain ⟨p40, p41, p42, p43, p44⟩ := box5 G4.out (below_refl _)
  have l4 := blk_lt G4.out
  go_wp2_with (go_at_call 12; fail)
  obtain ⟨W4, hW⟩ : ∃ W4, W4 = w4.alloc (.cells #[.int .i64 V5.s, .bool V5.i, .slice a5 V5.n c5, .int .i64 V5.l, .float .f64 V5.x] 27) := ⟨_, rfl⟩
  rw [← hW]
  have hb : Below w4.heap.size w4 W4 := by rw [hW]; exact below1 _ _
  replace G1 : Hid (W4.heap[w.heap.size]? = _) := blk_below G1.out hb
  replace I1 : Hid (VIn W4 _ _) := I1.out.below hb
  replace G2 : Hid (W4.heap[w1.heap.size]? = _) := blk_below G2.out hb
  replace I2 : Hid (VIn W4 _ _) := I2.out.below hb
  replace G3 : Hid (W4.heap[w2.heap.size]? = _) := blk_below G3.out hb
  replace I3 : Hid (VIn W4 _ _) := I3.out.below hb
  replace G4 : Hid (W4.heap[w3.heap.size]? = _) := blk_below G4.out hb
  replace I4 : Hid (VIn W4 _ _) := I4.out.below hb
  replace HB : Hid (Below _ _ W4) := below_step HB.out hb
  have G5 : Hid (W4.heap[w4.heap.size]? = some (.cells #[.int .i64 V5.s, .bool V5.i, .slice a5 V5.n c5, .int .i64 V5.l, .float .f64 V5.x] 27)) := by show W4.heap[w4.heap.size]? = _; rw [hW]; exact heap_alloc_new _ _
  replace I5 : Hid (VIn W4 _ _) := I5.out.below hb
  clear hb hW
  refine (vplus_at _ _ _ V1 V1 V1.s (denV V1) (denV V1) (by exact I1.out) (by exact I1.out) M1.out M1.out rfl rfl rfl rfl).mono ?_
  rintro e w5 ⟨⟨u, rfl, o⟩, b⟩
  replace G1 : Hid (w5.heap[w.heap.size]? = _) := blk_below G1.out b
  replace I1 : Hid (VIn w5 _ _) := I1.out.below b
  replace G2 : Hid (w5.heap[w1.heap.size]? = _) := blk_below G2.out b
  replace I2 : Hid (VIn w5 _ _) := I2.out.below b
  replace G3 : Hid (w5.heap[w2.heap.size]? = _) := blk_below G3.out b
  replace I3 : Hid (VIn w5 _ _) := I3.out.below b
  replace G4 : Hid (w5.heap[w3.heap.size]? = _) := blk_below G4.out b
  replace I4 : Hid (VIn w5 _ _) := I4.out.below b
  replace G5 : Hid (w5.heap[w4.heap.size]? = _) := blk_below G5.out b
  replace I5 : Hid (VIn w5 _ _) := I5.out.below b
  replace HB : Hid (Below _ _ w5) := below_step HB.out b
  obtain ⟨V6, i6, m6, e6, d6⟩ := o.ok (fun hs => (padd_short hs (SH.out hs) (SH.out hs)).le (by decide))
  have I6 : Hid (VIn w5 _ _) := i6
  obtain ⟨a6, c6, rfl, -⟩ := i6
  have M6 : Hid (mayV V6 = 0) := m6
  have E6 : Hid (V6.s = _) := e6
  have D6 : Hid (denV V6 = _) := d6
  clear m6 e6 d6 o
  clear b
  clear p10 p11 p12 p13 p14 l1 p20 p21 p22 p23 p24 l2 p30 p31 p32 p33 p34 l3 p40 p41 p42 p43 p44 l4
  obtain ⟨p10, p11, p12, p13, p14⟩ := box5 G1.out (below_refl _)
  have l1 := blk_lt G1.out
  obtain ⟨p20, p21, p22, p23, p24⟩ := box5 G2.out (below_refl _)
  have l2 := blk_lt G2.out
  obtain ⟨p30, p31, p32, p33, p34⟩ := box5 G3.out (below_refl _)
  have l3 := blk_lt G3.out
  obtain ⟨p40, p41, p42, p43, p44⟩ := box5 G4.out (below_refl _)
  have l4 := blk_lt G4.out
  obtain ⟨p50, p51, p52, p53, p54⟩ := box5 G5.out (below_refl _)
  have l5 := blk_lt G5.out
  go_wp2_with (go_at_call 13; fail)
  obtain ⟨W5, hW⟩ : ∃ W5, W5 = w5.alloc (.cells #[.int .i64 V6.s, .bool V6.i, .slice a6 V6.n c6, .int .i64 V6.l, .float .f64 V6.x] 27) := ⟨_, rfl⟩
  rw [← hW]
  have hb : Below w5.heap.size w5 W5 := by rw [hW]; exact below1 _ _
  replace G1 : Hid (W5.heap[w.heap.size]? = _) := blk_below G1.out hb
  replace I1 : Hid (VIn W5 _ _) := I1.out.below hb
  replace G2 : Hid (W5.heap[w1.heap.size]? = _) := blk_below G2.out hb
  replace I2 : Hid (VIn W5 _ _) := I2.out.below hb
  replace G3 : Hid (W5.heap[w2.heap.size]? = _) := blk_below G3.out hb
  replace I3 : Hid (VIn W5 _ _) := I3.out.below hb
  replace G4 : Hid (W5.heap[w3.heap.size]? = _) := blk_below G4.out hb
  replace I4 : Hid (VIn W5 _ _) := I4.out.below hb
  replace G5 : Hid (W5.heap[w4.heap.size]? = _) := blk_below G5.out hb
  replace I5 : Hid (VIn W5 _ _) := I5.out.below hb
  replace HB : Hid (Below _ _ W5) := below_step HB.out hb
  have G6 : Hid (W5.heap[w5.heap.size]? = some (.cells #[.int .i64 V6.s, .bool V6.i, .slice a6 V6.n c6, .int .i64 V6.l, .float .f64 V6.x] 27)) := by show W5.heap[w5.heap.size]? = _; rw [hW]; exact heap_alloc_new _ _
  replace I6 : Hid (VIn W5 _ _) := I6.out.below hb
  clear hb hW
  refine (vsame_yes _ _ _ V5 V2 (by exact I5.out) (by exact I2.out) M5.out M2.out (E5.out.trans E2.out.symm) (D5.out.trans ((star_rule _ _ OK.out).trans D2.out.symm))).mono ?_
  rintro e w6 ⟨rfl, b⟩
  replace G1 : Hid (w6.heap[w.heap.size]? = _) := blk_below G1.out b
  replace I1 : Hid (VIn w6 _ _) := I1.out.below b
  replace G2 : Hid (w6.heap[w1.heap.size]? = _) := blk_below G2.out b
  replace I2 : Hid (VIn w6 _ _) := I2.out.below b
  replace G3 : Hid (w6.heap[w2.heap.size]? = _) := blk_below G3.out b
  replace I3 : Hid (VIn w6 _ _) := I3.out.below b
  replace G4 : Hid (w6.heap[w3.heap.size]? = _) := blk_below G4.out b
  replace I4 : Hid (VIn w6 _ _) := I4.out.below b
  replace G5 : Hid (w6.heap[w4.heap.size]? = _) := blk_below G5.out b
  replace I5 : Hid (VIn w6 _ _) := I5.out.below b
  replace G6 : Hid (w6.heap[w5.heap.size]? = _) := blk_below G6.out b
  replace I6 : Hid (VIn w6 _ _) := I6.out.below b
  replace HB : Hid (Below _ _ w6) := below_step HB.out b
  clear b
  clear p10 p11 p12 p13 p14 l1 p20 p21 p22 p23 p24 l2 p30 p31 p32 p33 p34 l3 p40 p41 p42 p43 p44 l4 p50 p51 p52 p53 p54 l5
  obtain ⟨p10, p11, p12, p13, p14⟩ := box5 G1.out (below_refl _)
  have l1 := blk_lt G1.out
  obtain ⟨p20, p21, p22, p23, p24⟩ := box5 G2.out (below_refl _)
  have l2 := blk_lt G2.out
  obtain ⟨p30, p31, p32, p33, p34⟩ := box5 G3.out (below_refl _)
  have l3 := blk_lt G3.out
  obtain ⟨p40, p41, p42, p43, p44⟩ := box5 G4.out (below_refl _)
  have l4 := blk_lt G4.out
  obtain ⟨p50, p51, p52, p53, p54⟩ := box5 G5.out (below_refl _)
  have l5 := blk_lt G5.out
  obtain ⟨p60, p61, p62, p63, p64⟩ := box5 G6.out (below_refl _)
  have l6 := blk_lt G6.out
  go_wp2_with (go_at_call 7; fail)
  refine (vawake_any _ (by exact HEnv.out.below HB.out)).mono ?_
  rintro e w7 ⟨rfl, b⟩
  replace G1 : Hid (w7.heap[w.heap.size]? = _) := blk_below G1.out b
  replace I1 : Hid (VIn w7 _ _) := I1.out.below b
  replace G2 : Hid (w7.heap[w1.heap.size]? = _) := blk_below G2.out b
  replace I2 : Hid (VIn w7 _ _) := I2.out.below b
  replace G3 : Hid (w7.heap[w2.heap.size]? = _) := blk_below G3.out b
  replace I3 : Hid (VIn w7 _ _) := I3.out.below b
  replace G4 : Hid (w7.heap[w3.heap.size]? = _) := blk_below G4.out b
  replace I4 : Hid (VIn w7 _ _) := I4.out.below b
  replace G5 : Hid (w7.heap[w4.heap.size]? = _) := blk_below G5.out b
  replace I5 : Hid (VIn w7 _ _) := I5.out.below b
  replace G6 : Hid (w7.heap[w5.heap.size]? = _) := blk_below G6.out b
  replace I6 : Hid (VIn w7 _ _) := I6.out.below b
  replace HB : Hid (Below _ _ w7) := below_step HB.out b
  clear b
  clear p10 p11 p12 p13 p14 l1 p20 p21 p22 p23 p24 l2 p30 p31 p32 p33 p34 l3 p40 p41 p42 p43 p44 l4 p50 p51 p52 p53 p54 l5 p60 p61 p62 p63 p64 l6
  obtain ⟨p10, p11, p12, p13, p14⟩ := box5 G1.out (below_refl _)
  have l1 := blk_lt G1.out
  obtain ⟨p20, p21, p22, p23, p24⟩ := box5 G2.out (below_refl _)
  have l2 := blk_lt G2.out
  obtain ⟨p30, p31, p32, p33, p34⟩ := box5 G3.out (below_refl _)
  have l3 := blk_lt G3.out
  obtain ⟨p40, p41, p42, p43, p44⟩ := box5 G4.out (below_refl _)
  have l4 := blk_lt G4.out
  obtain ⟨p50, p51, p52, p53, p54⟩ := box5 G5.out (below_refl _)
  have l5 := blk_lt G5.out
  obtain ⟨p60, p61, p62, p63, p64⟩ := box5 G6.out (below_refl _)
  have l6 := blk_lt G6.out
  go_wp2
  go_ret
  exact ⟨rfl, HB.out⟩
set_option maxHeartbeats 32000000 in
theorem stars_ok (w : World) (v1 : Value) (V1 : Vl) (h1 : VIn w v1 V1) (henv : Env w) (hsm : V1.n ≤ 60) (m1 : mayV V1 = 0) (h1s : (V1.s == 1) = false) : Calls Tryd.prog 3 #[v1] w fun e w' => e = .returned (.bool true) ∧ Below w.heap.size w w' := by
  have hsf := st_flo
  have HEnv : Hid (Env w) := henv
  clear henv
  have SM : Hid (V1.n ≤ 60) := hsm
  clear hsm
  have M1 : Hid (mayV V1 = 0) := m1
  have ES : Hid (V1.s = V1.s) := rfl
  have SH : Hid (V1.s = 1 ∨ V1.s = 3 → Short 60 (denV V1)) := fun hs => den_short h1 SM.out hs
  have OK : Hid (okP V1.s (denV V1)) := okP_of m1
  have NE : Hid (V1.s ≠ 1)   := (by simpa using h1s : V1.s ≠ 1)
  clear m1
  have H1' := h1
  obtain ⟨a1, c1, rfl, hr1, hL1, hn1, hx1, hl1, hs1⟩ := h1
  obtain ⟨W0, hW0⟩ : ∃ W0, W0 = ((w.alloc (.cells #[.int .i64 V1.s, .bool V1.i, .slice a1 V1.n c1, .int .i64 V1.l, .float .f64 V1.x] 27)).alloc (.cells #[.int .i64 V1.s, .bool V1.i, .slice a1 V1.n c1, .int .i64 V1.l, .float .f64 V1.x] 27)) := ⟨_, rfl⟩
  have HB0 : Hid (Below w.heap.size w W0) := by rw [hW0]; exact below2 w _ _
  have Hg1 : Hid (W0.heap[w.heap.size]? = some (.cells #[.int .i64 V1.s, .bool V1.i, .slice a1 V1.n c1, .int .i64 V1.l, .float .f64 V1.x] 27)) := by
    show W0.heap[w.heap.size]? = _
    rw [hW0]; exact heap_at2_0 w _ _
  have Hg2 : Hid (W0.heap[w.heap.size + 1]? = some (.cells #[.int .i64 V1.s, .bool V1.i, .slice a1 V1.n c1, .int .i64 V1.l, .float .f64 V1.x] 27)) := by
    show W0.heap[w.heap.size + 1]? = _
    rw [hW0]; exact heap_at2_1 w _ _
  have H1 : Hid (VIn W0 (.agg #[.int .i64 V1.s, .bool V1.i, .slice a1 V1.n c1, .int .i64 V1.l, .float .f64 V1.x]) V1) := H1'.below HB0.out
  have HW : Below W0.heap.size W0 W0 := below_refl W0
  clear hr1 hL1 hn1 hx1 hl1 hs1 H1'
  obtain ⟨p10, p11, p12, p13, p14⟩ := box5 Hg1.out HW
  have cS : Calls Tryd.prog 6 #[.slice (some ⟨w.heap.size + 1, 0, none⟩) 1 1] W0 fun e w' => e = .returned (.bool true) ∧ w' = W0 := by
    refine vsmall_any (w.heap.size + 1) 1 (fun j => a1) (fun j => V1.n) (fun j => c1) W0 (by decide) (by decide) true (fun j hj => ?_) (fun h => ?_) (fun j hj h => ?_)
    · rw [cell_of_row W0 _ _ _ _ _ Hg2.out]
      match j, hj with
      | 0, _ => rfl
    · rfl
    · exfalso
      revert h
      have := SM.out
      match j, hj with
      | 0, _ => exact fun h => absurd h (by show ¬ 60 < V1.n; omega)
  have I1 := H1
  have G1 := Hg1
  have HB := HB0
  clear HW H1 Hg1 p10 p11 p12 p13 p14 HB0 SM
  go_enter Tryd.func3, Tryd.ntmps3
  go_wp2_with (go_at_call 6; fail)
  rw [← hW0]
  refine cS.mono ?_
  rintro e w' ⟨rfl, hw⟩
  replace hw := hw.symm
  subst hw
  clear cS hW0 Hg2
  obtain ⟨p10, p11, p12, p13, p14⟩ := box5 G1.out (below_refl _)
  have l1 := blk_lt G1.out
  go_wp2_with (go_at_call 8; fail)
  refine (star_of _ _ V1.s (denV V1) ⟨V1, by exact I1.out, M1.out, rfl, rfl⟩).mono ?_
  rintro e w1 ⟨⟨u, rfl, o⟩, b⟩
  replace G1 : Hid (w1.heap[w.heap.size]? = _) := blk_below G1.out b
  replace I1 : Hid (VIn w1 _ _) := I1.out.below b
  replace HB : Hid (Below _ _ w1) := below_step HB.out b
  obtain ⟨V2, i2, m2, e2, d2⟩ := o.ok (fun hs => (pstar_short _ _ hs).le (by decide))
  have I2 : Hid (VIn w1 _ _) := i2
  obtain ⟨a2, c2, rfl, -⟩ := i2
  have M2 : Hid (mayV V2 = 0) := m2
  have E2 : Hid (V2.s = _) := e2
  have D2 : Hid (denV V2 = _) := d2
  clear m2 e2 d2 o
  clear b
  clear p10 p11 p12 p13 p14 l1
  obtain ⟨p10, p11, p12, p13, p14⟩ := box5 G1.out (below_refl _)
  have l1 := blk_lt G1.out
  go_wp2_with (go_at_call 10; fail)
  obtain ⟨W1, hW⟩ : ∃ W1, W1 = w1.alloc (.cells #[.int .i64 V2.s, .bool V2.i, .slice a2 V2.n c2, .int .i64 V2.l, .float .f64 V2.x] 27) := ⟨_, rfl⟩
  rw [← hW]
  have hb : Below w1.heap.size w1 W1 := by rw [hW]; exact below1 _ _
  replace G1 : Hid (W1.heap[w.heap.size]? = _) := blk_below G1.out hb
  replace I1 : Hid (VIn W1 _ _) := I1.out.below hb
  replace HB : Hid (Below _ _ W1) := below_step HB.out hb
  have G2 : Hid (W1.heap[w1.heap.size]? = some (.cells #[.int .i64 V2.s, .bool V2.i, .slice a2 V2.n c2, .int .i64 V2.l, .float .f64 V2.x] 27)) := by show W1.heap[w1.heap.size]? = _; rw [hW]; exact heap_alloc_new _ _
  replace I2 : Hid (VIn W1 _ _) := I2.out.below hb
  clear hb hW
  refine (vone_any V1.s _ (may_sem M1.out)).mono ?_
  rintro e w2 ⟨⟨u, rfl, o⟩, b⟩
  replace G1 : Hid (w2.heap[w.heap.size]? = _) := blk_below G1.out b
  replace I1 : Hid (VIn w2 _ _) := I1.out.below b
  replace G2 : Hid (w2.heap[w1.heap.size]? = _) := blk_below G2.out b
  replace I2 : Hid (VIn w2 _ _) := I2.out.below b
  replace HB : Hid (Below _ _ w2) := below_step HB.out b
  obtain ⟨V3, i3, m3, e3, d3⟩ := o.ok (fun hs => pone_short _ hs)
  have I3 : Hid (VIn w2 _ _) := i3
  obtain ⟨a3, c3, rfl, -⟩ := i3
  have M3 : Hid (mayV V3 = 0) := m3
  have E3 : Hid (V3.s = _) := e3
  have D3 : Hid (denV V3 = _) := d3
  clear m3 e3 d3 o
  clear b
  clear p10 p11 p12 p13 p14 l1
  obtain ⟨p10, p11, p12, p13, p14⟩ := box5 G1.out (below_refl _)
  have l1 := blk_lt G1.out
  obtain ⟨p20, p21, p22, p23, p24⟩ := box5 G2.out (below_refl _)
  have l2 := blk_lt G2.out
  go_wp2_with (go_at_call 11; fail)
  obtain ⟨W2, hW⟩ : ∃ W2, W2 = w2.alloc (.cells #[.int .i64 V3.s, .bool V3.i, .slice a3 V3.n c3, .int .i64 V3.l, .float .f64 V3.x] 27) := ⟨_, rfl⟩
  rw [← hW]
  have hb : Below w2.heap.size w2 W2 := by rw [hW]; exact below1 _ _
  replace G1 : Hid (W2.heap[w.heap.size]? = _) := blk_below G1.out hb
  replace I1 : Hid (VIn W2 _ _) := I1.out.below hb
  replace G2 : Hid (W2.heap[w1.heap.size]? = _) := blk_below G2.out hb
  replace I2 : Hid (VIn W2 _ _) := I2.out.below hb
  replace HB : Hid (Below _ _ W2) := below_step HB.out hb
  have G3 : Hid (W2.heap[w2.heap.size]? = some (.cells #[.int .i64 V3.s, .bool V3.i, .slice a3 V3.n c3, .int .i64 V3.l, .float .f64 V3.x] 27)) := by show W2.heap[w2.heap.size]? = _; rw [hW]; exact heap_alloc_new _ _
  replace I3 : Hid (VIn W2 _ _) := I3.out.below hb
  clear hb hW
  refine (vtimes_at _ _ _ V1 V2 V1.s (denV V1) (pstar V1.s (denV V1)) (by exact I1.out) (by exact I2.out) M1.out M2.out rfl E2.out rfl D2.out).mono ?_
  rintro e w3 ⟨⟨u, rfl, o⟩, b⟩
  replace G1 : Hid (w3.heap[w.heap.size]? = _) := blk_below G1.out b
  replace I1 : Hid (VIn w3 _ _) := I1.out.below b
  replace G2 : Hid (w3.heap[w1.heap.size]? = _) := blk_below G2.out b
  replace I2 : Hid (VIn w3 _ _) := I2.out.below b
  replace G3 : Hid (w3.heap[w2.heap.size]? = _) := blk_below G3.out b
  replace I3 : Hid (VIn w3 _ _) := I3.out.below b
  replace HB : Hid (Below _ _ w3) := below_step HB.out b
  obtain ⟨V4, i4, m4, e4, d4⟩ := o.ok (fun hs => (pmul_short hs (SH.out hs) ((pstar_short _ _ hs).le (by decide))).le (by decide))
  have I4 : Hid (VIn w3 _ _) := i4
  obtain ⟨a4, c4, rfl, -⟩ := i4
  have M4 : Hid (mayV V4 = 0) := m4
  have E4 : Hid (V4.s = _) := e4
  have D4 : Hid (denV V4 = _) := d4
  clear m4 e4 d4 o
  clear b
  clear p10 p11 p12 p13 p14 l1 p20 p21 p22 p23 p24 l2
  obtain ⟨p10, p11, p12, p13, p14⟩ := box5 G1.out (below_refl _)
  have l1 := blk_lt G1.out
  obtain ⟨p20, p21, p22, p23, p24⟩ := box5 G2.out (below_refl _)
  have l2 := blk_lt G2.out
  obtain ⟨p30, p31, p32, p33, p34⟩ := box5 G3.out (below_refl _)
  have l3 := blk_lt G3.out
  go_wp2_with (go_at_call 12; fail)
  obtain ⟨W3, hW⟩ : ∃ W3, W3 = w3.alloc (.cells #[.int .i64 V4.s, .bool V4.i, .slice a4 V4.n c4, .int .i64 V4.l, .float .f64 V4.x] 27) := ⟨_, rfl⟩
  rw [← hW]
  have hb : Below w3.heap.size w3 W3 := by rw [hW]; exact below1 _ _
  replace G1 : Hid (W3.heap[w.heap.size]? = _) := blk_below G1.out hb
  replace I1 : Hid (VIn W3 _ _) := I1.out.below hb
  replace G2 : Hid (W3.heap[w1.heap.size]? = _) := blk_below G2.out hb
  replace I2 : Hid (VIn W3 _ _) := I2.out.below hb
  replace G3 : Hid (W3.heap[w2.heap.size]? = _) := blk_below G3.out hb
  replace I3 : Hid (VIn W3 _ _) := I3.out.below hb
  replace HB : Hid (Below _ _ W3) := below_step HB.out hb
  have G4 : Hid (W3.heap[w3.heap.size]? = some (.cells #[.int .i64 V4.s, .bool V4.i, .slice a4 V4.n c4, .int .i64 V4.l, .float .f64 V4.x] 27)) := by show W3.heap[w3.heap.size]? = _; rw [hW]; exact heap_alloc_new _ _
  replace I4 : Hid (VIn W3 _ _) := I4.out.below hb
  clear hb hW
  refine (vplus_at _ _ _ V3 V4 V1.s (pone V1.s) (pmul V1.s (denV V1) (pstar V1.s (denV V1))) (by exact I3.out) (by exact I4.out) M3.out M4.out E3.out E4.out D3.out D4.out).mono ?_
  rintro e w4 ⟨⟨u, rfl, o⟩, b⟩
  replace G1 : Hid (w4.heap[w.heap.size]? = _) := blk_below G1.out b
  replace I1 : Hid (VIn w4 _ _) := I1.out.below b
  replace G2 : Hid (w4.heap[w1.heap.size]? = _) := blk_below G2.out b
  replace I2 : Hid (VIn w4 _ _) := I2.out.below b
  replace G3 : Hid (w4.heap[w2.heap.size]? = _) := blk_below G3.out b
  replace I3 : Hid (VIn w4 _ _) := I3.out.below b
  replace G4 : Hid (w4.heap[w3.heap.size]? = _) := blk_below G4.out b
  replace I4 : Hid (VIn w4 _ _) := I4.out.below b
  replace HB : Hid (Below _ _ w4) := below_step HB.out b
  obtain ⟨V5, i5, m5, e5, d5⟩ := o.ok (fun hs => by rw [star_rule _ _ OK.out]; exact (pstar_short _ _ hs).le (by decide))
  have I5 : Hid (VIn w4 _ _) := i5
  obtain ⟨a5, c5, rfl, -⟩ := i5
  have M5 : Hid (mayV V5 = 0) := m5
  have E5 : Hid (V5.s = _) := e5
  have D5 : Hid (denV V5 = _) := d5
  clear m5 e5 d5 o
  clear b
  clear p10 p11 p12 p13 p14 l1 p20 p21 p22 p23 p24 l2 p30 p31 p32 p33 p34 l3
  obtain ⟨p10, p11, p12, p13, p14⟩ := box5 G1.out (below_refl _)
  have l1 := blk_lt G1.out
  obtain ⟨p20, p21, p22, p23, p24⟩ := box5 G2.out (below_refl _)
  have l2 := blk_lt G2.out
  obtain ⟨p30, p31, p32, p33, p34⟩ := box5 G3.out (below_refl _)
  have l3 := blk_lt G3.out
  obtain ⟨p40, p41, p42, p43, p44⟩ := box5 G4.out (below_refl _)
  have l4 := blk_lt G4.out
  go_wp2_with (go_at_call 12; fail)
  obtain ⟨W4, hW⟩ : ∃ W4, W4 = w4.alloc (.cells #[.int .i64 V5.s, .bool V5.i, .slice a5 V5.n c5, .int .i64 V5.l, .float .f64 V5.x] 27) := ⟨_, rfl⟩
  rw [← hW]
  have hb : Below w4.heap.size w4 W4 := by rw [hW]; exact below1 _ _
  replace G1 : Hid (W4.heap[w.heap.size]? = _) := blk_below G1.out hb
  replace I1 : Hid (VIn W4 _ _) := I1.out.below hb
  replace G2 : Hid (W4.heap[w1.heap.size]? = _) := blk_below G2.out hb
  replace I2 : Hid (VIn W4 _ _) := I2.out.below hb
  replace G3 : Hid (W4.heap[w2.heap.size]? = _) := blk_below G3.out hb
  replace I3 : Hid (VIn W4 _ _) := I3.out.below hb
  replace G4 : Hid (W4.heap[w3.heap.size]? = _) := blk_below G4.out hb
  replace I4 : Hid (VIn W4 _ _) := I4.out.below hb
  replace HB : Hid (Below _ _ W4) := below_step HB.out hb
  have G5 : Hid (W4.heap[w4.heap.size]? = some (.cells #[.int .i64 V5.s, .bool V5.i, .slice a5 V5.n c5, .int .i64 V5.l, .float .f64 V5.x] 27)) := by show W4.heap[w4.heap.size]? = _; rw [hW]; exact heap_alloc_new _ _
  replace I5 : Hid (VIn W4 _ _) := I5.out.below hb
  clear hb hW
  refine (vplus_at _ _ _ V1 V1 V1.s (denV V1) (denV V1) (by exact I1.out) (by exact I1.out) M1.out M1.out rfl rfl rfl rfl).mono ?_
  rintro e w5 ⟨⟨u, rfl, o⟩, b⟩
  replace G1 : Hid (w5.heap[w.heap.size]? = _) := blk_below G1.out b
  replace I1 : Hid (VIn w5 _ _) := I1.out.below b
  replace G2 : Hid (w5.heap[w1.heap.size]? = _) := blk_below G2.out b
  replace I2 : Hid (VIn w5 _ _) := I2.out.below b
  replace G3 : Hid (w5.heap[w2.heap.size]? = _) := blk_below G3.out b
  replace I3 : Hid (VIn w5 _ _) := I3.out.below b
  replace G4 : Hid (w5.heap[w3.heap.size]? = _) := blk_below G4.out b
  replace I4 : Hid (VIn w5 _ _) := I4.out.below b
  replace G5 : Hid (w5.heap[w4.heap.size]? = _) := blk_below G5.out b
  replace I5 : Hid (VIn w5 _ _) := I5.out.below b
  replace HB : Hid (Below _ _ w5) := below_step HB.out b
  obtain ⟨V6, i6, m6, e6, d6⟩ := o.ok (fun hs => (padd_short hs (SH.out hs) (SH.out hs)).le (by decide))
  have I6 : Hid (VIn w5 _ _) := i6
  obtain ⟨a6, c6, rfl, -⟩ := i6
  have M6 : Hid (mayV V6 = 0) := m6
  have E6 : Hid (V6.s = _) := e6
  have D6 : Hid (denV V6 = _) := d6
  clear m6 e6 d6 o
  clear b
  clear p10 p11 p12 p13 p14 l1 p20 p21 p22 p23 p24 l2 p30 p31 p32 p33 p34 l3 p40 p41 p42 p43 p44 l4
  obtain ⟨p10, p11, p12, p13, p14⟩ := box5 G1.out (below_refl _)
  have l1 := blk_lt G1.out
  obtain ⟨p20, p21, p22, p23, p24⟩ := box5 G2.out (below_refl _)
  have l2 := blk_lt G2.out
  obtain ⟨p30, p31, p32, p33, p34⟩ := box5 G3.out (below_refl _)
  have l3 := blk_lt G3.out
  obtain ⟨p40, p41, p42, p43, p44⟩ := box5 G4.out (below_refl _)
  have l4 := blk_lt G4.out
  obtain ⟨p50, p51, p52, p53, p54⟩ := box5 G5.out (below_refl _)
  have l5 := blk_lt G5.out
  go_wp2_with (go_at_call 13; fail)
  obtain ⟨W5, hW⟩ : ∃ W5, W5 = w5.alloc (.cells #[.int .i64 V6.s, .bool V6.i, .slice a6 V6.n c6, .int .i64 V6.l, .float .f64 V6.x] 27) := ⟨_, rfl⟩
  rw [← hW]
  have hb : Below w5.heap.size w5 W5 := by rw [hW]; exact below1 _ _
  replace G1 : Hid (W5.heap[w.heap.size]? = _) := blk_below G1.out hb
  replace I1 : Hid (VIn W5 _ _) := I1.out.below hb
  replace G2 : Hid (W5.heap[w1.heap.size]? = _) := blk_below G2.out hb
  replace I2 : Hid (VIn W5 _ _) := I2.out.below hb
  replace G3 : Hid (W5.heap[w2.heap.size]? = _) := blk_below G3.out hb
  replace I3 : Hid (VIn W5 _ _) := I3.out.below hb
  replace G4 : Hid (W5.heap[w3.heap.size]? = _) := blk_below G4.out hb
  replace I4 : Hid (VIn W5 _ _) := I4.out.below hb
  replace G5 : Hid (W5.heap[w4.heap.size]? = _) := blk_below G5.out hb
  replace I5 : Hid (VIn W5 _ _) := I5.out.below hb
  replace HB : Hid (Below _ _ W5) := below_step HB.out hb
  have G6 : Hid (W5.heap[w5.heap.size]? = some (.cells #[.int .i64 V6.s, .bool V6.i, .slice a6 V6.n c6, .int .i64 V6.l, .float .f64 V6.x] 27)) := by show W5.heap[w5.heap.size]? = _; rw [hW]; exact heap_alloc_new _ _
  replace I6 : Hid (VIn W5 _ _) := I6.out.below hb
  clear hb hW
  refine (vsame_yes _ _ _ V5 V2 (by exact I5.out) (by exact I2.out) M5.out M2.out (E5.out.trans E2.out.symm) (D5.out.trans ((star_rule _ _ OK.out).trans D2.out.symm))).mono ?_
  rintro e w6 ⟨rfl, b⟩
  replace G1 : Hid (w6.heap[w.heap.size]? = _) := blk_below G1.out b
  replace I1 : Hid (VIn w6 _ _) := I1.out.below b
  replace G2 : Hid (w6.heap[w1.heap.size]? = _) := blk_below G2.out b
  replace I2 : Hid (VIn w6 _ _) := I2.out.below b
  replace G3 : Hid (w6.heap[w2.heap.size]? = _) := blk_below G3.out b
  replace I3 : Hid (VIn w6 _ _) := I3.out.below b
  replace G4 : Hid (w6.heap[w3.heap.size]? = _) := blk_below G4.out b
  replace I4 : Hid (VIn w6 _ _) := I4.out.below b
  replace G5 : Hid (w6.heap[w4.heap.size]? = _) := blk_below G5.out b
  replace I5 : Hid (VIn w6 _ _) := I5.out.below b
  replace G6 : Hid (w6.heap[w5.heap.size]? = _) := blk_below G6.out b
  replace I6 : Hid (VIn w6 _ _) := I6.out.below b
  replace HB : Hid (Below _ _ w6) := below_step HB.out b
  clear b
  clear p10 p11 p12 p13 p14 l1 p20 p21 p22 p23 p24 l2 p30 p31 p32 p33 p34 l3 p40 p41 p42 p43 p44 l4 p50 p51 p52 p53 p54 l5
  obtain ⟨p10, p11, p12, p13, p14⟩ := box5 G1.out (below_refl _)
  have l1 := blk_lt G1.out
  obtain ⟨p20, p21, p22, p23, p24⟩ := box5 G2.out (below_refl _)
  have l2 := blk_lt G2.out
  obtain ⟨p30, p31, p32, p33, p34⟩ := box5 G3.out (below_refl _)
  have l3 := blk_lt G3.out
  obtain ⟨p40, p41, p42, p43, p44⟩ := box5 G4.out (below_refl _)
  have l4 := blk_lt G4.out
  obtain ⟨p50, p51, p52, p53, p54⟩ := box5 G5.out (below_refl _)
  have l5 := blk_lt G5.out
  obtain ⟨p60, p61, p62, p63, p64⟩ := box5 G6.out (below_refl _)
  have l6 := blk_lt G6.out
  go_wp2_with (go_at_call 13; fail)
  refine (vsame_yes _ _ _ V6 V1 (by exact I6.out) (by exact I1.out) M6.out M1.out E6.out (D6.out.trans (plus_self _ _ OK.out NE.out))).mono ?_
  rintro e w7 ⟨rfl, b⟩
  replace G1 : Hid (w7.heap[w.heap.size]? = _) := blk_below G1.out b
  replace I1 : Hid (VIn w7 _ _) := I1.out.below b
  replace G2 : Hid (w7.heap[w1.heap.size]? = _) := blk_below G2.out b
  replace I2 : Hid (VIn w7 _ _) := I2.out.below b
  replace G3 : Hid (w7.heap[w2.heap.size]? = _) := blk_below G3.out b
  replace I3 : Hid (VIn w7 _ _) := I3.out.below b
  replace G4 : Hid (w7.heap[w3.heap.size]? = _) := blk_below G4.out b
  replace I4 : Hid (VIn w7 _ _) := I4.out.below b
  replace G5 : Hid (w7.heap[w4.heap.size]? = _) := blk_below G5.out b
  replace I5 : Hid (VIn w7 _ _) := I5.out.below b
  replace G6 : Hid (w7.heap[w5.heap.size]? = _) := blk_below G6.out b
  replace I6 : Hid (VIn w7 _ _) := I6.out.below b
  replace HB : Hid (Below _ _ w7) := below_step HB.out b
  clear b
  clear p10 p11 p12 p13 p14 l1 p20 p21 p22 p23 p24 l2 p30 p31 p32 p33 p34 l3 p40 p41 p42 p43 p44 l4 p50 p51 p52 p53 p54 l5 p60 p61 p62 p63 p64 l6
  obtain ⟨p10, p11, p12, p13, p14⟩ := box5 G1.out (below_refl _)
  have l1 := blk_lt G1.out
  obtain ⟨p20, p21, p22, p23, p24⟩ := box5 G2.out (below_refl _)
  have l2 := blk_lt G2.out
  obtain ⟨p30, p31, p32, p33, p34⟩ := box5 G3.out (below_refl _)
  have l3 := blk_lt G3.out
  obtain ⟨p40, p41, p42, p43, p44⟩ := box5 G4.out (below_refl _)
  have l4 := blk_lt G4.out
  obtain ⟨p50, p51, p52, p53, p54⟩ := box5 G5.out (below_refl _)
  have l5 := blk_lt G5.out
  obtain ⟨p60, p61, p62, p63, p64⟩ := box5 G6.out (below_refl _)
  have l6 := blk_lt G6.out
  go_wp2_with (go_at_call 7; fail)
  refine (vawake_any _ (by exact HEnv.out.below HB.out)).mono ?_
  rintro e w8 ⟨rfl, b⟩
  replace G1 : Hid (w8.heap[w.heap.size]? = _) := blk_below G1.out b
  replace I1 : Hid (VIn w8 _ _) := I1.out.below b
  replace G2 : Hid (w8.heap[w1.heap.size]? = _) := blk_below G2.out b
  replace I2 : Hid (VIn w8 _ _) := I2.out.below b
  replace G3 : Hid (w8.heap[w2.heap.size]? = _) := blk_below G3.out b
  replace I3 : Hid (VIn w8 _ _) := I3.out.below b
  replace G4 : Hid (w8.heap[w3.heap.size]? = _) := blk_below G4.out b
  replace I4 : Hid (VIn w8 _ _) := I4.out.below b
  replace G5 : Hid (w8.heap[w4.heap.size]? = _) := blk_below G5.out b
  replace I5 : Hid (VIn w8 _ _) := I5.out.below b
  replace G6 : Hid (w8.heap[w5.heap.size]? = _) := blk_below G6.out b
  replace I6 : Hid (VIn w8 _ _) := I6.out.below b
  replace HB : Hid (Below _ _ w8) := below_step HB.out b
  clear b
  clear p10 p11 p12 p13 p14 l1 p20 p21 p22 p23 p24 l2 p30 p31 p32 p33 p34 l3 p40 p41 p42 p43 p44 l4 p50 p51 p52 p53 p54 l5 p60 p61 p62 p63 p64 l6
  obtain ⟨p10, p11, p12, p13, p14⟩ := box5 G1.out (below_refl _)
  have l1 := blk_lt G1.out
  obtain ⟨p20, p21, p22, p23, p24⟩ := box5 G2.out (below_refl _)
  have l2 := blk_lt G2.out
  obtain ⟨p30, p31, p32, p33, p34⟩ := box5 G3.out (below_refl _)
  have l3 := blk_lt G3.out
  obtain ⟨p40, p41, p42, p43, p44⟩ := box5 G4.out (below_refl _)
  have l4 := blk_lt G4.out
  obtain ⟨p50, p51, p52, p53, p54⟩ := box5 G5.out (below_refl _)
  have l5 := blk_lt G5.out
  obtain ⟨p60, p61, p62, p63, p64⟩ := box5 G6.out (below_refl _)
  have l6 := blk_lt G6.out
  go_wp2
  go_ret
  exact ⟨rfl, HB.out⟩
theorem stars_all (s : Int) (i : Bool) (a : Option Addr) (n c : Nat) (L : Nat → Nat) (l : Int) (x : Nat) (w : World) (henv : Env w) (hR : Rd w a n c (u32s L)) (hL : ∀ j, L j < 4294967296) (hx : x < 18446744073709551616) (hl : -9223372036854775808 ≤ l ∧ l ≤ 9223372036854775807) (hs : -9223372036854775808 ≤ s ∧ s ≤ 9223372036854775807) :
    Calls Tryd.prog 3 #[.agg #[.int .i64 s, .bool i, .slice a n c, .int .i64 l, .float .f64 x]] w fun e w' => e = .returned (.bool true) ∧ Below w.heap.size w w' := by
  by_cases hn : n ≤ 60
  · have h1 : VIn w (.agg #[.int .i64 s, .bool i, .slice a n c, .int .i64 l, .float .f64 x]) ⟨s, i, n, L, l, x⟩ := ⟨a, c, rfl, hR, hL, by show n ≤ 10000; omega, hx, hl, hs⟩
    by_cases m : mayV ⟨s, i, n, L, l, x⟩ = 0
    · by_cases h : s = 1
      · exact stars_one w _ _ h1 henv hn m h
      · exact stars_ok w _ _ h1 henv hn m (by simpa using h)
    · exact stars_err w _ _ h1 henv hn _ rfl (by simpa using m)
  · exact stars_big w ⟨s, i, n, L, l, x⟩ a c henv hn
end Go.Proofs.YtjdbapkmaggllaaDoor
