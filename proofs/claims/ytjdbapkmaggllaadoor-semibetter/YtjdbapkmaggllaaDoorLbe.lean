/- The walk of SemiBetter. -/
import Derived.Test.YtjdbapkmaggllaaDoorLor
namespace Go.Proofs.YtjdbapkmaggllaaDoor
open Go.RowKit Fo
set_option maxRecDepth 100000

set_option maxHeartbeats 8000000 in
theorem bet_big (w : World) (V1 V2 V3 : Vl) (a1 a2 a3 : Option Addr) (c1 c2 c3 : Nat)  (henv : Env w) (hbig : ¬ (V1.n ≤ 60 ∧ V2.n ≤ 60 ∧ V3.n ≤ 60)) : Calls Tryd.prog 4 #[.agg #[.int .i64 V1.s, .bool V1.i, .slice a1 V1.n c1, .int .i64 V1.l, .float .f64 V1.x], .agg #[.int .i64 V2.s, .bool V2.i, .slice a2 V2.n c2, .int .i64 V2.l, .float .f64 V2.x], .agg #[.int .i64 V3.s, .bool V3.i, .slice a3 V3.n c3, .int .i64 V3.l, .float .f64 V3.x]] w fun e w' => e = .returned (.bool true) ∧ Below w.heap.size w w' := by
  have HEnv : Hid (Env w) := henv
  have HBig : Hid (¬ (V1.n ≤ 60 ∧ V2.n ≤ 60 ∧ V3.n ≤ 60)) := hbig
  clear henv hbig
  obtain ⟨W0, hW0⟩ : ∃ W0, W0 = ((((w.alloc (.cells #[.int .i64 V1.s, .bool V1.i, .slice a1 V1.n c1, .int .i64 V1.l, .float .f64 V1.x] 27)).alloc (.cells #[.int .i64 V2.s, .bool V2.i, .slice a2 V2.n c2, .int .i64 V2.l, .float .f64 V2.x] 27)).alloc (.cells #[.int .i64 V3.s, .bool V3.i, .slice a3 V3.n c3, .int .i64 V3.l, .float .f64 V3.x] 27)).alloc (.cells #[.int .i64 V1.s, .bool V1.i, .slice a1 V1.n c1, .int .i64 V1.l, .float .f64 V1.x, .int .i64 V2.s, .bool V2.i, .slice a2 V2.n c2, .int .i64 V2.l, .float .f64 V2.x, .int .i64 V3.s, .bool V3.i, .slice a3 V3.n c3, .int .i64 V3.l, .float .f64 V3.x] 27)) := ⟨_, rfl⟩
  have HB0 : Hid (Below w.heap.size w W0) := by rw [hW0]; exact (below3 w _ _ _).alloc (below3 w _ _ _).size _
  have hg : W0.heap[w.heap.size + 1 + 1 + 1]? = some (.cells #[.int .i64 V1.s, .bool V1.i, .slice a1 V1.n c1, .int .i64 V1.l, .float .f64 V1.x, .int .i64 V2.s, .bool V2.i, .slice a2 V2.n c2, .int .i64 V2.l, .float .f64 V2.x, .int .i64 V3.s, .bool V3.i, .slice a3 V3.n c3, .int .i64 V3.l, .float .f64 V3.x] 27) := by rw [hW0]; exact heap_at4_3 w _ _ _ _
  have cS : Calls Tryd.prog 6 #[.slice (some ⟨w.heap.size + 1 + 1 + 1, 0, none⟩) 3 3] W0 fun e w' => e = .returned (.bool false) ∧ w' = W0 := by
    refine vsmall_any (w.heap.size + 1 + 1 + 1) 3 (fun j => if j = 0 then a1 else if j = 1 then a2 else a3) (fun j => if j = 0 then V1.n else if j = 1 then V2.n else V3.n) (fun j => if j = 0 then c1 else if j = 1 then c2 else c3) W0 (by decide) (by decide) false (fun j hj => ?_) (fun h => ?_) (fun j hj h => ?_)
    · rw [cell_of_row W0 _ _ _ _ _ hg]
      match j, hj with
      | 0, _ => rfl
      | 1, _ => rfl
      | 2, _ => rfl
    · exfalso; exact HBig.out ⟨h 0 (by decide), h 1 (by decide), h 2 (by decide)⟩
    · rfl
  clear hg
  go_enter Tryd.func4, Tryd.ntmps4
  go_wp2_with (go_at_call 6; fail)
  rw [← hW0]
  clear hW0
  refine cS.mono ?_
  rintro e w' ⟨rfl, hw⟩
  replace hw := hw.symm
  subst hw
  clear cS
  go_wp2_with (go_at_call 7; refine (vawake_any _ (by exact HEnv.out.below HB0.out)).mono ?_; rintro e w1 ⟨rfl, b⟩)
  go_ret
  exact ⟨rfl, below_step HB0.out b⟩
set_option maxHeartbeats 32000000 in
theorem bet_err1 (w : World) (v1 v2 v3 : Value) (V1 V2 V3 : Vl) (h1 : VIn w v1 V1) (h2 : VIn w v2 V2) (h3 : VIn w v3 V3) (henv : Env w) (hsm : V1.n ≤ 60 ∧ V2.n ≤ 60 ∧ V3.n ≤ 60) (r1 r2 r3 : Int) (e1 : errV V1 V2 = r1) (e2 : errV V2 V3 = r2) (e3 : errV V1 V3 = r3) (hn : ¬ r1 = 0) : Calls Tryd.prog 4 #[v1, v2, v3] w fun e w' => e = .returned (.bool true) ∧ Below w.heap.size w w' := by
  have hsf := st_flo
  have HEnv : Hid (Env w) := henv
  clear henv
  have SM : Hid (V1.n ≤ 60 ∧ V2.n ≤ 60 ∧ V3.n ≤ 60) := hsm
  have SN : Hid (V1.n ≤ 60 ∧ V2.n ≤ 60 ∧ V3.n ≤ 60) := hsm
  clear hsm
  have Er1 : Hid (errV V1 V2 = r1) := e1
  have Er2 : Hid (errV V2 V3 = r2) := e2
  have Er3 : Hid (errV V1 V3 = r3) := e3
  clear e1 e2 e3
  have H1' := h1
  obtain ⟨a1, c1, rfl, hr1, hL1, hn1, hx1, hl1, hs1⟩ := h1
  have H2' := h2
  obtain ⟨a2, c2, rfl, hr2, hL2, hn2, hx2, hl2, hs2⟩ := h2
  have H3' := h3
  obtain ⟨a3, c3, rfl, hr3, hL3, hn3, hx3, hl3, hs3⟩ := h3
  obtain ⟨W0, hW0⟩ : ∃ W0, W0 = ((((w.alloc (.cells #[.int .i64 V1.s, .bool V1.i, .slice a1 V1.n c1, .int .i64 V1.l, .float .f64 V1.x] 27)).alloc (.cells #[.int .i64 V2.s, .bool V2.i, .slice a2 V2.n c2, .int .i64 V2.l, .float .f64 V2.x] 27)).alloc (.cells #[.int .i64 V3.s, .bool V3.i, .slice a3 V3.n c3, .int .i64 V3.l, .float .f64 V3.x] 27)).alloc (.cells #[.int .i64 V1.s, .bool V1.i, .slice a1 V1.n c1, .int .i64 V1.l, .float .f64 V1.x, .int .i64 V2.s, .bool V2.i, .slice a2 V2.n c2, .int .i64 V2.l, .float .f64 V2.x, .int .i64 V3.s, .bool V3.i, .slice a3 V3.n c3, .int .i64 V3.l, .float .f64 V3.x] 27)) := ⟨_, rfl⟩
  have HB0 : Hid (Below w.heap.size w W0) := by rw [hW0]; exact (below3 w _ _ _).alloc (below3 w _ _ _).size _
  have Hg1 : Hid (W0.heap[w.heap.size]? = some (.cells #[.int .i64 V1.s, .bool V1.i, .slice a1 V1.n c1, .int .i64 V1.l, .float .f64 V1.x] 27)) := by
    show W0.heap[w.heap.size]? = _
    rw [hW0]; exact heap_at4_0 w _ _ _ _
  have Hg2 : Hid (W0.heap[w.heap.size + 1]? = some (.cells #[.int .i64 V2.s, .bool V2.i, .slice a2 V2.n c2, .int .i64 V2.l, .float .f64 V2.x] 27)) := by
    show W0.heap[w.heap.size + 1]? = _
    rw [hW0]; exact heap_at4_1 w _ _ _ _
  have Hg3 : Hid (W0.heap[w.heap.size + 1 + 1]? = some (.cells #[.int .i64 V3.s, .bool V3.i, .slice a3 V3.n c3, .int .i64 V3.l, .float .f64 V3.x] 27)) := by
    show W0.heap[w.heap.size + 1 + 1]? = _
    rw [hW0]; exact heap_at4_2 w _ _ _ _
  have Hg4 : Hid (W0.heap[w.heap.size + 1 + 1 + 1]? = some (.cells #[.int .i64 V1.s, .bool V1.i, .slice a1 V1.n c1, .int .i64 V1.l, .float .f64 V1.x, .int .i64 V2.s, .bool V2.i, .slice a2 V2.n c2, .int .i64 V2.l, .float .f64 V2.x, .int .i64 V3.s, .bool V3.i, .slice a3 V3.n c3, .int .i64 V3.l, .float .f64 V3.x] 27)) := by
    show W0.heap[w.heap.size + 1 + 1 + 1]? = _
    rw [hW0]; exact heap_at4_3 w _ _ _ _
  have H1 : Hid (VIn W0 (.agg #[.int .i64 V1.s, .bool V1.i, .slice a1 V1.n c1, .int .i64 V1.l, .float .f64 V1.x]) V1) := H1'.below HB0.out
  have H2 : Hid (VIn W0 (.agg #[.int .i64 V2.s, .bool V2.i, .slice a2 V2.n c2, .int .i64 V2.l, .float .f64 V2.x]) V2) := H2'.below HB0.out
  have H3 : Hid (VIn W0 (.agg #[.int .i64 V3.s, .bool V3.i, .slice a3 V3.n c3, .int .i64 V3.l, .float .f64 V3.x]) V3) := H3'.below HB0.out
  have HW : Below W0.heap.size W0 W0 := below_refl W0
  clear hr1 hL1 hn1 hx1 hl1 hs1 H1' hr2 hL2 hn2 hx2 hl2 hs2 H2' hr3 hL3 hn3 hx3 hl3 hs3 H3'
  obtain ⟨p10, p11, p12, p13, p14⟩ := box5 Hg1.out HW
  obtain ⟨p20, p21, p22, p23, p24⟩ := box5 Hg2.out HW
  obtain ⟨p30, p31, p32, p33, p34⟩ := box5 Hg3.out HW
  have cS : Calls Tryd.prog 6 #[.slice (some ⟨w.heap.size + 1 + 1 + 1, 0, none⟩) 3 3] W0 fun e w' => e = .returned (.bool true) ∧ w' = W0 := by
    refine vsmall_any (w.heap.size + 1 + 1 + 1) 3 (fun j => if j = 0 then a1 else if j = 1 then a2 else a3) (fun j => if j = 0 then V1.n else if j = 1 then V2.n else V3.n) (fun j => if j = 0 then c1 else if j = 1 then c2 else c3) W0 (by decide) (by decide) true (fun j hj => ?_) (fun h => ?_) (fun j hj h => ?_)
    · rw [cell_of_row W0 _ _ _ _ _ Hg4.out]
      match j, hj with
      | 0, _ => rfl
      | 1, _ => rfl
      | 2, _ => rfl
    · rfl
    · exfalso
      revert h
      have := SM.out
      match j, hj with
      | 0, _ => exact fun h => absurd h (by show ¬ 60 < V1.n; omega)
      | 1, _ => exact fun h => absurd h (by show ¬ 60 < V2.n; omega)
      | 2, _ => exact fun h => absurd h (by show ¬ 60 < V3.n; omega)
  have I1 := H1
  have G1 := Hg1
  have I2 := H2
  have G2 := Hg2
  have I3 := H3
  have G3 := Hg3
  have HB := HB0
  clear HW H1 Hg1 p10 p11 p12 p13 p14 H2 Hg2 p20 p21 p22 p23 p24 H3 Hg3 p30 p31 p32 p33 p34 HB0 SM
  go_enter Tryd.func4, Tryd.ntmps4
  go_wp2_with (go_at_call 6; fail)
  rw [← hW0]
  refine cS.mono ?_
  rintro e w' ⟨rfl, hw⟩
  replace hw := hw.symm
  subst hw
  clear cS hW0 Hg4
  obtain ⟨p10, p11, p12, p13, p14⟩ := box5 G1.out (below_refl _)
  have l1 := blk_lt G1.out
  obtain ⟨p20, p21, p22, p23, p24⟩ := box5 G2.out (below_refl _)
  have l2 := blk_lt G2.out
  obtain ⟨p30, p31, p32, p33, p34⟩ := box5 G3.out (below_refl _)
  have l3 := blk_lt G3.out
  go_wp2_with (go_at_call 14; fail)
  refine (better_any _ _ _ V1 V2 r1 (by exact I1.out) (by exact I2.out) 60 (by decide) (by have := SN.out; omega) (by have := SN.out; omega) Er1.out).mono ?_
  rintro e w1 ⟨⟨X1, rfl⟩, b⟩
  replace G1 : Hid (w1.heap[w.heap.size]? = _) := blk_below G1.out b
  replace I1 : Hid (VIn w1 _ _) := I1.out.below b
  replace G2 : Hid (w1.heap[w.heap.size + 1]? = _) := blk_below G2.out b
  replace I2 : Hid (VIn w1 _ _) := I2.out.below b
  replace G3 : Hid (w1.heap[w.heap.size + 1 + 1]? = _) := blk_below G3.out b
  replace I3 : Hid (VIn w1 _ _) := I3.out.below b
  replace HB : Hid (Below _ _ w1) := below_step HB.out b
  clear b
  clear p10 p11 p12 p13 p14 l1 p20 p21 p22 p23 p24 l2 p30 p31 p32 p33 p34 l3
  obtain ⟨p10, p11, p12, p13, p14⟩ := box5 G1.out (below_refl _)
  have l1 := blk_lt G1.out
  obtain ⟨p20, p21, p22, p23, p24⟩ := box5 G2.out (below_refl _)
  have l2 := blk_lt G2.out
  obtain ⟨p30, p31, p32, p33, p34⟩ := box5 G3.out (below_refl _)
  have l3 := blk_lt G3.out
  go_wp2_with (go_at_call 14; fail)
  refine (better_any _ _ _ V2 V3 r2 (by exact I2.out) (by exact I3.out) 60 (by decide) (by have := SN.out; omega) (by have := SN.out; omega) Er2.out).mono ?_
  rintro e w2 ⟨⟨X2, rfl⟩, b⟩
  replace G1 : Hid (w2.heap[w.heap.size]? = _) := blk_below G1.out b
  replace I1 : Hid (VIn w2 _ _) := I1.out.below b
  replace G2 : Hid (w2.heap[w.heap.size + 1]? = _) := blk_below G2.out b
  replace I2 : Hid (VIn w2 _ _) := I2.out.below b
  replace G3 : Hid (w2.heap[w.heap.size + 1 + 1]? = _) := blk_below G3.out b
  replace I3 : Hid (VIn w2 _ _) := I3.out.below b
  replace HB : Hid (Below _ _ w2) := below_step HB.out b
  clear b
  clear p10 p11 p12 p13 p14 l1 p20 p21 p22 p23 p24 l2 p30 p31 p32 p33 p34 l3
  obtain ⟨p10, p11, p12, p13, p14⟩ := box5 G1.out (below_refl _)
  have l1 := blk_lt G1.out
  obtain ⟨p20, p21, p22, p23, p24⟩ := box5 G2.out (below_refl _)
  have l2 := blk_lt G2.out
  obtain ⟨p30, p31, p32, p33, p34⟩ := box5 G3.out (below_refl _)
  have l3 := blk_lt G3.out
  go_wp2_with (go_at_call 14; fail)
  refine (better_any _ _ _ V1 V3 r3 (by exact I1.out) (by exact I3.out) 60 (by decide) (by have := SN.out; omega) (by have := SN.out; omega) Er3.out).mono ?_
  rintro e w3 ⟨⟨X3, rfl⟩, b⟩
  replace G1 : Hid (w3.heap[w.heap.size]? = _) := blk_below G1.out b
  replace I1 : Hid (VIn w3 _ _) := I1.out.below b
  replace G2 : Hid (w3.heap[w.heap.size + 1]? = _) := blk_below G2.out b
  replace I2 : Hid (VIn w3 _ _) := I2.out.below b
  replace G3 : Hid (w3.heap[w.heap.size + 1 + 1]? = _) := blk_below G3.out b
  replace I3 : Hid (VIn w3 _ _) := I3.out.below b
  replace HB : Hid (Below _ _ w3) := below_step HB.out b
  clear b
  clear p10 p11 p12 p13 p14 l1 p20 p21 p22 p23 p24 l2 p30 p31 p32 p33 p34 l3
  obtain ⟨p10, p11, p12, p13, p14⟩ := box5 G1.out (below_refl _)
  have l1 := blk_lt G1.out
  obtain ⟨p20, p21, p22, p23, p24⟩ := box5 G2.out (below_refl _)
  have l2 := blk_lt G2.out
  obtain ⟨p30, p31, p32, p33, p34⟩ := box5 G3.out (below_refl _)
  have l3 := blk_lt G3.out
  go_wp2_with (go_at_call 7; fail)
  refine (vawake_any _ (by exact HEnv.out.below HB.out)).mono ?_
  rintro e w4 ⟨rfl, b⟩
  replace G1 : Hid (w4.heap[w.heap.size]? = _) := blk_below G1.out b
  replace I1 : Hid (VIn w4 _ _) := I1.out.below b
  replace G2 : Hid (w4.heap[w.heap.size + 1]? = _) := blk_below G2.out b
  replace I2 : Hid (VIn w4 _ _) := I2.out.below b
  replace G3 : Hid (w4.heap[w.heap.size + 1 + 1]? = _) := blk_below G3.out b
  replace I3 : Hid (VIn w4 _ _) := I3.out.below b
  replace HB : Hid (Below _ _ w4) := below_step HB.out b
  clear b
  clear p10 p11 p12 p13 p14 l1 p20 p21 p22 p23 p24 l2 p30 p31 p32 p33 p34 l3
  obtain ⟨p10, p11, p12, p13, p14⟩ := box5 G1.out (below_refl _)
  have l1 := blk_lt G1.out
  obtain ⟨p20, p21, p22, p23, p24⟩ := box5 G2.out (below_refl _)
  have l2 := blk_lt G2.out
  obtain ⟨p30, p31, p32, p33, p34⟩ := box5 G3.out (below_refl _)
  have l3 := blk_lt G3.out
  go_wp2
  go_ret
  exact ⟨rfl, HB.out⟩
set_option maxHeartbeats 32000000 in
theorem bet_err2 (w : World) (v1 v2 v3 : Value) (V1 V2 V3 : Vl) (h1 : VIn w v1 V1) (h2 : VIn w v2 V2) (h3 : VIn w v3 V3) (henv : Env w) (hsm : V1.n ≤ 60 ∧ V2.n ≤ 60 ∧ V3.n ≤ 60) (r2 r3 : Int) (e1 : errV V1 V2 = 0) (e2 : errV V2 V3 = r2) (e3 : errV V1 V3 = r3) (hr : (r2 == 0) = false) : Calls Tryd.prog 4 #[v1, v2, v3] w fun e w' => e = .returned (.bool true) ∧ Below w.heap.size w w' := by
  have hsf := st_flo
  have HEnv : Hid (Env w) := henv
  clear henv
  have SM : Hid (V1.n ≤ 60 ∧ V2.n ≤ 60 ∧ V3.n ≤ 60) := hsm
  have SN : Hid (V1.n ≤ 60 ∧ V2.n ≤ 60 ∧ V3.n ≤ 60) := hsm
  clear hsm
  have E0 : Hid (errV V1 V2 = 0) := e1
  have Er2 : Hid (errV V2 V3 = r2) := e2
  have Er3 : Hid (errV V1 V3 = r3) := e3
  clear e1 e2 e3
  have H1' := h1
  obtain ⟨a1, c1, rfl, hr1, hL1, hn1, hx1, hl1, hs1⟩ := h1
  have H2' := h2
  obtain ⟨a2, c2, rfl, hr2, hL2, hn2, hx2, hl2, hs2⟩ := h2
  have H3' := h3
  obtain ⟨a3, c3, rfl, hr3, hL3, hn3, hx3, hl3, hs3⟩ := h3
  obtain ⟨W0, hW0⟩ : ∃ W0, W0 = ((((w.alloc (.cells #[.int .i64 V1.s, .bool V1.i, .slice a1 V1.n c1, .int .i64 V1.l, .float .f64 V1.x] 27)).alloc (.cells #[.int .i64 V2.s, .bool V2.i, .slice a2 V2.n c2, .int .i64 V2.l, .float .f64 V2.x] 27)).alloc (.cells #[.int .i64 V3.s, .bool V3.i, .slice a3 V3.n c3, .int .i64 V3.l, .float .f64 V3.x] 27)).alloc (.cells #[.int .i64 V1.s, .bool V1.i, .slice a1 V1.n c1, .int .i64 V1.l, .float .f64 V1.x, .int .i64 V2.s, .bool V2.i, .slice a2 V2.n c2, .int .i64 V2.l, .float .f64 V2.x, .int .i64 V3.s, .bool V3.i, .slice a3 V3.n c3, .int .i64 V3.l, .float .f64 V3.x] 27)) := ⟨_, rfl⟩
  have HB0 : Hid (Below w.heap.size w W0) := by rw [hW0]; exact (below3 w _ _ _).alloc (below3 w _ _ _).size _
  have Hg1 : Hid (W0.heap[w.heap.size]? = some (.cells #[.int .i64 V1.s, .bool V1.i, .slice a1 V1.n c1, .int .i64 V1.l, .float .f64 V1.x] 27)) := by
    show W0.heap[w.heap.size]? = _
    rw [hW0]; exact heap_at4_0 w _ _ _ _
  have Hg2 : Hid (W0.heap[w.heap.size + 1]? = some (.cells #[.int .i64 V2.s, .bool V2.i, .slice a2 V2.n c2, .int .i64 V2.l, .float .f64 V2.x] 27)) := by
    show W0.heap[w.heap.size + 1]? = _
    rw [hW0]; exact heap_at4_1 w _ _ _ _
  have Hg3 : Hid (W0.heap[w.heap.size + 1 + 1]? = some (.cells #[.int .i64 V3.s, .bool V3.i, .slice a3 V3.n c3, .int .i64 V3.l, .float .f64 V3.x] 27)) := by
    show W0.heap[w.heap.size + 1 + 1]? = _
    rw [hW0]; exact heap_at4_2 w _ _ _ _
  have Hg4 : Hid (W0.heap[w.heap.size + 1 + 1 + 1]? = some (.cells #[.int .i64 V1.s, .bool V1.i, .slice a1 V1.n c1, .int .i64 V1.l, .float .f64 V1.x, .int .i64 V2.s, .bool V2.i, .slice a2 V2.n c2, .int .i64 V2.l, .float .f64 V2.x, .int .i64 V3.s, .bool V3.i, .slice a3 V3.n c3, .int .i64 V3.l, .float .f64 V3.x] 27)) := by
    show W0.heap[w.heap.size + 1 + 1 + 1]? = _
    rw [hW0]; exact heap_at4_3 w _ _ _ _
  have H1 : Hid (VIn W0 (.agg #[.int .i64 V1.s, .bool V1.i, .slice a1 V1.n c1, .int .i64 V1.l, .float .f64 V1.x]) V1) := H1'.below HB0.out
  have H2 : Hid (VIn W0 (.agg #[.int .i64 V2.s, .bool V2.i, .slice a2 V2.n c2, .int .i64 V2.l, .float .f64 V2.x]) V2) := H2'.below HB0.out
  have H3 : Hid (VIn W0 (.agg #[.int .i64 V3.s, .bool V3.i, .slice a3 V3.n c3, .int .i64 V3.l, .float .f64 V3.x]) V3) := H3'.below HB0.out
  have HW : Below W0.heap.size W0 W0 := below_refl W0
  clear hr1 hL1 hn1 hx1 hl1 hs1 H1' hr2 hL2 hn2 hx2 hl2 hs2 H2' hr3 hL3 hn3 hx3 hl3 hs3 H3'
  obtain ⟨p10, p11, p12, p13, p14⟩ := box5 Hg1.out HW
  obtain ⟨p20, p21, p22, p23, p24⟩ := box5 Hg2.out HW
  obtain ⟨p30, p31, p32, p33, p34⟩ := box5 Hg3.out HW
  have cS : Calls Tryd.prog 6 #[.slice (some ⟨w.heap.size + 1 + 1 + 1, 0, none⟩) 3 3] W0 fun e w' => e = .returned (.bool true) ∧ w' = W0 := by
    refine vsmall_any (w.heap.size + 1 + 1 + 1) 3 (fun j => if j = 0 then a1 else if j = 1 then a2 else a3) (fun j => if j = 0 then V1.n else if j = 1 then V2.n else V3.n) (fun j => if j = 0 then c1 else if j = 1 then c2 else c3) W0 (by decide) (by decide) true (fun j hj => ?_) (fun h => ?_) (fun j hj h => ?_)
    · rw [cell_of_row W0 _ _ _ _ _ Hg4.out]
      match j, hj with
      | 0, _ => rfl
      | 1, _ => rfl
      | 2, _ => rfl
    · rfl
    · exfalso
      revert h
      have := SM.out
      match j, hj with
      | 0, _ => exact fun h => absurd h (by show ¬ 60 < V1.n; omega)
      | 1, _ => exact fun h => absurd h (by show ¬ 60 < V2.n; omega)
      | 2, _ => exact fun h => absurd h (by show ¬ 60 < V3.n; omega)
  have I1 := H1
  have G1 := Hg1
  have I2 := H2
  have G2 := Hg2
  have I3 := H3
  have G3 := Hg3
  have HB := HB0
  clear HW H1 Hg1 p10 p11 p12 p13 p14 H2 Hg2 p20 p21 p22 p23 p24 H3 Hg3 p30 p31 p32 p33 p34 HB0 SM
  go_enter Tryd.func4, Tryd.ntmps4
  go_wp2_with (go_at_call 6; fail)
  rw [← hW0]
  refine cS.mono ?_
  rintro e w' ⟨rfl, hw⟩
  replace hw := hw.symm
  subst hw
  clear cS hW0 Hg4
  obtain ⟨p10, p11, p12, p13, p14⟩ := box5 G1.out (below_refl _)
  have l1 := blk_lt G1.out
  obtain ⟨p20, p21, p22, p23, p24⟩ := box5 G2.out (below_refl _)
  have l2 := blk_lt G2.out
  obtain ⟨p30, p31, p32, p33, p34⟩ := box5 G3.out (below_refl _)
  have l3 := blk_lt G3.out
  go_wp2_with (go_at_call 14; fail)
  refine (better_any _ _ _ V1 V2 0 (by exact I1.out) (by exact I2.out) 60 (by decide) (by have := SN.out; omega) (by have := SN.out; omega) E0.out).mono ?_
  rintro e w1 ⟨⟨X1, rfl⟩, b⟩
  replace G1 : Hid (w1.heap[w.heap.size]? = _) := blk_below G1.out b
  replace I1 : Hid (VIn w1 _ _) := I1.out.below b
  replace G2 : Hid (w1.heap[w.heap.size + 1]? = _) := blk_below G2.out b
  replace I2 : Hid (VIn w1 _ _) := I2.out.below b
  replace G3 : Hid (w1.heap[w.heap.size + 1 + 1]? = _) := blk_below G3.out b
  replace I3 : Hid (VIn w1 _ _) := I3.out.below b
  replace HB : Hid (Below _ _ w1) := below_step HB.out b
  clear b
  clear p10 p11 p12 p13 p14 l1 p20 p21 p22 p23 p24 l2 p30 p31 p32 p33 p34 l3
  obtain ⟨p10, p11, p12, p13, p14⟩ := box5 G1.out (below_refl _)
  have l1 := blk_lt G1.out
  obtain ⟨p20, p21, p22, p23, p24⟩ := box5 G2.out (below_refl _)
  have l2 := blk_lt G2.out
  obtain ⟨p30, p31, p32, p33, p34⟩ := box5 G3.out (below_refl _)
  have l3 := blk_lt G3.out
  go_wp2_with (go_at_call 14; fail)
  refine (better_any _ _ _ V2 V3 r2 (by exact I2.out) (by exact I3.out) 60 (by decide) (by have := SN.out; omega) (by have := SN.out; omega) Er2.out).mono ?_
  rintro e w2 ⟨⟨X2, rfl⟩, b⟩
  replace G1 : Hid (w2.heap[w.heap.size]? = _) := blk_below G1.out b
  replace I1 : Hid (VIn w2 _ _) := I1.out.below b
  replace G2 : Hid (w2.heap[w.heap.size + 1]? = _) := blk_below G2.out b
  replace I2 : Hid (VIn w2 _ _) := I2.out.below b
  replace G3 : Hid (w2.heap[w.heap.size + 1 + 1]? = _) := blk_below G3.out b
  replace I3 : Hid (VIn w2 _ _) := I3.out.below b
  replace HB : Hid (Below _ _ w2) := below_step HB.out b
  clear b
  clear p10 p11 p12 p13 p14 l1 p20 p21 p22 p23 p24 l2 p30 p31 p32 p33 p34 l3
  obtain ⟨p10, p11, p12, p13, p14⟩ := box5 G1.out (below_refl _)
  have l1 := blk_lt G1.out
  obtain ⟨p20, p21, p22, p23, p24⟩ := box5 G2.out (below_refl _)
  have l2 := blk_lt G2.out
  obtain ⟨p30, p31, p32, p33, p34⟩ := box5 G3.out (below_refl _)
  have l3 := blk_lt G3.out
  go_wp2_with (go_at_call 14; fail)
  refine (better_any _ _ _ V1 V3 r3 (by exact I1.out) (by exact I3.out) 60 (by decide) (by have := SN.out; omega) (by have := SN.out; omega) Er3.out).mono ?_
  rintro e w3 ⟨⟨X3, rfl⟩, b⟩
  replace G1 : Hid (w3.heap[w.heap.size]? = _) := blk_below G1.out b
  replace I1 : Hid (VIn w3 _ _) := I1.out.below b
  replace G2 : Hid (w3.heap[w.heap.size + 1]? = _) := blk_below G2.out b
  replace I2 : Hid (VIn w3 _ _) := I2.out.below b
  replace G3 : Hid (w3.heap[w.heap.size + 1 + 1]? = _) := blk_below G3.out b
  replace I3 : Hid (VIn w3 _ _) := I3.out.below b
  replace HB : Hid (Below _ _ w3) := below_step HB.out b
  clear b
  clear p10 p11 p12 p13 p14 l1 p20 p21 p22 p23 p24 l2 p30 p31 p32 p33 p34 l3
  obtain ⟨p10, p11, p12, p13, p14⟩ := box5 G1.out (below_refl _)
  have l1 := blk_lt G1.out
  obtain ⟨p20, p21, p22, p23, p24⟩ := box5 G2.out (below_refl _)
  have l2 := blk_lt G2.out
  obtain ⟨p30, p31, p32, p33, p34⟩ := box5 G3.out (below_refl _)
  have l3 := blk_lt G3.out
  go_wp2_with (go_at_call 7; fail)
  refine (vawake_any _ (by exact HEnv.out.below HB.out)).mono ?_
  rintro e w4 ⟨rfl, b⟩
  replace G1 : Hid (w4.heap[w.heap.size]? = _) := blk_below G1.out b
  replace I1 : Hid (VIn w4 _ _) := I1.out.below b
  replace G2 : Hid (w4.heap[w.heap.size + 1]? = _) := blk_below G2.out b
  replace I2 : Hid (VIn w4 _ _) := I2.out.below b
  replace G3 : Hid (w4.heap[w.heap.size + 1 + 1]? = _) := blk_below G3.out b
  replace I3 : Hid (VIn w4 _ _) := I3.out.below b
  replace HB : Hid (Below _ _ w4) := below_step HB.out b
  clear b
  clear p10 p11 p12 p13 p14 l1 p20 p21 p22 p23 p24 l2 p30 p31 p32 p33 p34 l3
  obtain ⟨p10, p11, p12, p13, p14⟩ := box5 G1.out (below_refl _)
  have l1 := blk_lt G1.out
  obtain ⟨p20, p21, p22, p23, p24⟩ := box5 G2.out (below_refl _)
  have l2 := blk_lt G2.out
  obtain ⟨p30, p31, p32, p33, p34⟩ := box5 G3.out (below_refl _)
  have l3 := blk_lt G3.out
  go_wp2
  go_ret
  exact ⟨rfl, HB.out⟩
set_option maxHeartbeats 32000000 in
theorem bet_one (w : World) (v1 v2 v3 : Value) (V1 V2 V3 : Vl) (h1 : VIn w v1 V1) (h2 : VIn w v2 V2) (h3 : VIn w v3 V3) (henv : Env w) (hsm : V1.n ≤ 60 ∧ V2.n ≤ 60 ∧ V3.n ≤ 60) (X1 X2 X3 X4 X5 : Bool) (m1 : mayV V1 = 0) (m2 : mayV V2 = 0) (m3 : mayV V3 = 0) (f2 : V2.s = V1.s) (f3 : V3.s = V1.s) (es1 : V1.s = 1) (x1 : bet V1.s (denV V1) (denV V2) = X1) (x2 : bet V1.s (denV V2) (denV V3) = X2) (x3 : bet V1.s (denV V1) (denV V3) = X3) (x4 : bet V1.s (denV V2) (denV V1) = X4) (x5 : bet V1.s (denV V1) (pmul V1.s (denV V1) (denV V2)) = X5) (x6 : bet V1.s (padd V1.s (denV V1) (denV V2)) (denV V1) = true) (key : (X1 = false ∧ X4 = true) ∨ (X1 = true ∧ X2 = false) ∨ (X1 = true ∧ X2 = true ∧ X3 = true)) (ks : X1 = true → X4 = true → denV V1 = denV V2) : Calls Tryd.prog 4 #[v1, v2, v3] w fun e w' => e = .returned (.bool true) ∧ Below w.heap.size w w' := by
  have hsf := st_flo
  have HEnv : Hid (Env w) := henv
  clear henv
  have SM : Hid (V1.n ≤ 60 ∧ V2.n ≤ 60 ∧ V3.n ≤ 60) := hsm
  have SN : Hid (V1.n ≤ 60 ∧ V2.n ≤ 60 ∧ V3.n ≤ 60) := hsm
  clear hsm
  have M1 : Hid (mayV V1 = 0) := m1
  have M2 : Hid (mayV V2 = 0) := m2
  have M3 : Hid (mayV V3 = 0) := m3
  have F2 : Hid (V2.s = V1.s) := f2
  have F3 : Hid (V3.s = V1.s) := f3
  have Y1 : Hid (bet V1.s (denV V1) (denV V2) = X1) := x1
  have Y2 : Hid (bet V1.s (denV V2) (denV V3) = X2) := x2
  have Y3 : Hid (bet V1.s (denV V1) (denV V3) = X3) := x3
  have Y4 : Hid (bet V1.s (denV V2) (denV V1) = X4) := x4
  have Y5 : Hid (bet V1.s (denV V1) (pmul V1.s (denV V1) (denV V2)) = X5) := x5
  have Y6 : Hid (bet V1.s (padd V1.s (denV V1) (denV V2)) (denV V1) = true) := x6
  have KEY : Hid ((X1 = false ∧ X4 = true) ∨ (X1 = true ∧ X2 = false) ∨ (X1 = true ∧ X2 = true ∧ X3 = true)) := key
  have KS : Hid (X1 = true → X4 = true → denV V1 = denV V2) := ks
  have SH1 : Hid (V1.s = 1 ∨ V1.s = 3 → Short 60 (denV V1)) := fun hs => den_short h1 SN.out.1 hs
  have SH2 : Hid (V1.s = 1 ∨ V1.s = 3 → Short 60 (denV V2)) := fun hs => den_short h2 SN.out.2.1 (f2 ▸ hs)
  have SH3 : Hid (V1.s = 1 ∨ V1.s = 3 → Short 60 (denV V3)) := fun hs => den_short h3 SN.out.2.2 (f3 ▸ hs)
  clear m1 m2 m3 f2 f3 x1 x2 x3 x4 x5 x6 key ks SN
  have H1' := h1
  obtain ⟨a1, c1, rfl, hr1, hL1, hn1, hx1, hl1, hs1⟩ := h1
  rw [es1] at H1' ⊢
  have H2' := h2
  obtain ⟨a2, c2, rfl, hr2, hL2, hn2, hx2, hl2, hs2⟩ := h2
  have H3' := h3
  obtain ⟨a3, c3, rfl, hr3, hL3, hn3, hx3, hl3, hs3⟩ := h3
  obtain ⟨W0, hW0⟩ : ∃ W0, W0 = ((((w.alloc (.cells #[.int .i64 1, .bool V1.i, .slice a1 V1.n c1, .int .i64 V1.l, .float .f64 V1.x] 27)).alloc (.cells #[.int .i64 V2.s, .bool V2.i, .slice a2 V2.n c2, .int .i64 V2.l, .float .f64 V2.x] 27)).alloc (.cells #[.int .i64 V3.s, .bool V3.i, .slice a3 V3.n c3, .int .i64 V3.l, .float .f64 V3.x] 27)).alloc (.cells #[.int .i64 1, .bool V1.i, .slice a1 V1.n c1, .int .i64 V1.l, .float .f64 V1.x, .int .i64 V2.s, .bool V2.i, .slice a2 V2.n c2, .int .i64 V2.l, .float .f64 V2.x, .int .i64 V3.s, .bool V3.i, .slice a3 V3.n c3, .int .i64 V3.l, .float .f64 V3.x] 27)) := ⟨_, rfl⟩
  have HB0 : Hid (Below w.heap.size w W0) := by rw [hW0]; exact (below3 w _ _ _).alloc (below3 w _ _ _).size _
  have Hg1 : Hid (W0.heap[w.heap.size]? = some (.cells #[.int .i64 1, .bool V1.i, .slice a1 V1.n c1, .int .i64 V1.l, .float .f64 V1.x] 27)) := by
    show W0.heap[w.heap.size]? = _
    rw [hW0]; exact heap_at4_0 w _ _ _ _
  have Hg2 : Hid (W0.heap[w.heap.size + 1]? = some (.cells #[.int .i64 V2.s, .bool V2.i, .slice a2 V2.n c2, .int .i64 V2.l, .float .f64 V2.x] 27)) := by
    show W0.heap[w.heap.size + 1]? = _
    rw [hW0]; exact heap_at4_1 w _ _ _ _
  have Hg3 : Hid (W0.heap[w.heap.size + 1 + 1]? = some (.cells #[.int .i64 V3.s, .bool V3.i, .slice a3 V3.n c3, .int .i64 V3.l, .float .f64 V3.x] 27)) := by
    show W0.heap[w.heap.size + 1 + 1]? = _
    rw [hW0]; exact heap_at4_2 w _ _ _ _
  have Hg4 : Hid (W0.heap[w.heap.size + 1 + 1 + 1]? = some (.cells #[.int .i64 1, .bool V1.i, .slice a1 V1.n c1, .int .i64 V1.l, .float .f64 V1.x, .int .i64 V2.s, .bool V2.i, .slice a2 V2.n c2, .int .i64 V2.l, .float .f64 V2.x, .int .i64 V3.s, .bool V3.i, .slice a3 V3.n c3, .int .i64 V3.l, .float .f64 V3.x] 27)) := by
    show W0.heap[w.heap.size + 1 + 1 + 1]? = _
    rw [hW0]; exact heap_at4_3 w _ _ _ _
  have H1 : Hid (VIn W0 (.agg #[.int .i64 1, .bool V1.i, .slice a1 V1.n c1, .int .i64 V1.l, .float .f64 V1.x]) V1) := H1'.below HB0.out
  have H2 : Hid (VIn W0 (.agg #[.int .i64 V2.s, .bool V2.i, .slice a2 V2.n c2, .int .i64 V2.l, .float .f64 V2.x]) V2) := H2'.below HB0.out
  have H3 : Hid (VIn W0 (.agg #[.int .i64 V3.s, .bool V3.i, .slice a3 V3.n c3, .int .i64 V3.l, .float .f64 V3.x]) V3) := H3'.below HB0.out
  have HW : Below W0.heap.size W0 W0 := below_refl W0
  clear hr1 hL1 hn1 hx1 hl1 hs1 H1' hr2 hL2 hn2 hx2 hl2 hs2 H2' hr3 hL3 hn3 hx3 hl3 hs3 H3'
  obtain ⟨p10, p11, p12, p13, p14⟩ := box5 Hg1.out HW
  obtain ⟨p20, p21, p22, p23, p24⟩ := box5 Hg2.out HW
  obtain ⟨p30, p31, p32, p33, p34⟩ := box5 Hg3.out HW
  have cS : Calls Tryd.prog 6 #[.slice (some ⟨w.heap.size + 1 + 1 + 1, 0, none⟩) 3 3] W0 fun e w' => e = .returned (.bool true) ∧ w' = W0 := by
    refine vsmall_any (w.heap.size + 1 + 1 + 1) 3 (fun j => if j = 0 then a1 else if j = 1 then a2 else a3) (fun j => if j = 0 then V1.n else if j = 1 then V2.n else V3.n) (fun j => if j = 0 then c1 else if j = 1 then c2 else c3) W0 (by decide) (by decide) true (fun j hj => ?_) (fun h => ?_) (fun j hj h => ?_)
    · rw [cell_of_row W0 _ _ _ _ _ Hg4.out]
      match j, hj with
      | 0, _ => rfl
      | 1, _ => rfl
      | 2, _ => rfl
    · rfl
    · exfalso
      revert h
      have := SM.out
      match j, hj with
      | 0, _ => exact fun h => absurd h (by show ¬ 60 < V1.n; omega)
      | 1, _ => exact fun h => absurd h (by show ¬ 60 < V2.n; omega)
      | 2, _ => exact fun h => absurd h (by show ¬ 60 < V3.n; omega)
  have I1 := H1
  have G1 := Hg1
  have I2 := H2
  have G2 := Hg2
  have I3 := H3
  have G3 := Hg3
  have HB := HB0
  clear HW H1 Hg1 p10 p11 p12 p13 p14 H2 Hg2 p20 p21 p22 p23 p24 H3 Hg3 p30 p31 p32 p33 p34 HB0 SM
  go_enter Tryd.func4, Tryd.ntmps4
  go_wp2_with (go_at_call 6; fail)
  rw [← hW0]
  refine cS.mono ?_
  rintro e w' ⟨rfl, hw⟩
  replace hw := hw.symm
  subst hw
  clear cS hW0 Hg4
  obtain ⟨p10, p11, p12, p13, p14⟩ := box5 G1.out (below_refl _)
  have l1 := blk_lt G1.out
  obtain ⟨p20, p21, p22, p23, p24⟩ := box5 G2.out (below_refl _)
  have l2 := blk_lt G2.out
  obtain ⟨p30, p31, p32, p33, p34⟩ := box5 G3.out (below_refl _)
  have l3 := blk_lt G3.out
  go_wp2_with (go_at_call 14; fail)
  refine (better_at _ _ _ V1 V2 V1.s (denV V1) (denV V2) X1 (by exact I1.out) (by exact I2.out) M1.out M2.out rfl F2.out rfl rfl Y1.out (fun hs => (padd_short (k := 200) hs ((SH1.out hs).le (by decide)) ((SH2.out hs).le (by decide))).le (by decide))).mono ?_
  rintro e w1 ⟨rfl, b⟩
  replace G1 : Hid (w1.heap[w.heap.size]? = _) := blk_below G1.out b
  replace I1 : Hid (VIn w1 _ _) := I1.out.below b
  replace G2 : Hid (w1.heap[w.heap.size + 1]? = _) := blk_below G2.out b
  replace I2 : Hid (VIn w1 _ _) := I2.out.below b
  replace G3 : Hid (w1.heap[w.heap.size + 1 + 1]? = _) := blk_below G3.out b
  replace I3 : Hid (VIn w1 _ _) := I3.out.below b
  replace HB : Hid (Below _ _ w1) := below_step HB.out b
  clear b
  clear p10 p11 p12 p13 p14 l1 p20 p21 p22 p23 p24 l2 p30 p31 p32 p33 p34 l3
  obtain ⟨p10, p11, p12, p13, p14⟩ := box5 G1.out (below_refl _)
  have l1 := blk_lt G1.out
  obtain ⟨p20, p21, p22, p23, p24⟩ := box5 G2.out (below_refl _)
  have l2 := blk_lt G2.out
  obtain ⟨p30, p31, p32, p33, p34⟩ := box5 G3.out (below_refl _)
  have l3 := blk_lt G3.out
  go_wp2_with (go_at_call 14; fail)
  refine (better_at _ _ _ V2 V3 V1.s (denV V2) (denV V3) X2 (by exact I2.out) (by exact I3.out) M2.out M3.out F2.out F3.out rfl rfl Y2.out (fun hs => (padd_short (k := 200) hs ((SH2.out hs).le (by decide)) ((SH3.out hs).le (by decide))).le (by decide))).mono ?_
  rintro e w2 ⟨rfl, b⟩
  replace G1 : Hid (w2.heap[w.heap.size]? = _) := blk_below G1.out b
  replace I1 : Hid (VIn w2 _ _) := I1.out.below b
  replace G2 : Hid (w2.heap[w.heap.size + 1]? = _) := blk_below G2.out b
  replace I2 : Hid (VIn w2 _ _) := I2.out.below b
  replace G3 : Hid (w2.heap[w.heap.size + 1 + 1]? = _) := blk_below G3.out b
  replace I3 : Hid (VIn w2 _ _) := I3.out.below b
  replace HB : Hid (Below _ _ w2) := below_step HB.out b
  clear b
  clear p10 p11 p12 p13 p14 l1 p20 p21 p22 p23 p24 l2 p30 p31 p32 p33 p34 l3
  obtain ⟨p10, p11, p12, p13, p14⟩ := box5 G1.out (below_refl _)
  have l1 := blk_lt G1.out
  obtain ⟨p20, p21, p22, p23, p24⟩ := box5 G2.out (below_refl _)
  have l2 := blk_lt G2.out
  obtain ⟨p30, p31, p32, p33, p34⟩ := box5 G3.out (below_refl _)
  have l3 := blk_lt G3.out
  go_wp2_with (go_at_call 14; fail)
  refine (better_at _ _ _ V1 V3 V1.s (denV V1) (denV V3) X3 (by exact I1.out) (by exact I3.out) M1.out M3.out rfl F3.out rfl rfl Y3.out (fun hs => (padd_short (k := 200) hs ((SH1.out hs).le (by decide)) ((SH3.out hs).le (by decide))).le (by decide))).mono ?_
  rintro e w3 ⟨rfl, b⟩
  replace G1 : Hid (w3.heap[w.heap.size]? = _) := blk_below G1.out b
  replace I1 : Hid (VIn w3 _ _) := I1.out.below b
  replace G2 : Hid (w3.heap[w.heap.size + 1]? = _) := blk_below G2.out b
  replace I2 : Hid (VIn w3 _ _) := I2.out.below b
  replace G3 : Hid (w3.heap[w.heap.size + 1 + 1]? = _) := blk_below G3.out b
  replace I3 : Hid (VIn w3 _ _) := I3.out.below b
  replace HB : Hid (Below _ _ w3) := below_step HB.out b
  clear b
  clear p10 p11 p12 p13 p14 l1 p20 p21 p22 p23 p24 l2 p30 p31 p32 p33 p34 l3
  obtain ⟨p10, p11, p12, p13, p14⟩ := box5 G1.out (below_refl _)
  have l1 := blk_lt G1.out
  obtain ⟨p20, p21, p22, p23, p24⟩ := box5 G2.out (below_refl _)
  have l2 := blk_lt G2.out
  obtain ⟨p30, p31, p32, p33, p34⟩ := box5 G3.out (below_refl _)
  have l3 := blk_lt G3.out
  go_wp2_with (go_at_call 12; fail)
  refine (vplus_at _ _ _ V1 V2 V1.s (denV V1) (denV V2) (by exact I1.out) (by exact I2.out) M1.out M2.out rfl F2.out rfl rfl).mono ?_
  rintro e w4 ⟨⟨u, rfl, o⟩, b⟩
  replace G1 : Hid (w4.heap[w.heap.size]? = _) := blk_below G1.out b
  replace I1 : Hid (VIn w4 _ _) := I1.out.below b
  replace G2 : Hid (w4.heap[w.heap.size + 1]? = _) := blk_below G2.out b
  replace I2 : Hid (VIn w4 _ _) := I2.out.below b
  replace G3 : Hid (w4.heap[w.heap.size + 1 + 1]? = _) := blk_below G3.out b
  replace I3 : Hid (VIn w4 _ _) := I3.out.below b
  replace HB : Hid (Below _ _ w4) := below_step HB.out b
  obtain ⟨V4, i4, m4, e4, d4⟩ := o.ok (fun hs => (padd_short hs (SH1.out hs) (SH2.out hs)).le (by decide))
  have I4 : Hid (VIn w4 _ _) := i4
  obtain ⟨a4, c4, rfl, -⟩ := i4
  have M4 : Hid (mayV V4 = 0) := m4
  have E4 : Hid (V4.s = _) := e4
  have D4 : Hid (denV V4 = _) := d4
  clear m4 e4 d4 o
  clear b
  clear p10 p11 p12 p13 p14 l1 p20 p21 p22 p23 p24 l2 p30 p31 p32 p33 p34 l3
  obtain ⟨p10, p11, p12, p13, p14⟩ := box5 G1.out (below_refl _)
  have l1 := blk_lt G1.out
  obtain ⟨p20, p21, p22, p23, p24⟩ := box5 G2.out (below_refl _)
  have l2 := blk_lt G2.out
  obtain ⟨p30, p31, p32, p33, p34⟩ := box5 G3.out (below_refl _)
  have l3 := blk_lt G3.out
  go_wp2_with (go_at_call 11; fail)
  obtain ⟨W4, hW⟩ : ∃ W4, W4 = w4.alloc (.cells #[.int .i64 V4.s, .bool V4.i, .slice a4 V4.n c4, .int .i64 V4.l, .float .f64 V4.x] 27) := ⟨_, rfl⟩
  rw [← hW]
  have hb : Below w4.heap.size w4 W4 := by rw [hW]; exact below1 _ _
  replace G1 : Hid (W4.heap[w.heap.size]? = _) := blk_below G1.out hb
  replace I1 : Hid (VIn W4 _ _) := I1.out.below hb
  replace G2 : Hid (W4.heap[w.heap.size + 1]? = _) := blk_below G2.out hb
  replace I2 : Hid (VIn W4 _ _) := I2.out.below hb
  replace G3 : Hid (W4.heap[w.heap.size + 1 + 1]? = _) := blk_below G3.out hb
  replace I3 : Hid (VIn W4 _ _) := I3.out.below hb
  replace HB : Hid (Below _ _ W4) := below_step HB.out hb
  have G4 : Hid (W4.heap[w4.heap.size]? = some (.cells #[.int .i64 V4.s, .bool V4.i, .slice a4 V4.n c4, .int .i64 V4.l, .float .f64 V4.x] 27)) := by show W4.heap[w4.heap.size]? = _; rw [hW]; exact heap_alloc_new _ _
  replace I4 : Hid (VIn W4 _ _) := I4.out.below hb
  clear hb hW
  refine (vtimes_at _ _ _ V1 V2 V1.s (denV V1) (denV V2) (by exact I1.out) (by exact I2.out) M1.out M2.out rfl F2.out rfl rfl).mono ?_
  rintro e w5 ⟨⟨u, rfl, o⟩, b⟩
  replace G1 : Hid (w5.heap[w.heap.size]? = _) := blk_below G1.out b
  replace I1 : Hid (VIn w5 _ _) := I1.out.below b
  replace G2 : Hid (w5.heap[w.heap.size + 1]? = _) := blk_below G2.out b
  replace I2 : Hid (VIn w5 _ _) := I2.out.below b
  replace G3 : Hid (w5.heap[w.heap.size + 1 + 1]? = _) := blk_below G3.out b
  replace I3 : Hid (VIn w5 _ _) := I3.out.below b
  replace G4 : Hid (w5.heap[w4.heap.size]? = _) := blk_below G4.out b
  replace I4 : Hid (VIn w5 _ _) := I4.out.below b
  replace HB : Hid (Below _ _ w5) := below_step HB.out b
  obtain ⟨V5, i5, m5, e5, d5⟩ := o.ok (fun hs => (pmul_short hs (SH1.out hs) (SH2.out hs)).le (by decide))
  have I5 : Hid (VIn w5 _ _) := i5
  obtain ⟨a5, c5, rfl, -⟩ := i5
  have M5 : Hid (mayV V5 = 0) := m5
  have E5 : Hid (V5.s = _) := e5
  have D5 : Hid (denV V5 = _) := d5
  clear m5 e5 d5 o
  clear b
  clear p10 p11 p12 p13 p14 l1 p20 p21 p22 p23 p24 l2 p30 p31 p32 p33 p34 l3
  obtain ⟨p10, p11, p12, p13, p14⟩ := box5 G1.out (below_refl _)
  have l1 := blk_lt G1.out
  obtain ⟨p20, p21, p22, p23, p24⟩ := box5 G2.out (below_refl _)
  have l2 := blk_lt G2.out
  obtain ⟨p30, p31, p32, p33, p34⟩ := box5 G3.out (below_refl _)
  have l3 := blk_lt G3.out
  obtain ⟨p40, p41, p42, p43, p44⟩ := box5 G4.out (below_refl _)
  have l4 := blk_lt G4.out
  go_wp2_with (go_at_call 14; fail)
  obtain ⟨W5, hW⟩ : ∃ W5, W5 = w5.alloc (.cells #[.int .i64 V5.s, .bool V5.i, .slice a5 V5.n c5, .int .i64 V5.l, .float .f64 V5.x] 27) := ⟨_, rfl⟩
  rw [← hW]
  have hb : Below w5.heap.size w5 W5 := by rw [hW]; exact below1 _ _
  replace G1 : Hid (W5.heap[w.heap.size]? = _) := blk_below G1.out hb
  replace I1 : Hid (VIn W5 _ _) := I1.out.below hb
  replace G2 : Hid (W5.heap[w.heap.size + 1]? = _) := blk_below G2.out hb
  replace I2 : Hid (VIn W5 _ _) := I2.out.below hb
  replace G3 : Hid (W5.heap[w.heap.size + 1 + 1]? = _) := blk_below G3.out hb
  replace I3 : Hid (VIn W5 _ _) := I3.out.below hb
  replace G4 : Hid (W5.heap[w4.heap.size]? = _) := blk_below G4.out hb
  replace I4 : Hid (VIn W5 _ _) := I4.out.below hb
  replace HB : Hid (Below _ _ W5) := below_step HB.out hb
  have G5 : Hid (W5.heap[w5.heap.size]? = some (.cells #[.int .i64 V5.s, .bool V5.i, .slice a5 V5.n c5, .int .i64 V5.l, .float .f64 V5.x] 27)) := by show W5.heap[w5.heap.size]? = _; rw [hW]; exact heap_alloc_new _ _
  replace I5 : Hid (VIn W5 _ _) := I5.out.below hb
  clear hb hW
  refine (better_at _ _ _ V4 V1 V1.s (padd V1.s (denV V1) (denV V2)) (denV V1) true (by exact I4.out) (by exact I1.out) M4.out M1.out E4.out rfl D4.out rfl Y6.out (fun hs => (padd_short (k := 200) hs ((padd_short hs (SH1.out hs) (SH2.out hs)).le (by decide)) ((SH1.out hs).le (by decide))).le (by decide))).mono ?_
  rintro e w6 ⟨rfl, b⟩
  replace G1 : Hid (w6.heap[w.heap.size]? = _) := blk_below G1.out b
  replace I1 : Hid (VIn w6 _ _) := I1.out.below b
  replace G2 : Hid (w6.heap[w.heap.size + 1]? = _) := blk_below G2.out b
  replace I2 : Hid (VIn w6 _ _) := I2.out.below b
  replace G3 : Hid (w6.heap[w.heap.size + 1 + 1]? = _) := blk_below G3.out b
  replace I3 : Hid (VIn w6 _ _) := I3.out.below b
  replace G4 : Hid (w6.heap[w4.heap.size]? = _) := blk_below G4.out b
  replace I4 : Hid (VIn w6 _ _) := I4.out.below b
  replace G5 : Hid (w6.heap[w5.heap.size]? = _) := blk_below G5.out b
  replace I5 : Hid (VIn w6 _ _) := I5.out.below b
  replace HB : Hid (Below _ _ w6) := below_step HB.out b
  clear b
  clear p10 p11 p12 p13 p14 l1 p20 p21 p22 p23 p24 l2 p30 p31 p32 p33 p34 l3 p40 p41 p42 p43 p44 l4
  obtain ⟨p10, p11, p12, p13, p14⟩ := box5 G1.out (below_refl _)
  have l1 := blk_lt G1.out
  obtain ⟨p20, p21, p22, p23, p24⟩ := box5 G2.out (below_refl _)
  have l2 := blk_lt G2.out
  obtain ⟨p30, p31, p32, p33, p34⟩ := box5 G3.out (below_refl _)
  have l3 := blk_lt G3.out
  obtain ⟨p40, p41, p42, p43, p44⟩ := box5 G4.out (below_refl _)
  have l4 := blk_lt G4.out
  obtain ⟨p50, p51, p52, p53, p54⟩ := box5 G5.out (below_refl _)
  have l5 := blk_lt G5.out
  go_wp2_with (go_at_call 14; fail)
  refine (better_at _ _ _ V1 V5 V1.s (denV V1) (pmul V1.s (denV V1) (denV V2)) X5 (by exact I1.out) (by exact I5.out) M1.out M5.out rfl E5.out rfl D5.out Y5.out (fun hs => (padd_short (k := 200) hs ((SH1.out hs).le (by decide)) ((pmul_short hs (SH1.out hs) (SH2.out hs)).le (by decide))).le (by decide))).mono ?_
  rintro e w7 ⟨rfl, b⟩
  replace G1 : Hid (w7.heap[w.heap.size]? = _) := blk_below G1.out b
  replace I1 : Hid (VIn w7 _ _) := I1.out.below b
  replace G2 : Hid (w7.heap[w.heap.size + 1]? = _) := blk_below G2.out b
  replace I2 : Hid (VIn w7 _ _) := I2.out.below b
  replace G3 : Hid (w7.heap[w.heap.size + 1 + 1]? = _) := blk_below G3.out b
  replace I3 : Hid (VIn w7 _ _) := I3.out.below b
  replace G4 : Hid (w7.heap[w4.heap.size]? = _) := blk_below G4.out b
  replace I4 : Hid (VIn w7 _ _) := I4.out.below b
  replace G5 : Hid (w7.heap[w5.heap.size]? = _) := blk_below G5.out b
  replace I5 : Hid (VIn w7 _ _) := I5.out.below b
  replace HB : Hid (Below _ _ w7) := below_step HB.out b
  clear b
  clear p10 p11 p12 p13 p14 l1 p20 p21 p22 p23 p24 l2 p30 p31 p32 p33 p34 l3 p40 p41 p42 p43 p44 l4 p50 p51 p52 p53 p54 l5
  obtain ⟨p10, p11, p12, p13, p14⟩ := box5 G1.out (below_refl _)
  have l1 := blk_lt G1.out
  obtain ⟨p20, p21, p22, p23, p24⟩ := box5 G2.out (below_refl _)
  have l2 := blk_lt G2.out
  obtain ⟨p30, p31, p32, p33, p34⟩ := box5 G3.out (below_refl _)
  have l3 := blk_lt G3.out
  obtain ⟨p40, p41, p42, p43, p44⟩ := box5 G4.out (below_refl _)
  have l4 := blk_lt G4.out
  obtain ⟨p50, p51, p52, p53, p54⟩ := box5 G5.out (below_refl _)
  have l5 := blk_lt G5.out
  go_wp2_with (go_at_call 14; fail)
  refine (better_at _ _ _ V2 V1 V1.s (denV V2) (denV V1) X4 (by exact I2.out) (by exact I1.out) M2.out M1.out F2.out rfl rfl rfl Y4.out (fun hs => (padd_short (k := 200) hs ((SH2.out hs).le (by decide)) ((SH1.out hs).le (by decide))).le (by decide))).mono ?_
  rintro e w8 ⟨rfl, b⟩
  replace G1 : Hid (w8.heap[w.heap.size]? = _) := blk_below G1.out b
  replace I1 : Hid (VIn w8 _ _) := I1.out.below b
  replace G2 : Hid (w8.heap[w.heap.size + 1]? = _) := blk_below G2.out b
  replace I2 : Hid (VIn w8 _ _) := I2.out.below b
  replace G3 : Hid (w8.heap[w.heap.size + 1 + 1]? = _) := blk_below G3.out b
  replace I3 : Hid (VIn w8 _ _) := I3.out.below b
  replace G4 : Hid (w8.heap[w4.heap.size]? = _) := blk_below G4.out b
  replace I4 : Hid (VIn w8 _ _) := I4.out.below b
  replace G5 : Hid (w8.heap[w5.heap.size]? = _) := blk_below G5.out b
  replace I5 : Hid (VIn w8 _ _) := I5.out.below b
  replace HB : Hid (Below _ _ w8) := below_step HB.out b
  clear b
  clear p10 p11 p12 p13 p14 l1 p20 p21 p22 p23 p24 l2 p30 p31 p32 p33 p34 l3 p40 p41 p42 p43 p44 l4 p50 p51 p52 p53 p54 l5
  obtain ⟨p10, p11, p12, p13, p14⟩ := box5 G1.out (below_refl _)
  have l1 := blk_lt G1.out
  obtain ⟨p20, p21, p22, p23, p24⟩ := box5 G2.out (below_refl _)
  have l2 := blk_lt G2.out
  obtain ⟨p30, p31, p32, p33, p34⟩ := box5 G3.out (below_refl _)
  have l3 := blk_lt G3.out
  obtain ⟨p40, p41, p42, p43, p44⟩ := box5 G4.out (below_refl _)
  have l4 := blk_lt G4.out
  obtain ⟨p50, p51, p52, p53, p54⟩ := box5 G5.out (below_refl _)
  have l5 := blk_lt G5.out
  obtain ⟨K1, hK1⟩ : ∃ P : Prop, P = Hid ((X1 = false ∧ X4 = true) ∨ (X1 = true ∧ X2 = false) ∨ (X1 = true ∧ X2 = true ∧ X3 = true)) := ⟨_, rfl⟩
  clear hK1 K1
  rcases KEY.out with ⟨k1, k4⟩ | ⟨k1, k2⟩ | ⟨k1, k2, k3⟩
  · clear KEY
    subst k1 k4
    go_wp2_with (go_at_call 7; fail)
    refine (vawake_any _ (by exact HEnv.out.below HB.out)).mono ?_
    rintro e w9 ⟨rfl, b⟩
    replace G1 : Hid (w9.heap[w.heap.size]? = _) := blk_below G1.out b
    replace I1 : Hid (VIn w9 _ _) := I1.out.below b
    replace G2 : Hid (w9.heap[w.heap.size + 1]? = _) := blk_below G2.out b
    replace I2 : Hid (VIn w9 _ _) := I2.out.below b
    replace G3 : Hid (w9.heap[w.heap.size + 1 + 1]? = _) := blk_below G3.out b
    replace I3 : Hid (VIn w9 _ _) := I3.out.below b
    replace G4 : Hid (w9.heap[w4.heap.size]? = _) := blk_below G4.out b
    replace I4 : Hid (VIn w9 _ _) := I4.out.below b
    replace G5 : Hid (w9.heap[w5.heap.size]? = _) := blk_below G5.out b
    replace I5 : Hid (VIn w9 _ _) := I5.out.below b
    replace HB : Hid (Below _ _ w9) := below_step HB.out b
    clear b
    clear p10 p11 p12 p13 p14 l1 p20 p21 p22 p23 p24 l2 p30 p31 p32 p33 p34 l3 p40 p41 p42 p43 p44 l4 p50 p51 p52 p53 p54 l5
    obtain ⟨p10, p11, p12, p13, p14⟩ := box5 G1.out (below_refl _)
    have l1 := blk_lt G1.out
    obtain ⟨p20, p21, p22, p23, p24⟩ := box5 G2.out (below_refl _)
    have l2 := blk_lt G2.out
    obtain ⟨p30, p31, p32, p33, p34⟩ := box5 G3.out (below_refl _)
    have l3 := blk_lt G3.out
    obtain ⟨p40, p41, p42, p43, p44⟩ := box5 G4.out (below_refl _)
    have l4 := blk_lt G4.out
    obtain ⟨p50, p51, p52, p53, p54⟩ := box5 G5.out (below_refl _)
    have l5 := blk_lt G5.out
    go_wp2
    go_ret
    exact ⟨rfl, HB.out⟩
  · clear KEY
    subst k1 k2
    cases X4
    · go_wp2_with (go_at_call 7; fail)
      refine (vawake_any _ (by exact HEnv.out.below HB.out)).mono ?_
      rintro e w9 ⟨rfl, b⟩
      replace G1 : Hid (w9.heap[w.heap.size]? = _) := blk_below G1.out b
      replace I1 : Hid (VIn w9 _ _) := I1.out.below b
      replace G2 : Hid (w9.heap[w.heap.size + 1]? = _) := blk_below G2.out b
      replace I2 : Hid (VIn w9 _ _) := I2.out.below b
      replace G3 : Hid (w9.heap[w.heap.size + 1 + 1]? = _) := blk_below G3.out b
      replace I3 : Hid (VIn w9 _ _) := I3.out.below b
      replace G4 : Hid (w9.heap[w4.heap.size]? = _) := blk_below G4.out b
      replace I4 : Hid (VIn w9 _ _) := I4.out.below b
      replace G5 : Hid (w9.heap[w5.heap.size]? = _) := blk_below G5.out b
      replace I5 : Hid (VIn w9 _ _) := I5.out.below b
      replace HB : Hid (Below _ _ w9) := below_step HB.out b
      clear b
      clear p10 p11 p12 p13 p14 l1 p20 p21 p22 p23 p24 l2 p30 p31 p32 p33 p34 l3 p40 p41 p42 p43 p44 l4 p50 p51 p52 p53 p54 l5
      obtain ⟨p10, p11, p12, p13, p14⟩ := box5 G1.out (below_refl _)
      have l1 := blk_lt G1.out
      obtain ⟨p20, p21, p22, p23, p24⟩ := box5 G2.out (below_refl _)
      have l2 := blk_lt G2.out
      obtain ⟨p30, p31, p32, p33, p34⟩ := box5 G3.out (below_refl _)
      have l3 := blk_lt G3.out
      obtain ⟨p40, p41, p42, p43, p44⟩ := box5 G4.out (below_refl _)
      have l4 := blk_lt G4.out
      obtain ⟨p50, p51, p52, p53, p54⟩ := box5 G5.out (below_refl _)
      have l5 := blk_lt G5.out
      go_wp2
      go_ret
      exact ⟨rfl, HB.out⟩
    · go_wp2_with (go_at_call 13; fail)
      refine (vsame_yes _ _ _ V1 V2 (by exact I1.out) (by exact I2.out) M1.out M2.out F2.out.symm (by first | exact KS.out | exact KS.out trivial trivial | exact KS.out trivial | exact KS.out rfl rfl)).mono ?_
      rintro e w9 ⟨rfl, b⟩
      replace G1 : Hid (w9.heap[w.heap.size]? = _) := blk_below G1.out b
      replace I1 : Hid (VIn w9 _ _) := I1.out.below b
      replace G2 : Hid (w9.heap[w.heap.size + 1]? = _) := blk_below G2.out b
      replace I2 : Hid (VIn w9 _ _) := I2.out.below b
      replace G3 : Hid (w9.heap[w.heap.size + 1 + 1]? = _) := blk_below G3.out b
      replace I3 : Hid (VIn w9 _ _) := I3.out.below b
      replace G4 : Hid (w9.heap[w4.heap.size]? = _) := blk_below G4.out b
      replace I4 : Hid (VIn w9 _ _) := I4.out.below b
      replace G5 : Hid (w9.heap[w5.heap.size]? = _) := blk_below G5.out b
      replace I5 : Hid (VIn w9 _ _) := I5.out.below b
      replace HB : Hid (Below _ _ w9) := below_step HB.out b
      clear b
      clear p10 p11 p12 p13 p14 l1 p20 p21 p22 p23 p24 l2 p30 p31 p32 p33 p34 l3 p40 p41 p42 p43 p44 l4 p50 p51 p52 p53 p54 l5
      obtain ⟨p10, p11, p12, p13, p14⟩ := box5 G1.out (below_refl _)
      have l1 := blk_lt G1.out
      obtain ⟨p20, p21, p22, p23, p24⟩ := box5 G2.out (below_refl _)
      have l2 := blk_lt G2.out
      obtain ⟨p30, p31, p32, p33, p34⟩ := box5 G3.out (below_refl _)
      have l3 := blk_lt G3.out
      obtain ⟨p40, p41, p42, p43, p44⟩ := box5 G4.out (below_refl _)
      have l4 := blk_lt G4.out
      obtain ⟨p50, p51, p52, p53, p54⟩ := box5 G5.out (below_refl _)
      have l5 := blk_lt G5.out
      go_wp2_with (go_at_call 7; fail)
      refine (vawake_any _ (by exact HEnv.out.below HB.out)).mono ?_
      rintro e w10 ⟨rfl, b⟩
      replace G1 : Hid (w10.heap[w.heap.size]? = _) := blk_below G1.out b
      replace I1 : Hid (VIn w10 _ _) := I1.out.below b
      replace G2 : Hid (w10.heap[w.heap.size + 1]? = _) := blk_below G2.out b
      replace I2 : Hid (VIn w10 _ _) := I2.out.below b
      replace G3 : Hid (w10.heap[w.heap.size + 1 + 1]? = _) := blk_below G3.out b
      replace I3 : Hid (VIn w10 _ _) := I3.out.below b
      replace G4 : Hid (w10.heap[w4.heap.size]? = _) := blk_below G4.out b
      replace I4 : Hid (VIn w10 _ _) := I4.out.below b
      replace G5 : Hid (w10.heap[w5.heap.size]? = _) := blk_below G5.out b
      replace I5 : Hid (VIn w10 _ _) := I5.out.below b
      replace HB : Hid (Below _ _ w10) := below_step HB.out b
      clear b
      clear p10 p11 p12 p13 p14 l1 p20 p21 p22 p23 p24 l2 p30 p31 p32 p33 p34 l3 p40 p41 p42 p43 p44 l4 p50 p51 p52 p53 p54 l5
      obtain ⟨p10, p11, p12, p13, p14⟩ := box5 G1.out (below_refl _)
      have l1 := blk_lt G1.out
      obtain ⟨p20, p21, p22, p23, p24⟩ := box5 G2.out (below_refl _)
      have l2 := blk_lt G2.out
      obtain ⟨p30, p31, p32, p33, p34⟩ := box5 G3.out (below_refl _)
      have l3 := blk_lt G3.out
      obtain ⟨p40, p41, p42, p43, p44⟩ := box5 G4.out (below_refl _)
      have l4 := blk_lt G4.out
      obtain ⟨p50, p51, p52, p53, p54⟩ := box5 G5.out (below_refl _)
      have l5 := blk_lt G5.out
      go_wp2
      go_ret
      exact ⟨rfl, HB.out⟩
  · clear KEY
    subst k1 k2 k3
    cases X4
    · go_wp2_with (go_at_call 7; fail)
      refine (vawake_any _ (by exact HEnv.out.below HB.out)).mono ?_
      rintro e w9 ⟨rfl, b⟩
      replace G1 : Hid (w9.heap[w.heap.size]? = _) := blk_below G1.out b
      replace I1 : Hid (VIn w9 _ _) := I1.out.below b
      replace G2 : Hid (w9.heap[w.heap.size + 1]? = _) := blk_below G2.out b
      replace I2 : Hid (VIn w9 _ _) := I2.out.below b
      replace G3 : Hid (w9.heap[w.heap.size + 1 + 1]? = _) := blk_below G3.out b
      replace I3 : Hid (VIn w9 _ _) := I3.out.below b
      replace G4 : Hid (w9.heap[w4.heap.size]? = _) := blk_below G4.out b
      replace I4 : Hid (VIn w9 _ _) := I4.out.below b
      replace G5 : Hid (w9.heap[w5.heap.size]? = _) := blk_below G5.out b
      replace I5 : Hid (VIn w9 _ _) := I5.out.below b
      replace HB : Hid (Below _ _ w9) := below_step HB.out b
      clear b
      clear p10 p11 p12 p13 p14 l1 p20 p21 p22 p23 p24 l2 p30 p31 p32 p33 p34 l3 p40 p41 p42 p43 p44 l4 p50 p51 p52 p53 p54 l5
      obtain ⟨p10, p11, p12, p13, p14⟩ := box5 G1.out (below_refl _)
      have l1 := blk_lt G1.out
      obtain ⟨p20, p21, p22, p23, p24⟩ := box5 G2.out (below_refl _)
      have l2 := blk_lt G2.out
      obtain ⟨p30, p31, p32, p33, p34⟩ := box5 G3.out (below_refl _)
      have l3 := blk_lt G3.out
      obtain ⟨p40, p41, p42, p43, p44⟩ := box5 G4.out (below_refl _)
      have l4 := blk_lt G4.out
      obtain ⟨p50, p51, p52, p53, p54⟩ := box5 G5.out (below_refl _)
      have l5 := blk_lt G5.out
      go_wp2
      go_ret
      exact ⟨rfl, HB.out⟩
    · go_wp2_with (go_at_call 13; fail)
      refine (vsame_yes _ _ _ V1 V2 (by exact I1.out) (by exact I2.out) M1.out M2.out F2.out.symm (by first | exact KS.out | exact KS.out trivial trivial | exact KS.out trivial | exact KS.out rfl rfl)).mono ?_
      rintro e w9 ⟨rfl, b⟩
      replace G1 : Hid (w9.heap[w.heap.size]? = _) := blk_below G1.out b
      replace I1 : Hid (VIn w9 _ _) := I1.out.below b
      replace G2 : Hid (w9.heap[w.heap.size + 1]? = _) := blk_below G2.out b
      replace I2 : Hid (VIn w9 _ _) := I2.out.below b
      replace G3 : Hid (w9.heap[w.heap.size + 1 + 1]? = _) := blk_below G3.out b
      replace I3 : Hid (VIn w9 _ _) := I3.out.below b
      replace G4 : Hid (w9.heap[w4.heap.size]? = _) := blk_below G4.out b
      replace I4 : Hid (VIn w9 _ _) := I4.out.below b
      replace G5 : Hid (w9.heap[w5.heap.size]? = _) := blk_below G5.out b
      replace I5 : Hid (VIn w9 _ _) := I5.out.below b
      replace HB : Hid (Below _ _ w9) := below_step HB.out b
      clear b
      clear p10 p11 p12 p13 p14 l1 p20 p21 p22 p23 p24 l2 p30 p31 p32 p33 p34 l3 p40 p41 p42 p43 p44 l4 p50 p51 p52 p53 p54 l5
      obtain ⟨p10, p11, p12, p13, p14⟩ := box5 G1.out (below_refl _)
      have l1 := blk_lt G1.out
      obtain ⟨p20, p21, p22, p23, p24⟩ := box5 G2.out (below_refl _)
      have l2 := blk_lt G2.out
      obtain ⟨p30, p31, p32, p33, p34⟩ := box5 G3.out (below_refl _)
      have l3 := blk_lt G3.out
      obtain ⟨p40, p41, p42, p43, p44⟩ := box5 G4.out (below_refl _)
      have l4 := blk_lt G4.out
      obtain ⟨p50, p51, p52, p53, p54⟩ := box5 G5.out (below_refl _)
      have l5 := blk_lt G5.out
      go_wp2_with (go_at_call 7; fail)
      refine (vawake_any _ (by exact HEnv.out.below HB.out)).mono ?_
      rintro e w10 ⟨rfl, b⟩
      replace G1 : Hid (w10.heap[w.heap.size]? = _) := blk_below G1.out b
      replace I1 : Hid (VIn w10 _ _) := I1.out.below b
      replace G2 : Hid (w10.heap[w.heap.size + 1]? = _) := blk_below G2.out b
      replace I2 : Hid (VIn w10 _ _) := I2.out.below b
      replace G3 : Hid (w10.heap[w.heap.size + 1 + 1]? = _) := blk_below G3.out b
      replace I3 : Hid (VIn w10 _ _) := I3.out.below b
      replace G4 : Hid (w10.heap[w4.heap.size]? = _) := blk_below G4.out b
      replace I4 : Hid (VIn w10 _ _) := I4.out.below b
      replace G5 : Hid (w10.heap[w5.heap.size]? = _) := blk_below G5.out b
      replace I5 : Hid (VIn w10 _ _) := I5.out.below b
      replace HB : Hid (Below _ _ w10) := below_step HB.out b
      clear b
      clear p10 p11 p12 p13 p14 l1 p20 p21 p22 p23 p24 l2 p30 p31 p32 p33 p34 l3 p40 p41 p42 p43 p44 l4 p50 p51 p52 p53 p54 l5
      obtain ⟨p10, p11, p12, p13, p14⟩ := box5 G1.out (below_refl _)
      have l1 := blk_lt G1.out
      obtain ⟨p20, p21, p22, p23, p24⟩ := box5 G2.out (below_refl _)
      have l2 := blk_lt G2.out
      obtain ⟨p30, p31, p32, p33, p34⟩ := box5 G3.out (below_refl _)
      have l3 := blk_lt G3.out
      obtain ⟨p40, p41, p42, p43, p44⟩ := box5 G4.out (below_refl _)
      have l4 := blk_lt G4.out
      obtain ⟨p50, p51, p52, p53, p54⟩ := box5 G5.out (below_refl _)
      have l5 := blk_lt G5.out
      go_wp2
      go_ret
      exact ⟨rfl, HB.out⟩
set_option maxHeartbeats 32000000 in
theorem bet_ok (w : World) (v1 v2 v3 : Value) (V1 V2 V3 : Vl) (h1 : VIn w v1 V1) (h2 : VIn w v2 V2) (h3 : VIn w v3 V3) (henv : Env w) (hsm : V1.n ≤ 60 ∧ V2.n ≤ 60 ∧ V3.n ≤ 60) (X1 X2 X3 X4 X5 : Bool) (m1 : mayV V1 = 0) (m2 : mayV V2 = 0) (m3 : mayV V3 = 0) (f2 : V2.s = V1.s) (f3 : V3.s = V1.s) (h1s : (V1.s == 1) = false) (x1 : bet V1.s (denV V1) (denV V2) = X1) (x2 : bet V1.s (denV V2) (denV V3) = X2) (x3 : bet V1.s (denV V1) (denV V3) = X3) (x4 : bet V1.s (denV V2) (denV V1) = X4) (x5 : bet V1.s (denV V1) (pmul V1.s (denV V1) (denV V2)) = X5) (k5 : X5 = true) (x6 : bet V1.s (padd V1.s (denV V1) (denV V2)) (denV V1) = true) (key : (X1 = false ∧ X4 = true) ∨ (X1 = true ∧ X2 = false) ∨ (X1 = true ∧ X2 = true ∧ X3 = true)) (ks : X1 = true → X4 = true → denV V1 = denV V2) : Calls Tryd.prog 4 #[v1, v2, v3] w fun e w' => e = .returned (.bool true) ∧ Below w.heap.size w w' := by
  have hsf := st_flo
  have HEnv : Hid (Env w) := henv
  clear henv
  have SM : Hid (V1.n ≤ 60 ∧ V2.n ≤ 60 ∧ V3.n ≤ 60) := hsm
  have SN : Hid (V1.n ≤ 60 ∧ V2.n ≤ 60 ∧ V3.n ≤ 60) := hsm
  clear hsm
  have M1 : Hid (mayV V1 = 0) := m1
  have M2 : Hid (mayV V2 = 0) := m2
  have M3 : Hid (mayV V3 = 0) := m3
  have F2 : Hid (V2.s = V1.s) := f2
  have F3 : Hid (V3.s = V1.s) := f3
  subst k5
  have Y1 : Hid (bet V1.s (denV V1) (denV V2) = X1) := x1
  have Y2 : Hid (bet V1.s (denV V2) (denV V3) = X2) := x2
  have Y3 : Hid (bet V1.s (denV V1) (denV V3) = X3) := x3
  have Y4 : Hid (bet V1.s (denV V2) (denV V1) = X4) := x4
  have Y5 : Hid (bet V1.s (denV V1) (pmul V1.s (denV V1) (denV V2)) = true) := x5
  have Y6 : Hid (bet V1.s (padd V1.s (denV V1) (denV V2)) (denV V1) = true) := x6
  have KEY : Hid ((X1 = false ∧ X4 = true) ∨ (X1 = true ∧ X2 = false) ∨ (X1 = true ∧ X2 = true ∧ X3 = true)) := key
  have KS : Hid (X1 = true → X4 = true → denV V1 = denV V2) := ks
  have SH1 : Hid (V1.s = 1 ∨ V1.s = 3 → Short 60 (denV V1)) := fun hs => den_short h1 SN.out.1 hs
  have SH2 : Hid (V1.s = 1 ∨ V1.s = 3 → Short 60 (denV V2)) := fun hs => den_short h2 SN.out.2.1 (f2 ▸ hs)
  have SH3 : Hid (V1.s = 1 ∨ V1.s = 3 → Short 60 (denV V3)) := fun hs => den_short h3 SN.out.2.2 (f3 ▸ hs)
  clear m1 m2 m3 f2 f3 x1 x2 x3 x4 x5 x6 key ks SN
  have H1' := h1
  obtain ⟨a1, c1, rfl, hr1, hL1, hn1, hx1, hl1, hs1⟩ := h1
  have H2' := h2
  obtain ⟨a2, c2, rfl, hr2, hL2, hn2, hx2, hl2, hs2⟩ := h2
  have H3' := h3
  obtain ⟨a3, c3, rfl, hr3, hL3, hn3, hx3, hl3, hs3⟩ := h3
  obtain ⟨W0, hW0⟩ : ∃ W0, W0 = ((((w.alloc (.cells #[.int .i64 V1.s, .bool V1.i, .slice a1 V1.n c1, .int .i64 V1.l, .float .f64 V1.x] 27)).alloc (.cells #[.int .i64 V2.s, .bool V2.i, .slice a2 V2.n c2, .int .i64 V2.l, .float .f64 V2.x] 27)).alloc (.cells #[.int .i64 V3.s, .bool V3.i, .slice a3 V3.n c3, .int .i64 V3.l, .float .f64 V3.x] 27)).alloc (.cells #[.int .i64 V1.s, .bool V1.i, .slice a1 V1.n c1, .int .i64 V1.l, .float .f64 V1.x, .int .i64 V2.s, .bool V2.i, .slice a2 V2.n c2, .int .i64 V2.l, .float .f64 V2.x, .int .i64 V3.s, .bool V3.i, .slice a3 V3.n c3, .int .i64 V3.l, .float .f64 V3.x] 27)) := ⟨_, rfl⟩
  have HB0 : Hid (Below w.heap.size w W0) := by rw [hW0]; exact (below3 w _ _ _).alloc (below3 w _ _ _).size _
  have Hg1 : Hid (W0.heap[w.heap.size]? = some (.cells #[.int .i64 V1.s, .bool V1.i, .slice a1 V1.n c1, .int .i64 V1.l, .float .f64 V1.x] 27)) := by
    show W0.heap[w.heap.size]? = _
    rw [hW0]; exact heap_at4_0 w _ _ _ _
  have Hg2 : Hid (W0.heap[w.heap.size + 1]? = some (.cells #[.int .i64 V2.s, .bool V2.i, .slice a2 V2.n c2, .int .i64 V2.l, .float .f64 V2.x] 27)) := by
    show W0.heap[w.heap.size + 1]? = _
    rw [hW0]; exact heap_at4_1 w _ _ _ _
  have Hg3 : Hid (W0.heap[w.heap.size + 1 + 1]? = some (.cells #[.int .i64 V3.s, .bool V3.i, .slice a3 V3.n c3, .int .i64 V3.l, .float .f64 V3.x] 27)) := by
    show W0.heap[w.heap.size + 1 + 1]? = _
    rw [hW0]; exact heap_at4_2 w _ _ _ _
  have Hg4 : Hid (W0.heap[w.heap.size + 1 + 1 + 1]? = some (.cells #[.int .i64 V1.s, .bool V1.i, .slice a1 V1.n c1, .int .i64 V1.l, .float .f64 V1.x, .int .i64 V2.s, .bool V2.i, .slice a2 V2.n c2, .int .i64 V2.l, .float .f64 V2.x, .int .i64 V3.s, .bool V3.i, .slice a3 V3.n c3, .int .i64 V3.l, .float .f64 V3.x] 27)) := by
    show W0.heap[w.heap.size + 1 + 1 + 1]? = _
    rw [hW0]; exact heap_at4_3 w _ _ _ _
  have H1 : Hid (VIn W0 (.agg #[.int .i64 V1.s, .bool V1.i, .slice a1 V1.n c1, .int .i64 V1.l, .float .f64 V1.x]) V1) := H1'.below HB0.out
  have H2 : Hid (VIn W0 (.agg #[.int .i64 V2.s, .bool V2.i, .slice a2 V2.n c2, .int .i64 V2.l, .float .f64 V2.x]) V2) := H2'.below HB0.out
  have H3 : Hid (VIn W0 (.agg #[.int .i64 V3.s, .bool V3.i, .slice a3 V3.n c3, .int .i64 V3.l, .float .f64 V3.x]) V3) := H3'.below HB0.out
  have HW : Below W0.heap.size W0 W0 := below_refl W0
  clear hr1 hL1 hn1 hx1 hl1 hs1 H1' hr2 hL2 hn2 hx2 hl2 hs2 H2' hr3 hL3 hn3 hx3 hl3 hs3 H3'
  obtain ⟨p10, p11, p12, p13, p14⟩ := box5 Hg1.out HW
  obtain ⟨p20, p21, p22, p23, p24⟩ := box5 Hg2.out HW
  obtain ⟨p30, p31, p32, p33, p34⟩ := box5 Hg3.out HW
  have cS : Calls Tryd.prog 6 #[.slice (some ⟨w.heap.size + 1 + 1 + 1, 0, none⟩) 3 3] W0 fun e w' => e = .returned (.bool true) ∧ w' = W0 := by
    refine vsmall_any (w.heap.size + 1 + 1 + 1) 3 (fun j => if j = 0 then a1 else if j = 1 then a2 else a3) (fun j => if j = 0 then V1.n else if j = 1 then V2.n else V3.n) (fun j => if j = 0 then c1 else if j = 1 then c2 else c3) W0 (by decide) (by decide) true (fun j hj => ?_) (fun h => ?_) (fun j hj h => ?_)
    · rw [cell_of_row W0 _ _ _ _ _ Hg4.out]
      match j, hj with
      | 0, _ => rfl
      | 1, _ => rfl
      | 2, _ => rfl
    · rfl
    · exfalso
      revert h
      have := SM.out
      match j, hj with
      | 0, _ => exact fun h => absurd h (by show ¬ 60 < V1.n; omega)
      | 1, _ => exact fun h => absurd h (by show ¬ 60 < V2.n; omega)
      | 2, _ => exact fun h => absurd h (by show ¬ 60 < V3.n; omega)
  have I1 := H1
  have G1 := Hg1
  have I2 := H2
  have G2 := Hg2
  have I3 := H3
  have G3 := Hg3
  have HB := HB0
  clear HW H1 Hg1 p10 p11 p12 p13 p14 H2 Hg2 p20 p21 p22 p23 p24 H3 Hg3 p30 p31 p32 p33 p34 HB0 SM
  go_enter Tryd.func4, Tryd.ntmps4
  go_wp2_with (go_at_call 6; fail)
  rw [← hW0]
  refine cS.mono ?_
  rintro e w' ⟨rfl, hw⟩
  replace hw := hw.symm
  subst hw
  clear cS hW0 Hg4
  obtain ⟨p10, p11, p12, p13, p14⟩ := box5 G1.out (below_refl _)
  have l1 := blk_lt G1.out
  obtain ⟨p20, p21, p22, p23, p24⟩ := box5 G2.out (below_refl _)
  have l2 := blk_lt G2.out
  obtain ⟨p30, p31, p32, p33, p34⟩ := box5 G3.out (below_refl _)
  have l3 := blk_lt G3.out
  go_wp2_with (go_at_call 14; fail)
  refine (better_at _ _ _ V1 V2 V1.s (denV V1) (denV V2) X1 (by exact I1.out) (by exact I2.out) M1.out M2.out rfl F2.out rfl rfl Y1.out (fun hs => (padd_short (k := 200) hs ((SH1.out hs).le (by decide)) ((SH2.out hs).le (by decide))).le (by decide))).mono ?_
  rintro e w1 ⟨rfl, b⟩
  replace G1 : Hid (w1.heap[w.heap.size]? = _) := blk_below G1.out b
  replace I1 : Hid (VIn w1 _ _) := I1.out.below b
  replace G2 : Hid (w1.heap[w.heap.size + 1]? = _) := blk_below G2.out b
  replace I2 : Hid (VIn w1 _ _) := I2.out.below b
  replace G3 : Hid (w1.heap[w.heap.size + 1 + 1]? = _) := blk_below G3.out b
  replace I3 : Hid (VIn w1 _ _) := I3.out.below b
  replace HB : Hid (Below _ _ w1) := below_step HB.out b
  clear b
  clear p10 p11 p12 p13 p14 l1 p20 p21 p22 p23 p24 l2 p30 p31 p32 p33 p34 l3
  obtain ⟨p10, p11, p12, p13, p14⟩ := box5 G1.out (below_refl _)
  have l1 := blk_lt G1.out
  obtain ⟨p20, p21, p22, p23, p24⟩ := box5 G2.out (below_refl _)
  have l2 := blk_lt G2.out
  obtain ⟨p30, p31, p32, p33, p34⟩ := box5 G3.out (below_refl _)
  have l3 := blk_lt G3.out
  go_wp2_with (go_at_call 14; fail)
  refine (better_at _ _ _ V2 V3 V1.s (denV V2) (denV V3) X2 (by exact I2.out) (by exact I3.out) M2.out M3.out F2.out F3.out rfl rfl Y2.out (fun hs => (padd_short (k := 200) hs ((SH2.out hs).le (by decide)) ((SH3.out hs).le (by decide))).le (by decide))).mono ?_
  rintro e w2 ⟨rfl, b⟩
  replace G1 : Hid (w2.heap[w.heap.size]? = _) := blk_below G1.out b
  replace I1 : Hid (VIn w2 _ _) := I1.out.below b
  replace G2 : Hid (w2.heap[w.heap.size + 1]? = _) := blk_below G2.out b
  replace I2 : Hid (VIn w2 _ _) := I2.out.below b
  replace G3 : Hid (w2.heap[w.heap.size + 1 + 1]? = _) := blk_below G3.out b
  replace I3 : Hid (VIn w2 _ _) := I3.out.below b
  replace HB : Hid (Below _ _ w2) := below_step HB.out b
  clear b
  clear p10 p11 p12 p13 p14 l1 p20 p21 p22 p23 p24 l2 p30 p31 p32 p33 p34 l3
  obtain ⟨p10, p11, p12, p13, p14⟩ := box5 G1.out (below_refl _)
  have l1 := blk_lt G1.out
  obtain ⟨p20, p21, p22, p23, p24⟩ := box5 G2.out (below_refl _)
  have l2 := blk_lt G2.out
  obtain ⟨p30, p31, p32, p33, p34⟩ := box5 G3.out (below_refl _)
  have l3 := blk_lt G3.out
  go_wp2_with (go_at_call 14; fail)
  refine (better_at _ _ _ V1 V3 V1.s (denV V1) (denV V3) X3 (by exact I1.out) (by exact I3.out) M1.out M3.out rfl F3.out rfl rfl Y3.out (fun hs => (padd_short (k := 200) hs ((SH1.out hs).le (by decide)) ((SH3.out hs).le (by decide))).le (by decide))).mono ?_
  rintro e w3 ⟨rfl, b⟩
  replace G1 : Hid (w3.heap[w.heap.size]? = _) := blk_below G1.out b
  replace I1 : Hid (VIn w3 _ _) := I1.out.below b
  replace G2 : Hid (w3.heap[w.heap.size + 1]? = _) := blk_below G2.out b
  replace I2 : Hid (VIn w3 _ _) := I2.out.below b
  replace G3 : Hid (w3.heap[w.heap.size + 1 + 1]? = _) := blk_below G3.out b
  replace I3 : Hid (VIn w3 _ _) := I3.out.below b
  replace HB : Hid (Below _ _ w3) := below_step HB.out b
  clear b
  clear p10 p11 p12 p13 p14 l1 p20 p21 p22 p23 p24 l2 p30 p31 p32 p33 p34 l3
  obtain ⟨p10, p11, p12, p13, p14⟩ := box5 G1.out (below_refl _)
  have l1 := blk_lt G1.out
  obtain ⟨p20, p21, p22, p23, p24⟩ := box5 G2.out (below_refl _)
  have l2 := blk_lt G2.out
  obtain ⟨p30, p31, p32, p33, p34⟩ := box5 G3.out (below_refl _)
  have l3 := blk_lt G3.out
  go_wp2_with (go_at_call 12; fail)
  refine (vplus_at _ _ _ V1 V2 V1.s (denV V1) (denV V2) (by exact I1.out) (by exact I2.out) M1.out M2.out rfl F2.out rfl rfl).mono ?_
  rintro e w4 ⟨⟨u, rfl, o⟩, b⟩
  replace G1 : Hid (w4.heap[w.heap.size]? = _) := blk_below G1.out b
  replace I1 : Hid (VIn w4 _ _) := I1.out.below b
  replace G2 : Hid (w4.heap[w.heap.size + 1]? = _) := blk_below G2.out b
  replace I2 : Hid (VIn w4 _ _) := I2.out.below b
  replace G3 : Hid (w4.heap[w.heap.size + 1 + 1]? = _) := blk_below G3.out b
  replace I3 : Hid (VIn w4 _ _) := I3.out.below b
  replace HB : Hid (Below _ _ w4) := below_step HB.out b
  obtain ⟨V4, i4, m4, e4, d4⟩ := o.ok (fun hs => (padd_short hs (SH1.out hs) (SH2.out hs)).le (by decide))
  have I4 : Hid (VIn w4 _ _) := i4
  obtain ⟨a4, c4, rfl, -⟩ := i4
  have M4 : Hid (mayV V4 = 0) := m4
  have E4 : Hid (V4.s = _) := e4
  have D4 : Hid (denV V4 = _) := d4
  clear m4 e4 d4 o
  clear b
  clear p10 p11 p12 p13 p14 l1 p20 p21 p22 p23 p24 l2 p30 p31 p32 p33 p34 l3
  obtain ⟨p10, p11, p12, p13, p14⟩ := box5 G1.out (below_refl _)
  have l1 := blk_lt G1.out
  obtain ⟨p20, p21, p22, p23, p24⟩ := box5 G2.out (below_refl _)
  have l2 := blk_lt G2.out
  obtain ⟨p30, p31, p32, p33, p34⟩ := box5 G3.out (below_refl _)
  have l3 := blk_lt G3.out
  go_wp2_with (go_at_call 11; fail)
  obtain ⟨W4, hW⟩ : ∃ W4, W4 = w4.alloc (.cells #[.int .i64 V4.s, .bool V4.i, .slice a4 V4.n c4, .int .i64 V4.l, .float .f64 V4.x] 27) := ⟨_, rfl⟩
  rw [← hW]
  have hb : Below w4.heap.size w4 W4 := by rw [hW]; exact below1 _ _
  replace G1 : Hid (W4.heap[w.heap.size]? = _) := blk_below G1.out hb
  replace I1 : Hid (VIn W4 _ _) := I1.out.below hb
  replace G2 : Hid (W4.heap[w.heap.size + 1]? = _) := blk_below G2.out hb
  replace I2 : Hid (VIn W4 _ _) := I2.out.below hb
  replace G3 : Hid (W4.heap[w.heap.size + 1 + 1]? = _) := blk_below G3.out hb
  replace I3 : Hid (VIn W4 _ _) := I3.out.below hb
  replace HB : Hid (Below _ _ W4) := below_step HB.out hb
  have G4 : Hid (W4.heap[w4.heap.size]? = some (.cells #[.int .i64 V4.s, .bool V4.i, .slice a4 V4.n c4, .int .i64 V4.l, .float .f64 V4.x] 27)) := by show W4.heap[w4.heap.size]? = _; rw [hW]; exact heap_alloc_new _ _
  replace I4 : Hid (VIn W4 _ _) := I4.out.below hb
  clear hb hW
  refine (vtimes_at _ _ _ V1 V2 V1.s (denV V1) (denV V2) (by exact I1.out) (by exact I2.out) M1.out M2.out rfl F2.out rfl rfl).mono ?_
  rintro e w5 ⟨⟨u, rfl, o⟩, b⟩
  replace G1 : Hid (w5.heap[w.heap.size]? = _) := blk_below G1.out b
  replace I1 : Hid (VIn w5 _ _) := I1.out.below b
  replace G2 : Hid (w5.heap[w.heap.size + 1]? = _) := blk_below G2.out b
  replace I2 : Hid (VIn w5 _ _) := I2.out.below b
  replace G3 : Hid (w5.heap[w.heap.size + 1 + 1]? = _) := blk_below G3.out b
  replace I3 : Hid (VIn w5 _ _) := I3.out.below b
  replace G4 : Hid (w5.heap[w4.heap.size]? = _) := blk_below G4.out b
  replace I4 : Hid (VIn w5 _ _) := I4.out.below b
  replace HB : Hid (Below _ _ w5) := below_step HB.out b
  obtain ⟨V5, i5, m5, e5, d5⟩ := o.ok (fun hs => (pmul_short hs (SH1.out hs) (SH2.out hs)).le (by decide))
  have I5 : Hid (VIn w5 _ _) := i5
  obtain ⟨a5, c5, rfl, -⟩ := i5
  have M5 : Hid (mayV V5 = 0) := m5
  have E5 : Hid (V5.s = _) := e5
  have D5 : Hid (denV V5 = _) := d5
  clear m5 e5 d5 o
  clear b
  clear p10 p11 p12 p13 p14 l1 p20 p21 p22 p23 p24 l2 p30 p31 p32 p33 p34 l3
  obtain ⟨p10, p11, p12, p13, p14⟩ := box5 G1.out (below_refl _)
  have l1 := blk_lt G1.out
  obtain ⟨p20, p21, p22, p23, p24⟩ := box5 G2.out (below_refl _)
  have l2 := blk_lt G2.out
  obtain ⟨p30, p31, p32, p33, p34⟩ := box5 G3.out (below_refl _)
  have l3 := blk_lt G3.out
  obtain ⟨p40, p41, p42, p43, p44⟩ := box5 G4.out (below_refl _)
  have l4 := blk_lt G4.out
  go_wp2_with (go_at_call 14; fail)
  obtain ⟨W5, hW⟩ : ∃ W5, W5 = w5.alloc (.cells #[.int .i64 V5.s, .bool V5.i, .slice a5 V5.n c5, .int .i64 V5.l, .float .f64 V5.x] 27) := ⟨_, rfl⟩
  rw [← hW]
  have hb : Below w5.heap.size w5 W5 := by rw [hW]; exact below1 _ _
  replace G1 : Hid (W5.heap[w.heap.size]? = _) := blk_below G1.out hb
  replace I1 : Hid (VIn W5 _ _) := I1.out.below hb
  replace G2 : Hid (W5.heap[w.heap.size + 1]? = _) := blk_below G2.out hb
  replace I2 : Hid (VIn W5 _ _) := I2.out.below hb
  replace G3 : Hid (W5.heap[w.heap.size + 1 + 1]? = _) := blk_below G3.out hb
  replace I3 : Hid (VIn W5 _ _) := I3.out.below hb
  replace G4 : Hid (W5.heap[w4.heap.size]? = _) := blk_below G4.out hb
  replace I4 : Hid (VIn W5 _ _) := I4.out.below hb
  replace HB : Hid (Below _ _ W5) := below_step HB.out hb
  have G5 : Hid (W5.heap[w5.heap.size]? = some (.cells #[.int .i64 V5.s, .bool V5.i, .slice a5 V5.n c5, .int .i64 V5.l, .float .f64 V5.x] 27)) := by show W5.heap[w5.heap.size]? = _; rw [hW]; exact heap_alloc_new _ _
  replace I5 : Hid (VIn W5 _ _) := I5.out.below hb
  clear hb hW
  refine (better_at _ _ _ V4 V1 V1.s (padd V1.s (denV V1) (denV V2)) (denV V1) true (by exact I4.out) (by exact I1.out) M4.out M1.out E4.out rfl D4.out rfl Y6.out (fun hs => (padd_short (k := 200) hs ((padd_short hs (SH1.out hs) (SH2.out hs)).le (by decide)) ((SH1.out hs).le (by decide))).le (by decide))).mono ?_
  rintro e w6 ⟨rfl, b⟩
  replace G1 : Hid (w6.heap[w.heap.size]? = _) := blk_below G1.out b
  replace I1 : Hid (VIn w6 _ _) := I1.out.below b
  replace G2 : Hid (w6.heap[w.heap.size + 1]? = _) := blk_below G2.out b
  replace I2 : Hid (VIn w6 _ _) := I2.out.below b
  replace G3 : Hid (w6.heap[w.heap.size + 1 + 1]? = _) := blk_below G3.out b
  replace I3 : Hid (VIn w6 _ _) := I3.out.below b
  replace G4 : Hid (w6.heap[w4.heap.size]? = _) := blk_below G4.out b
  replace I4 : Hid (VIn w6 _ _) := I4.out.below b
  replace G5 : Hid (w6.heap[w5.heap.size]? = _) := blk_below G5.out b
  replace I5 : Hid (VIn w6 _ _) := I5.out.below b
  replace HB : Hid (Below _ _ w6) := below_step HB.out b
  clear b
  clear p10 p11 p12 p13 p14 l1 p20 p21 p22 p23 p24 l2 p30 p31 p32 p33 p34 l3 p40 p41 p42 p43 p44 l4
  obtain ⟨p10, p11, p12, p13, p14⟩ := box5 G1.out (below_refl _)
  have l1 := blk_lt G1.out
  obtain ⟨p20, p21, p22, p23, p24⟩ := box5 G2.out (below_refl _)
  have l2 := blk_lt G2.out
  obtain ⟨p30, p31, p32, p33, p34⟩ := box5 G3.out (below_refl _)
  have l3 := blk_lt G3.out
  obtain ⟨p40, p41, p42, p43, p44⟩ := box5 G4.out (below_refl _)
  have l4 := blk_lt G4.out
  obtain ⟨p50, p51, p52, p53, p54⟩ := box5 G5.out (below_refl _)
  have l5 := blk_lt G5.out
  go_wp2_with (go_at_call 14; fail)
  refine (better_at _ _ _ V1 V5 V1.s (denV V1) (pmul V1.s (denV V1) (denV V2)) true (by exact I1.out) (by exact I5.out) M1.out M5.out rfl E5.out rfl D5.out Y5.out (fun hs => (padd_short (k := 200) hs ((SH1.out hs).le (by decide)) ((pmul_short hs (SH1.out hs) (SH2.out hs)).le (by decide))).le (by decide))).mono ?_
  rintro e w7 ⟨rfl, b⟩
  replace G1 : Hid (w7.heap[w.heap.size]? = _) := blk_below G1.out b
  replace I1 : Hid (VIn w7 _ _) := I1.out.below b
  replace G2 : Hid (w7.heap[w.heap.size + 1]? = _) := blk_below G2.out b
  replace I2 : Hid (VIn w7 _ _) := I2.out.below b
  replace G3 : Hid (w7.heap[w.heap.size + 1 + 1]? = _) := blk_below G3.out b
  replace I3 : Hid (VIn w7 _ _) := I3.out.below b
  replace G4 : Hid (w7.heap[w4.heap.size]? = _) := blk_below G4.out b
  replace I4 : Hid (VIn w7 _ _) := I4.out.below b
  replace G5 : Hid (w7.heap[w5.heap.size]? = _) := blk_below G5.out b
  replace I5 : Hid (VIn w7 _ _) := I5.out.below b
  replace HB : Hid (Below _ _ w7) := below_step HB.out b
  clear b
  clear p10 p11 p12 p13 p14 l1 p20 p21 p22 p23 p24 l2 p30 p31 p32 p33 p34 l3 p40 p41 p42 p43 p44 l4 p50 p51 p52 p53 p54 l5
  obtain ⟨p10, p11, p12, p13, p14⟩ := box5 G1.out (below_refl _)
  have l1 := blk_lt G1.out
  obtain ⟨p20, p21, p22, p23, p24⟩ := box5 G2.out (below_refl _)
  have l2 := blk_lt G2.out
  obtain ⟨p30, p31, p32, p33, p34⟩ := box5 G3.out (below_refl _)
  have l3 := blk_lt G3.out
  obtain ⟨p40, p41, p42, p43, p44⟩ := box5 G4.out (below_refl _)
  have l4 := blk_lt G4.out
  obtain ⟨p50, p51, p52, p53, p54⟩ := box5 G5.out (below_refl _)
  have l5 := blk_lt G5.out
  go_wp2_with (go_at_call 14; fail)
  refine (better_at _ _ _ V2 V1 V1.s (denV V2) (denV V1) X4 (by exact I2.out) (by exact I1.out) M2.out M1.out F2.out rfl rfl rfl Y4.out (fun hs => (padd_short (k := 200) hs ((SH2.out hs).le (by decide)) ((SH1.out hs).le (by decide))).le (by decide))).mono ?_
  rintro e w8 ⟨rfl, b⟩
  replace G1 : Hid (w8.heap[w.heap.size]? = _) := blk_below G1.out b
  replace I1 : Hid (VIn w8 _ _) := I1.out.below b
  replace G2 : Hid (w8.heap[w.heap.size + 1]? = _) := blk_below G2.out b
  replace I2 : Hid (VIn w8 _ _) := I2.out.below b
  replace G3 : Hid (w8.heap[w.heap.size + 1 + 1]? = _) := blk_below G3.out b
  replace I3 : Hid (VIn w8 _ _) := I3.out.below b
  replace G4 : Hid (w8.heap[w4.heap.size]? = _) := blk_below G4.out b
  replace I4 : Hid (VIn w8 _ _) := I4.out.below b
  replace G5 : Hid (w8.heap[w5.heap.size]? = _) := blk_below G5.out b
  replace I5 : Hid (VIn w8 _ _) := I5.out.below b
  replace HB : Hid (Below _ _ w8) := below_step HB.out b
  clear b
  clear p10 p11 p12 p13 p14 l1 p20 p21 p22 p23 p24 l2 p30 p31 p32 p33 p34 l3 p40 p41 p42 p43 p44 l4 p50 p51 p52 p53 p54 l5
  obtain ⟨p10, p11, p12, p13, p14⟩ := box5 G1.out (below_refl _)
  have l1 := blk_lt G1.out
  obtain ⟨p20, p21, p22, p23, p24⟩ := box5 G2.out (below_refl _)
  have l2 := blk_lt G2.out
  obtain ⟨p30, p31, p32, p33, p34⟩ := box5 G3.out (below_refl _)
  have l3 := blk_lt G3.out
  obtain ⟨p40, p41, p42, p43, p44⟩ := box5 G4.out (below_refl _)
  have l4 := blk_lt G4.out
  obtain ⟨p50, p51, p52, p53, p54⟩ := box5 G5.out (below_refl _)
  have l5 := blk_lt G5.out
  obtain ⟨K1, hK1⟩ : ∃ P : Prop, P = Hid ((X1 = false ∧ X4 = true) ∨ (X1 = true ∧ X2 = false) ∨ (X1 = true ∧ X2 = true ∧ X3 = true)) := ⟨_, rfl⟩
  clear hK1 K1
  rcases KEY.out with ⟨k1, k4⟩ | ⟨k1, k2⟩ | ⟨k1, k2, k3⟩
  · clear KEY
    subst k1 k4
    go_wp2_with (go_at_call 7; fail)
    refine (vawake_any _ (by exact HEnv.out.below HB.out)).mono ?_
    rintro e w9 ⟨rfl, b⟩
    replace G1 : Hid (w9.heap[w.heap.size]? = _) := blk_below G1.out b
    replace I1 : Hid (VIn w9 _ _) := I1.out.below b
    replace G2 : Hid (w9.heap[w.heap.size + 1]? = _) := blk_below G2.out b
    replace I2 : Hid (VIn w9 _ _) := I2.out.below b
    replace G3 : Hid (w9.heap[w.heap.size + 1 + 1]? = _) := blk_below G3.out b
    replace I3 : Hid (VIn w9 _ _) := I3.out.below b
    replace G4 : Hid (w9.heap[w4.heap.size]? = _) := blk_below G4.out b
    replace I4 : Hid (VIn w9 _ _) := I4.out.below b
    replace G5 : Hid (w9.heap[w5.heap.size]? = _) := blk_below G5.out b
    replace I5 : Hid (VIn w9 _ _) := I5.out.below b
    replace HB : Hid (Below _ _ w9) := below_step HB.out b
    clear b
    clear p10 p11 p12 p13 p14 l1 p20 p21 p22 p23 p24 l2 p30 p31 p32 p33 p34 l3 p40 p41 p42 p43 p44 l4 p50 p51 p52 p53 p54 l5
    obtain ⟨p10, p11, p12, p13, p14⟩ := box5 G1.out (below_refl _)
    have l1 := blk_lt G1.out
    obtain ⟨p20, p21, p22, p23, p24⟩ := box5 G2.out (below_refl _)
    have l2 := blk_lt G2.out
    obtain ⟨p30, p31, p32, p33, p34⟩ := box5 G3.out (below_refl _)
    have l3 := blk_lt G3.out
    obtain ⟨p40, p41, p42, p43, p44⟩ := box5 G4.out (below_refl _)
    have l4 := blk_lt G4.out
    obtain ⟨p50, p51, p52, p53, p54⟩ := box5 G5.out (below_refl _)
    have l5 := blk_lt G5.out
    go_wp2
    go_ret
    exact ⟨rfl, HB.out⟩
  · clear KEY
    subst k1 k2
    cases X4
    · go_wp2_with (go_at_call 7; fail)
      refine (vawake_any _ (by exact HEnv.out.below HB.out)).mono ?_
      rintro e w9 ⟨rfl, b⟩
      replace G1 : Hid (w9.heap[w.heap.size]? = _) := blk_below G1.out b
      replace I1 : Hid (VIn w9 _ _) := I1.out.below b
      replace G2 : Hid (w9.heap[w.heap.size + 1]? = _) := blk_below G2.out b
      replace I2 : Hid (VIn w9 _ _) := I2.out.below b
      replace G3 : Hid (w9.heap[w.heap.size + 1 + 1]? = _) := blk_below G3.out b
      replace I3 : Hid (VIn w9 _ _) := I3.out.below b
      replace G4 : Hid (w9.heap[w4.heap.size]? = _) := blk_below G4.out b
      replace I4 : Hid (VIn w9 _ _) := I4.out.below b
      replace G5 : Hid (w9.heap[w5.heap.size]? = _) := blk_below G5.out b
      replace I5 : Hid (VIn w9 _ _) := I5.out.below b
      replace HB : Hid (Below _ _ w9) := below_step HB.out b
      clear b
      clear p10 p11 p12 p13 p14 l1 p20 p21 p22 p23 p24 l2 p30 p31 p32 p33 p34 l3 p40 p41 p42 p43 p44 l4 p50 p51 p52 p53 p54 l5
      obtain ⟨p10, p11, p12, p13, p14⟩ := box5 G1.out (below_refl _)
      have l1 := blk_lt G1.out
      obtain ⟨p20, p21, p22, p23, p24⟩ := box5 G2.out (below_refl _)
      have l2 := blk_lt G2.out
      obtain ⟨p30, p31, p32, p33, p34⟩ := box5 G3.out (below_refl _)
      have l3 := blk_lt G3.out
      obtain ⟨p40, p41, p42, p43, p44⟩ := box5 G4.out (below_refl _)
      have l4 := blk_lt G4.out
      obtain ⟨p50, p51, p52, p53, p54⟩ := box5 G5.out (below_refl _)
      have l5 := blk_lt G5.out
      go_wp2
      go_ret
      exact ⟨rfl, HB.out⟩
    · go_wp2_with (go_at_call 13; fail)
      refine (vsame_yes _ _ _ V1 V2 (by exact I1.out) (by exact I2.out) M1.out M2.out F2.out.symm (by first | exact KS.out | exact KS.out trivial trivial | exact KS.out trivial | exact KS.out rfl rfl)).mono ?_
      rintro e w9 ⟨rfl, b⟩
      replace G1 : Hid (w9.heap[w.heap.size]? = _) := blk_below G1.out b
      replace I1 : Hid (VIn w9 _ _) := I1.out.below b
      replace G2 : Hid (w9.heap[w.heap.size + 1]? = _) := blk_below G2.out b
      replace I2 : Hid (VIn w9 _ _) := I2.out.below b
      replace G3 : Hid (w9.heap[w.heap.size + 1 + 1]? = _) := blk_below G3.out b
      replace I3 : Hid (VIn w9 _ _) := I3.out.below b
      replace G4 : Hid (w9.heap[w4.heap.size]? = _) := blk_below G4.out b
      replace I4 : Hid (VIn w9 _ _) := I4.out.below b
      replace G5 : Hid (w9.heap[w5.heap.size]? = _) := blk_below G5.out b
      replace I5 : Hid (VIn w9 _ _) := I5.out.below b
      replace HB : Hid (Below _ _ w9) := below_step HB.out b
      clear b
      clear p10 p11 p12 p13 p14 l1 p20 p21 p22 p23 p24 l2 p30 p31 p32 p33 p34 l3 p40 p41 p42 p43 p44 l4 p50 p51 p52 p53 p54 l5
      obtain ⟨p10, p11, p12, p13, p14⟩ := box5 G1.out (below_refl _)
      have l1 := blk_lt G1.out
      obtain ⟨p20, p21, p22, p23, p24⟩ := box5 G2.out (below_refl _)
      have l2 := blk_lt G2.out
      obtain ⟨p30, p31, p32, p33, p34⟩ := box5 G3.out (below_refl _)
      have l3 := blk_lt G3.out
      obtain ⟨p40, p41, p42, p43, p44⟩ := box5 G4.out (below_refl _)
      have l4 := blk_lt G4.out
      obtain ⟨p50, p51, p52, p53, p54⟩ := box5 G5.out (below_refl _)
      have l5 := blk_lt G5.out
      go_wp2_with (go_at_call 7; fail)
      refine (vawake_any _ (by exact HEnv.out.below HB.out)).mono ?_
      rintro e w10 ⟨rfl, b⟩
      replace G1 : Hid (w10.heap[w.heap.size]? = _) := blk_below G1.out b
      replace I1 : Hid (VIn w10 _ _) := I1.out.below b
      replace G2 : Hid (w10.heap[w.heap.size + 1]? = _) := blk_below G2.out b
      replace I2 : Hid (VIn w10 _ _) := I2.out.below b
      replace G3 : Hid (w10.heap[w.heap.size + 1 + 1]? = _) := blk_below G3.out b
      replace I3 : Hid (VIn w10 _ _) := I3.out.below b
      replace G4 : Hid (w10.heap[w4.heap.size]? = _) := blk_below G4.out b
      replace I4 : Hid (VIn w10 _ _) := I4.out.below b
      replace G5 : Hid (w10.heap[w5.heap.size]? = _) := blk_below G5.out b
      replace I5 : Hid (VIn w10 _ _) := I5.out.below b
      replace HB : Hid (Below _ _ w10) := below_step HB.out b
      clear b
      clear p10 p11 p12 p13 p14 l1 p20 p21 p22 p23 p24 l2 p30 p31 p32 p33 p34 l3 p40 p41 p42 p43 p44 l4 p50 p51 p52 p53 p54 l5
      obtain ⟨p10, p11, p12, p13, p14⟩ := box5 G1.out (below_refl _)
      have l1 := blk_lt G1.out
      obtain ⟨p20, p21, p22, p23, p24⟩ := box5 G2.out (below_refl _)
      have l2 := blk_lt G2.out
      obtain ⟨p30, p31, p32, p33, p34⟩ := box5 G3.out (below_refl _)
      have l3 := blk_lt G3.out
      obtain ⟨p40, p41, p42, p43, p44⟩ := box5 G4.out (below_refl _)
      have l4 := blk_lt G4.out
      obtain ⟨p50, p51, p52, p53, p54⟩ := box5 G5.out (below_refl _)
      have l5 := blk_lt G5.out
      go_wp2
      go_ret
      exact ⟨rfl, HB.out⟩
  · clear KEY
    subst k1 k2 k3
    cases X4
    · go_wp2_with (go_at_call 7; fail)
      refine (vawake_any _ (by exact HEnv.out.below HB.out)).mono ?_
      rintro e w9 ⟨rfl, b⟩
      replace G1 : Hid (w9.heap[w.heap.size]? = _) := blk_below G1.out b
      replace I1 : Hid (VIn w9 _ _) := I1.out.below b
      replace G2 : Hid (w9.heap[w.heap.size + 1]? = _) := blk_below G2.out b
      replace I2 : Hid (VIn w9 _ _) := I2.out.below b
      replace G3 : Hid (w9.heap[w.heap.size + 1 + 1]? = _) := blk_below G3.out b
      replace I3 : Hid (VIn w9 _ _) := I3.out.below b
      replace G4 : Hid (w9.heap[w4.heap.size]? = _) := blk_below G4.out b
      replace I4 : Hid (VIn w9 _ _) := I4.out.below b
      replace G5 : Hid (w9.heap[w5.heap.size]? = _) := blk_below G5.out b
      replace I5 : Hid (VIn w9 _ _) := I5.out.below b
      replace HB : Hid (Below _ _ w9) := below_step HB.out b
      clear b
      clear p10 p11 p12 p13 p14 l1 p20 p21 p22 p23 p24 l2 p30 p31 p32 p33 p34 l3 p40 p41 p42 p43 p44 l4 p50 p51 p52 p53 p54 l5
      obtain ⟨p10, p11, p12, p13, p14⟩ := box5 G1.out (below_refl _)
      have l1 := blk_lt G1.out
      obtain ⟨p20, p21, p22, p23, p24⟩ := box5 G2.out (below_refl _)
      have l2 := blk_lt G2.out
      obtain ⟨p30, p31, p32, p33, p34⟩ := box5 G3.out (below_refl _)
      have l3 := blk_lt G3.out
      obtain ⟨p40, p41, p42, p43, p44⟩ := box5 G4.out (below_refl _)
      have l4 := blk_lt G4.out
      obtain ⟨p50, p51, p52, p53, p54⟩ := box5 G5.out (below_refl _)
      have l5 := blk_lt G5.out
      go_wp2
      go_ret
      exact ⟨rfl, HB.out⟩
    · go_wp2_with (go_at_call 13; fail)
      refine (vsame_yes _ _ _ V1 V2 (by exact I1.out) (by exact I2.out) M1.out M2.out F2.out.symm (by first | exact KS.out | exact KS.out trivial trivial | exact KS.out trivial | exact KS.out rfl rfl)).mono ?_
      rintro e w9 ⟨rfl, b⟩
      replace G1 : Hid (w9.heap[w.heap.size]? = _) := blk_below G1.out b
      replace I1 : Hid (VIn w9 _ _) := I1.out.below b
      replace G2 : Hid (w9.heap[w.heap.size + 1]? = _) := blk_below G2.out b
      replace I2 : Hid (VIn w9 _ _) := I2.out.below b
      replace G3 : Hid (w9.heap[w.heap.size + 1 + 1]? = _) := blk_below G3.out b
      replace I3 : Hid (VIn w9 _ _) := I3.out.below b
      replace G4 : Hid (w9.heap[w4.heap.size]? = _) := blk_below G4.out b
      replace I4 : Hid (VIn w9 _ _) := I4.out.below b
      replace G5 : Hid (w9.heap[w5.heap.size]? = _) := blk_below G5.out b
      replace I5 : Hid (VIn w9 _ _) := I5.out.below b
      replace HB : Hid (Below _ _ w9) := below_step HB.out b
      clear b
      clear p10 p11 p12 p13 p14 l1 p20 p21 p22 p23 p24 l2 p30 p31 p32 p33 p34 l3 p40 p41 p42 p43 p44 l4 p50 p51 p52 p53 p54 l5
      obtain ⟨p10, p11, p12, p13, p14⟩ := box5 G1.out (below_refl _)
      have l1 := blk_lt G1.out
      obtain ⟨p20, p21, p22, p23, p24⟩ := box5 G2.out (below_refl _)
      have l2 := blk_lt G2.out
      obtain ⟨p30, p31, p32, p33, p34⟩ := box5 G3.out (below_refl _)
      have l3 := blk_lt G3.out
      obtain ⟨p40, p41, p42, p43, p44⟩ := box5 G4.out (below_refl _)
      have l4 := blk_lt G4.out
      obtain ⟨p50, p51, p52, p53, p54⟩ := box5 G5.out (below_refl _)
      have l5 := blk_lt G5.out
      go_wp2_with (go_at_call 7; fail)
      refine (vawake_any _ (by exact HEnv.out.below HB.out)).mono ?_
      rintro e w10 ⟨rfl, b⟩
      replace G1 : Hid (w10.heap[w.heap.size]? = _) := blk_below G1.out b
      replace I1 : Hid (VIn w10 _ _) := I1.out.below b
      replace G2 : Hid (w10.heap[w.heap.size + 1]? = _) := blk_below G2.out b
      replace I2 : Hid (VIn w10 _ _) := I2.out.below b
      replace G3 : Hid (w10.heap[w.heap.size + 1 + 1]? = _) := blk_below G3.out b
      replace I3 : Hid (VIn w10 _ _) := I3.out.below b
      replace G4 : Hid (w10.heap[w4.heap.size]? = _) := blk_below G4.out b
      replace I4 : Hid (VIn w10 _ _) := I4.out.below b
      replace G5 : Hid (w10.heap[w5.heap.size]? = _) := blk_below G5.out b
      replace I5 : Hid (VIn w10 _ _) := I5.out.below b
      replace HB : Hid (Below _ _ w10) := below_step HB.out b
      clear b
      clear p10 p11 p12 p13 p14 l1 p20 p21 p22 p23 p24 l2 p30 p31 p32 p33 p34 l3 p40 p41 p42 p43 p44 l4 p50 p51 p52 p53 p54 l5
      obtain ⟨p10, p11, p12, p13, p14⟩ := box5 G1.out (below_refl _)
      have l1 := blk_lt G1.out
      obtain ⟨p20, p21, p22, p23, p24⟩ := box5 G2.out (below_refl _)
      have l2 := blk_lt G2.out
      obtain ⟨p30, p31, p32, p33, p34⟩ := box5 G3.out (below_refl _)
      have l3 := blk_lt G3.out
      obtain ⟨p40, p41, p42, p43, p44⟩ := box5 G4.out (below_refl _)
      have l4 := blk_lt G4.out
      obtain ⟨p50, p51, p52, p53, p54⟩ := box5 G5.out (below_refl _)
      have l5 := blk_lt G5.out
      go_wp2
      go_ret
      exact ⟨rfl, HB.out⟩
theorem better_all (s1 : Int) (i1 : Bool) (a1 : Option Addr) (n1 c1 : Nat) (L1 : Nat → Nat) (l1 : Int) (x1 : Nat) (s2 : Int) (i2 : Bool) (a2 : Option Addr) (n2 c2 : Nat) (L2 : Nat → Nat) (l2 : Int) (x2 : Nat) (s3 : Int) (i3 : Bool) (a3 : Option Addr) (n3 c3 : Nat) (L3 : Nat → Nat) (l3 : Int) (x3 : Nat) (w : World) (henv : Env w)
    (hR1 : Rd w a1 n1 c1 (u32s L1)) (hL1 : ∀ j, L1 j < 4294967296) (hx1 : x1 < 18446744073709551616) (hl1 : -9223372036854775808 ≤ l1 ∧ l1 ≤ 9223372036854775807) (hs1 : -9223372036854775808 ≤ s1 ∧ s1 ≤ 9223372036854775807)
    (hR2 : Rd w a2 n2 c2 (u32s L2)) (hL2 : ∀ j, L2 j < 4294967296) (hx2 : x2 < 18446744073709551616) (hl2 : -9223372036854775808 ≤ l2 ∧ l2 ≤ 9223372036854775807) (hs2 : -9223372036854775808 ≤ s2 ∧ s2 ≤ 9223372036854775807)
    (hR3 : Rd w a3 n3 c3 (u32s L3)) (hL3 : ∀ j, L3 j < 4294967296) (hx3 : x3 < 18446744073709551616) (hl3 : -9223372036854775808 ≤ l3 ∧ l3 ≤ 9223372036854775807) (hs3 : -9223372036854775808 ≤ s3 ∧ s3 ≤ 9223372036854775807) :
    Calls Tryd.prog 4 #[.agg #[.int .i64 s1, .bool i1, .slice a1 n1 c1, .int .i64 l1, .float .f64 x1], .agg #[.int .i64 s2, .bool i2, .slice a2 n2 c2, .int .i64 l2, .float .f64 x2], .agg #[.int .i64 s3, .bool i3, .slice a3 n3 c3, .int .i64 l3, .float .f64 x3]] w fun e w' => e = .returned (.bool true) ∧ Below w.heap.size w w' := by
  by_cases hn : n1 ≤ 60 ∧ n2 ≤ 60 ∧ n3 ≤ 60
  · have h1 : VIn w (.agg #[.int .i64 s1, .bool i1, .slice a1 n1 c1, .int .i64 l1, .float .f64 x1]) ⟨s1, i1, n1, L1, l1, x1⟩ := ⟨a1, c1, rfl, hR1, hL1, by show n1 ≤ 10000; omega, hx1, hl1, hs1⟩
    have h2 : VIn w (.agg #[.int .i64 s2, .bool i2, .slice a2 n2 c2, .int .i64 l2, .float .f64 x2]) ⟨s2, i2, n2, L2, l2, x2⟩ := ⟨a2, c2, rfl, hR2, hL2, by show n2 ≤ 10000; omega, hx2, hl2, hs2⟩
    have h3 : VIn w (.agg #[.int .i64 s3, .bool i3, .slice a3 n3 c3, .int .i64 l3, .float .f64 x3]) ⟨s3, i3, n3, L3, l3, x3⟩ := ⟨a3, c3, rfl, hR3, hL3, by show n3 ≤ 10000; omega, hx3, hl3, hs3⟩
    revert h1 h2 h3
    generalize eV1 : (⟨s1, i1, n1, L1, l1, x1⟩ : Vl) = V1
    generalize eV2 : (⟨s2, i2, n2, L2, l2, x2⟩ : Vl) = V2
    generalize eV3 : (⟨s3, i3, n3, L3, l3, x3⟩ : Vl) = V3
    have hm : V1.n ≤ 60 ∧ V2.n ≤ 60 ∧ V3.n ≤ 60 := by subst eV1 eV2 eV3; exact hn
    intro h1 h2 h3
    by_cases e12 : errV V1 V2 = 0
    · by_cases e23 : errV V2 V3 = 0
      · obtain ⟨m1, m2, f12⟩ := err_ok e12
        obtain ⟨-, m3, f23⟩ := err_ok e23
        have o1 := okP_of m1
        have o2 : okP V1.s (denV V2) := by rw [f12]; exact okP_of m2
        have o3 : okP V1.s (denV V3) := by rw [f12, f23]; exact okP_of m3
        have k6 : bet V1.s (padd V1.s (denV V1) (denV V2)) (denV V1) = true := (bet_sle _ _ _ (ok_padd o1 o2) o1).2 (sle_sum o1 o2)
        have key : (bet V1.s (denV V1) (denV V2) = false ∧ bet V1.s (denV V2) (denV V1) = true) ∨ (bet V1.s (denV V1) (denV V2) = true ∧ bet V1.s (denV V2) (denV V3) = false) ∨ (bet V1.s (denV V1) (denV V2) = true ∧ bet V1.s (denV V2) (denV V3) = true ∧ bet V1.s (denV V1) (denV V3) = true) := by
          cases k1 : bet V1.s (denV V1) (denV V2)
          · refine Or.inl ⟨rfl, (bet_sle _ _ _ o2 o1).2 ?_⟩
            rcases sle_total V1.s (denV V1) (denV V2) with h | h
            · rw [(bet_sle _ _ _ o1 o2).2 h] at k1; cases k1
            · exact h
          · cases k2 : bet V1.s (denV V2) (denV V3)
            · exact Or.inr (Or.inl ⟨rfl, rfl⟩)
            · exact Or.inr (Or.inr ⟨rfl, rfl, (bet_sle _ _ _ o1 o3).2 (sle_trans ((bet_sle _ _ _ o1 o2).1 k1) ((bet_sle _ _ _ o2 o3).1 k2))⟩)
        have ks : bet V1.s (denV V1) (denV V2) = true → bet V1.s (denV V2) (denV V1) = true → denV V1 = denV V2 := fun k1 k2 => sle_anti ((bet_sle _ _ _ o1 o2).1 k1) ((bet_sle _ _ _ o2 o1).1 k2)
        by_cases hs : V1.s = 1
        · exact bet_one w _ _ _ V1 V2 V3 h1 h2 h3 henv hm _ _ _ _ _ m1 m2 m3 f12.symm (f12.trans f23).symm hs rfl rfl rfl rfl rfl k6 key ks
        · exact bet_ok w _ _ _ V1 V2 V3 h1 h2 h3 henv hm _ _ _ _ _ m1 m2 m3 f12.symm (f12.trans f23).symm (by simpa using hs) rfl rfl rfl rfl rfl ((bet_sle _ _ _ o1 (ok_pmul o1 o2)).2 (sle_prod o1 o2 hs)) k6 key ks
      · exact bet_err2 w _ _ _ V1 V2 V3 h1 h2 h3 henv hm _ _ e12 rfl rfl (by simpa using e23)
    · exact bet_err1 w _ _ _ V1 V2 V3 h1 h2 h3 henv hm _ _ _ rfl rfl rfl e12
  · exact bet_big w ⟨s1, i1, n1, L1, l1, x1⟩ ⟨s2, i2, n2, L2, l2, x2⟩ ⟨s3, i3, n3, L3, l3, x3⟩ a1 a2 a3 c1 c2 c3 henv hn
end Go.Proofs.YtjdbapkmaggllaaDoor
