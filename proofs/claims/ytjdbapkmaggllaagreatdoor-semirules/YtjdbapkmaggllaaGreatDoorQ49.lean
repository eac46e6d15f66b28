/- The walk of SemiRules. -/
import Derived.Test.YtjdbapkmaggllaaGreatDoorQ48
namespace Go.Proofs.YtjdbapkmaggllaaGreatDoor
open Go.RowKit Fo
set_option maxRecDepth 100000

set_option maxHeartbeats 8000000 in
theorem rul_big (w : World) (V1 V2 V3 : Vl) (a1 a2 a3 : Option Addr) (c1 c2 c3 : Nat)  (henv : Env w) (hbig : ¬ (V1.n ≤ 60 ∧ V2.n ≤ 60 ∧ V3.n ≤ 60)) : Calls Tryz.prog 4 #[.agg #[.int .i64 V1.s, .bool V1.i, .slice a1 V1.n c1, .int .i64 V1.l, .float .f64 V1.x], .agg #[.int .i64 V2.s, .bool V2.i, .slice a2 V2.n c2, .int .i64 V2.l, .float .f64 V2.x], .agg #[.int .i64 V3.s, .bool V3.i, .slice a3 V3.n c3, .int .i64 V3.l, .float .f64 V3.x]] w fun e w' => e = .returned (.bool true) ∧ Below w.heap.size w w' := by
  have HEnv : Hid (Env w) := henv
  have HBig : Hid (¬ (V1.n ≤ 60 ∧ V2.n ≤ 60 ∧ V3.n ≤ 60)) := hbig
  clear henv hbig
  obtain ⟨W0, hW0⟩ : ∃ W0, W0 = ((((w.alloc (.cells #[.int .i64 V1.s, .bool V1.i, .slice a1 V1.n c1, .int .i64 V1.l, .float .f64 V1.x] 27)).alloc (.cells #[.int .i64 V2.s, .bool V2.i, .slice a2 V2.n c2, .int .i64 V2.l, .float .f64 V2.x] 27)).alloc (.cells #[.int .i64 V3.s, .bool V3.i, .slice a3 V3.n c3, .int .i64 V3.l, .float .f64 V3.x] 27)).alloc (.cells #[.int .i64 V1.s, .bool V1.i, .slice a1 V1.n c1, .int .i64 V1.l, .float .f64 V1.x, .int .i64 V2.s, .bool V2.i, .slice a2 V2.n c2, .int .i64 V2.l, .float .f64 V2.x, .int .i64 V3.s, .bool V3.i, .slice a3 V3.n c3, .int .i64 V3.l, .float .f64 V3.x] 27)) := ⟨_, rfl⟩
  have HB0 : Hid (Below w.heap.size w W0) := by rw [hW0]; exact (below3 w _ _ _).alloc (below3 w _ _ _).size _
  have hg : W0.heap[w.heap.size + 1 + 1 + 1]? = some (.cells #[.int .i64 V1.s, .bool V1.i, .slice a1 V1.n c1, .int .i64 V1.l, .float .f64 V1.x, .int .i64 V2.s, .bool V2.i, .slice a2 V2.n c2, .int .i64 V2.l, .float .f64 V2.x, .int .i64 V3.s, .bool V3.i, .slice a3 V3.n c3, .int .i64 V3.l, .float .f64 V3.x] 27) := by rw [hW0]; exact heap_at4_3 w _ _ _ _
  have cS : Calls Tryz.prog 6 #[.slice (some ⟨w.heap.size + 1 + 1 + 1, 0, none⟩) 3 3] W0 fun e w' => e = .returned (.bool false) ∧ w' = W0 := by
    refine vsmall_any (w.heap.size + 1 + 1 + 1) 3 (fun j => if j = 0 then a1 else if j = 1 then a2 else a3) (fun j => if j = 0 then V1.n else if j = 1 then V2.n else V3.n) (fun j => if j = 0 then c1 else if j = 1 then c2 else c3) W0 (by decide) (by decide) false (fun j hj => ?_) (fun h => ?_) (fun j hj h => ?_)
    · rw [cell_of_row W0 _ _ _ _ _ hg]
      match j, hj with
      | 0, _ => rfl
      | 1, _ => rfl
      | 2, _ => rfl
    · exfalso; exact HBig.out ⟨h 0 (by decide), h 1 (by decide), h 2 (by decide)⟩
    · rfl
  clear hg
  go_enter Tryz.func4, Tryz.ntmps4
  go_wp2_with (go_at_call 6; fail)
  rw [← hW0]
  clear hW0
  refine cS.mono ?_
  rintro e w' ⟨rfl, hw⟩
  replace hw := hw.symm
  subst hw
  clear cS
  go_wp2_with (go_at_call 7; refine (vawake_any _ (by exact HEnv.out.below HB0.out)).mono ?_; rintro e w1 ⟨rfl, b⟩)
  go_ret
  exact ⟨rfl, below_step HB0.out b⟩
set_option maxHeartbeats 32000000 in
theorem rul_a (w : World) (v1 v2 v3 : Value) (V1 V2 V3 : Vl) (h1 : VIn w v1 V1) (h2 : VIn w v2 V2) (h3 : VIn w v3 V3) (henv : Env w) (hsm : V1.n ≤ 60 ∧ V2.n ≤ 60 ∧ V3.n ≤ 60) (r : Int) (m1 : mayV V1 = r) (hn : ¬ r = 0) : Calls Tryz.prog 4 #[v1, v2, v3] w fun e w' => e = .returned (.bool true) ∧ Below w.heap.size w w' := by
  have hsf := st_flo
  have HEnv : Hid (Env w) := henv
  clear henv
  have SM : Hid (V1.n ≤ 60 ∧ V2.n ≤ 60 ∧ V3.n ≤ 60) := hsm
  have SN : Hid (V1.n ≤ 60 ∧ V2.n ≤ 60 ∧ V3.n ≤ 60) := hsm
  clear hsm
  have M1 : Hid (mayV V1 = r) := m1
  clear m1
  have H1' := h1
  obtain ⟨a1, c1, rfl, hr1, hL1, hn1, hx1, hl1, hs1⟩ := h1
  have H2' := h2
  obtain ⟨a2, c2, rfl, hr2, hL2, hn2, hx2, hl2, hs2⟩ := h2
  have H3' := h3
  obtain ⟨a3, c3, rfl, hr3, hL3, hn3, hx3, hl3, hs3⟩ := h3
  obtain ⟨W0, hW0⟩ : ∃ W0, W0 = ((((w.alloc (.cells #[.int .i64 V1.s, .bool V1.i, .slice a1 V1.n c1, .int .i64 V1.l, .float .f64 V1.x] 27)).alloc (.cells #[.int .i64 V2.s, .bool V2.i, .slice a2 V2.n c2, .int .i64 V2.l, .float .f64 V2.x] 27)).alloc (.cells #[.int .i64 V3.s, .bool V3.i, .slice a3 V3.n c3, .int .i64 V3.l, .float .f64 V3.x] 27)).alloc (.cells #[.int .i64 V1.s, .bool V1.i, .slice a1 V1.n c1, .int .i64 V1.l, .float .f64 V1.x, .int .i64 V2.s, .bool V2.i, .slice a2 V2.n c2, .int .i64 V2.l, .float .f64 V2.x, .int .i64 V3.s, .bool V3.i, .slice a3 V3.n c3, .int .i64 V3.l, .float .f64 V3.x] 27)) := ⟨_, rfl⟩
  have HB0 : Hid (Below w.heap.size w W0) := by rw [hW0]; exact (below3 w _ _ _).alloc (below3 w _ _ _).size _
  have Hg1 : Hid (W0.heap[w.heap.size]? = some (.cells #[.int .i64 V1.s, .bool V1.i, .slice a1 V1.n c1, .int .i64 V1.l, .float .f64 V1.x] 27)) := by
    show W0.heap[w.heap.size]? = _
    rw [hW0]; exact heap_at4_0 w _ _ _ _
  have Hg2 : Hid (W0.heap[w.heap.size + 1]? = some (.cells #[.int .i64 V2.s, .bool V2.i, .slice a2 V2.n c2, .int .i64 V2.l, .float .f64 V2.x] 27)) := by
    show W0.heap[w.heap.size + 1]? = _
    rw [hW0]; exact heap_at4_1 w _ _ _ _
  have Hg3 : Hid (W0.heap[w.heap.size + 1 + 1]? = some (.cells #[.int .i64 V3.s, .bool V3.i, .slice a3 V3.n c3, .int .i64 V3.l, .float .f64 V3.x] 27)) := by
    show W0.heap[w.heap.size + 1 + 1]? = _
    rw [hW0]; exact heap_at4_2 w _ _ _ _
  have Hg4 : Hid (W0.heap[w.heap.size + 1 + 1 + 1]? = some (.cells #[.int .i64 V1.s, .bool V1.i, .slice a1 V1.n c1, .int .i64 V1.l, .float .f64 V1.x, .int .i64 V2.s, .bool V2.i, .slice a2 V2.n c2, .int .i64 V2.l, .float .f64 V2.x, .int .i64 V3.s, .bool V3.i, .slice a3 V3.n c3, .int .i64 V3.l, .float .f64 V3.x] 27)) := by
    show W0.heap[w.heap.size + 1 + 1 + 1]? = _
    rw [hW0]; exact heap_at4_3 w _ _ _ _
  have H1 : Hid (VIn W0 (.agg #[.int .i64 V1.s, .bool V1.i, .slice a1 V1.n c1, .int .i64 V1.l, .float .f64 V1.x]) V1) := H1'.below HB0.out
  have H2 : Hid (VIn W0 (.agg #[.int .i64 V2.s, .bool V2.i, .slice a2 V2.n c2, .int .i64 V2.l, .float .f64 V2.x]) V2) := H2'.below HB0.out
  have H3 : Hid (VIn W0 (.agg #[.int .i64 V3.s, .bool V3.i, .slice a3 V3.n c3, .int .i64 V3.l, .float .f64 V3.x]) V3) := H3'.below HB0.out
  have HW : Below W0.heap.size W0 W0 := below_refl W0
  clear hr1 hL1 hn1 hx1 hl1 hs1 H1' hr2 hL2 hn2 hx2 hl2 hs2 H2' hr3 hL3 hn3 hx3 hl3 hs3 H3'
  obtain ⟨p10, p11, p12, p13, p14⟩ := box5 Hg1.out HW
  obtain ⟨p20, p21, p22, p23, p24⟩ := box5 Hg2.out HW
  obtain ⟨p30, p31, p32, p33, p34⟩ := box5 Hg3.out HW
  have cS : Calls Tryz.prog 6 #[.slice (some ⟨w.heap.size + 1 + 1 + 1, 0, none⟩) 3 3] W0 fun e w' => e = .returned (.bool true) ∧ w' = W0 := by
    refine vsmall_any (w.heap.size + 1 + 1 + 1) 3 (fun j => if j = 0 then a1 else if j = 1 then a2 else a3) (fun j => if j = 0 then V1.n else if j = 1 then V2.n else V3.n) (fun j => if j = 0 then c1 else if j = 1 then c2 else c3) W0 (by decide) (by decide) true (fun j hj => ?_) (fun h => ?_) (fun j hj h => ?_)
    · rw [cell_of_row W0 _ _ _ _ _ Hg4.out]
      match j, hj with
      | 0, _ => rfl
      | 1, _ => rfl
      | 2, _ => rfl
    · rfl
    · exfalso
      revert h
      have := SM.out
      match j, hj with
      | 0, _ => exact fun h => absurd h (by show ¬ 60 < V1.n; omega)
      | 1, _ => exact fun h => absurd h (by show ¬ 60 < V2.n; omega)
      | 2, _ => exact fun h => absurd h (by show ¬ 60 < V3.n; omega)
  have I1 := H1
  have G1 := Hg1
  have I2 := H2
  have G2 := Hg2
  have I3 := H3
  have G3 := Hg3
  have HB := HB0
  clear HW H1 Hg1 p10 p11 p12 p13 p14 H2 Hg2 p20 p21 p22 p23 p24 H3 Hg3 p30 p31 p32 p33 p34 HB0 SM
  go_enter Tryz.func4, Tryz.ntmps4
  go_wp2_with (go_at_call 6; fail)
  rw [← hW0]
  refine cS.mono ?_
  rintro e w' ⟨rfl, hw⟩
  replace hw := hw.symm
  subst hw
  clear cS hW0 Hg4
  obtain ⟨p10, p11, p12, p13, p14⟩ := box5 G1.out (below_refl _)
  have l1 := blk_lt G1.out
  obtain ⟨p20, p21, p22, p23, p24⟩ := box5 G2.out (below_refl _)
  have l2 := blk_lt G2.out
  obtain ⟨p30, p31, p32, p33, p34⟩ := box5 G3.out (below_refl _)
  have l3 := blk_lt G3.out
  go_wp2_with (go_at_call 21; fail)
  refine (vmay_at _ _ V1 r (by exact I1.out) M1.out).mono ?_
  rintro e w1 ⟨rfl, b⟩
  replace G1 : Hid (w1.heap[w.heap.size]? = _) := blk_below G1.out b
  replace I1 : Hid (VIn w1 _ _) := I1.out.below b
  replace G2 : Hid (w1.heap[w.heap.size + 1]? = _) := blk_below G2.out b
  replace I2 : Hid (VIn w1 _ _) := I2.out.below b
  replace G3 : Hid (w1.heap[w.heap.size + 1 + 1]? = _) := blk_below G3.out b
  replace I3 : Hid (VIn w1 _ _) := I3.out.below b
  replace HB : Hid (Below _ _ w1) := below_step HB.out b
  clear b
  clear p10 p11 p12 p13 p14 l1 p20 p21 p22 p23 p24 l2 p30 p31 p32 p33 p34 l3
  obtain ⟨p10, p11, p12, p13, p14⟩ := box5 G1.out (below_refl _)
  have l1 := blk_lt G1.out
  obtain ⟨p20, p21, p22, p23, p24⟩ := box5 G2.out (below_refl _)
  have l2 := blk_lt G2.out
  obtain ⟨p30, p31, p32, p33, p34⟩ := box5 G3.out (below_refl _)
  have l3 := blk_lt G3.out
  go_wp2_with (go_at_call 7; fail)
  refine (vawake_any _ (by exact HEnv.out.below HB.out)).mono ?_
  rintro e w2 ⟨rfl, b⟩
  replace G1 : Hid (w2.heap[w.heap.size]? = _) := blk_below G1.out b
  replace I1 : Hid (VIn w2 _ _) := I1.out.below b
  replace G2 : Hid (w2.heap[w.heap.size + 1]? = _) := blk_below G2.out b
  replace I2 : Hid (VIn w2 _ _) := I2.out.below b
  replace G3 : Hid (w2.heap[w.heap.size + 1 + 1]? = _) := blk_below G3.out b
  replace I3 : Hid (VIn w2 _ _) := I3.out.below b
  replace HB : Hid (Below _ _ w2) := below_step HB.out b
  clear b
  clear p10 p11 p12 p13 p14 l1 p20 p21 p22 p23 p24 l2 p30 p31 p32 p33 p34 l3
  obtain ⟨p10, p11, p12, p13, p14⟩ := box5 G1.out (below_refl _)
  have l1 := blk_lt G1.out
  obtain ⟨p20, p21, p22, p23, p24⟩ := box5 G2.out (below_refl _)
  have l2 := blk_lt G2.out
  obtain ⟨p30, p31, p32, p33, p34⟩ := box5 G3.out (below_refl _)
  have l3 := blk_lt G3.out
  go_wp2
  go_ret
  exact ⟨rfl, HB.out⟩
set_option maxHeartbeats 32000000 in
theorem rul_b (w : World) (v1 v2 v3 : Value) (V1 V2 V3 : Vl) (h1 : VIn w v1 V1) (h2 : VIn w v2 V2) (h3 : VIn w v3 V3) (henv : Env w) (hsm : V1.n ≤ 60 ∧ V2.n ≤ 60 ∧ V3.n ≤ 60) (r : Int) (m1 : mayV V1 = 0) (m2 : mayV V2 = r) (hn : ¬ r = 0) : Calls Tryz.prog 4 #[v1, v2, v3] w fun e w' => e = .returned (.bool true) ∧ Below w.heap.size w w' := by
  have hsf := st_flo
  have HEnv : Hid (Env w) := henv
  clear henv
  have SM : Hid (V1.n ≤ 60 ∧ V2.n ≤ 60 ∧ V3.n ≤ 60) := hsm
  have SN : Hid (V1.n ≤ 60 ∧ V2.n ≤ 60 ∧ V3.n ≤ 60) := hsm
  clear hsm
  have M1 : Hid (mayV V1 = 0) := m1
  have M2 : Hid (mayV V2 = r) := m2
  clear m1 m2
  have H1' := h1
  obtain ⟨a1, c1, rfl, hr1, hL1, hn1, hx1, hl1, hs1⟩ := h1
  have H2' := h2
  obtain ⟨a2, c2, rfl, hr2, hL2, hn2, hx2, hl2, hs2⟩ := h2
  have H3' := h3
  obtain ⟨a3, c3, rfl, hr3, hL3, hn3, hx3, hl3, hs3⟩ := h3
  obtain ⟨W0, hW0⟩ : ∃ W0, W0 = ((((w.alloc (.cells #[.int .i64 V1.s, .bool V1.i, .slice a1 V1.n c1, .int .i64 V1.l, .float .f64 V1.x] 27)).alloc (.cells #[.int .i64 V2.s, .bool V2.i, .slice a2 V2.n c2, .int .i64 V2.l, .float .f64 V2.x] 27)).alloc (.cells #[.int .i64 V3.s, .bool V3.i, .slice a3 V3.n c3, .int .i64 V3.l, .float .f64 V3.x] 27)).alloc (.cells #[.int .i64 V1.s, .bool V1.i, .slice a1 V1.n c1, .int .i64 V1.l, .float .f64 V1.x, .int .i64 V2.s, .bool V2.i, .slice a2 V2.n c2, .int .i64 V2.l, .float .f64 V2.x, .int .i64 V3.s, .bool V3.i, .slice a3 V3.n c3, .int .i64 V3.l, .float .f64 V3.x] 27)) := ⟨_, rfl⟩
  have HB0 : Hid (Below w.heap.size w W0) := by rw [hW0]; exact (below3 w _ _ _).alloc (below3 w _ _ _).size _
  have Hg1 : Hid (W0.heap[w.heap.size]? = some (.cells #[.int .i64 V1.s, .bool V1.i, .slice a1 V1.n c1, .int .i64 V1.l, .float .f64 V1.x] 27)) := by
    show W0.heap[w.heap.size]? = _
    rw [hW0]; exact heap_at4_0 w _ _ _ _
  have Hg2 : Hid (W0.heap[w.heap.size + 1]? = some (.cells #[.int .i64 V2.s, .bool V2.i, .slice a2 V2.n c2, .int .i64 V2.l, .float .f64 V2.x] 27)) := by
    show W0.heap[w.heap.size + 1]? = _
    rw [hW0]; exact heap_at4_1 w _ _ _ _
  have Hg3 : Hid (W0.heap[w.heap.size + 1 + 1]? = some (.cells #[.int .i64 V3.s, .bool V3.i, .slice a3 V3.n c3, .int .i64 V3.l, .float .f64 V3.x] 27)) := by
    show W0.heap[w.heap.size + 1 + 1]? = _
    rw [hW0]; exact heap_at4_2 w _ _ _ _
  have Hg4 : Hid (W0.heap[w.heap.size + 1 + 1 + 1]? = some (.cells #[.int .i64 V1.s, .bool V1.i, .slice a1 V1.n c1, .int .i64 V1.l, .float .f64 V1.x, .int .i64 V2.s, .bool V2.i, .slice a2 V2.n c2, .int .i64 V2.l, .float .f64 V2.x, .int .i64 V3.s, .bool V3.i, .slice a3 V3.n c3, .int .i64 V3.l, .float .f64 V3.x] 27)) := by
    show W0.heap[w.heap.size + 1 + 1 + 1]? = _
    rw [hW0]; exact heap_at4_3 w _ _ _ _
  have H1 : Hid (VIn W0 (.agg #[.int .i64 V1.s, .bool V1.i, .slice a1 V1.n c1, .int .i64 V1.l, .float .f64 V1.x]) V1) := H1'.below HB0.out
  have H2 : Hid (VIn W0 (.agg #[.int .i64 V2.s, .bool V2.i, .slice a2 V2.n c2, .int .i64 V2.l, .float .f64 V2.x]) V2) := H2'.below HB0.out
  have H3 : Hid (VIn W0 (.agg #[.int .i64 V3.s, .bool V3.i, .slice a3 V3.n c3, .int .i64 V3.l, .float .f64 V3.x]) V3) := H3'.below HB0.out
  have HW : Below W0.heap.size W0 W0 := below_refl W0
  clear hr1 hL1 hn1 hx1 hl1 hs1 H1' hr2 hL2 hn2 hx2 hl2 hs2 H2' hr3 hL3 hn3 hx3 hl3 hs3 H3'
  obtain ⟨p10, p11, p12, p13, p14⟩ := box5 Hg1.out HW
  obtain ⟨p20, p21, p22, p23, p24⟩ := box5 Hg2.out HW
  obtain ⟨p30, p31, p32, p33, p34⟩ := box5 Hg3.out HW
  have cS : Calls Tryz.prog 6 #[.slice (some ⟨w.heap.size + 1 + 1 + 1, 0, none⟩) 3 3] W0 fun e w' => e = .returned (.bool true) ∧ w' = W0 := by
    refine vsmall_any (w.heap.size + 1 + 1 + 1) 3 (fun j => if j = 0 then a1 else if j = 1 then a2 else a3) (fun j => if j = 0 then V1.n else if j = 1 then V2.n else V3.n) (fun j => if j = 0 then c1 else if j = 1 then c2 else c3) W0 (by decide) (by decide) true (fun j hj => ?_) (fun h => ?_) (fun j hj h => ?_)
    · rw [cell_of_row W0 _ _ _ _ _ Hg4.out]
      match j, hj with
      | 0, _ => rfl
      | 1, _ => rfl
      | 2, _ => rfl
    · rfl
    · exfalso
      revert h
      have := SM.out
      match j, hj with
      | 0, _ => exact fun h => absurd h (by show ¬ 60 < V1.n; omega)
      | 1, _ => exact fun h => absurd h (by show ¬ 60 < V2.n; omega)
      | 2, _ => exact fun h => absurd h (by show ¬ 60 < V3.n; omega)
  have I1 := H1
  have G1 := Hg1
  have I2 := H2
  have G2 := Hg2
  have I3 := H3
  have G3 := Hg3
  have HB := HB0
  clear HW H1 Hg1 p10 p11 p12 p13 p14 H2 Hg2 p20 p21 p22 p23 p24 H3 Hg3 p30 p31 p32 p33 p34 HB0 SM
  go_enter Tryz.func4, Tryz.ntmps4
  go_wp2_with (go_at_call 6; fail)
  rw [← hW0]
  refine cS.mono ?_
  rintro e w' ⟨rfl, hw⟩
  replace hw := hw.symm
  subst hw
  clear cS hW0 Hg4
  obtain ⟨p10, p11, p12, p13, p14⟩ := box5 G1.out (below_refl _)
  have l1 := blk_lt G1.out
  obtain ⟨p20, p21, p22, p23, p24⟩ := box5 G2.out (below_refl _)
  have l2 := blk_lt G2.out
  obtain ⟨p30, p31, p32, p33, p34⟩ := box5 G3.out (below_refl _)
  have l3 := blk_lt G3.out
  go_wp2_with (go_at_call 21; fail)
  refine (vmay_at _ _ V1 0 (by exact I1.out) M1.out).mono ?_
  rintro e w1 ⟨rfl, b⟩
  replace G1 : Hid (w1.heap[w.heap.size]? = _) := blk_below G1.out b
  replace I1 : Hid (VIn w1 _ _) := I1.out.below b
  replace G2 : Hid (w1.heap[w.heap.size + 1]? = _) := blk_below G2.out b
  replace I2 : Hid (VIn w1 _ _) := I2.out.below b
  replace G3 : Hid (w1.heap[w.heap.size + 1 + 1]? = _) := blk_below G3.out b
  replace I3 : Hid (VIn w1 _ _) := I3.out.below b
  replace HB : Hid (Below _ _ w1) := below_step HB.out b
  clear b
  clear p10 p11 p12 p13 p14 l1 p20 p21 p22 p23 p24 l2 p30 p31 p32 p33 p34 l3
  obtain ⟨p10, p11, p12, p13, p14⟩ := box5 G1.out (below_refl _)
  have l1 := blk_lt G1.out
  obtain ⟨p20, p21, p22, p23, p24⟩ := box5 G2.out (below_refl _)
  have l2 := blk_lt G2.out
  obtain ⟨p30, p31, p32, p33, p34⟩ := box5 G3.out (below_refl _)
  have l3 := blk_lt G3.out
  go_wp2_with (go_at_call 21; fail)
  refine (vmay_at _ _ V2 r (by exact I2.out) M2.out).mono ?_
  rintro e w2 ⟨rfl, b⟩
  replace G1 : Hid (w2.heap[w.heap.size]? = _) := blk_below G1.out b
  replace I1 : Hid (VIn w2 _ _) := I1.out.below b
  replace G2 : Hid (w2.heap[w.heap.size + 1]? = _) := blk_below G2.out b
  replace I2 : Hid (VIn w2 _ _) := I2.out.below b
  replace G3 : Hid (w2.heap[w.heap.size + 1 + 1]? = _) := blk_below G3.out b
  replace I3 : Hid (VIn w2 _ _) := I3.out.below b
  replace HB : Hid (Below _ _ w2) := below_step HB.out b
  clear b
  clear p10 p11 p12 p13 p14 l1 p20 p21 p22 p23 p24 l2 p30 p31 p32 p33 p34 l3
  obtain ⟨p10, p11, p12, p13, p14⟩ := box5 G1.out (below_refl _)
  have l1 := blk_lt G1.out
  obtain ⟨p20, p21, p22, p23, p24⟩ := box5 G2.out (below_refl _)
  have l2 := blk_lt G2.out
  obtain ⟨p30, p31, p32, p33, p34⟩ := box5 G3.out (below_refl _)
  have l3 := blk_lt G3.out
  go_wp2_with (go_at_call 7; fail)
  refine (vawake_any _ (by exact HEnv.out.below HB.out)).mono ?_
  rintro e w3 ⟨rfl, b⟩
  replace G1 : Hid (w3.heap[w.heap.size]? = _) := blk_below G1.out b
  replace I1 : Hid (VIn w3 _ _) := I1.out.below b
  replace G2 : Hid (w3.heap[w.heap.size + 1]? = _) := blk_below G2.out b
  replace I2 : Hid (VIn w3 _ _) := I2.out.below b
  replace G3 : Hid (w3.heap[w.heap.size + 1 + 1]? = _) := blk_below G3.out b
  replace I3 : Hid (VIn w3 _ _) := I3.out.below b
  replace HB : Hid (Below _ _ w3) := below_step HB.out b
  clear b
  clear p10 p11 p12 p13 p14 l1 p20 p21 p22 p23 p24 l2 p30 p31 p32 p33 p34 l3
  obtain ⟨p10, p11, p12, p13, p14⟩ := box5 G1.out (below_refl _)
  have l1 := blk_lt G1.out
  obtain ⟨p20, p21, p22, p23, p24⟩ := box5 G2.out (below_refl _)
  have l2 := blk_lt G2.out
  obtain ⟨p30, p31, p32, p33, p34⟩ := box5 G3.out (below_refl _)
  have l3 := blk_lt G3.out
  go_wp2
  go_ret
  exact ⟨rfl, HB.out⟩
set_option maxHeartbeats 32000000 in
theorem rul_c (w : World) (v1 v2 v3 : Value) (V1 V2 V3 : Vl) (h1 : VIn w v1 V1) (h2 : VIn w v2 V2) (h3 : VIn w v3 V3) (henv : Env w) (hsm : V1.n ≤ 60 ∧ V2.n ≤ 60 ∧ V3.n ≤ 60) (r : Int) (m1 : mayV V1 = 0) (m2 : mayV V2 = 0) (m3 : mayV V3 = r) (hn : ¬ r = 0) : Calls Tryz.prog 4 #[v1, v2, v3] w fun e w' => e = .returned (.bool true) ∧ Below w.heap.size w w' := by
  have hsf := st_flo
  have HEnv : Hid (Env w) := henv
  clear henv
  have SM : Hid (V1.n ≤ 60 ∧ V2.n ≤ 60 ∧ V3.n ≤ 60) := hsm
  have SN : Hid (V1.n ≤ 60 ∧ V2.n ≤ 60 ∧ V3.n ≤ 60) := hsm
  clear hsm
  have M1 : Hid (mayV V1 = 0) := m1
  have M2 : Hid (mayV V2 = 0) := m2
  have M3 : Hid (mayV V3 = r) := m3
  clear m1 m2 m3
  have H1' := h1
  obtain ⟨a1, c1, rfl, hr1, hL1, hn1, hx1, hl1, hs1⟩ := h1
  have H2' := h2
  obtain ⟨a2, c2, rfl, hr2, hL2, hn2, hx2, hl2, hs2⟩ := h2
  have H3' := h3
  obtain ⟨a3, c3, rfl, hr3, hL3, hn3, hx3, hl3, hs3⟩ := h3
  obtain ⟨W0, hW0⟩ : ∃ W0, W0 = ((((w.alloc (.cells #[.int .i64 V1.s, .bool V1.i, .slice a1 V1.n c1, .int .i64 V1.l, .float .f64 V1.x] 27)).alloc (.cells #[.int .i64 V2.s, .bool V2.i, .slice a2 V2.n c2, .int .i64 V2.l, .float .f64 V2.x] 27)).alloc (.cells #[.int .i64 V3.s, .bool V3.i, .slice a3 V3.n c3, .int .i64 V3.l, .float .f64 V3.x] 27)).alloc (.cells #[.int .i64 V1.s, .bool V1.i, .slice a1 V1.n c1, .int .i64 V1.l, .float .f64 V1.x, .int .i64 V2.s, .bool V2.i, .slice a2 V2.n c2, .int .i64 V2.l, .float .f64 V2.x, .int .i64 V3.s, .bool V3.i, .slice a3 V3.n c3, .int .i64 V3.l, .float .f64 V3.x] 27)) := ⟨_, rfl⟩
  have HB0 : Hid (Below w.heap.size w W0) := by rw [hW0]; exact (below3 w _ _ _).alloc (below3 w _ _ _).size _
  have Hg1 : Hid (W0.heap[w.heap.size]? = some (.cells #[.int .i64 V1.s, .bool V1.i, .slice a1 V1.n c1, .int .i64 V1.l, .float .f64 V1.x] 27)) := by
    show W0.heap[w.heap.size]? = _
    rw [hW0]; exact heap_at4_0 w _ _ _ _
  have Hg2 : Hid (W0.heap[w.heap.size + 1]? = some (.cells #[.int .i64 V2.s, .bool V2.i, .slice a2 V2.n c2, .int .i64 V2.l, .float .f64 V2.x] 27)) := by
    show W0.heap[w.heap.size + 1]? = _
    rw [hW0]; exact heap_at4_1 w _ _ _ _
  have Hg3 : Hid (W0.heap[w.heap.size + 1 + 1]? = some (.cells #[.int .i64 V3.s, .bool V3.i, .slice a3 V3.n c3, .int .i64 V3.l, .float .f64 V3.x] 27)) := by
    show W0.heap[w.heap.size + 1 + 1]? = _
    rw [hW0]; exact heap_at4_2 w _ _ _ _
  have Hg4 : Hid (W0.heap[w.heap.size + 1 + 1 + 1]? = some (.cells #[.int .i64 V1.s, .bool V1.i, .slice a1 V1.n c1, .int .i64 V1.l, .float .f64 V1.x, .int .i64 V2.s, .bool V2.i, .slice a2 V2.n c2, .int .i64 V2.l, .float .f64 V2.x, .int .i64 V3.s, .bool V3.i, .slice a3 V3.n c3, .int .i64 V3.l, .float .f64 V3.x] 27)) := by
    show W0.heap[w.heap.size + 1 + 1 + 1]? = _
    rw [hW0]; exact heap_at4_3 w _ _ _ _
  have H1 : Hid (VIn W0 (.agg #[.int .i64 V1.s, .bool V1.i, .slice a1 V1.n c1, .int .i64 V1.l, .float .f64 V1.x]) V1) := H1'.below HB0.out
  have H2 : Hid (VIn W0 (.agg #[.int .i64 V2.s, .bool V2.i, .slice a2 V2.n c2, .int .i64 V2.l, .float .f64 V2.x]) V2) := H2'.below HB0.out
  have H3 : Hid (VIn W0 (.agg #[.int .i64 V3.s, .bool V3.i, .slice a3 V3.n c3, .int .i64 V3.l, .float .f64 V3.x]) V3) := H3'.below HB0.out
  have HW : Below W0.heap.size W0 W0 := below_refl W0
  clear hr1 hL1 hn1 hx1 hl1 hs1 H1' hr2 hL2 hn2 hx2 hl2 hs2 H2' hr3 hL3 hn3 hx3 hl3 hs3 H3'
  obtain ⟨p10, p11, p12, p13, p14⟩ := box5 Hg1.out HW
  obtain ⟨p20, p21, p22, p23, p24⟩ := box5 Hg2.out HW
  obtain ⟨p30, p31, p32, p33, p34⟩ := box5 Hg3.out HW
  have cS : Calls Tryz.prog 6 #[.slice (some ⟨w.heap.size + 1 + 1 + 1, 0, none⟩) 3 3] W0 fun e w' => e = .returned (.bool true) ∧ w' = W0 := by
    refine vsmall_any (w.heap.size + 1 + 1 + 1) 3 (fun j => if j = 0 then a1 else if j = 1 then a2 else a3) (fun j => if j = 0 then V1.n else if j = 1 then V2.n else V3.n) (fun j => if j = 0 then c1 else if j = 1 then c2 else c3) W0 (by decide) (by decide) true (fun j hj => ?_) (fun h => ?_) (fun j hj h => ?_)
    · rw [cell_of_row W0 _ _ _ _ _ Hg4.out]
      match j, hj with
      | 0, _ => rfl
      | 1, _ => rfl
      | 2, _ => rfl
    · rfl
    · exfalso
      revert h
      have := SM.out
      match j, hj with
      | 0, _ => exact fun h => absurd h (by show ¬ 60 < V1.n; omega)
      | 1, _ => exact fun h => absurd h (by show ¬ 60 < V2.n; omega)
      | 2, _ => exact fun h => absurd h (by show ¬ 60 < V3.n; omega)
  have I1 := H1
  have G1 := Hg1
  have I2 := H2
  have G2 := Hg2
  have I3 := H3
  have G3 := Hg3
  have HB := HB0
  clear HW H1 Hg1 p10 p11 p12 p13 p14 H2 Hg2 p20 p21 p22 p23 p24 H3 Hg3 p30 p31 p32 p33 p34 HB0 SM
  go_enter Tryz.func4, Tryz.ntmps4
  go_wp2_with (go_at_call 6; fail)
  rw [← hW0]
  refine cS.mono ?_
  rintro e w' ⟨rfl, hw⟩
  replace hw := hw.symm
  subst hw
  clear cS hW0 Hg4
  obtain ⟨p10, p11, p12, p13, p14⟩ := box5 G1.out (below_refl _)
  have l1 := blk_lt G1.out
  obtain ⟨p20, p21, p22, p23, p24⟩ := box5 G2.out (below_refl _)
  have l2 := blk_lt G2.out
  obtain ⟨p30, p31, p32, p33, p34⟩ := box5 G3.out (below_refl _)
  have l3 := blk_lt G3.out
  go_wp2_with (go_at_call 21; fail)
  refine (vmay_at _ _ V1 0 (by exact I1.out) M1.out).mono ?_
  rintro e w1 ⟨rfl, b⟩
  replace G1 : Hid (w1.heap[w.heap.size]? = _) := blk_below G1.out b
  replace I1 : Hid (VIn w1 _ _) := I1.out.below b
  replace G2 : Hid (w1.heap[w.heap.size + 1]? = _) := blk_below G2.out b
  replace I2 : Hid (VIn w1 _ _) := I2.out.below b
  replace G3 : Hid (w1.heap[w.heap.size + 1 + 1]? = _) := blk_below G3.out b
  replace I3 : Hid (VIn w1 _ _) := I3.out.below b
  replace HB : Hid (Below _ _ w1) := below_step HB.out b
  clear b
  clear p10 p11 p12 p13 p14 l1 p20 p21 p22 p23 p24 l2 p30 p31 p32 p33 p34 l3
  obtain ⟨p10, p11, p12, p13, p14⟩ := box5 G1.out (below_refl _)
  have l1 := blk_lt G1.out
  obtain ⟨p20, p21, p22, p23, p24⟩ := box5 G2.out (below_refl _)
  have l2 := blk_lt G2.out
  obtain ⟨p30, p31, p32, p33, p34⟩ := box5 G3.out (below_refl _)
  have l3 := blk_lt G3.out
  go_wp2_with (go_at_call 21; fail)
  refine (vmay_at _ _ V2 0 (by exact I2.out) M2.out).mono ?_
  rintro e w2 ⟨rfl, b⟩
  replace G1 : Hid (w2.heap[w.heap.size]? = _) := blk_below G1.out b
  replace I1 : Hid (VIn w2 _ _) := I1.out.below b
  replace G2 : Hid (w2.heap[w.heap.size + 1]? = _) := blk_below G2.out b
  replace I2 : Hid (VIn w2 _ _) := I2.out.below b
  replace G3 : Hid (w2.heap[w.heap.size + 1 + 1]? = _) := blk_below G3.out b
  replace I3 : Hid (VIn w2 _ _) := I3.out.below b
  replace HB : Hid (Below _ _ w2) := below_step HB.out b
  clear b
  clear p10 p11 p12 p13 p14 l1 p20 p21 p22 p23 p24 l2 p30 p31 p32 p33 p34 l3
  obtain ⟨p10, p11, p12, p13, p14⟩ := box5 G1.out (below_refl _)
  have l1 := blk_lt G1.out
  obtain ⟨p20, p21, p22, p23, p24⟩ := box5 G2.out (below_refl _)
  have l2 := blk_lt G2.out
  obtain ⟨p30, p31, p32, p33, p34⟩ := box5 G3.out (below_refl _)
  have l3 := blk_lt G3.out
  go_wp2_with (go_at_call 21; fail)
  refine (vmay_at _ _ V3 r (by exact I3.out) M3.out).mono ?_
  rintro e w3 ⟨rfl, b⟩
  replace G1 : Hid (w3.heap[w.heap.size]? = _) := blk_below G1.out b
  replace I1 : Hid (VIn w3 _ _) := I1.out.below b
  replace G2 : Hid (w3.heap[w.heap.size + 1]? = _) := blk_below G2.out b
  replace I2 : Hid (VIn w3 _ _) := I2.out.below b
  replace G3 : Hid (w3.heap[w.heap.size + 1 + 1]? = _) := blk_below G3.out b
  replace I3 : Hid (VIn w3 _ _) := I3.out.below b
  replace HB : Hid (Below _ _ w3) := below_step HB.out b
  clear b
  clear p10 p11 p12 p13 p14 l1 p20 p21 p22 p23 p24 l2 p30 p31 p32 p33 p34 l3
  obtain ⟨p10, p11, p12, p13, p14⟩ := box5 G1.out (below_refl _)
  have l1 := blk_lt G1.out
  obtain ⟨p20, p21, p22, p23, p24⟩ := box5 G2.out (below_refl _)
  have l2 := blk_lt G2.out
  obtain ⟨p30, p31, p32, p33, p34⟩ := box5 G3.out (below_refl _)
  have l3 := blk_lt G3.out
  go_wp2_with (go_at_call 7; fail)
  refine (vawake_any _ (by exact HEnv.out.below HB.out)).mono ?_
  rintro e w4 ⟨rfl, b⟩
  replace G1 : Hid (w4.heap[w.heap.size]? = _) := blk_below G1.out b
  replace I1 : Hid (VIn w4 _ _) := I1.out.below b
  replace G2 : Hid (w4.heap[w.heap.size + 1]? = _) := blk_below G2.out b
  replace I2 : Hid (VIn w4 _ _) := I2.out.below b
  replace G3 : Hid (w4.heap[w.heap.size + 1 + 1]? = _) := blk_below G3.out b
  replace I3 : Hid (VIn w4 _ _) := I3.out.below b
  replace HB : Hid (Below _ _ w4) := below_step HB.out b
  clear b
  clear p10 p11 p12 p13 p14 l1 p20 p21 p22 p23 p24 l2 p30 p31 p32 p33 p34 l3
  obtain ⟨p10, p11, p12, p13, p14⟩ := box5 G1.out (below_refl _)
  have l1 := blk_lt G1.out
  obtain ⟨p20, p21, p22, p23, p24⟩ := box5 G2.out (below_refl _)
  have l2 := blk_lt G2.out
  obtain ⟨p30, p31, p32, p33, p34⟩ := box5 G3.out (below_refl _)
  have l3 := blk_lt G3.out
  go_wp2
  go_ret
  exact ⟨rfl, HB.out⟩
set_option maxHeartbeats 32000000 in
theorem rul_d (w : World) (v1 v2 v3 : Value) (V1 V2 V3 : Vl) (h1 : VIn w v1 V1) (h2 : VIn w v2 V2) (h3 : VIn w v3 V3) (henv : Env w) (hsm : V1.n ≤ 60 ∧ V2.n ≤ 60 ∧ V3.n ≤ 60)  (m1 : mayV V1 = 0) (m2 : mayV V2 = 0) (m3 : mayV V3 = 0) (hn : ¬ V1.s = V2.s) : Calls Tryz.prog 4 #[v1, v2, v3] w fun e w' => e = .returned (.bool true) ∧ Below w.heap.size w w' := by
  have hsf := st_flo
  have HEnv : Hid (Env w) := henv
  clear henv
  have SM : Hid (V1.n ≤ 60 ∧ V2.n ≤ 60 ∧ V3.n ≤ 60) := hsm
  have SN : Hid (V1.n ≤ 60 ∧ V2.n ≤ 60 ∧ V3.n ≤ 60) := hsm
  clear hsm
  have M1 : Hid (mayV V1 = 0) := m1
  have M2 : Hid (mayV V2 = 0) := m2
  have M3 : Hid (mayV V3 = 0) := m3
  clear m1 m2 m3
  have H1' := h1
  obtain ⟨a1, c1, rfl, hr1, hL1, hn1, hx1, hl1, hs1⟩ := h1
  have H2' := h2
  obtain ⟨a2, c2, rfl, hr2, hL2, hn2, hx2, hl2, hs2⟩ := h2
  have H3' := h3
  obtain ⟨a3, c3, rfl, hr3, hL3, hn3, hx3, hl3, hs3⟩ := h3
  obtain ⟨W0, hW0⟩ : ∃ W0, W0 = ((((w.alloc (.cells #[.int .i64 V1.s, .bool V1.i, .slice a1 V1.n c1, .int .i64 V1.l, .float .f64 V1.x] 27)).alloc (.cells #[.int .i64 V2.s, .bool V2.i, .slice a2 V2.n c2, .int .i64 V2.l, .float .f64 V2.x] 27)).alloc (.cells #[.int .i64 V3.s, .bool V3.i, .slice a3 V3.n c3, .int .i64 V3.l, .float .f64 V3.x] 27)).alloc (.cells #[.int .i64 V1.s, .bool V1.i, .slice a1 V1.n c1, .int .i64 V1.l, .float .f64 V1.x, .int .i64 V2.s, .bool V2.i, .slice a2 V2.n c2, .int .i64 V2.l, .float .f64 V2.x, .int .i64 V3.s, .bool V3.i, .slice a3 V3.n c3, .int .i64 V3.l, .float .f64 V3.x] 27)) := ⟨_, rfl⟩
  have HB0 : Hid (Below w.heap.size w W0) := by rw [hW0]; exact (below3 w _ _ _).alloc (below3 w _ _ _).size _
  have Hg1 : Hid (W0.heap[w.heap.size]? = some (.cells #[.int .i64 V1.s, .bool V1.i, .slice a1 V1.n c1, .int .i64 V1.l, .float .f64 V1.x] 27)) := by
    show W0.heap[w.heap.size]? = _
    rw [hW0]; exact heap_at4_0 w _ _ _ _
  have Hg2 : Hid (W0.heap[w.heap.size + 1]? = some (.cells #[.int .i64 V2.s, .bool V2.i, .slice a2 V2.n c2, .int .i64 V2.l, .float .f64 V2.x] 27)) := by
    show W0.heap[w.heap.size + 1]? = _
    rw [hW0]; exact heap_at4_1 w _ _ _ _
  have Hg3 : Hid (W0.heap[w.heap.size + 1 + 1]? = some (.cells #[.int .i64 V3.s, .bool V3.i, .slice a3 V3.n c3, .int .i64 V3.l, .float .f64 V3.x] 27)) := by
    show W0.heap[w.heap.size + 1 + 1]? = _
    rw [hW0]; exact heap_at4_2 w _ _ _ _
  have Hg4 : Hid (W0.heap[w.heap.size + 1 + 1 + 1]? = some (.cells #[.int .i64 V1.s, .bool V1.i, .slice a1 V1.n c1, .int .i64 V1.l, .float .f64 V1.x, .int .i64 V2.s, .bool V2.i, .slice a2 V2.n c2, .int .i64 V2.l, .float .f64 V2.x, .int .i64 V3.s, .bool V3.i, .slice a3 V3.n c3, .int .i64 V3.l, .float .f64 V3.x] 27)) := by
    show W0.heap[w.heap.size + 1 + 1 + 1]? = _
    rw [hW0]; exact heap_at4_3 w _ _ _ _
  have H1 : Hid (VIn W0 (.agg #[.int .i64 V1.s, .bool V1.i, .slice a1 V1.n c1, .int .i64 V1.l, .float .f64 V1.x]) V1) := H1'.below HB0.out
  have H2 : Hid (VIn W0 (.agg #[.int .i64 V2.s, .bool V2.i, .slice a2 V2.n c2, .int .i64 V2.l, .float .f64 V2.x]) V2) := H2'.below HB0.out
  have H3 : Hid (VIn W0 (.agg #[.int .i64 V3.s, .bool V3.i, .slice a3 V3.n c3, .int .i64 V3.l, .float .f64 V3.x]) V3) := H3'.below HB0.out
  have HW : Below W0.heap.size W0 W0 := below_refl W0
  clear hr1 hL1 hn1 hx1 hl1 hs1 H1' hr2 hL2 hn2 hx2 hl2 hs2 H2' hr3 hL3 hn3 hx3 hl3 hs3 H3'
  obtain ⟨p10, p11, p12, p13, p14⟩ := box5 Hg1.out HW
  obtain ⟨p20, p21, p22, p23, p24⟩ := box5 Hg2.out HW
  obtain ⟨p30, p31, p32, p33, p34⟩ := box5 Hg3.out HW
  have cS : Calls Tryz.prog 6 #[.slice (some ⟨w.heap.size + 1 + 1 + 1, 0, none⟩) 3 3] W0 fun e w' => e = .returned (.bool true) ∧ w' = W0 := by
    refine vsmall_any (w.heap.size + 1 + 1 + 1) 3 (fun j => if j = 0 then a1 else if j = 1 then a2 else a3) (fun j => if j = 0 then V1.n else if j = 1 then V2.n else V3.n) (fun j => if j = 0 then c1 else if j = 1 then c2 else c3) W0 (by decide) (by decide) true (fun j hj => ?_) (fun h => ?_) (fun j hj h => ?_)
    · rw [cell_of_row W0 _ _ _ _ _ Hg4.out]
      match j, hj with
      | 0, _ => rfl
      | 1, _ => rfl
      | 2, _ => rfl
    · rfl
    · exfalso
      revert h
      have := SM.out
      match j, hj with
      | 0, _ => exact fun h => absurd h (by show ¬ 60 < V1.n; omega)
      | 1, _ => exact fun h => absurd h (by show ¬ 60 < V2.n; omega)
      | 2, _ => exact fun h => absurd h (by show ¬ 60 < V3.n; omega)
  have I1 := H1
  have G1 := Hg1
  have I2 := H2
  have G2 := Hg2
  have I3 := H3
  have G3 := Hg3
  have HB := HB0
  clear HW H1 Hg1 p10 p11 p12 p13 p14 H2 Hg2 p20 p21 p22 p23 p24 H3 Hg3 p30 p31 p32 p33 p34 HB0 SM
  go_enter Tryz.func4, Tryz.ntmps4
  go_wp2_with (go_at_call 6; fail)
  rw [← hW0]
  refine cS.mono ?_
  rintro e w' ⟨rfl, hw⟩
  replace hw := hw.symm
  subst hw
  clear cS hW0 Hg4
  obtain ⟨p10, p11, p12, p13, p14⟩ := box5 G1.out (below_refl _)
  have l1 := blk_lt G1.out
  obtain ⟨p20, p21, p22, p23, p24⟩ := box5 G2.out (below_refl _)
  have l2 := blk_lt G2.out
  obtain ⟨p30, p31, p32, p33, p34⟩ := box5 G3.out (below_refl _)
  have l3 := blk_lt G3.out
  go_wp2_with (go_at_call 21; fail)
  refine (vmay_at _ _ V1 0 (by exact I1.out) M1.out).mono ?_
  rintro e w1 ⟨rfl, b⟩
  replace G1 : Hid (w1.heap[w.heap.size]? = _) := blk_below G1.out b
  replace I1 : Hid (VIn w1 _ _) := I1.out.below b
  replace G2 : Hid (w1.heap[w.heap.size + 1]? = _) := blk_below G2.out b
  replace I2 : Hid (VIn w1 _ _) := I2.out.below b
  replace G3 : Hid (w1.heap[w.heap.size + 1 + 1]? = _) := blk_below G3.out b
  replace I3 : Hid (VIn w1 _ _) := I3.out.below b
  replace HB : Hid (Below _ _ w1) := below_step HB.out b
  clear b
  clear p10 p11 p12 p13 p14 l1 p20 p21 p22 p23 p24 l2 p30 p31 p32 p33 p34 l3
  obtain ⟨p10, p11, p12, p13, p14⟩ := box5 G1.out (below_refl _)
  have l1 := blk_lt G1.out
  obtain ⟨p20, p21, p22, p23, p24⟩ := box5 G2.out (below_refl _)
  have l2 := blk_lt G2.out
  obtain ⟨p30, p31, p32, p33, p34⟩ := box5 G3.out (below_refl _)
  have l3 := blk_lt G3.out
  go_wp2_with (go_at_call 21; fail)
  refine (vmay_at _ _ V2 0 (by exact I2.out) M2.out).mono ?_
  rintro e w2 ⟨rfl, b⟩
  replace G1 : Hid (w2.heap[w.heap.size]? = _) := blk_below G1.out b
  replace I1 : Hid (VIn w2 _ _) := I1.out.below b
  replace G2 : Hid (w2.heap[w.heap.size + 1]? = _) := blk_below G2.out b
  replace I2 : Hid (VIn w2 _ _) := I2.out.below b
  replace G3 : Hid (w2.heap[w.heap.size + 1 + 1]? = _) := blk_below G3.out b
  replace I3 : Hid (VIn w2 _ _) := I3.out.below b
  replace HB : Hid (Below _ _ w2) := below_step HB.out b
  clear b
  clear p10 p11 p12 p13 p14 l1 p20 p21 p22 p23 p24 l2 p30 p31 p32 p33 p34 l3
  obtain ⟨p10, p11, p12, p13, p14⟩ := box5 G1.out (below_refl _)
  have l1 := blk_lt G1.out
  obtain ⟨p20, p21, p22, p23, p24⟩ := box5 G2.out (below_refl _)
  have l2 := blk_lt G2.out
  obtain ⟨p30, p31, p32, p33, p34⟩ := box5 G3.out (below_refl _)
  have l3 := blk_lt G3.out
  go_wp2_with (go_at_call 21; fail)
  refine (vmay_at _ _ V3 0 (by exact I3.out) M3.out).mono ?_
  rintro e w3 ⟨rfl, b⟩
  replace G1 : Hid (w3.heap[w.heap.size]? = _) := blk_below G1.out b
  replace I1 : Hid (VIn w3 _ _) := I1.out.below b
  replace G2 : Hid (w3.heap[w.heap.size + 1]? = _) := blk_below G2.out b
  replace I2 : Hid (VIn w3 _ _) := I2.out.below b
  replace G3 : Hid (w3.heap[w.heap.size + 1 + 1]? = _) := blk_below G3.out b
  replace I3 : Hid (VIn w3 _ _) := I3.out.below b
  replace HB : Hid (Below _ _ w3) := below_step HB.out b
  clear b
  clear p10 p11 p12 p13 p14 l1 p20 p21 p22 p23 p24 l2 p30 p31 p32 p33 p34 l3
  obtain ⟨p10, p11, p12, p13, p14⟩ := box5 G1.out (below_refl _)
  have l1 := blk_lt G1.out
  obtain ⟨p20, p21, p22, p23, p24⟩ := box5 G2.out (below_refl _)
  have l2 := blk_lt G2.out
  obtain ⟨p30, p31, p32, p33, p34⟩ := box5 G3.out (below_refl _)
  have l3 := blk_lt G3.out
  go_wp2_with (go_at_call 7; fail)
  refine (vawake_any _ (by exact HEnv.out.below HB.out)).mono ?_
  rintro e w4 ⟨rfl, b⟩
  replace G1 : Hid (w4.heap[w.heap.size]? = _) := blk_below G1.out b
  replace I1 : Hid (VIn w4 _ _) := I1.out.below b
  replace G2 : Hid (w4.heap[w.heap.size + 1]? = _) := blk_below G2.out b
  replace I2 : Hid (VIn w4 _ _) := I2.out.below b
  replace G3 : Hid (w4.heap[w.heap.size + 1 + 1]? = _) := blk_below G3.out b
  replace I3 : Hid (VIn w4 _ _) := I3.out.below b
  replace HB : Hid (Below _ _ w4) := below_step HB.out b
  clear b
  clear p10 p11 p12 p13 p14 l1 p20 p21 p22 p23 p24 l2 p30 p31 p32 p33 p34 l3
  obtain ⟨p10, p11, p12, p13, p14⟩ := box5 G1.out (below_refl _)
  have l1 := blk_lt G1.out
  obtain ⟨p20, p21, p22, p23, p24⟩ := box5 G2.out (below_refl _)
  have l2 := blk_lt G2.out
  obtain ⟨p30, p31, p32, p33, p34⟩ := box5 G3.out (below_refl _)
  have l3 := blk_lt G3.out
  go_wp2
  go_ret
  exact ⟨rfl, HB.out⟩
set_option maxHeartbeats 32000000 in
theorem rul_e (w : World) (v1 v2 v3 : Value) (V1 V2 V3 : Vl) (h1 : VIn w v1 V1) (h2 : VIn w v2 V2) (h3 : VIn w v3 V3) (henv : Env w) (hsm : V1.n ≤ 60 ∧ V2.n ≤ 60 ∧ V3.n ≤ 60)  (m1 : mayV V1 = 0) (m2 : mayV V2 = 0) (m3 : mayV V3 = 0) (hn : ¬ V1.s = V3.s) (es2 : V2.s = V1.s) : Calls Tryz.prog 4 #[v1, v2, v3] w fun e w' => e = .returned (.bool true) ∧ Below w.heap.size w w' := by
  have hsf := st_flo
  have HEnv : Hid (Env w) := henv
  clear henv
  have SM : Hid (V1.n ≤ 60 ∧ V2.n ≤ 60 ∧ V3.n ≤ 60) := hsm
  have SN : Hid (V1.n ≤ 60 ∧ V2.n ≤ 60 ∧ V3.n ≤ 60) := hsm
  clear hsm
  have M1 : Hid (mayV V1 = 0) := m1
  have M2 : Hid (mayV V2 = 0) := m2
  have M3 : Hid (mayV V3 = 0) := m3
  clear m1 m2 m3
  have H1' := h1
  obtain ⟨a1, c1, rfl, hr1, hL1, hn1, hx1, hl1, hs1⟩ := h1
  have H2' := h2
  obtain ⟨a2, c2, rfl, hr2, hL2, hn2, hx2, hl2, hs2⟩ := h2
  rw [es2] at H2' ⊢
  have H3' := h3
  obtain ⟨a3, c3, rfl, hr3, hL3, hn3, hx3, hl3, hs3⟩ := h3
  obtain ⟨W0, hW0⟩ : ∃ W0, W0 = ((((w.alloc (.cells #[.int .i64 V1.s, .bool V1.i, .slice a1 V1.n c1, .int .i64 V1.l, .float .f64 V1.x] 27)).alloc (.cells #[.int .i64 V1.s, .bool V2.i, .slice a2 V2.n c2, .int .i64 V2.l, .float .f64 V2.x] 27)).alloc (.cells #[.int .i64 V3.s, .bool V3.i, .slice a3 V3.n c3, .int .i64 V3.l, .float .f64 V3.x] 27)).alloc (.cells #[.int .i64 V1.s, .bool V1.i, .slice a1 V1.n c1, .int .i64 V1.l, .float .f64 V1.x, .int .i64 V1.s, .bool V2.i, .slice a2 V2.n c2, .int .i64 V2.l, .float .f64 V2.x, .int .i64 V3.s, .bool V3.i, .slice a3 V3.n c3, .int .i64 V3.l, .float .f64 V3.x] 27)) := ⟨_, rfl⟩
  have HB0 : Hid (Below w.heap.size w W0) := by rw [hW0]; exact (below3 w _ _ _).alloc (below3 w _ _ _).size _
  have Hg1 : Hid (W0.heap[w.heap.size]? = some (.cells #[.int .i64 V1.s, .bool V1.i, .slice a1 V1.n c1, .int .i64 V1.l, .float .f64 V1.x] 27)) := by
    show W0.heap[w.heap.size]? = _
    rw [hW0]; exact heap_at4_0 w _ _ _ _
  have Hg2 : Hid (W0.heap[w.heap.size + 1]? = some (.cells #[.int .i64 V1.s, .bool V2.i, .slice a2 V2.n c2, .int .i64 V2.l, .float .f64 V2.x] 27)) := by
    show W0.heap[w.heap.size + 1]? = _
    rw [hW0]; exact heap_at4_1 w _ _ _ _
  have Hg3 : Hid (W0.heap[w.heap.size + 1 + 1]? = some (.cells #[.int .i64 V3.s, .bool V3.i, .slice a3 V3.n c3, .int .i64 V3.l, .float .f64 V3.x] 27)) := by
    show W0.heap[w.heap.size + 1 + 1]? = _
    rw [hW0]; exact heap_at4_2 w _ _ _ _
  have Hg4 : Hid (W0.heap[w.heap.size + 1 + 1 + 1]? = some (.cells #[.int .i64 V1.s, .bool V1.i, .slice a1 V1.n c1, .int .i64 V1.l, .float .f64 V1.x, .int .i64 V1.s, .bool V2.i, .slice a2 V2.n c2, .int .i64 V2.l, .float .f64 V2.x, .int .i64 V3.s, .bool V3.i, .slice a3 V3.n c3, .int .i64 V3.l, .float .f64 V3.x] 27)) := by
    show W0.heap[w.heap.size + 1 + 1 + 1]? = _
    rw [hW0]; exact heap_at4_3 w _ _ _ _
  have H1 : Hid (VIn W0 (.agg #[.int .i64 V1.s, .bool V1.i, .slice a1 V1.n c1, .int .i64 V1.l, .float .f64 V1.x]) V1) := H1'.below HB0.out
  have H2 : Hid (VIn W0 (.agg #[.int .i64 V1.s, .bool V2.i, .slice a2 V2.n c2, .int .i64 V2.l, .float .f64 V2.x]) V2) := H2'.below HB0.out
  have H3 : Hid (VIn W0 (.agg #[.int .i64 V3.s, .bool V3.i, .slice a3 V3.n c3, .int .i64 V3.l, .float .f64 V3.x]) V3) := H3'.below HB0.out
  have HW : Below W0.heap.size W0 W0 := below_refl W0
  clear hr1 hL1 hn1 hx1 hl1 hs1 H1' hr2 hL2 hn2 hx2 hl2 hs2 H2' hr3 hL3 hn3 hx3 hl3 hs3 H3'
  obtain ⟨p10, p11, p12, p13, p14⟩ := box5 Hg1.out HW
  obtain ⟨p20, p21, p22, p23, p24⟩ := box5 Hg2.out HW
  obtain ⟨p30, p31, p32, p33, p34⟩ := box5 Hg3.out HW
  have cS : Calls Tryz.prog 6 #[.slice (some ⟨w.heap.size + 1 + 1 + 1, 0, none⟩) 3 3] W0 fun e w' => e = .returned (.bool true) ∧ w' = W0 := by
    refine vsmall_any (w.heap.size + 1 + 1 + 1) 3 (fun j => if j = 0 then a1 else if j = 1 then a2 else a3) (fun j => if j = 0 then V1.n else if j = 1 then V2.n else V3.n) (fun j => if j = 0 then c1 else if j = 1 then c2 else c3) W0 (by decide) (by decide) true (fun j hj => ?_) (fun h => ?_) (fun j hj h => ?_)
    · rw [cell_of_row W0 _ _ _ _ _ Hg4.out]
      match j, hj with
      | 0, _ => rfl
      | 1, _ => rfl
      | 2, _ => rfl
    · rfl
    · exfalso
      revert h
      have := SM.out
      match j, hj with
      | 0, _ => exact fun h => absurd h (by show ¬ 60 < V1.n; omega)
      | 1, _ => exact fun h => absurd h (by show ¬ 60 < V2.n; omega)
      | 2, _ => exact fun h => absurd h (by show ¬ 60 < V3.n; omega)
  have I1 := H1
  have G1 := Hg1
  have I2 := H2
  have G2 := Hg2
  have I3 := H3
  have G3 := Hg3
  have HB := HB0
  clear HW H1 Hg1 p10 p11 p12 p13 p14 H2 Hg2 p20 p21 p22 p23 p24 H3 Hg3 p30 p31 p32 p33 p34 HB0 SM
  go_enter Tryz.func4, Tryz.ntmps4
  go_wp2_with (go_at_call 6; fail)
  rw [← hW0]
  refine cS.mono ?_
  rintro e w' ⟨rfl, hw⟩
  replace hw := hw.symm
  subst hw
  clear cS hW0 Hg4
  obtain ⟨p10, p11, p12, p13, p14⟩ := box5 G1.out (below_refl _)
  have l1 := blk_lt G1.out
  obtain ⟨p20, p21, p22, p23, p24⟩ := box5 G2.out (below_refl _)
  have l2 := blk_lt G2.out
  obtain ⟨p30, p31, p32, p33, p34⟩ := box5 G3.out (below_refl _)
  have l3 := blk_lt G3.out
  go_wp2_with (go_at_call 21; fail)
  refine (vmay_at _ _ V1 0 (by exact I1.out) M1.out).mono ?_
  rintro e w1 ⟨rfl, b⟩
  replace G1 : Hid (w1.heap[w.heap.size]? = _) := blk_below G1.out b
  replace I1 : Hid (VIn w1 _ _) := I1.out.below b
  replace G2 : Hid (w1.heap[w.heap.size + 1]? = _) := blk_below G2.out b
  replace I2 : Hid (VIn w1 _ _) := I2.out.below b
  replace G3 : Hid (w1.heap[w.heap.size + 1 + 1]? = _) := blk_below G3.out b
  replace I3 : Hid (VIn w1 _ _) := I3.out.below b
  replace HB : Hid (Below _ _ w1) := below_step HB.out b
  clear b
  clear p10 p11 p12 p13 p14 l1 p20 p21 p22 p23 p24 l2 p30 p31 p32 p33 p34 l3
  obtain ⟨p10, p11, p12, p13, p14⟩ := box5 G1.out (below_refl _)
  have l1 := blk_lt G1.out
  obtain ⟨p20, p21, p22, p23, p24⟩ := box5 G2.out (below_refl _)
  have l2 := blk_lt G2.out
  obtain ⟨p30, p31, p32, p33, p34⟩ := box5 G3.out (below_refl _)
  have l3 := blk_lt G3.out
  go_wp2_with (go_at_call 21; fail)
  refine (vmay_at _ _ V2 0 (by exact I2.out) M2.out).mono ?_
  rintro e w2 ⟨rfl, b⟩
  replace G1 : Hid (w2.heap[w.heap.size]? = _) := blk_below G1.out b
  replace I1 : Hid (VIn w2 _ _) := I1.out.below b
  replace G2 : Hid (w2.heap[w.heap.size + 1]? = _) := blk_below G2.out b
  replace I2 : Hid (VIn w2 _ _) := I2.out.below b
  replace G3 : Hid (w2.heap[w.heap.size + 1 + 1]? = _) := blk_below G3.out b
  replace I3 : Hid (VIn w2 _ _) := I3.out.below b
  replace HB : Hid (Below _ _ w2) := below_step HB.out b
  clear b
  clear p10 p11 p12 p13 p14 l1 p20 p21 p22 p23 p24 l2 p30 p31 p32 p33 p34 l3
  obtain ⟨p10, p11, p12, p13, p14⟩ := box5 G1.out (below_refl _)
  have l1 := blk_lt G1.out
  obtain ⟨p20, p21, p22, p23, p24⟩ := box5 G2.out (below_refl _)
  have l2 := blk_lt G2.out
  obtain ⟨p30, p31, p32, p33, p34⟩ := box5 G3.out (below_refl _)
  have l3 := blk_lt G3.out
  go_wp2_with (go_at_call 21; fail)
  refine (vmay_at _ _ V3 0 (by exact I3.out) M3.out).mono ?_
  rintro e w3 ⟨rfl, b⟩
  replace G1 : Hid (w3.heap[w.heap.size]? = _) := blk_below G1.out b
  replace I1 : Hid (VIn w3 _ _) := I1.out.below b
  replace G2 : Hid (w3.heap[w.heap.size + 1]? = _) := blk_below G2.out b
  replace I2 : Hid (VIn w3 _ _) := I2.out.below b
  replace G3 : Hid (w3.heap[w.heap.size + 1 + 1]? = _) := blk_below G3.out b
  replace I3 : Hid (VIn w3 _ _) := I3.out.below b
  replace HB : Hid (Below _ _ w3) := below_step HB.out b
  clear b
  clear p10 p11 p12 p13 p14 l1 p20 p21 p22 p23 p24 l2 p30 p31 p32 p33 p34 l3
  obtain ⟨p10, p11, p12, p13, p14⟩ := box5 G1.out (below_refl _)
  have l1 := blk_lt G1.out
  obtain ⟨p20, p21, p22, p23, p24⟩ := box5 G2.out (below_refl _)
  have l2 := blk_lt G2.out
  obtain ⟨p30, p31, p32, p33, p34⟩ := box5 G3.out (below_refl _)
  have l3 := blk_lt G3.out
  go_wp2_with (go_at_call 7; fail)
  refine (vawake_any _ (by exact HEnv.out.below HB.out)).mono ?_
  rintro e w4 ⟨rfl, b⟩
  replace G1 : Hid (w4.heap[w.heap.size]? = _) := blk_below G1.out b
  replace I1 : Hid (VIn w4 _ _) := I1.out.below b
  replace G2 : Hid (w4.heap[w.heap.size + 1]? = _) := blk_below G2.out b
  replace I2 : Hid (VIn w4 _ _) := I2.out.below b
  replace G3 : Hid (w4.heap[w.heap.size + 1 + 1]? = _) := blk_below G3.out b
  replace I3 : Hid (VIn w4 _ _) := I3.out.below b
  replace HB : Hid (Below _ _ w4) := below_step HB.out b
  clear b
  clear p10 p11 p12 p13 p14 l1 p20 p21 p22 p23 p24 l2 p30 p31 p32 p33 p34 l3
  obtain ⟨p10, p11, p12, p13, p14⟩ := box5 G1.out (below_refl _)
  have l1 := blk_lt G1.out
  obtain ⟨p20, p21, p22, p23, p24⟩ := box5 G2.out (below_refl _)
  have l2 := blk_lt G2.out
  obtain ⟨p30, p31, p32, p33, p34⟩ := box5 G3.out (below_refl _)
  have l3 := blk_lt G3.out
  go_wp2
  go_ret
  exact ⟨rfl, HB.out⟩
set_option maxHeartbeats 32000000 in
theorem rul_f (w : World) (v1 v2 v3 : Value) (V1 V2 V3 : Vl) (h1 : VIn w v1 V1) (h2 : VIn w v2 V2) (h3 : VIn w v3 V3) (henv : Env w) (hsm : V1.n ≤ 60 ∧ V2.n ≤ 60 ∧ V3.n ≤ 60) (m1 : mayV V1 = 0) (m2 : mayV V2 = 0) (m3 : mayV V3 = 0)  (es2 : V2.s = V1.s) (es3 : V3.s = V1.s) (hex : exV V1.s V1.x V2.x V3.x = false) : Calls Tryz.prog 4 #[v1, v2, v3] w fun e w' => e = .returned (.bool true) ∧ Below w.heap.size w w' := by
  have hsf := st_flo
  have HEnv : Hid (Env w) := henv
  clear henv
  have SM : Hid (V1.n ≤ 60 ∧ V2.n ≤ 60 ∧ V3.n ≤ 60) := hsm
  have SN : Hid (V1.n ≤ 60 ∧ V2.n ≤ 60 ∧ V3.n ≤ 60) := hsm
  clear hsm
  have M1 : Hid (mayV V1 = 0) := m1
  have M2 : Hid (mayV V2 = 0) := m2
  have M3 : Hid (mayV V3 = 0) := m3
  have F2 : Hid (V2.s = V1.s) := es2
  have F3 : Hid (V3.s = V1.s) := es3
  have EX : Hid (exV V1.s V1.x V2.x V3.x = false) := hex
  have SH1 : Hid (V1.s = 1 ∨ V1.s = 3 → Short 60 (denV V1)) := fun hs => den_short h1 SN.out.1 hs
  have SH2 : Hid (V1.s = 1 ∨ V1.s = 3 → Short 60 (denV V2)) := fun hs => den_short h2 SN.out.2.1 (es2 ▸ hs)
  have SH3 : Hid (V1.s = 1 ∨ V1.s = 3 → Short 60 (denV V3)) := fun hs => den_short h3 SN.out.2.2 (es3 ▸ hs)
  clear m1 m2 m3 hex
  have H1' := h1
  obtain ⟨a1, c1, rfl, hr1, hL1, hn1, hx1, hl1, hs1⟩ := h1
  have H2' := h2
  obtain ⟨a2, c2, rfl, hr2, hL2, hn2, hx2, hl2, hs2⟩ := h2
  rw [es2] at H2' ⊢
  have H3' := h3
  obtain ⟨a3, c3, rfl, hr3, hL3, hn3, hx3, hl3, hs3⟩ := h3
  rw [es3] at H3' ⊢
  obtain ⟨W0, hW0⟩ : ∃ W0, W0 = ((((w.alloc (.cells #[.int .i64 V1.s, .bool V1.i, .slice a1 V1.n c1, .int .i64 V1.l, .float .f64 V1.x] 27)).alloc (.cells #[.int .i64 V1.s, .bool V2.i, .slice a2 V2.n c2, .int .i64 V2.l, .float .f64 V2.x] 27)).alloc (.cells #[.int .i64 V1.s, .bool V3.i, .slice a3 V3.n c3, .int .i64 V3.l, .float .f64 V3.x] 27)).alloc (.cells #[.int .i64 V1.s, .bool V1.i, .slice a1 V1.n c1, .int .i64 V1.l, .float .f64 V1.x, .int .i64 V1.s, .bool V2.i, .slice a2 V2.n c2, .int .i64 V2.l, .float .f64 V2.x, .int .i64 V1.s, .bool V3.i, .slice a3 V3.n c3, .int .i64 V3.l, .float .f64 V3.x] 27)) := ⟨_, rfl⟩
  have HB0 : Hid (Below w.heap.size w W0) := by rw [hW0]; exact (below3 w _ _ _).alloc (below3 w _ _ _).size _
  have Hg1 : Hid (W0.heap[w.heap.size]? = some (.cells #[.int .i64 V1.s, .bool V1.i, .slice a1 V1.n c1, .int .i64 V1.l, .float .f64 V1.x] 27)) := by
    show W0.heap[w.heap.size]? = _
    rw [hW0]; exact heap_at4_0 w _ _ _ _
  have Hg2 : Hid (W0.heap[w.heap.size + 1]? = some (.cells #[.int .i64 V1.s, .bool V2.i, .slice a2 V2.n c2, .int .i64 V2.l, .float .f64 V2.x] 27)) := by
    show W0.heap[w.heap.size + 1]? = _
    rw [hW0]; exact heap_at4_1 w _ _ _ _
  have Hg3 : Hid (W0.heap[w.heap.size + 1 + 1]? = some (.cells #[.int .i64 V1.s, .bool V3.i, .slice a3 V3.n c3, .int .i64 V3.l, .float .f64 V3.x] 27)) := by
    show W0.heap[w.heap.size + 1 + 1]? = _
    rw [hW0]; exact heap_at4_2 w _ _ _ _
  have Hg4 : Hid (W0.heap[w.heap.size + 1 + 1 + 1]? = some (.cells #[.int .i64 V1.s, .bool V1.i, .slice a1 V1.n c1, .int .i64 V1.l, .float .f64 V1.x, .int .i64 V1.s, .bool V2.i, .slice a2 V2.n c2, .int .i64 V2.l, .float .f64 V2.x, .int .i64 V1.s, .bool V3.i, .slice a3 V3.n c3, .int .i64 V3.l, .float .f64 V3.x] 27)) := by
    show W0.heap[w.heap.size + 1 + 1 + 1]? = _
    rw [hW0]; exact heap_at4_3 w _ _ _ _
  have H1 : Hid (VIn W0 (.agg #[.int .i64 V1.s, .bool V1.i, .slice a1 V1.n c1, .int .i64 V1.l, .float .f64 V1.x]) V1) := H1'.below HB0.out
  have H2 : Hid (VIn W0 (.agg #[.int .i64 V1.s, .bool V2.i, .slice a2 V2.n c2, .int .i64 V2.l, .float .f64 V2.x]) V2) := H2'.below HB0.out
  have H3 : Hid (VIn W0 (.agg #[.int .i64 V1.s, .bool V3.i, .slice a3 V3.n c3, .int .i64 V3.l, .float .f64 V3.x]) V3) := H3'.below HB0.out
  have HW : Below W0.heap.size W0 W0 := below_refl W0
  clear hr1 hL1 hn1 hx1 hl1 hs1 H1' hr2 hL2 hn2 hx2 hl2 hs2 H2' hr3 hL3 hn3 hx3 hl3 hs3 H3'
  obtain ⟨p10, p11, p12, p13, p14⟩ := box5 Hg1.out HW
  obtain ⟨p20, p21, p22, p23, p24⟩ := box5 Hg2.out HW
  obtain ⟨p30, p31, p32, p33, p34⟩ := box5 Hg3.out HW
  have cS : Calls Tryz.prog 6 #[.slice (some ⟨w.heap.size + 1 + 1 + 1, 0, none⟩) 3 3] W0 fun e w' => e = .returned (.bool true) ∧ w' = W0 := by
    refine vsmall_any (w.heap.size + 1 + 1 + 1) 3 (fun j => if j = 0 then a1 else if j = 1 then a2 else a3) (fun j => if j = 0 then V1.n else if j = 1 then V2.n else V3.n) (fun j => if j = 0 then c1 else if j = 1 then c2 else c3) W0 (by decide) (by decide) true (fun j hj => ?_) (fun h => ?_) (fun j hj h => ?_)
    · rw [cell_of_row W0 _ _ _ _ _ Hg4.out]
      match j, hj with
      | 0, _ => rfl
      | 1, _ => rfl
      | 2, _ => rfl
    · rfl
    · exfalso
      revert h
      have := SM.out
      match j, hj with
      | 0, _ => exact fun h => absurd h (by show ¬ 60 < V1.n; omega)
      | 1, _ => exact fun h => absurd h (by show ¬ 60 < V2.n; omega)
      | 2, _ => exact fun h => absurd h (by show ¬ 60 < V3.n; omega)
  have I1 := H1
  have G1 := Hg1
  have I2 := H2
  have G2 := Hg2
  have I3 := H3
  have G3 := Hg3
  have HB := HB0
  clear HW H1 Hg1 p10 p11 p12 p13 p14 H2 Hg2 p20 p21 p22 p23 p24 H3 Hg3 p30 p31 p32 p33 p34 HB0 SM
  go_enter Tryz.func4, Tryz.ntmps4
  go_wp2_with (go_at_call 6; fail)
  rw [← hW0]
  refine cS.mono ?_
  rintro e w' ⟨rfl, hw⟩
  replace hw := hw.symm
  subst hw
  clear cS hW0 Hg4
  obtain ⟨p10, p11, p12, p13, p14⟩ := box5 G1.out (below_refl _)
  have l1 := blk_lt G1.out
  obtain ⟨p20, p21, p22, p23, p24⟩ := box5 G2.out (below_refl _)
  have l2 := blk_lt G2.out
  obtain ⟨p30, p31, p32, p33, p34⟩ := box5 G3.out (below_refl _)
  have l3 := blk_lt G3.out
  go_wp2_with (go_at_call 21; fail)
  refine (vmay_at _ _ V1 0 (by exact I1.out) M1.out).mono ?_
  rintro e w1 ⟨rfl, b⟩
  replace G1 : Hid (w1.heap[w.heap.size]? = _) := blk_below G1.out b
  replace I1 : Hid (VIn w1 _ _) := I1.out.below b
  replace G2 : Hid (w1.heap[w.heap.size + 1]? = _) := blk_below G2.out b
  replace I2 : Hid (VIn w1 _ _) := I2.out.below b
  replace G3 : Hid (w1.heap[w.heap.size + 1 + 1]? = _) := blk_below G3.out b
  replace I3 : Hid (VIn w1 _ _) := I3.out.below b
  replace HB : Hid (Below _ _ w1) := below_step HB.out b
  clear b
  clear p10 p11 p12 p13 p14 l1 p20 p21 p22 p23 p24 l2 p30 p31 p32 p33 p34 l3
  obtain ⟨p10, p11, p12, p13, p14⟩ := box5 G1.out (below_refl _)
  have l1 := blk_lt G1.out
  obtain ⟨p20, p21, p22, p23, p24⟩ := box5 G2.out (below_refl _)
  have l2 := blk_lt G2.out
  obtain ⟨p30, p31, p32, p33, p34⟩ := box5 G3.out (below_refl _)
  have l3 := blk_lt G3.out
  go_wp2_with (go_at_call 21; fail)
  refine (vmay_at _ _ V2 0 (by exact I2.out) M2.out).mono ?_
  rintro e w2 ⟨rfl, b⟩
  replace G1 : Hid (w2.heap[w.heap.size]? = _) := blk_below G1.out b
  replace I1 : Hid (VIn w2 _ _) := I1.out.below b
  replace G2 : Hid (w2.heap[w.heap.size + 1]? = _) := blk_below G2.out b
  replace I2 : Hid (VIn w2 _ _) := I2.out.below b
  replace G3 : Hid (w2.heap[w.heap.size + 1 + 1]? = _) := blk_below G3.out b
  replace I3 : Hid (VIn w2 _ _) := I3.out.below b
  replace HB : Hid (Below _ _ w2) := below_step HB.out b
  clear b
  clear p10 p11 p12 p13 p14 l1 p20 p21 p22 p23 p24 l2 p30 p31 p32 p33 p34 l3
  obtain ⟨p10, p11, p12, p13, p14⟩ := box5 G1.out (below_refl _)
  have l1 := blk_lt G1.out
  obtain ⟨p20, p21, p22, p23, p24⟩ := box5 G2.out (below_refl _)
  have l2 := blk_lt G2.out
  obtain ⟨p30, p31, p32, p33, p34⟩ := box5 G3.out (below_refl _)
  have l3 := blk_lt G3.out
  go_wp2_with (go_at_call 21; fail)
  refine (vmay_at _ _ V3 0 (by exact I3.out) M3.out).mono ?_
  rintro e w3 ⟨rfl, b⟩
  replace G1 : Hid (w3.heap[w.heap.size]? = _) := blk_below G1.out b
  replace I1 : Hid (VIn w3 _ _) := I1.out.below b
  replace G2 : Hid (w3.heap[w.heap.size + 1]? = _) := blk_below G2.out b
  replace I2 : Hid (VIn w3 _ _) := I2.out.below b
  replace G3 : Hid (w3.heap[w.heap.size + 1 + 1]? = _) := blk_below G3.out b
  replace I3 : Hid (VIn w3 _ _) := I3.out.below b
  replace HB : Hid (Below _ _ w3) := below_step HB.out b
  clear b
  clear p10 p11 p12 p13 p14 l1 p20 p21 p22 p23 p24 l2 p30 p31 p32 p33 p34 l3
  obtain ⟨p10, p11, p12, p13, p14⟩ := box5 G1.out (below_refl _)
  have l1 := blk_lt G1.out
  obtain ⟨p20, p21, p22, p23, p24⟩ := box5 G2.out (below_refl _)
  have l2 := blk_lt G2.out
  obtain ⟨p30, p31, p32, p33, p34⟩ := box5 G3.out (below_refl _)
  have l3 := blk_lt G3.out
  go_wp2_with (go_at_call 22; fail)
  refine (rmv_at _ _ V1 0 (by exact I1.out) M1.out).mono ?_
  rintro e w4 ⟨rfl, b⟩
  replace G1 : Hid (w4.heap[w.heap.size]? = _) := blk_below G1.out b
  replace I1 : Hid (VIn w4 _ _) := I1.out.below b
  replace G2 : Hid (w4.heap[w.heap.size + 1]? = _) := blk_below G2.out b
  replace I2 : Hid (VIn w4 _ _) := I2.out.below b
  replace G3 : Hid (w4.heap[w.heap.size + 1 + 1]? = _) := blk_below G3.out b
  replace I3 : Hid (VIn w4 _ _) := I3.out.below b
  replace HB : Hid (Below _ _ w4) := below_step HB.out b
  clear b
  clear p10 p11 p12 p13 p14 l1 p20 p21 p22 p23 p24 l2 p30 p31 p32 p33 p34 l3
  obtain ⟨p10, p11, p12, p13, p14⟩ := box5 G1.out (below_refl _)
  have l1 := blk_lt G1.out
  obtain ⟨p20, p21, p22, p23, p24⟩ := box5 G2.out (below_refl _)
  have l2 := blk_lt G2.out
  obtain ⟨p30, p31, p32, p33, p34⟩ := box5 G3.out (below_refl _)
  have l3 := blk_lt G3.out
  go_wp2_with (go_at_call 22; fail)
  refine (rmv_at _ _ V2 0 (by exact I2.out) M2.out).mono ?_
  rintro e w5 ⟨rfl, b⟩
  replace G1 : Hid (w5.heap[w.heap.size]? = _) := blk_below G1.out b
  replace I1 : Hid (VIn w5 _ _) := I1.out.below b
  replace G2 : Hid (w5.heap[w.heap.size + 1]? = _) := blk_below G2.out b
  replace I2 : Hid (VIn w5 _ _) := I2.out.below b
  replace G3 : Hid (w5.heap[w.heap.size + 1 + 1]? = _) := blk_below G3.out b
  replace I3 : Hid (VIn w5 _ _) := I3.out.below b
  replace HB : Hid (Below _ _ w5) := below_step HB.out b
  clear b
  clear p10 p11 p12 p13 p14 l1 p20 p21 p22 p23 p24 l2 p30 p31 p32 p33 p34 l3
  obtain ⟨p10, p11, p12, p13, p14⟩ := box5 G1.out (below_refl _)
  have l1 := blk_lt G1.out
  obtain ⟨p20, p21, p22, p23, p24⟩ := box5 G2.out (below_refl _)
  have l2 := blk_lt G2.out
  obtain ⟨p30, p31, p32, p33, p34⟩ := box5 G3.out (below_refl _)
  have l3 := blk_lt G3.out
  go_wp2_with (go_at_call 22; fail)
  refine (rmv_at _ _ V3 0 (by exact I3.out) M3.out).mono ?_
  rintro e w6 ⟨rfl, b⟩
  replace G1 : Hid (w6.heap[w.heap.size]? = _) := blk_below G1.out b
  replace I1 : Hid (VIn w6 _ _) := I1.out.below b
  replace G2 : Hid (w6.heap[w.heap.size + 1]? = _) := blk_below G2.out b
  replace I2 : Hid (VIn w6 _ _) := I2.out.below b
  replace G3 : Hid (w6.heap[w.heap.size + 1 + 1]? = _) := blk_below G3.out b
  replace I3 : Hid (VIn w6 _ _) := I3.out.below b
  replace HB : Hid (Below _ _ w6) := below_step HB.out b
  clear b
  clear p10 p11 p12 p13 p14 l1 p20 p21 p22 p23 p24 l2 p30 p31 p32 p33 p34 l3
  obtain ⟨p10, p11, p12, p13, p14⟩ := box5 G1.out (below_refl _)
  have l1 := blk_lt G1.out
  obtain ⟨p20, p21, p22, p23, p24⟩ := box5 G2.out (below_refl _)
  have l2 := blk_lt G2.out
  obtain ⟨p30, p31, p32, p33, p34⟩ := box5 G3.out (below_refl _)
  have l3 := blk_lt G3.out
  go_wp2_with (go_at_call 27; fail)
  refine (exact_at _ _ _ _ V1 V2 V3 false (by exact I1.out) (by exact I2.out) (by exact I3.out) M1.out M2.out M3.out F2.out F3.out EX.out).mono ?_
  rintro e w7 ⟨rfl, b⟩
  replace G1 : Hid (w7.heap[w.heap.size]? = _) := blk_below G1.out b
  replace I1 : Hid (VIn w7 _ _) := I1.out.below b
  replace G2 : Hid (w7.heap[w.heap.size + 1]? = _) := blk_below G2.out b
  replace I2 : Hid (VIn w7 _ _) := I2.out.below b
  replace G3 : Hid (w7.heap[w.heap.size + 1 + 1]? = _) := blk_below G3.out b
  replace I3 : Hid (VIn w7 _ _) := I3.out.below b
  replace HB : Hid (Below _ _ w7) := below_step HB.out b
  clear b
  clear p10 p11 p12 p13 p14 l1 p20 p21 p22 p23 p24 l2 p30 p31 p32 p33 p34 l3
  obtain ⟨p10, p11, p12, p13, p14⟩ := box5 G1.out (below_refl _)
  have l1 := blk_lt G1.out
  obtain ⟨p20, p21, p22, p23, p24⟩ := box5 G2.out (below_refl _)
  have l2 := blk_lt G2.out
  obtain ⟨p30, p31, p32, p33, p34⟩ := box5 G3.out (below_refl _)
  have l3 := blk_lt G3.out
  go_wp2_with (go_at_call 7; fail)
  refine (vawake_any _ (by exact HEnv.out.below HB.out)).mono ?_
  rintro e w8 ⟨rfl, b⟩
  replace G1 : Hid (w8.heap[w.heap.size]? = _) := blk_below G1.out b
  replace I1 : Hid (VIn w8 _ _) := I1.out.below b
  replace G2 : Hid (w8.heap[w.heap.size + 1]? = _) := blk_below G2.out b
  replace I2 : Hid (VIn w8 _ _) := I2.out.below b
  replace G3 : Hid (w8.heap[w.heap.size + 1 + 1]? = _) := blk_below G3.out b
  replace I3 : Hid (VIn w8 _ _) := I3.out.below b
  replace HB : Hid (Below _ _ w8) := below_step HB.out b
  clear b
  clear p10 p11 p12 p13 p14 l1 p20 p21 p22 p23 p24 l2 p30 p31 p32 p33 p34 l3
  obtain ⟨p10, p11, p12, p13, p14⟩ := box5 G1.out (below_refl _)
  have l1 := blk_lt G1.out
  obtain ⟨p20, p21, p22, p23, p24⟩ := box5 G2.out (below_refl _)
  have l2 := blk_lt G2.out
  obtain ⟨p30, p31, p32, p33, p34⟩ := box5 G3.out (below_refl _)
  have l3 := blk_lt G3.out
  go_wp2
  go_ret
  exact ⟨rfl, HB.out⟩
end Go.Proofs.YtjdbapkmaggllaaGreatDoor
