/- The walk of SemiMixed. -/
import Derived.Test.YtjdbapkmaggllaaDoorLab
namespace Go.Proofs.YtjdbapkmaggllaaDoor
open Go.RowKit Fo
set_option maxRecDepth 100000

theorem fields_no (w : World) : Calls Tryd.prog 16 #[.agg #[.int .i64 0, .bool false, .slice none 0 0, .int .i64 0, .float .f64 0], .agg #[.int .i64 0, .bool false, .slice none 0 0, .int .i64 0, .float .f64 0]] w fun e w' => e = .returned (.bool true) ∧ Below w.heap.size w w' :=
  fields_true false none none 0 0 0 (fun _ => 0) w (Rd.empty _ _ _ (by decide) _) (Rd.empty _ _ _ (by decide) _) (by decide)
theorem vsame_no (w : World) (v1 v2 : Value) (V1 V2 : Vl) (h1 : VIn w v1 V1) (h2 : VIn w v2 V2) (he : errV V1 V2 ≠ 0) : Calls Tryd.prog 13 #[v1, v2] w fun e w' => e = .returned (.bool false) ∧ Below w.heap.size w w' := by
  refine calls_bool (vsame_any w v1 v2 V1 V2 h1 h2) ?_
  unfold sameV
  rw [decide_eq_false he, Bool.false_and]
set_option maxHeartbeats 8000000 in
theorem mix_big (w : World) (V1 V2 : Vl) (a1 a2 : Option Addr) (c1 c2 : Nat)  (henv : Env w) (hbig : ¬ (V1.n ≤ 60 ∧ V2.n ≤ 60)) : Calls Tryd.prog 5 #[.agg #[.int .i64 V1.s, .bool V1.i, .slice a1 V1.n c1, .int .i64 V1.l, .float .f64 V1.x], .agg #[.int .i64 V2.s, .bool V2.i, .slice a2 V2.n c2, .int .i64 V2.l, .float .f64 V2.x]] w fun e w' => e = .returned (.bool true) ∧ Below w.heap.size w w' := by
  have HEnv : Hid (Env w) := henv
  have HBig : Hid (¬ (V1.n ≤ 60 ∧ V2.n ≤ 60)) := hbig
  clear henv hbig
  obtain ⟨W0, hW0⟩ : ∃ W0, W0 = (((w.alloc (.cells #[.int .i64 V1.s, .bool V1.i, .slice a1 V1.n c1, .int .i64 V1.l, .float .f64 V1.x] 27)).alloc (.cells #[.int .i64 V2.s, .bool V2.i, .slice a2 V2.n c2, .int .i64 V2.l, .float .f64 V2.x] 27)).alloc (.cells #[.int .i64 V1.s, .bool V1.i, .slice a1 V1.n c1, .int .i64 V1.l, .float .f64 V1.x, .int .i64 V2.s, .bool V2.i, .slice a2 V2.n c2, .int .i64 V2.l, .float .f64 V2.x] 27)) := ⟨_, rfl⟩
  have HB0 : Hid (Below w.heap.size w W0) := by rw [hW0]; exact below3 w _ _ _
  have hg : W0.heap[w.heap.size + 1 + 1]? = some (.cells #[.int .i64 V1.s, .bool V1.i, .slice a1 V1.n c1, .int .i64 V1.l, .float .f64 V1.x, .int .i64 V2.s, .bool V2.i, .slice a2 V2.n c2, .int .i64 V2.l, .float .f64 V2.x] 27) := by rw [hW0]; exact heap_at3_2 w _ _ _
  have cS : Calls Tryd.prog 6 #[.slice (some ⟨w.heap.size + 1 + 1, 0, none⟩) 2 2] W0 fun e w' => e = .returned (.bool false) ∧ w' = W0 := by
    refine vsmall_any (w.heap.size + 1 + 1) 2 (fun j => if j = 0 then a1 else a2) (fun j => if j = 0 then V1.n else V2.n) (fun j => if j = 0 then c1 else c2) W0 (by decide) (by decide) false (fun j hj => ?_) (fun h => ?_) (fun j hj h => ?_)
    · rw [cell_of_row W0 _ _ _ _ _ hg]
      match j, hj with
      | 0, _ => rfl
      | 1, _ => rfl
    · exfalso; exact HBig.out ⟨h 0 (by decide), h 1 (by decide)⟩
    · rfl
  clear hg
  go_enter Tryd.func5, Tryd.ntmps5
  go_wp2_with (go_at_call 6; fail)
  rw [← hW0]
  clear hW0
  refine cS.mono ?_
  rintro e w' ⟨rfl, hw⟩
  replace hw := hw.symm
  subst hw
  clear cS
  go_wp2_with (go_at_call 7; refine (vawake_any _ (by exact HEnv.out.below HB0.out)).mono ?_; rintro e w1 ⟨rfl, b⟩)
  go_ret
  exact ⟨rfl, below_step HB0.out b⟩
set_option maxHeartbeats 32000000 in
theorem mix_a9 (w : World) (v1 v2 : Value) (V1 V2 : Vl) (h1 : VIn w v1 V1) (h2 : VIn w v2 V2) (henv : Env w) (hsm : V1.n ≤ 60 ∧ V2.n ≤ 60)  (er : errV V1 V2 = 9) (en : errV V1 V2 ≠ 0) (m1 : mayV V1 = 9) : Calls Tryd.prog 5 #[v1, v2] w fun e w' => e = .returned (.bool true) ∧ Below w.heap.size w w' := by
  have hsf := st_flo
  have HEnv : Hid (Env w) := henv
  clear henv
  have SM : Hid (V1.n ≤ 60 ∧ V2.n ≤ 60) := hsm
  have SN : Hid (V1.n ≤ 60 ∧ V2.n ≤ 60) := hsm
  clear hsm
  have ER : Hid (errV V1 V2 = 9) := er
  have EN : Hid (errV V1 V2 ≠ 0) := en
  have M1 : Hid (mayV V1 = 9) := m1
  clear er en m1
  have H1' := h1
  obtain ⟨a1, c1, rfl, hr1, hL1, hn1, hx1, hl1, hs1⟩ := h1
  have H2' := h2
  obtain ⟨a2, c2, rfl, hr2, hL2, hn2, hx2, hl2, hs2⟩ := h2
  obtain ⟨W0, hW0⟩ : ∃ W0, W0 = (((w.alloc (.cells #[.int .i64 V1.s, .bool V1.i, .slice a1 V1.n c1, .int .i64 V1.l, .float .f64 V1.x] 27)).alloc (.cells #[.int .i64 V2.s, .bool V2.i, .slice a2 V2.n c2, .int .i64 V2.l, .float .f64 V2.x] 27)).alloc (.cells #[.int .i64 V1.s, .bool V1.i, .slice a1 V1.n c1, .int .i64 V1.l, .float .f64 V1.x, .int .i64 V2.s, .bool V2.i, .slice a2 V2.n c2, .int .i64 V2.l, .float .f64 V2.x] 27)) := ⟨_, rfl⟩
  have HB0 : Hid (Below w.heap.size w W0) := by rw [hW0]; exact below3 w _ _ _
  have Hg1 : Hid (W0.heap[w.heap.size]? = some (.cells #[.int .i64 V1.s, .bool V1.i, .slice a1 V1.n c1, .int .i64 V1.l, .float .f64 V1.x] 27)) := by
    show W0.heap[w.heap.size]? = _
    rw [hW0]; exact heap_at3_0 w _ _ _
  have Hg2 : Hid (W0.heap[w.heap.size + 1]? = some (.cells #[.int .i64 V2.s, .bool V2.i, .slice a2 V2.n c2, .int .i64 V2.l, .float .f64 V2.x] 27)) := by
    show W0.heap[w.heap.size + 1]? = _
    rw [hW0]; exact heap_at3_1 w _ _ _
  have Hg3 : Hid (W0.heap[w.heap.size + 1 + 1]? = some (.cells #[.int .i64 V1.s, .bool V1.i, .slice a1 V1.n c1, .int .i64 V1.l, .float .f64 V1.x, .int .i64 V2.s, .bool V2.i, .slice a2 V2.n c2, .int .i64 V2.l, .float .f64 V2.x] 27)) := by
    show W0.heap[w.heap.size + 1 + 1]? = _
    rw [hW0]; exact heap_at3_2 w _ _ _
  have H1 : Hid (VIn W0 (.agg #[.int .i64 V1.s, .bool V1.i, .slice a1 V1.n c1, .int .i64 V1.l, .float .f64 V1.x]) V1) := H1'.below HB0.out
  have H2 : Hid (VIn W0 (.agg #[.int .i64 V2.s, .bool V2.i, .slice a2 V2.n c2, .int .i64 V2.l, .float .f64 V2.x]) V2) := H2'.below HB0.out
  have HW : Below W0.heap.size W0 W0 := below_refl W0
  clear hr1 hL1 hn1 hx1 hl1 hs1 H1' hr2 hL2 hn2 hx2 hl2 hs2 H2'
  obtain ⟨p10, p11, p12, p13, p14⟩ := box5 Hg1.out HW
  obtain ⟨p20, p21, p22, p23, p24⟩ := box5 Hg2.out HW
  have cS : Calls Tryd.prog 6 #[.slice (some ⟨w.heap.size + 1 + 1, 0, none⟩) 2 2] W0 fun e w' => e = .returned (.bool true) ∧ w' = W0 := by
    refine vsmall_any (w.heap.size + 1 + 1) 2 (fun j => if j = 0 then a1 else a2) (fun j => if j = 0 then V1.n else V2.n) (fun j => if j = 0 then c1 else c2) W0 (by decide) (by decide) true (fun j hj => ?_) (fun h => ?_) (fun j hj h => ?_)
    · rw [cell_of_row W0 _ _ _ _ _ Hg3.out]
      match j, hj with
      | 0, _ => rfl
      | 1, _ => rfl
    · rfl
    · exfalso
      revert h
      have := SM.out
      match j, hj with
      | 0, _ => exact fun h => absurd h (by show ¬ 60 < V1.n; omega)
      | 1, _ => exact fun h => absurd h (by show ¬ 60 < V2.n; omega)
  have I1 := H1
  have G1 := Hg1
  have I2 := H2
  have G2 := Hg2
  have HB := HB0
  clear HW H1 Hg1 p10 p11 p12 p13 p14 H2 Hg2 p20 p21 p22 p23 p24 HB0 SM
  go_enter Tryd.func5, Tryd.ntmps5
  go_wp2_with (go_at_call 6; fail)
  rw [← hW0]
  refine cS.mono ?_
  rintro e w' ⟨rfl, hw⟩
  replace hw := hw.symm
  subst hw
  clear cS hW0 Hg3
  obtain ⟨p10, p11, p12, p13, p14⟩ := box5 G1.out (below_refl _)
  have l1 := blk_lt G1.out
  obtain ⟨p20, p21, p22, p23, p24⟩ := box5 G2.out (below_refl _)
  have l2 := blk_lt G2.out
  go_wp2_with (go_at_call 12; fail)
  refine (plus_err _ _ _ V1 V2 (by exact I1.out) (by exact I2.out) 9 ER.out (by decide)).mono ?_
  rintro e w1 ⟨rfl, b⟩
  replace G1 : Hid (w1.heap[w.heap.size]? = _) := blk_below G1.out b
  replace I1 : Hid (VIn w1 _ _) := I1.out.below b
  replace G2 : Hid (w1.heap[w.heap.size + 1]? = _) := blk_below G2.out b
  replace I2 : Hid (VIn w1 _ _) := I2.out.below b
  replace HB : Hid (Below _ _ w1) := below_step HB.out b
  clear b
  unfold noV
  clear p10 p11 p12 p13 p14 l1 p20 p21 p22 p23 p24 l2
  obtain ⟨p10, p11, p12, p13, p14⟩ := box5 G1.out (below_refl _)
  have l1 := blk_lt G1.out
  obtain ⟨p20, p21, p22, p23, p24⟩ := box5 G2.out (below_refl _)
  have l2 := blk_lt G2.out
  go_wp2_with (go_at_call 11; fail)
  obtain ⟨W1, hW⟩ : ∃ W1, W1 = w1.alloc (.cells #[.int .i64 0, .bool false, .slice none 0 0, .int .i64 0, .float .f64 0] 27) := ⟨_, rfl⟩
  rw [← hW]
  have hb : Below w1.heap.size w1 W1 := by rw [hW]; exact below1 _ _
  replace G1 : Hid (W1.heap[w.heap.size]? = _) := blk_below G1.out hb
  replace I1 : Hid (VIn W1 _ _) := I1.out.below hb
  replace G2 : Hid (W1.heap[w.heap.size + 1]? = _) := blk_below G2.out hb
  replace I2 : Hid (VIn W1 _ _) := I2.out.below hb
  replace HB : Hid (Below _ _ W1) := below_step HB.out hb
  have GR1 : Hid (W1.heap[w1.heap.size]? = some (.cells #[.int .i64 0, .bool false, .slice none 0 0, .int .i64 0, .float .f64 0] 27)) := by show W1.heap[w1.heap.size]? = _; rw [hW]; exact heap_alloc_new _ _
  clear hb hW
  refine (times_err _ _ _ V1 V2 (by exact I1.out) (by exact I2.out) 9 ER.out (by decide)).mono ?_
  rintro e w2 ⟨rfl, b⟩
  replace G1 : Hid (w2.heap[w.heap.size]? = _) := blk_below G1.out b
  replace I1 : Hid (VIn w2 _ _) := I1.out.below b
  replace G2 : Hid (w2.heap[w.heap.size + 1]? = _) := blk_below G2.out b
  replace I2 : Hid (VIn w2 _ _) := I2.out.below b
  replace GR1 : Hid (w2.heap[w1.heap.size]? = _) := blk_below GR1.out b
  replace HB : Hid (Below _ _ w2) := below_step HB.out b
  clear b
  unfold noV
  clear p10 p11 p12 p13 p14 l1 p20 p21 p22 p23 p24 l2
  obtain ⟨p10, p11, p12, p13, p14⟩ := box5 G1.out (below_refl _)
  have l1 := blk_lt G1.out
  obtain ⟨p20, p21, p22, p23, p24⟩ := box5 G2.out (below_refl _)
  have l2 := blk_lt G2.out
  obtain ⟨pR10, pR11, pR12, pR13, pR14⟩ := box5 GR1.out (below_refl _)
  have lR1 := blk_lt GR1.out
  go_wp2_with (go_at_call 14; fail)
  obtain ⟨W2, hW⟩ : ∃ W2, W2 = w2.alloc (.cells #[.int .i64 0, .bool false, .slice none 0 0, .int .i64 0, .float .f64 0] 27) := ⟨_, rfl⟩
  rw [← hW]
  have hb : Below w2.heap.size w2 W2 := by rw [hW]; exact below1 _ _
  replace G1 : Hid (W2.heap[w.heap.size]? = _) := blk_below G1.out hb
  replace I1 : Hid (VIn W2 _ _) := I1.out.below hb
  replace G2 : Hid (W2.heap[w.heap.size + 1]? = _) := blk_below G2.out hb
  replace I2 : Hid (VIn W2 _ _) := I2.out.below hb
  replace GR1 : Hid (W2.heap[w1.heap.size]? = _) := blk_below GR1.out hb
  replace HB : Hid (Below _ _ W2) := below_step HB.out hb
  have GR2 : Hid (W2.heap[w2.heap.size]? = some (.cells #[.int .i64 0, .bool false, .slice none 0 0, .int .i64 0, .float .f64 0] 27)) := by show W2.heap[w2.heap.size]? = _; rw [hW]; exact heap_alloc_new _ _
  clear hb hW
  refine (better_err _ _ _ V1 V2 (by exact I1.out) (by exact I2.out) 9 ER.out (by decide)).mono ?_
  rintro e w3 ⟨rfl, b⟩
  replace G1 : Hid (w3.heap[w.heap.size]? = _) := blk_below G1.out b
  replace I1 : Hid (VIn w3 _ _) := I1.out.below b
  replace G2 : Hid (w3.heap[w.heap.size + 1]? = _) := blk_below G2.out b
  replace I2 : Hid (VIn w3 _ _) := I2.out.below b
  replace GR1 : Hid (w3.heap[w1.heap.size]? = _) := blk_below GR1.out b
  replace GR2 : Hid (w3.heap[w2.heap.size]? = _) := blk_below GR2.out b
  replace HB : Hid (Below _ _ w3) := below_step HB.out b
  clear b
  clear p10 p11 p12 p13 p14 l1 p20 p21 p22 p23 p24 l2 pR10 pR11 pR12 pR13 pR14 lR1
  obtain ⟨p10, p11, p12, p13, p14⟩ := box5 G1.out (below_refl _)
  have l1 := blk_lt G1.out
  obtain ⟨p20, p21, p22, p23, p24⟩ := box5 G2.out (below_refl _)
  have l2 := blk_lt G2.out
  obtain ⟨pR10, pR11, pR12, pR13, pR14⟩ := box5 GR1.out (below_refl _)
  have lR1 := blk_lt GR1.out
  obtain ⟨pR20, pR21, pR22, pR23, pR24⟩ := box5 GR2.out (below_refl _)
  have lR2 := blk_lt GR2.out
  go_wp2_with (go_at_call 15; fail)
  refine (vmay_at _ _ V1 9 (by exact I1.out) M1.out).mono ?_
  rintro e w4 ⟨rfl, b⟩
  replace G1 : Hid (w4.heap[w.heap.size]? = _) := blk_below G1.out b
  replace I1 : Hid (VIn w4 _ _) := I1.out.below b
  replace G2 : Hid (w4.heap[w.heap.size + 1]? = _) := blk_below G2.out b
  replace I2 : Hid (VIn w4 _ _) := I2.out.below b
  replace GR1 : Hid (w4.heap[w1.heap.size]? = _) := blk_below GR1.out b
  replace GR2 : Hid (w4.heap[w2.heap.size]? = _) := blk_below GR2.out b
  replace HB : Hid (Below _ _ w4) := below_step HB.out b
  clear b
  clear p10 p11 p12 p13 p14 l1 p20 p21 p22 p23 p24 l2 pR10 pR11 pR12 pR13 pR14 lR1 pR20 pR21 pR22 pR23 pR24 lR2
  obtain ⟨p10, p11, p12, p13, p14⟩ := box5 G1.out (below_refl _)
  have l1 := blk_lt G1.out
  obtain ⟨p20, p21, p22, p23, p24⟩ := box5 G2.out (below_refl _)
  have l2 := blk_lt G2.out
  obtain ⟨pR10, pR11, pR12, pR13, pR14⟩ := box5 GR1.out (below_refl _)
  have lR1 := blk_lt GR1.out
  obtain ⟨pR20, pR21, pR22, pR23, pR24⟩ := box5 GR2.out (below_refl _)
  have lR2 := blk_lt GR2.out
  have HW : Below w4.heap.size w4 w4 := below_refl _
  clear l1 l2 lR1 lR2
  go_upto_region 10 with fail
  refine wp_region_held_drew (S := (fun w' => w'.cell? ⟨w.heap.size, 0, none⟩ = some (.int .i64 V1.s) ∧ w'.cell? ⟨w.heap.size, 1, none⟩ = some (.bool V1.i) ∧ w'.cell? ⟨w.heap.size, 2, none⟩ = some (.slice a1 V1.n c1) ∧ w'.cell? ⟨w.heap.size, 3, none⟩ = some (.int .i64 V1.l) ∧ w'.cell? ⟨w.heap.size, 4, none⟩ = some (.float .f64 V1.x) ∧ w'.cell? ⟨w.heap.size + 1, 0, none⟩ = some (.int .i64 V2.s) ∧ w'.cell? ⟨w.heap.size + 1, 1, none⟩ = some (.bool V2.i) ∧ w'.cell? ⟨w.heap.size + 1, 2, none⟩ = some (.slice a2 V2.n c2) ∧ w'.cell? ⟨w.heap.size + 1, 3, none⟩ = some (.int .i64 V2.l) ∧ w'.cell? ⟨w.heap.size + 1, 4, none⟩ = some (.float .f64 V2.x) ∧ w'.cell? ⟨w1.heap.size, 0, none⟩ = some (.int .i64 0) ∧ w'.cell? ⟨w1.heap.size, 1, none⟩ = some (.bool false) ∧ w'.cell? ⟨w1.heap.size, 2, none⟩ = some (.slice none 0 0) ∧ w'.cell? ⟨w1.heap.size, 3, none⟩ = some (.int .i64 0) ∧ w'.cell? ⟨w1.heap.size, 4, none⟩ = some (.float .f64 0) ∧ w'.cell? ⟨w2.heap.size, 0, none⟩ = some (.int .i64 0) ∧ w'.cell? ⟨w2.heap.size, 1, none⟩ = some (.bool false) ∧ w'.cell? ⟨w2.heap.size, 2, none⟩ = some (.slice none 0 0) ∧ w'.cell? ⟨w2.heap.size, 3, none⟩ = some (.int .i64 0) ∧ w'.cell? ⟨w2.heap.size, 4, none⟩ = some (.float .f64 0))) (by kernel_rfl) ?_ (fun hHeld => ?_)
  · (try dsimp only); first | exact ⟨p10, p11, p12, p13, p14, p20, p21, p22, p23, p24, pR10, pR11, pR12, pR13, pR14, pR20, pR21, pR22, pR23, pR24⟩ | go_keep
  refine wpAnyH_take (i := 0) (oi := { dst := some 90, op := Op.load 27 (Operand.tmp 5), type := 27, pos := "law.go:166", after := #[], guard := none }) (v := ?vu1) rfl (by kernel_rfl) (by kernel_rfl) (by kernel_rfl) (fun _ _ _ h => h) (Or.inl ⟨by rfl, ?hyu1⟩) (by assumption) ?restu1
  case hyu1 => (intro w hSw; (try dsimp only at hSw); go_simp; (try with_reducible rfl))
  try simp only [Act.put, List.setIfInBounds_toArray, List.set_cons_zero, List.set_cons_succ]
  refine wpAnyH_take (i := 1) (oi := { dst := some 91, op := Op.build 27 #[], type := 27, pos := "law.go:166", after := #[], guard := none }) (v := ?vu2) rfl (by kernel_rfl) (by kernel_rfl) (by kernel_rfl) (fun _ _ _ h => h) (Or.inl ⟨by rfl, ?hyu2⟩) (by assumption) ?restu2
  case hyu2 => (intro w hSw; (try dsimp only at hSw); go_simp; (try with_reducible rfl))
  try simp only [Act.put, List.setIfInBounds_toArray, List.set_cons_zero, List.set_cons_succ]
  refine wpAnyH_ready (rs := [2]) (by kernel_rfl) (by simp) ?_
  refine AllReadyH.cons (o := { dst := some 92, op := Op.call { callee := Callee.value (Operand.func 16), args := #[Operand.tmp 90, Operand.tmp 91], argTypes := #[27, 27] }, type := 4, pos := "law.go:166", after := #[{ on := 0, ground := Ground.data }, { on := 1, ground := Ground.data }], guard := none }) rfl (fun K hK => ?_) AllReadyH.nil
  go_simp
  go_at_call 16
  refine (fields_no _).mono ?_
  rintro e z0 ⟨rfl, b⟩
  replace HW := below_step (by first | exact HW | exact HW.drew) b
  clear b
  clear p10 p11 p12 p13 p14 p20 p21 p22 p23 p24 pR10 pR11 pR12 pR13 pR14 pR20 pR21 pR22 pR23 pR24
  obtain ⟨p10, p11, p12, p13, p14⟩ := box5 G1.out HW
  obtain ⟨p20, p21, p22, p23, p24⟩ := box5 G2.out HW
  obtain ⟨pR10, pR11, pR12, pR13, pR14⟩ := box5 GR1.out HW
  obtain ⟨pR20, pR21, pR22, pR23, pR24⟩ := box5 GR2.out HW
  refine hK.out _ _ ?_ (fun hHeldB => ?_)
  · (try dsimp only); first | exact ⟨p10, p11, p12, p13, p14, p20, p21, p22, p23, p24, pR10, pR11, pR12, pR13, pR14, pR20, pR21, pR22, pR23, pR24⟩ | go_keep
  clear hK K hHeld
  have hHeld := hHeldB
  clear hHeldB
  try simp only [Act.put, List.setIfInBounds_toArray, List.set_cons_zero, List.set_cons_succ]
  refine wpAnyH_take (i := 3) (oi := { dst := some 93, op := Op.move (Operand.tmp 92), type := 4, pos := "law.go:166", after := #[{ on := 2, ground := Ground.data }, { on := 2, ground := Ground.chain }], guard := none }) (v := ?vu3) rfl (by kernel_rfl) (by kernel_rfl) (by kernel_rfl) (fun _ _ _ h => h) (Or.inl ⟨by rfl, ?hyu3⟩) (by assumption) ?restu3
  case hyu3 => (intro w hSw; (try dsimp only at hSw); go_simp; (try with_reducible rfl))
  try simp only [Act.put, List.setIfInBounds_toArray, List.set_cons_zero, List.set_cons_succ]
  refine wpAnyH_take (i := 4) (oi := { dst := some 94, op := Op.load 27 (Operand.tmp 7), type := 27, pos := "law.go:166", after := #[{ on := 3, ground := Ground.guard }], guard := some (3, true) }) (v := ?vu4) rfl (by kernel_rfl) (by kernel_rfl) (by kernel_rfl) (fun _ _ _ h => h) (Or.inl ⟨by rfl, ?hyu4⟩) (by assumption) ?restu4
  case hyu4 => (intro w hSw; (try dsimp only at hSw); go_simp; (try with_reducible rfl))
  try simp only [Act.put, List.setIfInBounds_toArray, List.set_cons_zero, List.set_cons_succ]
  refine wpAnyH_take (i := 5) (oi := { dst := some 95, op := Op.build 27 #[], type := 27, pos := "law.go:166", after := #[{ on := 3, ground := Ground.guard }], guard := some (3, true) }) (v := ?vu5) rfl (by kernel_rfl) (by kernel_rfl) (by kernel_rfl) (fun _ _ _ h => h) (Or.inl ⟨by rfl, ?hyu5⟩) (by assumption) ?restu5
  case hyu5 => (intro w hSw; (try dsimp only at hSw); go_simp; (try with_reducible rfl))
  try simp only [Act.put, List.setIfInBounds_toArray, List.set_cons_zero, List.set_cons_succ]
  refine wpAnyH_ready (rs := [6]) (by kernel_rfl) (by simp) ?_
  refine AllReadyH.cons (o := { dst := some 96, op := Op.call { callee := Callee.value (Operand.func 16), args := #[Operand.tmp 94, Operand.tmp 95], argTypes := #[27, 27] }, type := 4, pos := "law.go:166", after := #[{ on := 4, ground := Ground.data }, { on := 5, ground := Ground.data }, { on := 3, ground := Ground.chain }, { on := 3, ground := Ground.guard }], guard := some (3, true) }) rfl (fun K hK => ?_) AllReadyH.nil
  go_simp
  go_at_call 16
  refine (fields_no _).mono ?_
  rintro e z1 ⟨rfl, b⟩
  replace HW := below_step (by first | exact HW | exact HW.drew) b
  clear b
  clear p10 p11 p12 p13 p14 p20 p21 p22 p23 p24 pR10 pR11 pR12 pR13 pR14 pR20 pR21 pR22 pR23 pR24
  obtain ⟨p10, p11, p12, p13, p14⟩ := box5 G1.out HW
  obtain ⟨p20, p21, p22, p23, p24⟩ := box5 G2.out HW
  obtain ⟨pR10, pR11, pR12, pR13, pR14⟩ := box5 GR1.out HW
  obtain ⟨pR20, pR21, pR22, pR23, pR24⟩ := box5 GR2.out HW
  refine hK.out _ _ ?_ (fun hHeldB => ?_)
  · (try dsimp only); first | exact ⟨p10, p11, p12, p13, p14, p20, p21, p22, p23, p24, pR10, pR11, pR12, pR13, pR14, pR20, pR21, pR22, pR23, pR24⟩ | go_keep
  clear hK K hHeld
  have hHeld := hHeldB
  clear hHeldB
  try simp only [Act.put, List.setIfInBounds_toArray, List.set_cons_zero, List.set_cons_succ]
  refine wpAnyH_take (i := 7) (oi := { dst := some 97, op := Op.pick (Operand.tmp 93) (Operand.tmp 96) (Operand.const (Value.bool false)), type := 4, pos := "law.go:166", after := #[{ on := 3, ground := Ground.data }, { on := 6, ground := Ground.data }], guard := none }) (v := ?vu6) rfl (by kernel_rfl) (by kernel_rfl) (by kernel_rfl) (fun _ _ _ h => h) (Or.inl ⟨by rfl, ?hyu6⟩) (by assumption) ?restu6
  case hyu6 => (intro w hSw; (try dsimp only at hSw); go_simp; (try with_reducible rfl))
  try simp only [Act.put, List.setIfInBounds_toArray, List.set_cons_zero, List.set_cons_succ]
  refine wpAnyH_take (i := 8) (oi := { dst := some 98, op := Op.move (Operand.tmp 97), type := 4, pos := "law.go:166", after := #[{ on := 7, ground := Ground.data }, { on := 6, ground := Ground.chain }], guard := none }) (v := ?vu7) rfl (by kernel_rfl) (by kernel_rfl) (by kernel_rfl) (fun _ _ _ h => h) (Or.inl ⟨by rfl, ?hyu7⟩) (by assumption) ?restu7
  case hyu7 => (intro w hSw; (try dsimp only at hSw); go_simp; (try with_reducible rfl))
  try simp only [Act.put, List.setIfInBounds_toArray, List.set_cons_zero, List.set_cons_succ]
  refine wpAnyH_take (i := 9) (oi := { dst := some 99, op := Op.move (Operand.tmp 9), type := 4, pos := "law.go:166", after := #[{ on := 8, ground := Ground.guard }], guard := some (8, true) }) (v := ?vu8) rfl (by kernel_rfl) (by kernel_rfl) (by kernel_rfl) (fun _ _ _ h => h) (Or.inl ⟨by rfl, ?hyu8⟩) (by assumption) ?restu8
  case hyu8 => (intro w hSw; (try dsimp only at hSw); go_simp; (try with_reducible rfl))
  try simp only [Act.put, List.setIfInBounds_toArray, List.set_cons_zero, List.set_cons_succ]
  refine wpAnyH_take (i := 10) (oi := { dst := some 100, op := Op.unOp UnOp.not 4 (Operand.tmp 99), type := 4, pos := "law.go:166", after := #[{ on := 9, ground := Ground.data }, { on := 8, ground := Ground.guard }], guard := some (8, true) }) (v := ?vu9) rfl (by kernel_rfl) (by kernel_rfl) (by kernel_rfl) (fun _ _ _ h => h) (Or.inl ⟨by rfl, ?hyu9⟩) (by assumption) ?restu9
  case hyu9 => (intro w hSw; (try dsimp only at hSw); go_simp; (try with_reducible rfl))
  try simp only [Act.put, List.setIfInBounds_toArray, List.set_cons_zero, List.set_cons_succ]
  refine wpAnyH_take (i := 11) (oi := { dst := some 101, op := Op.pick (Operand.tmp 98) (Operand.tmp 100) (Operand.const (Value.bool false)), type := 4, pos := "law.go:166", after := #[{ on := 8, ground := Ground.data }, { on := 10, ground := Ground.data }], guard := none }) (v := ?vu10) rfl (by kernel_rfl) (by kernel_rfl) (by kernel_rfl) (fun _ _ _ h => h) (Or.inl ⟨by rfl, ?hyu10⟩) (by assumption) ?restu10
  case hyu10 => (intro w hSw; (try dsimp only at hSw); go_simp; (try with_reducible rfl))
  try simp only [Act.put, List.setIfInBounds_toArray, List.set_cons_zero, List.set_cons_succ]
  refine wpAnyH_take (i := 12) (oi := { dst := some 102, op := Op.move (Operand.tmp 101), type := 4, pos := "law.go:166", after := #[{ on := 11, ground := Ground.data }, { on := 8, ground := Ground.chain }], guard := none }) (v := ?vu11) rfl (by kernel_rfl) (by kernel_rfl) (by kernel_rfl) (fun _ _ _ h => h) (Or.inl ⟨by rfl, ?hyu11⟩) (by assumption) ?restu11
  case hyu11 => (intro w hSw; (try dsimp only at hSw); go_simp; (try with_reducible rfl))
  try simp only [Act.put, List.setIfInBounds_toArray, List.set_cons_zero, List.set_cons_succ]
  refine wpAnyH_take (i := 13) (oi := { dst := some 103, op := Op.load 27 (Operand.tmp 2), type := 27, pos := "law.go:166", after := #[{ on := 12, ground := Ground.guard }], guard := some (12, true) }) (v := ?vu12) rfl (by kernel_rfl) (by kernel_rfl) (by kernel_rfl) (fun _ _ _ h => h) (Or.inl ⟨by rfl, ?hyu12⟩) (by assumption) ?restu12
  case hyu12 => (intro w hSw; (try dsimp only at hSw); go_simp; (try with_reducible rfl))
  try simp only [Act.put, List.setIfInBounds_toArray, List.set_cons_zero, List.set_cons_succ]
  refine wpAnyH_take (i := 14) (oi := { dst := some 104, op := Op.load 27 (Operand.tmp 3), type := 27, pos := "law.go:166", after := #[{ on := 12, ground := Ground.guard }], guard := some (12, true) }) (v := ?vu13) rfl (by kernel_rfl) (by kernel_rfl) (by kernel_rfl) (fun _ _ _ h => h) (Or.inl ⟨by rfl, ?hyu13⟩) (by assumption) ?restu13
  case hyu13 => (intro w hSw; (try dsimp only at hSw); go_simp; (try with_reducible rfl))
  try simp only [Act.put, List.setIfInBounds_toArray, List.set_cons_zero, List.set_cons_succ]
  refine wpAnyH_take (i := 17) (oi := { dst := some 107, op := Op.load 27 (Operand.tmp 2), type := 27, pos := "law.go:166", after := #[{ on := 12, ground := Ground.guard }], guard := some (12, true) }) (v := ?vu14) rfl (by kernel_rfl) (by kernel_rfl) (by kernel_rfl) (fun _ _ _ h => h) (Or.inl ⟨by rfl, ?hyu14⟩) (by assumption) ?restu14
  case hyu14 => (intro w hSw; (try dsimp only at hSw); go_simp; (try with_reducible rfl))
  try simp only [Act.put, List.setIfInBounds_toArray, List.set_cons_zero, List.set_cons_succ]
  refine wpAnyH_ready (rs := [15]) (by kernel_rfl) (by simp) ?_
  refine AllReadyH.cons (o := { dst := some 105, op := Op.call { callee := Callee.value (Operand.func 13), args := #[Operand.tmp 103, Operand.tmp 104], argTypes := #[27, 27] }, type := 4, pos := "law.go:166", after := #[{ on := 13, ground := Ground.data }, { on := 14, ground := Ground.data }, { on := 12, ground := Ground.chain }, { on := 12, ground := Ground.guard }], guard := some (12, true) }) rfl (fun K hK => ?_) AllReadyH.nil
  go_simp
  go_at_call 13
  refine (vsame_no _ _ _ V1 V2 (by exact I1.out.below (by first | exact HW | exact HW.drew)) (by exact I2.out.below (by first | exact HW | exact HW.drew)) EN.out).mono ?_
  rintro e z2 ⟨rfl, b⟩
  replace HW := below_step (by first | exact HW | exact HW.drew) b
  clear b
  clear p10 p11 p12 p13 p14 p20 p21 p22 p23 p24 pR10 pR11 pR12 pR13 pR14 pR20 pR21 pR22 pR23 pR24
  obtain ⟨p10, p11, p12, p13, p14⟩ := box5 G1.out HW
  obtain ⟨p20, p21, p22, p23, p24⟩ := box5 G2.out HW
  obtain ⟨pR10, pR11, pR12, pR13, pR14⟩ := box5 GR1.out HW
  obtain ⟨pR20, pR21, pR22, pR23, pR24⟩ := box5 GR2.out HW
  refine hK.out _ _ ?_ (fun hHeldB => ?_)
  · (try dsimp only); first | exact ⟨p10, p11, p12, p13, p14, p20, p21, p22, p23, p24, pR10, pR11, pR12, pR13, pR14, pR20, pR21, pR22, pR23, pR24⟩ | go_keep
  clear hK K hHeld
  have hHeld := hHeldB
  clear hHeldB
  try simp only [Act.put, List.setIfInBounds_toArray, List.set_cons_zero, List.set_cons_succ]
  refine wpAnyH_take (i := 16) (oi := { dst := some 106, op := Op.unOp UnOp.not 4 (Operand.tmp 105), type := 4, pos := "law.go:166", after := #[{ on := 15, ground := Ground.data }, { on := 12, ground := Ground.guard }], guard := some (12, true) }) (v := ?vu15) rfl (by kernel_rfl) (by kernel_rfl) (by kernel_rfl) (fun _ _ _ h => h) (Or.inl ⟨by rfl, ?hyu15⟩) (by assumption) ?restu15
  case hyu15 => (intro w hSw; (try dsimp only at hSw); go_simp; (try with_reducible rfl))
  try simp only [Act.put, List.setIfInBounds_toArray, List.set_cons_zero, List.set_cons_succ]
  refine wpAnyH_ready (rs := [18]) (by kernel_rfl) (by simp) ?_
  refine AllReadyH.cons (o := { dst := some 108, op := Op.call { callee := Callee.value (Operand.func 9), args := #[Operand.tmp 107], argTypes := #[27] }, type := 3, pos := "law.go:166", after := #[{ on := 17, ground := Ground.data }, { on := 15, ground := Ground.chain }, { on := 12, ground := Ground.guard }], guard := some (12, true) }) rfl (fun K hK => ?_) AllReadyH.nil
  go_simp
  go_at_call 9
  refine (rmv_at _ _ V1 9 (by exact I1.out.below (by first | exact HW | exact HW.drew)) M1.out).mono ?_
  rintro e z3 ⟨rfl, b⟩
  replace HW := below_step (by first | exact HW | exact HW.drew) b
  clear b
  clear p10 p11 p12 p13 p14 p20 p21 p22 p23 p24 pR10 pR11 pR12 pR13 pR14 pR20 pR21 pR22 pR23 pR24
  obtain ⟨p10, p11, p12, p13, p14⟩ := box5 G1.out HW
  obtain ⟨p20, p21, p22, p23, p24⟩ := box5 G2.out HW
  obtain ⟨pR10, pR11, pR12, pR13, pR14⟩ := box5 GR1.out HW
  obtain ⟨pR20, pR21, pR22, pR23, pR24⟩ := box5 GR2.out HW
  refine hK.out _ _ ?_ (fun hHeldB => ?_)
  · (try dsimp only); first | exact ⟨p10, p11, p12, p13, p14, p20, p21, p22, p23, p24, pR10, pR11, pR12, pR13, pR14, pR20, pR21, pR22, pR23, pR24⟩ | go_keep
  clear hK K hHeld
  have hHeld := hHeldB
  clear hHeldB
  try simp only [Act.put, List.setIfInBounds_toArray, List.set_cons_zero, List.set_cons_succ]
  refine wpAnyH_take (i := 19) (oi := { dst := some 109, op := Op.binOp BinOp.neq 3 (Operand.tmp 108) (Operand.const (Value.int IntKind.i64 0)) 3, type := 4, pos := "law.go:166", after := #[{ on := 18, ground := Ground.data }, { on := 12, ground := Ground.guard }], guard := some (12, true) }) (v := ?vu16) rfl (by kernel_rfl) (by kernel_rfl) (by kernel_rfl) (fun _ _ _ h => h) (Or.inl ⟨by rfl, ?hyu16⟩) (by assumption) ?restu16
  case hyu16 => (intro w hSw; (try dsimp only at hSw); go_simp; (try with_reducible rfl))
  try simp only [Act.put, List.setIfInBounds_toArray, List.set_cons_zero, List.set_cons_succ]
  refine wpAnyH_take (i := 20) (oi := { dst := some 110, op := Op.move (Operand.tmp 109), type := 4, pos := "law.go:166", after := #[{ on := 19, ground := Ground.data }, { on := 18, ground := Ground.chain }, { on := 12, ground := Ground.guard }], guard := some (12, true) }) (v := ?vu17) rfl (by kernel_rfl) (by kernel_rfl) (by kernel_rfl) (fun _ _ _ h => h) (Or.inl ⟨by rfl, ?hyu17⟩) (by assumption) ?restu17
  case hyu17 => (intro w hSw; (try dsimp only at hSw); go_simp; (try with_reducible rfl))
  try simp only [Act.put, List.setIfInBounds_toArray, List.set_cons_zero, List.set_cons_succ]
  refine wpAnyH_take (i := 21) (oi := { dst := some 111, op := Op.load 27 (Operand.tmp 3), type := 27, pos := "law.go:166", after := #[{ on := 20, ground := Ground.guard }], guard := some (20, false) }) (v := undef) rfl (by kernel_rfl) (by kernel_rfl) (by kernel_rfl) (fun _ _ _ h => h) (Or.inr ⟨by rfl, rfl⟩) (by assumption) ?_
  try simp only [Act.put, List.setIfInBounds_toArray, List.set_cons_zero, List.set_cons_succ]
  refine wpAnyH_take (i := 22) (oi := { dst := some 112, op := Op.call { callee := Callee.value (Operand.func 9), args := #[Operand.tmp 111], argTypes := #[27] }, type := 3, pos := "law.go:166", after := #[{ on := 21, ground := Ground.data }, { on := 20, ground := Ground.chain }, { on := 20, ground := Ground.guard }], guard := some (20, false) }) (v := undef) rfl (by kernel_rfl) (by kernel_rfl) (by kernel_rfl) (fun _ _ _ h => h) (Or.inr ⟨by rfl, rfl⟩) (by assumption) ?_
  try simp only [Act.put, List.setIfInBounds_toArray, List.set_cons_zero, List.set_cons_succ]
  refine wpAnyH_take (i := 23) (oi := { dst := some 113, op := Op.binOp BinOp.neq 3 (Operand.tmp 112) (Operand.const (Value.int IntKind.i64 0)) 3, type := 4, pos := "law.go:166", after := #[{ on := 22, ground := Ground.data }, { on := 20, ground := Ground.guard }], guard := some (20, false) }) (v := undef) rfl (by kernel_rfl) (by kernel_rfl) (by kernel_rfl) (fun _ _ _ h => h) (Or.inr ⟨by rfl, rfl⟩) (by assumption) ?_
  try simp only [Act.put, List.setIfInBounds_toArray, List.set_cons_zero, List.set_cons_succ]
  refine wpAnyH_take (i := 24) (oi := { dst := some 114, op := Op.pick (Operand.tmp 110) (Operand.const (Value.bool true)) (Operand.tmp 113), type := 4, pos := "law.go:166", after := #[{ on := 20, ground := Ground.data }, { on := 23, ground := Ground.data }, { on := 12, ground := Ground.guard }], guard := some (12, true) }) (v := ?vu18) rfl (by kernel_rfl) (by kernel_rfl) (by kernel_rfl) (fun _ _ _ h => h) (Or.inl ⟨by rfl, ?hyu18⟩) (by assumption) ?restu18
  case hyu18 => (intro w hSw; (try dsimp only at hSw); go_simp; (try with_reducible rfl))
  try simp only [Act.put, List.setIfInBounds_toArray, List.set_cons_zero, List.set_cons_succ]
  refine wpAnyH_take (i := 25) (oi := { dst := some 115, op := Op.move (Operand.tmp 114), type := 4, pos := "law.go:166", after := #[{ on := 24, ground := Ground.data }, { on := 22, ground := Ground.chain }, { on := 12, ground := Ground.guard }], guard := some (12, true) }) (v := ?vu19) rfl (by kernel_rfl) (by kernel_rfl) (by kernel_rfl) (fun _ _ _ h => h) (Or.inl ⟨by rfl, ?hyu19⟩) (by assumption) ?restu19
  case hyu19 => (intro w hSw; (try dsimp only at hSw); go_simp; (try with_reducible rfl))
  try simp only [Act.put, List.setIfInBounds_toArray, List.set_cons_zero, List.set_cons_succ]
  refine wpAnyH_take (i := 26) (oi := { dst := some 116, op := Op.fieldAddr 27 (Operand.tmp 2) 0, type := 0, pos := "law.go:166", after := #[{ on := 25, ground := Ground.guard }], guard := some (25, false) }) (v := undef) rfl (by kernel_rfl) (by kernel_rfl) (by kernel_rfl) (fun _ _ _ h => h) (Or.inr ⟨by rfl, rfl⟩) (by assumption) ?_
  try simp only [Act.put, List.setIfInBounds_toArray, List.set_cons_zero, List.set_cons_succ]
  refine wpAnyH_take (i := 27) (oi := { dst := some 117, op := Op.load 3 (Operand.tmp 116), type := 3, pos := "law.go:166", after := #[{ on := 26, ground := Ground.data }, { on := 25, ground := Ground.guard }], guard := some (25, false) }) (v := undef) rfl (by kernel_rfl) (by kernel_rfl) (by kernel_rfl) (fun _ _ _ h => h) (Or.inr ⟨by rfl, rfl⟩) (by assumption) ?_
  try simp only [Act.put, List.setIfInBounds_toArray, List.set_cons_zero, List.set_cons_succ]
  refine wpAnyH_take (i := 28) (oi := { dst := some 118, op := Op.fieldAddr 27 (Operand.tmp 3) 0, type := 0, pos := "law.go:166", after := #[{ on := 25, ground := Ground.guard }], guard := some (25, false) }) (v := undef) rfl (by kernel_rfl) (by kernel_rfl) (by kernel_rfl) (fun _ _ _ h => h) (Or.inr ⟨by rfl, rfl⟩) (by assumption) ?_
  try simp only [Act.put, List.setIfInBounds_toArray, List.set_cons_zero, List.set_cons_succ]
  refine wpAnyH_take (i := 29) (oi := { dst := some 119, op := Op.load 3 (Operand.tmp 118), type := 3, pos := "law.go:166", after := #[{ on := 28, ground := Ground.data }, { on := 25, ground := Ground.guard }], guard := some (25, false) }) (v := undef) rfl (by kernel_rfl) (by kernel_rfl) (by kernel_rfl) (fun _ _ _ h => h) (Or.inr ⟨by rfl, rfl⟩) (by assumption) ?_
  try simp only [Act.put, List.setIfInBounds_toArray, List.set_cons_zero, List.set_cons_succ]
  refine wpAnyH_take (i := 30) (oi := { dst := some 120, op := Op.binOp BinOp.neq 3 (Operand.tmp 117) (Operand.tmp 119) 3, type := 4, pos := "law.go:166", after := #[{ on := 27, ground := Ground.data }, { on := 29, ground := Ground.data }, { on := 25, ground := Ground.guard }], guard := some (25, false) }) (v := undef) rfl (by kernel_rfl) (by kernel_rfl) (by kernel_rfl) (fun _ _ _ h => h) (Or.inr ⟨by rfl, rfl⟩) (by assumption) ?_
  try simp only [Act.put, List.setIfInBounds_toArray, List.set_cons_zero, List.set_cons_succ]
  refine wpAnyH_take (i := 31) (oi := { dst := some 121, op := Op.pick (Operand.tmp 115) (Operand.const (Value.bool true)) (Operand.tmp 120), type := 4, pos := "law.go:166", after := #[{ on := 25, ground := Ground.data }, { on := 30, ground := Ground.data }, { on := 12, ground := Ground.guard }], guard := some (12, true) }) (v := ?vu20) rfl (by kernel_rfl) (by kernel_rfl) (by kernel_rfl) (fun _ _ _ h => h) (Or.inl ⟨by rfl, ?hyu20⟩) (by assumption) ?restu20
  case hyu20 => (intro w hSw; (try dsimp only at hSw); go_simp; (try with_reducible rfl))
  try simp only [Act.put, List.setIfInBounds_toArray, List.set_cons_zero, List.set_cons_succ]
  refine wpAnyH_take (i := 32) (oi := { dst := some 122, op := Op.binOp BinOp.eql 4 (Operand.tmp 106) (Operand.tmp 121) 4, type := 4, pos := "law.go:166", after := #[{ on := 16, ground := Ground.data }, { on := 31, ground := Ground.data }, { on := 12, ground := Ground.guard }], guard := some (12, true) }) (v := ?vu21) rfl (by kernel_rfl) (by kernel_rfl) (by kernel_rfl) (fun _ _ _ h => h) (Or.inl ⟨by rfl, ?hyu21⟩) (by assumption) ?restu21
  case hyu21 => (intro w hSw; (try dsimp only at hSw); go_simp; (try with_reducible rfl))
  try simp only [Act.put, List.setIfInBounds_toArray, List.set_cons_zero, List.set_cons_succ]
  refine wpAnyH_take (i := 33) (oi := { dst := some 123, op := Op.pick (Operand.tmp 102) (Operand.tmp 122) (Operand.const (Value.bool false)), type := 4, pos := "law.go:166", after := #[{ on := 12, ground := Ground.data }, { on := 32, ground := Ground.data }], guard := none }) (v := ?vu22) rfl (by kernel_rfl) (by kernel_rfl) (by kernel_rfl) (fun _ _ _ h => h) (Or.inl ⟨by rfl, ?hyu22⟩) (by assumption) ?restu22
  case hyu22 => (intro w hSw; (try dsimp only at hSw); go_simp; (try with_reducible rfl))
  try simp only [Act.put, List.setIfInBounds_toArray, List.set_cons_zero, List.set_cons_succ]
  refine wpAnyH_take (i := 34) (oi := { dst := some 124, op := Op.move (Operand.tmp 123), type := 4, pos := "law.go:166", after := #[{ on := 33, ground := Ground.data }, { on := 25, ground := Ground.chain }], guard := none }) (v := ?vu23) rfl (by kernel_rfl) (by kernel_rfl) (by kernel_rfl) (fun _ _ _ h => h) (Or.inl ⟨by rfl, ?hyu23⟩) (by assumption) ?restu23
  case hyu23 => (intro w hSw; (try dsimp only at hSw); go_simp; (try with_reducible rfl))
  try simp only [Act.put, List.setIfInBounds_toArray, List.set_cons_zero, List.set_cons_succ]
  refine wpAnyH_ready (rs := [35]) (by kernel_rfl) (by simp) ?_
  refine AllReadyH.cons (o := { dst := some 125, op := Op.call { callee := Callee.value (Operand.func 7), args := #[], argTypes := #[] }, type := 4, pos := "law.go:166", after := #[{ on := 34, ground := Ground.chain }, { on := 34, ground := Ground.guard }], guard := some (34, true) }) rfl (fun K hK => ?_) AllReadyH.nil
  go_simp
  go_at_call 7
  refine (vawake_any _ (by exact HEnv.out.below (below_step HB.out (by first | exact HW | exact HW.drew)))).mono ?_
  rintro e z4 ⟨rfl, b⟩
  replace HW := below_step (by first | exact HW | exact HW.drew) b
  clear b
  clear p10 p11 p12 p13 p14 p20 p21 p22 p23 p24 pR10 pR11 pR12 pR13 pR14 pR20 pR21 pR22 pR23 pR24
  obtain ⟨p10, p11, p12, p13, p14⟩ := box5 G1.out HW
  obtain ⟨p20, p21, p22, p23, p24⟩ := box5 G2.out HW
  obtain ⟨pR10, pR11, pR12, pR13, pR14⟩ := box5 GR1.out HW
  obtain ⟨pR20, pR21, pR22, pR23, pR24⟩ := box5 GR2.out HW
  refine hK.out _ _ ?_ (fun hHeldB => ?_)
  · (try dsimp only); first | exact ⟨p10, p11, p12, p13, p14, p20, p21, p22, p23, p24, pR10, pR11, pR12, pR13, pR14, pR20, pR21, pR22, pR23, pR24⟩ | go_keep
  clear hK K hHeld
  have hHeld := hHeldB
  clear hHeldB
  try simp only [Act.put, List.setIfInBounds_toArray, List.set_cons_zero, List.set_cons_succ]
  refine wpAnyH_take (i := 36) (oi := { dst := some 126, op := Op.pick (Operand.tmp 124) (Operand.tmp 125) (Operand.const (Value.bool false)), type := 4, pos := "law.go:166", after := #[{ on := 34, ground := Ground.data }, { on := 35, ground := Ground.data }], guard := none }) (v := ?vu24) rfl (by kernel_rfl) (by kernel_rfl) (by kernel_rfl) (fun _ _ _ h => h) (Or.inl ⟨by rfl, ?hyu24⟩) (by assumption) ?restu24
  case hyu24 => (intro w hSw; (try dsimp only at hSw); go_simp; (try with_reducible rfl))
  try simp only [Act.put, List.setIfInBounds_toArray, List.set_cons_zero, List.set_cons_succ]
  refine wpAnyH_take (i := 37) (oi := { dst := some 4, op := Op.assign (Operand.tmp 126), type := 4, pos := "law.go:166", after := #[{ on := 36, ground := Ground.data }, { on := 35, ground := Ground.chain }, { on := 0, ground := Ground.phase }, { on := 1, ground := Ground.phase }, { on := 2, ground := Ground.phase }, { on := 3, ground := Ground.phase }, { on := 4, ground := Ground.phase }, { on := 5, ground := Ground.phase }, { on := 6, ground := Ground.phase }, { on := 7, ground := Ground.phase }, { on := 8, ground := Ground.phase }, { on := 9, ground := Ground.phase }, { on := 10, ground := Ground.phase }, { on := 11, ground := Ground.phase }, { on := 12, ground := Ground.phase }, { on := 13, ground := Ground.phase }, { on := 14, ground := Ground.phase }, { on := 15, ground := Ground.phase }, { on := 16, ground := Ground.phase }, { on := 17, ground := Ground.phase }, { on := 18, ground := Ground.phase }, { on := 19, ground := Ground.phase }, { on := 20, ground := Ground.phase }, { on := 21, ground := Ground.phase }, { on := 22, ground := Ground.phase }, { on := 23, ground := Ground.phase }, { on := 24, ground := Ground.phase }, { on := 25, ground := Ground.phase }, { on := 26, ground := Ground.phase }, { on := 27, ground := Ground.phase }, { on := 28, ground := Ground.phase }, { on := 29, ground := Ground.phase }, { on := 30, ground := Ground.phase }, { on := 31, ground := Ground.phase }, { on := 32, ground := Ground.phase }, { on := 33, ground := Ground.phase }, { on := 34, ground := Ground.phase }, { on := 35, ground := Ground.phase }, { on := 36, ground := Ground.phase }], guard := none }) (v := ?vu25) rfl (by kernel_rfl) (by kernel_rfl) (by kernel_rfl) (fun _ _ _ h => h) (Or.inl ⟨by rfl, ?hyu25⟩) (by assumption) ?restu25
  case hyu25 => (intro w hSw; (try dsimp only at hSw); go_simp; (try with_reducible rfl))
  try simp only [Act.put, List.setIfInBounds_toArray, List.set_cons_zero, List.set_cons_succ]
  refine wpAnyH_done (by kernel_rfl) ?_ _
  go_wp2
  go_ret
  exact ⟨rfl, below_step HB.out HW⟩
set_option maxHeartbeats 32000000 in
theorem mix_a16 (w : World) (v1 v2 : Value) (V1 V2 : Vl) (h1 : VIn w v1 V1) (h2 : VIn w v2 V2) (henv : Env w) (hsm : V1.n ≤ 60 ∧ V2.n ≤ 60)  (er : errV V1 V2 = 16) (en : errV V1 V2 ≠ 0) (m1 : mayV V1 = 16) : Calls Tryd.prog 5 #[v1, v2] w fun e w' => e = .returned (.bool true) ∧ Below w.heap.size w w' := by
  have hsf := st_flo
  have HEnv : Hid (Env w) := henv
  clear henv
  have SM : Hid (V1.n ≤ 60 ∧ V2.n ≤ 60) := hsm
  have SN : Hid (V1.n ≤ 60 ∧ V2.n ≤ 60) := hsm
  clear hsm
  have ER : Hid (errV V1 V2 = 16) := er
  have EN : Hid (errV V1 V2 ≠ 0) := en
  have M1 : Hid (mayV V1 = 16) := m1
  clear er en m1
  have H1' := h1
  obtain ⟨a1, c1, rfl, hr1, hL1, hn1, hx1, hl1, hs1⟩ := h1
  have H2' := h2
  obtain ⟨a2, c2, rfl, hr2, hL2, hn2, hx2, hl2, hs2⟩ := h2
  obtain ⟨W0, hW0⟩ : ∃ W0, W0 = (((w.alloc (.cells #[.int .i64 V1.s, .bool V1.i, .slice a1 V1.n c1, .int .i64 V1.l, .float .f64 V1.x] 27)).alloc (.cells #[.int .i64 V2.s, .bool V2.i, .slice a2 V2.n c2, .int .i64 V2.l, .float .f64 V2.x] 27)).alloc (.cells #[.int .i64 V1.s, .bool V1.i, .slice a1 V1.n c1, .int .i64 V1.l, .float .f64 V1.x, .int .i64 V2.s, .bool V2.i, .slice a2 V2.n c2, .int .i64 V2.l, .float .f64 V2.x] 27)) := ⟨_, rfl⟩
  have HB0 : Hid (Below w.heap.size w W0) := by rw [hW0]; exact below3 w _ _ _
  have Hg1 : Hid (W0.heap[w.heap.size]? = some (.cells #[.int .i64 V1.s, .bool V1.i, .slice a1 V1.n c1, .int .i64 V1.l, .float .f64 V1.x] 27)) := by
    show W0.heap[w.heap.size]? = _
    rw [hW0]; exact heap_at3_0 w _ _ _
  have Hg2 : Hid (W0.heap[w.heap.size + 1]? = some (.cells #[.int .i64 V2.s, .bool V2.i, .slice a2 V2.n c2, .int .i64 V2.l, .float .f64 V2.x] 27)) := by
    show W0.heap[w.heap.size + 1]? = _
    rw [hW0]; exact heap_at3_1 w _ _ _
  have Hg3 : Hid (W0.heap[w.heap.size + 1 + 1]? = some (.cells #[.int .i64 V1.s, .bool V1.i, .slice a1 V1.n c1, .int .i64 V1.l, .float .f64 V1.x, .int .i64 V2.s, .bool V2.i, .slice a2 V2.n c2, .int .i64 V2.l, .float .f64 V2.x] 27)) := by
    show W0.heap[w.heap.size + 1 + 1]? = _
    rw [hW0]; exact heap_at3_2 w _ _ _
  have H1 : Hid (VIn W0 (.agg #[.int .i64 V1.s, .bool V1.i, .slice a1 V1.n c1, .int .i64 V1.l, .float .f64 V1.x]) V1) := H1'.below HB0.out
  have H2 : Hid (VIn W0 (.agg #[.int .i64 V2.s, .bool V2.i, .slice a2 V2.n c2, .int .i64 V2.l, .float .f64 V2.x]) V2) := H2'.below HB0.out
  have HW : Below W0.heap.size W0 W0 := below_refl W0
  clear hr1 hL1 hn1 hx1 hl1 hs1 H1' hr2 hL2 hn2 hx2 hl2 hs2 H2'
  obtain ⟨p10, p11, p12, p13, p14⟩ := box5 Hg1.out HW
  obtain ⟨p20, p21, p22, p23, p24⟩ := box5 Hg2.out HW
  have cS : Calls Tryd.prog 6 #[.slice (some ⟨w.heap.size + 1 + 1, 0, none⟩) 2 2] W0 fun e w' => e = .returned (.bool true) ∧ w' = W0 := by
    refine vsmall_any (w.heap.size + 1 + 1) 2 (fun j => if j = 0 then a1 else a2) (fun j => if j = 0 then V1.n else V2.n) (fun j => if j = 0 then c1 else c2) W0 (by decide) (by decide) true (fun j hj => ?_) (fun h => ?_) (fun j hj h => ?_)
    · rw [cell_of_row W0 _ _ _ _ _ Hg3.out]
      match j, hj with
      | 0, _ => rfl
      | 1, _ => rfl
    · rfl
    · exfalso
      revert h
      have := SM.out
      match j, hj with
      | 0, _ => exact fun h => absurd h (by show ¬ 60 < V1.n; omega)
      | 1, _ => exact fun h => absurd h (by show ¬ 60 < V2.n; omega)
  have I1 := H1
  have G1 := Hg1
  have I2 := H2
  have G2 := Hg2
  have HB := HB0
  clear HW H1 Hg1 p10 p11 p12 p13 p14 H2 Hg2 p20 p21 p22 p23 p24 HB0 SM
  go_enter Tryd.func5, Tryd.ntmps5
  go_wp2_with (go_at_call 6; fail)
  rw [← hW0]
  refine cS.mono ?_
  rintro e w' ⟨rfl, hw⟩
  replace hw := hw.symm
  subst hw
  clear cS hW0 Hg3
  obtain ⟨p10, p11, p12, p13, p14⟩ := box5 G1.out (below_refl _)
  have l1 := blk_lt G1.out
  obtain ⟨p20, p21, p22, p23, p24⟩ := box5 G2.out (below_refl _)
  have l2 := blk_lt G2.out
  go_wp2_with (go_at_call 12; fail)
  refine (plus_err _ _ _ V1 V2 (by exact I1.out) (by exact I2.out) 16 ER.out (by decide)).mono ?_
  rintro e w1 ⟨rfl, b⟩
  replace G1 : Hid (w1.heap[w.heap.size]? = _) := blk_below G1.out b
  replace I1 : Hid (VIn w1 _ _) := I1.out.below b
  replace G2 : Hid (w1.heap[w.heap.size + 1]? = _) := blk_below G2.out b
  replace I2 : Hid (VIn w1 _ _) := I2.out.below b
  replace HB : Hid (Below _ _ w1) := below_step HB.out b
  clear b
  unfold noV
  clear p10 p11 p12 p13 p14 l1 p20 p21 p22 p23 p24 l2
  obtain ⟨p10, p11, p12, p13, p14⟩ := box5 G1.out (below_refl _)
  have l1 := blk_lt G1.out
  obtain ⟨p20, p21, p22, p23, p24⟩ := box5 G2.out (below_refl _)
  have l2 := blk_lt G2.out
  go_wp2_with (go_at_call 11; fail)
  obtain ⟨W1, hW⟩ : ∃ W1, W1 = w1.alloc (.cells #[.int .i64 0, .bool false, .slice none 0 0, .int .i64 0, .float .f64 0] 27) := ⟨_, rfl⟩
  rw [← hW]
  have hb : Below w1.heap.size w1 W1 := by rw [hW]; exact below1 _ _
  replace G1 : Hid (W1.heap[w.heap.size]? = _) := blk_below G1.out hb
  replace I1 : Hid (VIn W1 _ _) := I1.out.below hb
  replace G2 : Hid (W1.heap[w.heap.size + 1]? = _) := blk_below G2.out hb
  replace I2 : Hid (VIn W1 _ _) := I2.out.below hb
  replace HB : Hid (Below _ _ W1) := below_step HB.out hb
  have GR1 : Hid (W1.heap[w1.heap.size]? = some (.cells #[.int .i64 0, .bool false, .slice none 0 0, .int .i64 0, .float .f64 0] 27)) := by show W1.heap[w1.heap.size]? = _; rw [hW]; exact heap_alloc_new _ _
  clear hb hW
  refine (times_err _ _ _ V1 V2 (by exact I1.out) (by exact I2.out) 16 ER.out (by decide)).mono ?_
  rintro e w2 ⟨rfl, b⟩
  replace G1 : Hid (w2.heap[w.heap.size]? = _) := blk_below G1.out b
  replace I1 : Hid (VIn w2 _ _) := I1.out.below b
  replace G2 : Hid (w2.heap[w.heap.size + 1]? = _) := blk_below G2.out b
  replace I2 : Hid (VIn w2 _ _) := I2.out.below b
  replace GR1 : Hid (w2.heap[w1.heap.size]? = _) := blk_below GR1.out b
  replace HB : Hid (Below _ _ w2) := below_step HB.out b
  clear b
  unfold noV
  clear p10 p11 p12 p13 p14 l1 p20 p21 p22 p23 p24 l2
  obtain ⟨p10, p11, p12, p13, p14⟩ := box5 G1.out (below_refl _)
  have l1 := blk_lt G1.out
  obtain ⟨p20, p21, p22, p23, p24⟩ := box5 G2.out (below_refl _)
  have l2 := blk_lt G2.out
  obtain ⟨pR10, pR11, pR12, pR13, pR14⟩ := box5 GR1.out (below_refl _)
  have lR1 := blk_lt GR1.out
  go_wp2_with (go_at_call 14; fail)
  obtain ⟨W2, hW⟩ : ∃ W2, W2 = w2.alloc (.cells #[.int .i64 0, .bool false, .slice none 0 0, .int .i64 0, .float .f64 0] 27) := ⟨_, rfl⟩
  rw [← hW]
  have hb : Below w2.heap.size w2 W2 := by rw [hW]; exact below1 _ _
  replace G1 : Hid (W2.heap[w.heap.size]? = _) := blk_below G1.out hb
  replace I1 : Hid (VIn W2 _ _) := I1.out.below hb
  replace G2 : Hid (W2.heap[w.heap.size + 1]? = _) := blk_below G2.out hb
  replace I2 : Hid (VIn W2 _ _) := I2.out.below hb
  replace GR1 : Hid (W2.heap[w1.heap.size]? = _) := blk_below GR1.out hb
  replace HB : Hid (Below _ _ W2) := below_step HB.out hb
  have GR2 : Hid (W2.heap[w2.heap.size]? = some (.cells #[.int .i64 0, .bool false, .slice none 0 0, .int .i64 0, .float .f64 0] 27)) := by show W2.heap[w2.heap.size]? = _; rw [hW]; exact heap_alloc_new _ _
  clear hb hW
  refine (better_err _ _ _ V1 V2 (by exact I1.out) (by exact I2.out) 16 ER.out (by decide)).mono ?_
  rintro e w3 ⟨rfl, b⟩
  replace G1 : Hid (w3.heap[w.heap.size]? = _) := blk_below G1.out b
  replace I1 : Hid (VIn w3 _ _) := I1.out.below b
  replace G2 : Hid (w3.heap[w.heap.size + 1]? = _) := blk_below G2.out b
  replace I2 : Hid (VIn w3 _ _) := I2.out.below b
  replace GR1 : Hid (w3.heap[w1.heap.size]? = _) := blk_below GR1.out b
  replace GR2 : Hid (w3.heap[w2.heap.size]? = _) := blk_below GR2.out b
  replace HB : Hid (Below _ _ w3) := below_step HB.out b
  clear b
  clear p10 p11 p12 p13 p14 l1 p20 p21 p22 p23 p24 l2 pR10 pR11 pR12 pR13 pR14 lR1
  obtain ⟨p10, p11, p12, p13, p14⟩ := box5 G1.out (below_refl _)
  have l1 := blk_lt G1.out
  obtain ⟨p20, p21, p22, p23, p24⟩ := box5 G2.out (below_refl _)
  have l2 := blk_lt G2.out
  obtain ⟨pR10, pR11, pR12, pR13, pR14⟩ := box5 GR1.out (below_refl _)
  have lR1 := blk_lt GR1.out
  obtain ⟨pR20, pR21, pR22, pR23, pR24⟩ := box5 GR2.out (below_refl _)
  have lR2 := blk_lt GR2.out
  go_wp2_with (go_at_call 15; fail)
  refine (vmay_at _ _ V1 16 (by exact I1.out) M1.out).mono ?_
  rintro e w4 ⟨rfl, b⟩
  replace G1 : Hid (w4.heap[w.heap.size]? = _) := blk_below G1.out b
  replace I1 : Hid (VIn w4 _ _) := I1.out.below b
  replace G2 : Hid (w4.heap[w.heap.size + 1]? = _) := blk_below G2.out b
  replace I2 : Hid (VIn w4 _ _) := I2.out.below b
  replace GR1 : Hid (w4.heap[w1.heap.size]? = _) := blk_below GR1.out b
  replace GR2 : Hid (w4.heap[w2.heap.size]? = _) := blk_below GR2.out b
  replace HB : Hid (Below _ _ w4) := below_step HB.out b
  clear b
  clear p10 p11 p12 p13 p14 l1 p20 p21 p22 p23 p24 l2 pR10 pR11 pR12 pR13 pR14 lR1 pR20 pR21 pR22 pR23 pR24 lR2
  obtain ⟨p10, p11, p12, p13, p14⟩ := box5 G1.out (below_refl _)
  have l1 := blk_lt G1.out
  obtain ⟨p20, p21, p22, p23, p24⟩ := box5 G2.out (below_refl _)
  have l2 := blk_lt G2.out
  obtain ⟨pR10, pR11, pR12, pR13, pR14⟩ := box5 GR1.out (below_refl _)
  have lR1 := blk_lt GR1.out
  obtain ⟨pR20, pR21, pR22, pR23, pR24⟩ := box5 GR2.out (below_refl _)
  have lR2 := blk_lt GR2.out
  have HW : Below w4.heap.size w4 w4 := below_refl _
  clear l1 l2 lR1 lR2
  go_upto_region 10 with fail
  refine wp_region_held_drew (S := (fun w' => w'.cell? ⟨w.heap.size, 0, none⟩ = some (.int .i64 V1.s) ∧ w'.cell? ⟨w.heap.size, 1, none⟩ = some (.bool V1.i) ∧ w'.cell? ⟨w.heap.size, 2, none⟩ = some (.slice a1 V1.n c1) ∧ w'.cell? ⟨w.heap.size, 3, none⟩ = some (.int .i64 V1.l) ∧ w'.cell? ⟨w.heap.size, 4, none⟩ = some (.float .f64 V1.x) ∧ w'.cell? ⟨w.heap.size + 1, 0, none⟩ = some (.int .i64 V2.s) ∧ w'.cell? ⟨w.heap.size + 1, 1, none⟩ = some (.bool V2.i) ∧ w'.cell? ⟨w.heap.size + 1, 2, none⟩ = some (.slice a2 V2.n c2) ∧ w'.cell? ⟨w.heap.size + 1, 3, none⟩ = some (.int .i64 V2.l) ∧ w'.cell? ⟨w.heap.size + 1, 4, none⟩ = some (.float .f64 V2.x) ∧ w'.cell? ⟨w1.heap.size, 0, none⟩ = some (.int .i64 0) ∧ w'.cell? ⟨w1.heap.size, 1, none⟩ = some (.bool false) ∧ w'.cell? ⟨w1.heap.size, 2, none⟩ = some (.slice none 0 0) ∧ w'.cell? ⟨w1.heap.size, 3, none⟩ = some (.int .i64 0) ∧ w'.cell? ⟨w1.heap.size, 4, none⟩ = some (.float .f64 0) ∧ w'.cell? ⟨w2.heap.size, 0, none⟩ = some (.int .i64 0) ∧ w'.cell? ⟨w2.heap.size, 1, none⟩ = some (.bool false) ∧ w'.cell? ⟨w2.heap.size, 2, none⟩ = some (.slice none 0 0) ∧ w'.cell? ⟨w2.heap.size, 3, none⟩ = some (.int .i64 0) ∧ w'.cell? ⟨w2.heap.size, 4, none⟩ = some (.float .f64 0))) (by kernel_rfl) ?_ (fun hHeld => ?_)
  · (try dsimp only); first | exact ⟨p10, p11, p12, p13, p14, p20, p21, p22, p23, p24, pR10, pR11, pR12, pR13, pR14, pR20, pR21, pR22, pR23, pR24⟩ | go_keep
  refine wpAnyH_take (i := 0) (oi := { dst := some 90, op := Op.load 27 (Operand.tmp 5), type := 27, pos := "law.go:166", after := #[], guard := none }) (v := ?vu26) rfl (by kernel_rfl) (by kernel_rfl) (by kernel_rfl) (fun _ _ _ h => h) (Or.inl ⟨by rfl, ?hyu26⟩) (by assumption) ?restu26
  case hyu26 => (intro w hSw; (try dsimp only at hSw); go_simp; (try with_reducible rfl))
  try simp only [Act.put, List.setIfInBounds_toArray, List.set_cons_zero, List.set_cons_succ]
  refine wpAnyH_take (i := 1) (oi := { dst := some 91, op := Op.build 27 #[], type := 27, pos := "law.go:166", after := #[], guard := none }) (v := ?vu27) rfl (by kernel_rfl) (by kernel_rfl) (by kernel_rfl) (fun _ _ _ h => h) (Or.inl ⟨by rfl, ?hyu27⟩) (by assumption) ?restu27
  case hyu27 => (intro w hSw; (try dsimp only at hSw); go_simp; (try with_reducible rfl))
  try simp only [Act.put, List.setIfInBounds_toArray, List.set_cons_zero, List.set_cons_succ]
  refine wpAnyH_ready (rs := [2]) (by kernel_rfl) (by simp) ?_
  refine AllReadyH.cons (o := { dst := some 92, op := Op.call { callee := Callee.value (Operand.func 16), args := #[Operand.tmp 90, Operand.tmp 91], argTypes := #[27, 27] }, type := 4, pos := "law.go:166", after := #[{ on := 0, ground := Ground.data }, { on := 1, ground := Ground.data }], guard := none }) rfl (fun K hK => ?_) AllReadyH.nil
  go_simp
  go_at_call 16
  refine (fields_no _).mono ?_
  rintro e z0 ⟨rfl, b⟩
  replace HW := below_step (by first | exact HW | exact HW.drew) b
  clear b
  clear p10 p11 p12 p13 p14 p20 p21 p22 p23 p24 pR10 pR11 pR12 pR13 pR14 pR20 pR21 pR22 pR23 pR24
  obtain ⟨p10, p11, p12, p13, p14⟩ := box5 G1.out HW
  obtain ⟨p20, p21, p22, p23, p24⟩ := box5 G2.out HW
  obtain ⟨pR10, pR11, pR12, pR13, pR14⟩ := box5 GR1.out HW
  obtain ⟨pR20, pR21, pR22, pR23, pR24⟩ := box5 GR2.out HW
  refine hK.out _ _ ?_ (fun hHeldB => ?_)
  · (try dsimp only); first | exact ⟨p10, p11, p12, p13, p14, p20, p21, p22, p23, p24, pR10, pR11, pR12, pR13, pR14, pR20, pR21, pR22, pR23, pR24⟩ | go_keep
  clear hK K hHeld
  have hHeld := hHeldB
  clear hHeldB
  try simp only [Act.put, List.setIfInBounds_toArray, List.set_cons_zero, List.set_cons_succ]
  refine wpAnyH_take (i := 3) (oi := { dst := some 93, op := Op.move (Operand.tmp 92), type := 4, pos := "law.go:166", after := #[{ on := 2, ground := Ground.data }, { on := 2, ground := Ground.chain }], guard := none }) (v := ?vu28) rfl (by kernel_rfl) (by kernel_rfl) (by kernel_rfl) (fun _ _ _ h => h) (Or.inl ⟨by rfl, ?hyu28⟩) (by assumption) ?restu28
  case hyu28 => (intro w hSw; (try dsimp only at hSw); go_simp; (try with_reducible rfl))
  try simp only [Act.put, List.setIfInBounds_toArray, List.set_cons_zero, List.set_cons_succ]
  refine wpAnyH_take (i := 4) (oi := { dst := some 94, op := Op.load 27 (Operand.tmp 7), type := 27, pos := "law.go:166", after := #[{ on := 3, ground := Ground.guard }], guard := some (3, true) }) (v := ?vu29) rfl (by kernel_rfl) (by kernel_rfl) (by kernel_rfl) (fun _ _ _ h => h) (Or.inl ⟨by rfl, ?hyu29⟩) (by assumption) ?restu29
  case hyu29 => (intro w hSw; (try dsimp only at hSw); go_simp; (try with_reducible rfl))
  try simp only [Act.put, List.setIfInBounds_toArray, List.set_cons_zero, List.set_cons_succ]
  refine wpAnyH_take (i := 5) (oi := { dst := some 95, op := Op.build 27 #[], type := 27, pos := "law.go:166", after := #[{ on := 3, ground := Ground.guard }], guard := some (3, true) }) (v := ?vu30) rfl (by kernel_rfl) (by kernel_rfl) (by kernel_rfl) (fun _ _ _ h => h) (Or.inl ⟨by rfl, ?hyu30⟩) (by assumption) ?restu30
  case hyu30 => (intro w hSw; (try dsimp only at hSw); go_simp; (try with_reducible rfl))
  try simp only [Act.put, List.setIfInBounds_toArray, List.set_cons_zero, List.set_cons_succ]
  refine wpAnyH_ready (rs := [6]) (by kernel_rfl) (by simp) ?_
  refine AllReadyH.cons (o := { dst := some 96, op := Op.call { callee := Callee.value (Operand.func 16), args := #[Operand.tmp 94, Operand.tmp 95], argTypes := #[27, 27] }, type := 4, pos := "law.go:166", after := #[{ on := 4, ground := Ground.data }, { on := 5, ground := Ground.data }, { on := 3, ground := Ground.chain }, { on := 3, ground := Ground.guard }], guard := some (3, true) }) rfl (fun K hK => ?_) AllReadyH.nil
  go_simp
  go_at_call 16
  refine (fields_no _).mono ?_
  rintro e z1 ⟨rfl, b⟩
  replace HW := below_step (by first | exact HW | exact HW.drew) b
  clear b
  clear p10 p11 p12 p13 p14 p20 p21 p22 p23 p24 pR10 pR11 pR12 pR13 pR14 pR20 pR21 pR22 pR23 pR24
  obtain ⟨p10, p11, p12, p13, p14⟩ := box5 G1.out HW
  obtain ⟨p20, p21, p22, p23, p24⟩ := box5 G2.out HW
  obtain ⟨pR10, pR11, pR12, pR13, pR14⟩ := box5 GR1.out HW
  obtain ⟨pR20, pR21, pR22, pR23, pR24⟩ := box5 GR2.out HW
  refine hK.out _ _ ?_ (fun hHeldB => ?_)
  · (try dsimp only); first | exact ⟨p10, p11, p12, p13, p14, p20, p21, p22, p23, p24, pR10, pR11, pR12, pR13, pR14, pR20, pR21, pR22, pR23, pR24⟩ | go_keep
  clear hK K hHeld
  have hHeld := hHeldB
  clear hHeldB
  try simp only [Act.put, List.setIfInBounds_toArray, List.set_cons_zero, List.set_cons_succ]
  refine wpAnyH_take (i := 7) (oi := { dst := some 97, op := Op.pick (Operand.tmp 93) (Operand.tmp 96) (Operand.const (Value.bool false)), type := 4, pos := "law.go:166", after := #[{ on := 3, ground := Ground.data }, { on := 6, ground := Ground.data }], guard := none }) (v := ?vu31) rfl (by kernel_rfl) (by kernel_rfl) (by kernel_rfl) (fun _ _ _ h => h) (Or.inl ⟨by rfl, ?hyu31⟩) (by assumption) ?restu31
  case hyu31 => (intro w hSw; (try dsimp only at hSw); go_simp; (try with_reducible rfl))
  try simp only [Act.put, List.setIfInBounds_toArray, List.set_cons_zero, List.set_cons_succ]
  refine wpAnyH_take (i := 8) (oi := { dst := some 98, op := Op.move (Operand.tmp 97), type := 4, pos := "law.go:166", after := #[{ on := 7, ground := Ground.data }, { on := 6, ground := Ground.chain }], guard := none }) (v := ?vu32) rfl (by kernel_rfl) (by kernel_rfl) (by kernel_rfl) (fun _ _ _ h => h) (Or.inl ⟨by rfl, ?hyu32⟩) (by assumption) ?restu32
  case hyu32 => (intro w hSw; (try dsimp only at hSw); go_simp; (try with_reducible rfl))
  try simp only [Act.put, List.setIfInBounds_toArray, List.set_cons_zero, List.set_cons_succ]
  refine wpAnyH_take (i := 9) (oi := { dst := some 99, op := Op.move (Operand.tmp 9), type := 4, pos := "law.go:166", after := #[{ on := 8, ground := Ground.guard }], guard := some (8, true) }) (v := ?vu33) rfl (by kernel_rfl) (by kernel_rfl) (by kernel_rfl) (fun _ _ _ h => h) (Or.inl ⟨by rfl, ?hyu33⟩) (by assumption) ?restu33
  case hyu33 => (intro w hSw; (try dsimp only at hSw); go_simp; (try with_reducible rfl))
  try simp only [Act.put, List.setIfInBounds_toArray, List.set_cons_zero, List.set_cons_succ]
  refine wpAnyH_take (i := 10) (oi := { dst := some 100, op := Op.unOp UnOp.not 4 (Operand.tmp 99), type := 4, pos := "law.go:166", after := #[{ on := 9, ground := Ground.data }, { on := 8, ground := Ground.guard }], guard := some (8, true) }) (v := ?vu34) rfl (by kernel_rfl) (by kernel_rfl) (by kernel_rfl) (fun _ _ _ h => h) (Or.inl ⟨by rfl, ?hyu34⟩) (by assumption) ?restu34
  case hyu34 => (intro w hSw; (try dsimp only at hSw); go_simp; (try with_reducible rfl))
  try simp only [Act.put, List.setIfInBounds_toArray, List.set_cons_zero, List.set_cons_succ]
  refine wpAnyH_take (i := 11) (oi := { dst := some 101, op := Op.pick (Operand.tmp 98) (Operand.tmp 100) (Operand.const (Value.bool false)), type := 4, pos := "law.go:166", after := #[{ on := 8, ground := Ground.data }, { on := 10, ground := Ground.data }], guard := none }) (v := ?vu35) rfl (by kernel_rfl) (by kernel_rfl) (by kernel_rfl) (fun _ _ _ h => h) (Or.inl ⟨by rfl, ?hyu35⟩) (by assumption) ?restu35
  case hyu35 => (intro w hSw; (try dsimp only at hSw); go_simp; (try with_reducible rfl))
  try simp only [Act.put, List.setIfInBounds_toArray, List.set_cons_zero, List.set_cons_succ]
  refine wpAnyH_take (i := 12) (oi := { dst := some 102, op := Op.move (Operand.tmp 101), type := 4, pos := "law.go:166", after := #[{ on := 11, ground := Ground.data }, { on := 8, ground := Ground.chain }], guard := none }) (v := ?vu36) rfl (by kernel_rfl) (by kernel_rfl) (by kernel_rfl) (fun _ _ _ h => h) (Or.inl ⟨by rfl, ?hyu36⟩) (by assumption) ?restu36
  case hyu36 => (intro w hSw; (try dsimp only at hSw); go_simp; (try with_reducible rfl))
  try simp only [Act.put, List.setIfInBounds_toArray, List.set_cons_zero, List.set_cons_succ]
  refine wpAnyH_take (i := 13) (oi := { dst := some 103, op := Op.load 27 (Operand.tmp 2), type := 27, pos := "law.go:166", after := #[{ on := 12, ground := Ground.guard }], guard := some (12, true) }) (v := ?vu37) rfl (by kernel_rfl) (by kernel_rfl) (by kernel_rfl) (fun _ _ _ h => h) (Or.inl ⟨by rfl, ?hyu37⟩) (by assumption) ?restu37
  case hyu37 => (intro w hSw; (try dsimp only at hSw); go_simp; (try with_reducible rfl))
  try simp only [Act.put, List.setIfInBounds_toArray, List.set_cons_zero, List.set_cons_succ]
  refine wpAnyH_take (i := 14) (oi := { dst := some 104, op := Op.load 27 (Operand.tmp 3), type := 27, pos := "law.go:166", after := #[{ on := 12, ground := Ground.guard }], guard := some (12, true) }) (v := ?vu38) rfl (by kernel_rfl) (by kernel_rfl) (by kernel_rfl) (fun _ _ _ h => h) (Or.inl ⟨by rfl, ?hyu38⟩) (by assumption) ?restu38
  case hyu38 => (intro w hSw; (try dsimp only at hSw); go_simp; (try with_reducible rfl))
  try simp only [Act.put, List.setIfInBounds_toArray, List.set_cons_zero, List.set_cons_succ]
  refine wpAnyH_take (i := 17) (oi := { dst := some 107, op := Op.load 27 (Operand.tmp 2), type := 27, pos := "law.go:166", after := #[{ on := 12, ground := Ground.guard }], guard := some (12, true) }) (v := ?vu39) rfl (by kernel_rfl) (by kernel_rfl) (by kernel_rfl) (fun _ _ _ h => h) (Or.inl ⟨by rfl, ?hyu39⟩) (by assumption) ?restu39
  case hyu39 => (intro w hSw; (try dsimp only at hSw); go_simp; (try with_reducible rfl))
  try simp only [Act.put, List.setIfInBounds_toArray, List.set_cons_zero, List.set_cons_succ]
  refine wpAnyH_ready (rs := [15]) (by kernel_rfl) (by simp) ?_
  refine AllReadyH.cons (o := { dst := some 105, op := Op.call { callee := Callee.value (Operand.func 13), args := #[Operand.tmp 103, Operand.tmp 104], argTypes := #[27, 27] }, type := 4, pos := "law.go:166", after := #[{ on := 13, ground := Ground.data }, { on := 14, ground := Ground.data }, { on := 12, ground := Ground.chain }, { on := 12, ground := Ground.guard }], guard := some (12, true) }) rfl (fun K hK => ?_) AllReadyH.nil
  go_simp
  go_at_call 13
  refine (vsame_no _ _ _ V1 V2 (by exact I1.out.below (by first | exact HW | exact HW.drew)) (by exact I2.out.below (by first | exact HW | exact HW.drew)) EN.out).mono ?_
  rintro e z2 ⟨rfl, b⟩
  replace HW := below_step (by first | exact HW | exact HW.drew) b
  clear b
  clear p10 p11 p12 p13 p14 p20 p21 p22 p23 p24 pR10 pR11 pR12 pR13 pR14 pR20 pR21 pR22 pR23 pR24
  obtain ⟨p10, p11, p12, p13, p14⟩ := box5 G1.out HW
  obtain ⟨p20, p21, p22, p23, p24⟩ := box5 G2.out HW
  obtain ⟨pR10, pR11, pR12, pR13, pR14⟩ := box5 GR1.out HW
  obtain ⟨pR20, pR21, pR22, pR23, pR24⟩ := box5 GR2.out HW
  refine hK.out _ _ ?_ (fun hHeldB => ?_)
  · (try dsimp only); first | exact ⟨p10, p11, p12, p13, p14, p20, p21, p22, p23, p24, pR10, pR11, pR12, pR13, pR14, pR20, pR21, pR22, pR23, pR24⟩ | go_keep
  clear hK K hHeld
  have hHeld := hHeldB
  clear hHeldB
  try simp only [Act.put, List.setIfInBounds_toArray, List.set_cons_zero, List.set_cons_succ]
  refine wpAnyH_take (i := 16) (oi := { dst := some 106, op := Op.unOp UnOp.not 4 (Operand.tmp 105), type := 4, pos := "law.go:166", after := #[{ on := 15, ground := Ground.data }, { on := 12, ground := Ground.guard }], guard := some (12, true) }) (v := ?vu40) rfl (by kernel_rfl) (by kernel_rfl) (by kernel_rfl) (fun _ _ _ h => h) (Or.inl ⟨by rfl, ?hyu40⟩) (by assumption) ?restu40
  case hyu40 => (intro w hSw; (try dsimp only at hSw); go_simp; (try with_reducible rfl))
  try simp only [Act.put, List.setIfInBounds_toArray, List.set_cons_zero, List.set_cons_succ]
  refine wpAnyH_ready (rs := [18]) (by kernel_rfl) (by simp) ?_
  refine AllReadyH.cons (o := { dst := some 108, op := Op.call { callee := Callee.value (Operand.func 9), args := #[Operand.tmp 107], argTypes := #[27] }, type := 3, pos := "law.go:166", after := #[{ on := 17, ground := Ground.data }, { on := 15, ground := Ground.chain }, { on := 12, ground := Ground.guard }], guard := some (12, true) }) rfl (fun K hK => ?_) AllReadyH.nil
  go_simp
  go_at_call 9
  refine (rmv_at _ _ V1 16 (by exact I1.out.below (by first | exact HW | exact HW.drew)) M1.out).mono ?_
  rintro e z3 ⟨rfl, b⟩
  replace HW := below_step (by first | exact HW | exact HW.drew) b
  clear b
  clear p10 p11 p12 p13 p14 p20 p21 p22 p23 p24 pR10 pR11 pR12 pR13 pR14 pR20 pR21 pR22 pR23 pR24
  obtain ⟨p10, p11, p12, p13, p14⟩ := box5 G1.out HW
  obtain ⟨p20, p21, p22, p23, p24⟩ := box5 G2.out HW
  obtain ⟨pR10, pR11, pR12, pR13, pR14⟩ := box5 GR1.out HW
  obtain ⟨pR20, pR21, pR22, pR23, pR24⟩ := box5 GR2.out HW
  refine hK.out _ _ ?_ (fun hHeldB => ?_)
  · (try dsimp only); first | exact ⟨p10, p11, p12, p13, p14, p20, p21, p22, p23, p24, pR10, pR11, pR12, pR13, pR14, pR20, pR21, pR22, pR23, pR24⟩ | go_keep
  clear hK K hHeld
  have hHeld := hHeldB
  clear hHeldB
  try simp only [Act.put, List.setIfInBounds_toArray, List.set_cons_zero, List.set_cons_succ]
  refine wpAnyH_take (i := 19) (oi := { dst := some 109, op := Op.binOp BinOp.neq 3 (Operand.tmp 108) (Operand.const (Value.int IntKind.i64 0)) 3, type := 4, pos := "law.go:166", after := #[{ on := 18, ground := Ground.data }, { on := 12, ground := Ground.guard }], guard := some (12, true) }) (v := ?vu41) rfl (by kernel_rfl) (by kernel_rfl) (by kernel_rfl) (fun _ _ _ h => h) (Or.inl ⟨by rfl, ?hyu41⟩) (by assumption) ?restu41
  case hyu41 => (intro w hSw; (try dsimp only at hSw); go_simp; (try with_reducible rfl))
  try simp only [Act.put, List.setIfInBounds_toArray, List.set_cons_zero, List.set_cons_succ]
  refine wpAnyH_take (i := 20) (oi := { dst := some 110, op := Op.move (Operand.tmp 109), type := 4, pos := "law.go:166", after := #[{ on := 19, ground := Ground.data }, { on := 18, ground := Ground.chain }, { on := 12, ground := Ground.guard }], guard := some (12, true) }) (v := ?vu42) rfl (by kernel_rfl) (by kernel_rfl) (by kernel_rfl) (fun _ _ _ h => h) (Or.inl ⟨by rfl, ?hyu42⟩) (by assumption) ?restu42
  case hyu42 => (intro w hSw; (try dsimp only at hSw); go_simp; (try with_reducible rfl))
  try simp only [Act.put, List.setIfInBounds_toArray, List.set_cons_zero, List.set_cons_succ]
  refine wpAnyH_take (i := 21) (oi := { dst := some 111, op := Op.load 27 (Operand.tmp 3), type := 27, pos := "law.go:166", after := #[{ on := 20, ground := Ground.guard }], guard := some (20, false) }) (v := undef) rfl (by kernel_rfl) (by kernel_rfl) (by kernel_rfl) (fun _ _ _ h => h) (Or.inr ⟨by rfl, rfl⟩) (by assumption) ?_
  try simp only [Act.put, List.setIfInBounds_toArray, List.set_cons_zero, List.set_cons_succ]
  refine wpAnyH_take (i := 22) (oi := { dst := some 112, op := Op.call { callee := Callee.value (Operand.func 9), args := #[Operand.tmp 111], argTypes := #[27] }, type := 3, pos := "law.go:166", after := #[{ on := 21, ground := Ground.data }, { on := 20, ground := Ground.chain }, { on := 20, ground := Ground.guard }], guard := some (20, false) }) (v := undef) rfl (by kernel_rfl) (by kernel_rfl) (by kernel_rfl) (fun _ _ _ h => h) (Or.inr ⟨by rfl, rfl⟩) (by assumption) ?_
  try simp only [Act.put, List.setIfInBounds_toArray, List.set_cons_zero, List.set_cons_succ]
  refine wpAnyH_take (i := 23) (oi := { dst := some 113, op := Op.binOp BinOp.neq 3 (Operand.tmp 112) (Operand.const (Value.int IntKind.i64 0)) 3, type := 4, pos := "law.go:166", after := #[{ on := 22, ground := Ground.data }, { on := 20, ground := Ground.guard }], guard := some (20, false) }) (v := undef) rfl (by kernel_rfl) (by kernel_rfl) (by kernel_rfl) (fun _ _ _ h => h) (Or.inr ⟨by rfl, rfl⟩) (by assumption) ?_
  try simp only [Act.put, List.setIfInBounds_toArray, List.set_cons_zero, List.set_cons_succ]
  refine wpAnyH_take (i := 24) (oi := { dst := some 114, op := Op.pick (Operand.tmp 110) (Operand.const (Value.bool true)) (Operand.tmp 113), type := 4, pos := "law.go:166", after := #[{ on := 20, ground := Ground.data }, { on := 23, ground := Ground.data }, { on := 12, ground := Ground.guard }], guard := some (12, true) }) (v := ?vu43) rfl (by kernel_rfl) (by kernel_rfl) (by kernel_rfl) (fun _ _ _ h => h) (Or.inl ⟨by rfl, ?hyu43⟩) (by assumption) ?restu43
  case hyu43 => (intro w hSw; (try dsimp only at hSw); go_simp; (try with_reducible rfl))
  try simp only [Act.put, List.setIfInBounds_toArray, List.set_cons_zero, List.set_cons_succ]
  refine wpAnyH_take (i := 25) (oi := { dst := some 115, op := Op.move (Operand.tmp 114), type := 4, pos := "law.go:166", after := #[{ on := 24, ground := Ground.data }, { on := 22, ground := Ground.chain }, { on := 12, ground := Ground.guard }], guard := some (12, true) }) (v := ?vu44) rfl (by kernel_rfl) (by kernel_rfl) (by kernel_rfl) (fun _ _ _ h => h) (Or.inl ⟨by rfl, ?hyu44⟩) (by assumption) ?restu44
  case hyu44 => (intro w hSw; (try dsimp only at hSw); go_simp; (try with_reducible rfl))
  try simp only [Act.put, List.setIfInBounds_toArray, List.set_cons_zero, List.set_cons_succ]
  refine wpAnyH_take (i := 26) (oi := { dst := some 116, op := Op.fieldAddr 27 (Operand.tmp 2) 0, type := 0, pos := "law.go:166", after := #[{ on := 25, ground := Ground.guard }], guard := some (25, false) }) (v := undef) rfl (by kernel_rfl) (by kernel_rfl) (by kernel_rfl) (fun _ _ _ h => h) (Or.inr ⟨by rfl, rfl⟩) (by assumption) ?_
  try simp only [Act.put, List.setIfInBounds_toArray, List.set_cons_zero, List.set_cons_succ]
  refine wpAnyH_take (i := 27) (oi := { dst := some 117, op := Op.load 3 (Operand.tmp 116), type := 3, pos := "law.go:166", after := #[{ on := 26, ground := Ground.data }, { on := 25, ground := Ground.guard }], guard := some (25, false) }) (v := undef) rfl (by kernel_rfl) (by kernel_rfl) (by kernel_rfl) (fun _ _ _ h => h) (Or.inr ⟨by rfl, rfl⟩) (by assumption) ?_
  try simp only [Act.put, List.setIfInBounds_toArray, List.set_cons_zero, List.set_cons_succ]
  refine wpAnyH_take (i := 28) (oi := { dst := some 118, op := Op.fieldAddr 27 (Operand.tmp 3) 0, type := 0, pos := "law.go:166", after := #[{ on := 25, ground := Ground.guard }], guard := some (25, false) }) (v := undef) rfl (by kernel_rfl) (by kernel_rfl) (by kernel_rfl) (fun _ _ _ h => h) (Or.inr ⟨by rfl, rfl⟩) (by assumption) ?_
  try simp only [Act.put, List.setIfInBounds_toArray, List.set_cons_zero, List.set_cons_succ]
  refine wpAnyH_take (i := 29) (oi := { dst := some 119, op := Op.load 3 (Operand.tmp 118), type := 3, pos := "law.go:166", after := #[{ on := 28, ground := Ground.data }, { on := 25, ground := Ground.guard }], guard := some (25, false) }) (v := undef) rfl (by kernel_rfl) (by kernel_rfl) (by kernel_rfl) (fun _ _ _ h => h) (Or.inr ⟨by rfl, rfl⟩) (by assumption) ?_
  try simp only [Act.put, List.setIfInBounds_toArray, List.set_cons_zero, List.set_cons_succ]
  refine wpAnyH_take (i := 30) (oi := { dst := some 120, op := Op.binOp BinOp.neq 3 (Operand.tmp 117) (Operand.tmp 119) 3, type := 4, pos := "law.go:166", after := #[{ on := 27, ground := Ground.data }, { on := 29, ground := Ground.data }, { on := 25, ground := Ground.guard }], guard := some (25, false) }) (v := undef) rfl (by kernel_rfl) (by kernel_rfl) (by kernel_rfl) (fun _ _ _ h => h) (Or.inr ⟨by rfl, rfl⟩) (by assumption) ?_
  try simp only [Act.put, List.setIfInBounds_toArray, List.set_cons_zero, List.set_cons_succ]
  refine wpAnyH_take (i := 31) (oi := { dst := some 121, op := Op.pick (Operand.tmp 115) (Operand.const (Value.bool true)) (Operand.tmp 120), type := 4, pos := "law.go:166", after := #[{ on := 25, ground := Ground.data }, { on := 30, ground := Ground.data }, { on := 12, ground := Ground.guard }], guard := some (12, true) }) (v := ?vu45) rfl (by kernel_rfl) (by kernel_rfl) (by kernel_rfl) (fun _ _ _ h => h) (Or.inl ⟨by rfl, ?hyu45⟩) (by assumption) ?restu45
  case hyu45 => (intro w hSw; (try dsimp only at hSw); go_simp; (try with_reducible rfl))
  try simp only [Act.put, List.setIfInBounds_toArray, List.set_cons_zero, List.set_cons_succ]
  refine wpAnyH_take (i := 32) (oi := { dst := some 122, op := Op.binOp BinOp.eql 4 (Operand.tmp 106) (Operand.tmp 121) 4, type := 4, pos := "law.go:166", after := #[{ on := 16, ground := Ground.data }, { on := 31, ground := Ground.data }, { on := 12, ground := Ground.guard }], guard := some (12, true) }) (v := ?vu46) rfl (by kernel_rfl) (by kernel_rfl) (by kernel_rfl) (fun _ _ _ h => h) (Or.inl ⟨by rfl, ?hyu46⟩) (by assumption) ?restu46
  case hyu46 => (intro w hSw; (try dsimp only at hSw); go_simp; (try with_reducible rfl))
  try simp only [Act.put, List.setIfInBounds_toArray, List.set_cons_zero, List.set_cons_succ]
  refine wpAnyH_take (i := 33) (oi := { dst := some 123, op := Op.pick (Operand.tmp 102) (Operand.tmp 122) (Operand.const (Value.bool false)), type := 4, pos := "law.go:166", after := #[{ on := 12, ground := Ground.data }, { on := 32, ground := Ground.data }], guard := none }) (v := ?vu47) rfl (by kernel_rfl) (by kernel_rfl) (by kernel_rfl) (fun _ _ _ h => h) (Or.inl ⟨by rfl, ?hyu47⟩) (by assumption) ?restu47
  case hyu47 => (intro w hSw; (try dsimp only at hSw); go_simp; (try with_reducible rfl))
  try simp only [Act.put, List.setIfInBounds_toArray, List.set_cons_zero, List.set_cons_succ]
  refine wpAnyH_take (i := 34) (oi := { dst := some 124, op := Op.move (Operand.tmp 123), type := 4, pos := "law.go:166", after := #[{ on := 33, ground := Ground.data }, { on := 25, ground := Ground.chain }], guard := none }) (v := ?vu48) rfl (by kernel_rfl) (by kernel_rfl) (by kernel_rfl) (fun _ _ _ h => h) (Or.inl ⟨by rfl, ?hyu48⟩) (by assumption) ?restu48
  case hyu48 => (intro w hSw; (try dsimp only at hSw); go_simp; (try with_reducible rfl))
  try simp only [Act.put, List.setIfInBounds_toArray, List.set_cons_zero, List.set_cons_succ]
  refine wpAnyH_ready (rs := [35]) (by kernel_rfl) (by simp) ?_
  refine AllReadyH.cons (o := { dst := some 125, op := Op.call { callee := Callee.value (Operand.func 7), args := #[], argTypes := #[] }, type := 4, pos := "law.go:166", after := #[{ on := 34, ground := Ground.chain }, { on := 34, ground := Ground.guard }], guard := some (34, true) }) rfl (fun K hK => ?_) AllReadyH.nil
  go_simp
  go_at_call 7
  refine (vawake_any _ (by exact HEnv.out.below (below_step HB.out (by first | exact HW | exact HW.drew)))).mono ?_
  rintro e z4 ⟨rfl, b⟩
  replace HW := below_step (by first | exact HW | exact HW.drew) b
  clear b
  clear p10 p11 p12 p13 p14 p20 p21 p22 p23 p24 pR10 pR11 pR12 pR13 pR14 pR20 pR21 pR22 pR23 pR24
  obtain ⟨p10, p11, p12, p13, p14⟩ := box5 G1.out HW
  obtain ⟨p20, p21, p22, p23, p24⟩ := box5 G2.out HW
  obtain ⟨pR10, pR11, pR12, pR13, pR14⟩ := box5 GR1.out HW
  obtain ⟨pR20, pR21, pR22, pR23, pR24⟩ := box5 GR2.out HW
  refine hK.out _ _ ?_ (fun hHeldB => ?_)
  · (try dsimp only); first | exact ⟨p10, p11, p12, p13, p14, p20, p21, p22, p23, p24, pR10, pR11, pR12, pR13, pR14, pR20, pR21, pR22, pR23, pR24⟩ | go_keep
  clear hK K hHeld
  have hHeld := hHeldB
  clear hHeldB
  try simp only [Act.put, List.setIfInBounds_toArray, List.set_cons_zero, List.set_cons_succ]
  refine wpAnyH_take (i := 36) (oi := { dst := some 126, op := Op.pick (Operand.tmp 124) (Operand.tmp 125) (Operand.const (Value.bool false)), type := 4, pos := "law.go:166", after := #[{ on := 34, ground := Ground.data }, { on := 35, ground := Ground.data }], guard := none }) (v := ?vu49) rfl (by kernel_rfl) (by kernel_rfl) (by kernel_rfl) (fun _ _ _ h => h) (Or.inl ⟨by rfl, ?hyu49⟩) (by assumption) ?restu49
  case hyu49 => (intro w hSw; (try dsimp only at hSw); go_simp; (try with_reducible rfl))
  try simp only [Act.put, List.setIfInBounds_toArray, List.set_cons_zero, List.set_cons_succ]
  refine wpAnyH_take (i := 37) (oi := { dst := some 4, op := Op.assign (Operand.tmp 126), type := 4, pos := "law.go:166", after := #[{ on := 36, ground := Ground.data }, { on := 35, ground := Ground.chain }, { on := 0, ground := Ground.phase }, { on := 1, ground := Ground.phase }, { on := 2, ground := Ground.phase }, { on := 3, ground := Ground.phase }, { on := 4, ground := Ground.phase }, { on := 5, ground := Ground.phase }, { on := 6, ground := Ground.phase }, { on := 7, ground := Ground.phase }, { on := 8, ground := Ground.phase }, { on := 9, ground := Ground.phase }, { on := 10, ground := Ground.phase }, { on := 11, ground := Ground.phase }, { on := 12, ground := Ground.phase }, { on := 13, ground := Ground.phase }, { on := 14, ground := Ground.phase }, { on := 15, ground := Ground.phase }, { on := 16, ground := Ground.phase }, { on := 17, ground := Ground.phase }, { on := 18, ground := Ground.phase }, { on := 19, ground := Ground.phase }, { on := 20, ground := Ground.phase }, { on := 21, ground := Ground.phase }, { on := 22, ground := Ground.phase }, { on := 23, ground := Ground.phase }, { on := 24, ground := Ground.phase }, { on := 25, ground := Ground.phase }, { on := 26, ground := Ground.phase }, { on := 27, ground := Ground.phase }, { on := 28, ground := Ground.phase }, { on := 29, ground := Ground.phase }, { on := 30, ground := Ground.phase }, { on := 31, ground := Ground.phase }, { on := 32, ground := Ground.phase }, { on := 33, ground := Ground.phase }, { on := 34, ground := Ground.phase }, { on := 35, ground := Ground.phase }, { on := 36, ground := Ground.phase }], guard := none }) (v := ?vu50) rfl (by kernel_rfl) (by kernel_rfl) (by kernel_rfl) (fun _ _ _ h => h) (Or.inl ⟨by rfl, ?hyu50⟩) (by assumption) ?restu50
  case hyu50 => (intro w hSw; (try dsimp only at hSw); go_simp; (try with_reducible rfl))
  try simp only [Act.put, List.setIfInBounds_toArray, List.set_cons_zero, List.set_cons_succ]
  refine wpAnyH_done (by kernel_rfl) ?_ _
  go_wp2
  go_ret
  exact ⟨rfl, below_step HB.out HW⟩
set_option maxHeartbeats 32000000 in
theorem mix_b9 (w : World) (v1 v2 : Value) (V1 V2 : Vl) (h1 : VIn w v1 V1) (h2 : VIn w v2 V2) (henv : Env w) (hsm : V1.n ≤ 60 ∧ V2.n ≤ 60)  (er : errV V1 V2 = 9) (en : errV V1 V2 ≠ 0) (m1 : mayV V1 = 0) (m2 : mayV V2 = 9) : Calls Tryd.prog 5 #[v1, v2] w fun e w' => e = .returned (.bool true) ∧ Below w.heap.size w w' := by
  have hsf := st_flo
  have HEnv : Hid (Env w) := henv
  clear henv
  have SM : Hid (V1.n ≤ 60 ∧ V2.n ≤ 60) := hsm
  have SN : Hid (V1.n ≤ 60 ∧ V2.n ≤ 60) := hsm
  clear hsm
  have ER : Hid (errV V1 V2 = 9) := er
  have EN : Hid (errV V1 V2 ≠ 0) := en
  have M1 : Hid (mayV V1 = 0) := m1
  have M2 : Hid (mayV V2 = 9) := m2
  clear er en m1 m2
  have H1' := h1
  obtain ⟨a1, c1, rfl, hr1, hL1, hn1, hx1, hl1, hs1⟩ := h1
  have H2' := h2
  obtain ⟨a2, c2, rfl, hr2, hL2, hn2, hx2, hl2, hs2⟩ := h2
  obtain ⟨W0, hW0⟩ : ∃ W0, W0 = (((w.alloc (.cells #[.int .i64 V1.s, .bool V1.i, .slice a1 V1.n c1, .int .i64 V1.l, .float .f64 V1.x] 27)).alloc (.cells #[.int .i64 V2.s, .bool V2.i, .slice a2 V2.n c2, .int .i64 V2.l, .float .f64 V2.x] 27)).alloc (.cells #[.int .i64 V1.s, .bool V1.i, .slice a1 V1.n c1, .int .i64 V1.l, .float .f64 V1.x, .int .i64 V2.s, .bool V2.i, .slice a2 V2.n c2, .int .i64 V2.l, .float .f64 V2.x] 27)) := ⟨_, rfl⟩
  have HB0 : Hid (Below w.heap.size w W0) := by rw [hW0]; exact below3 w _ _ _
  have Hg1 : Hid (W0.heap[w.heap.size]? = some (.cells #[.int .i64 V1.s, .bool V1.i, .slice a1 V1.n c1, .int .i64 V1.l, .float .f64 V1.x] 27)) := by
    show W0.heap[w.heap.size]? = _
    rw [hW0]; exact heap_at3_0 w _ _ _
  have Hg2 : Hid (W0.heap[w.heap.size + 1]? = some (.cells #[.int .i64 V2.s, .bool V2.i, .slice a2 V2.n c2, .int .i64 V2.l, .float .f64 V2.x] 27)) := by
    show W0.heap[w.heap.size + 1]? = _
    rw [hW0]; exact heap_at3_1 w _ _ _
  have Hg3 : Hid (W0.heap[w.heap.size + 1 + 1]? = some (.cells #[.int .i64 V1.s, .bool V1.i, .slice a1 V1.n c1, .int .i64 V1.l, .float .f64 V1.x, .int .i64 V2.s, .bool V2.i, .slice a2 V2.n c2, .int .i64 V2.l, .float .f64 V2.x] 27)) := by
    show W0.heap[w.heap.size + 1 + 1]? = _
    rw [hW0]; exact heap_at3_2 w _ _ _
  have H1 : Hid (VIn W0 (.agg #[.int .i64 V1.s, .bool V1.i, .slice a1 V1.n c1, .int .i64 V1.l, .float .f64 V1.x]) V1) := H1'.below HB0.out
  have H2 : Hid (VIn W0 (.agg #[.int .i64 V2.s, .bool V2.i, .slice a2 V2.n c2, .int .i64 V2.l, .float .f64 V2.x]) V2) := H2'.below HB0.out
  have HW : Below W0.heap.size W0 W0 := below_refl W0
  clear hr1 hL1 hn1 hx1 hl1 hs1 H1' hr2 hL2 hn2 hx2 hl2 hs2 H2'
  obtain ⟨p10, p11, p12, p13, p14⟩ := box5 Hg1.out HW
  obtain ⟨p20, p21, p22, p23, p24⟩ := box5 Hg2.out HW
  have cS : Calls Tryd.prog 6 #[.slice (some ⟨w.heap.size + 1 + 1, 0, none⟩) 2 2] W0 fun e w' => e = .returned (.bool true) ∧ w' = W0 := by
    refine vsmall_any (w.heap.size + 1 + 1) 2 (fun j => if j = 0 then a1 else a2) (fun j => if j = 0 then V1.n else V2.n) (fun j => if j = 0 then c1 else c2) W0 (by decide) (by decide) true (fun j hj => ?_) (fun h => ?_) (fun j hj h => ?_)
    · rw [cell_of_row W0 _ _ _ _ _ Hg3.out]
      match j, hj with
      | 0, _ => rfl
      | 1, _ => rfl
    · rfl
    · exfalso
      revert h
      have := SM.out
      match j, hj with
      | 0, _ => exact fun h => absurd h (by show ¬ 60 < V1.n; omega)
      | 1, _ => exact fun h => absurd h (by show ¬ 60 < V2.n; omega)
  have I1 := H1
  have G1 := Hg1
  have I2 := H2
  have G2 := Hg2
  have HB := HB0
  clear HW H1 Hg1 p10 p11 p12 p13 p14 H2 Hg2 p20 p21 p22 p23 p24 HB0 SM
  go_enter Tryd.func5, Tryd.ntmps5
  go_wp2_with (go_at_call 6; fail)
  rw [← hW0]
  refine cS.mono ?_
  rintro e w' ⟨rfl, hw⟩
  replace hw := hw.symm
  subst hw
  clear cS hW0 Hg3
  obtain ⟨p10, p11, p12, p13, p14⟩ := box5 G1.out (below_refl _)
  have l1 := blk_lt G1.out
  obtain ⟨p20, p21, p22, p23, p24⟩ := box5 G2.out (below_refl _)
  have l2 := blk_lt G2.out
  go_wp2_with (go_at_call 12; fail)
  refine (plus_err _ _ _ V1 V2 (by exact I1.out) (by exact I2.out) 9 ER.out (by decide)).mono ?_
  rintro e w1 ⟨rfl, b⟩
  replace G1 : Hid (w1.heap[w.heap.size]? = _) := blk_below G1.out b
  replace I1 : Hid (VIn w1 _ _) := I1.out.below b
  replace G2 : Hid (w1.heap[w.heap.size + 1]? = _) := blk_below G2.out b
  replace I2 : Hid (VIn w1 _ _) := I2.out.below b
  replace HB : Hid (Below _ _ w1) := below_step HB.out b
  clear b
  unfold noV
  clear p10 p11 p12 p13 p14 l1 p20 p21 p22 p23 p24 l2
  obtain ⟨p10, p11, p12, p13, p14⟩ := box5 G1.out (below_refl _)
  have l1 := blk_lt G1.out
  obtain ⟨p20, p21, p22, p23, p24⟩ := box5 G2.out (below_refl _)
  have l2 := blk_lt G2.out
  go_wp2_with (go_at_call 11; fail)
  obtain ⟨W1, hW⟩ : ∃ W1, W1 = w1.alloc (.cells #[.int .i64 0, .bool false, .slice none 0 0, .int .i64 0, .float .f64 0] 27) := ⟨_, rfl⟩
  rw [← hW]
  have hb : Below w1.heap.size w1 W1 := by rw [hW]; exact below1 _ _
  replace G1 : Hid (W1.heap[w.heap.size]? = _) := blk_below G1.out hb
  replace I1 : Hid (VIn W1 _ _) := I1.out.below hb
  replace G2 : Hid (W1.heap[w.heap.size + 1]? = _) := blk_below G2.out hb
  replace I2 : Hid (VIn W1 _ _) := I2.out.below hb
  replace HB : Hid (Below _ _ W1) := below_step HB.out hb
  have GR1 : Hid (W1.heap[w1.heap.size]? = some (.cells #[.int .i64 0, .bool false, .slice none 0 0, .int .i64 0, .float .f64 0] 27)) := by show W1.heap[w1.heap.size]? = _; rw [hW]; exact heap_alloc_new _ _
  clear hb hW
  refine (times_err _ _ _ V1 V2 (by exact I1.out) (by exact I2.out) 9 ER.out (by decide)).mono ?_
  rintro e w2 ⟨rfl, b⟩
  replace G1 : Hid (w2.heap[w.heap.size]? = _) := blk_below G1.out b
  replace I1 : Hid (VIn w2 _ _) := I1.out.below b
  replace G2 : Hid (w2.heap[w.heap.size + 1]? = _) := blk_below G2.out b
  replace I2 : Hid (VIn w2 _ _) := I2.out.below b
  replace GR1 : Hid (w2.heap[w1.heap.size]? = _) := blk_below GR1.out b
  replace HB : Hid (Below _ _ w2) := below_step HB.out b
  clear b
  unfold noV
  clear p10 p11 p12 p13 p14 l1 p20 p21 p22 p23 p24 l2
  obtain ⟨p10, p11, p12, p13, p14⟩ := box5 G1.out (below_refl _)
  have l1 := blk_lt G1.out
  obtain ⟨p20, p21, p22, p23, p24⟩ := box5 G2.out (below_refl _)
  have l2 := blk_lt G2.out
  obtain ⟨pR10, pR11, pR12, pR13, pR14⟩ := box5 GR1.out (below_refl _)
  have lR1 := blk_lt GR1.out
  go_wp2_with (go_at_call 14; fail)
  obtain ⟨W2, hW⟩ : ∃ W2, W2 = w2.alloc (.cells #[.int .i64 0, .bool false, .slice none 0 0, .int .i64 0, .float .f64 0] 27) := ⟨_, rfl⟩
  rw [← hW]
  have hb : Below w2.heap.size w2 W2 := by rw [hW]; exact below1 _ _
  replace G1 : Hid (W2.heap[w.heap.size]? = _) := blk_below G1.out hb
  replace I1 : Hid (VIn W2 _ _) := I1.out.below hb
  replace G2 : Hid (W2.heap[w.heap.size + 1]? = _) := blk_below G2.out hb
  replace I2 : Hid (VIn W2 _ _) := I2.out.below hb
  replace GR1 : Hid (W2.heap[w1.heap.size]? = _) := blk_below GR1.out hb
  replace HB : Hid (Below _ _ W2) := below_step HB.out hb
  have GR2 : Hid (W2.heap[w2.heap.size]? = some (.cells #[.int .i64 0, .bool false, .slice none 0 0, .int .i64 0, .float .f64 0] 27)) := by show W2.heap[w2.heap.size]? = _; rw [hW]; exact heap_alloc_new _ _
  clear hb hW
  refine (better_err _ _ _ V1 V2 (by exact I1.out) (by exact I2.out) 9 ER.out (by decide)).mono ?_
  rintro e w3 ⟨rfl, b⟩
  replace G1 : Hid (w3.heap[w.heap.size]? = _) := blk_below G1.out b
  replace I1 : Hid (VIn w3 _ _) := I1.out.below b
  replace G2 : Hid (w3.heap[w.heap.size + 1]? = _) := blk_below G2.out b
  replace I2 : Hid (VIn w3 _ _) := I2.out.below b
  replace GR1 : Hid (w3.heap[w1.heap.size]? = _) := blk_below GR1.out b
  replace GR2 : Hid (w3.heap[w2.heap.size]? = _) := blk_below GR2.out b
  replace HB : Hid (Below _ _ w3) := below_step HB.out b
  clear b
  clear p10 p11 p12 p13 p14 l1 p20 p21 p22 p23 p24 l2 pR10 pR11 pR12 pR13 pR14 lR1
  obtain ⟨p10, p11, p12, p13, p14⟩ := box5 G1.out (below_refl _)
  have l1 := blk_lt G1.out
  obtain ⟨p20, p21, p22, p23, p24⟩ := box5 G2.out (below_refl _)
  have l2 := blk_lt G2.out
  obtain ⟨pR10, pR11, pR12, pR13, pR14⟩ := box5 GR1.out (below_refl _)
  have lR1 := blk_lt GR1.out
  obtain ⟨pR20, pR21, pR22, pR23, pR24⟩ := box5 GR2.out (below_refl _)
  have lR2 := blk_lt GR2.out
  go_wp2_with (go_at_call 15; fail)
  refine (vmay_at _ _ V1 0 (by exact I1.out) M1.out).mono ?_
  rintro e w4 ⟨rfl, b⟩
  replace G1 : Hid (w4.heap[w.heap.size]? = _) := blk_below G1.out b
  replace I1 : Hid (VIn w4 _ _) := I1.out.below b
  replace G2 : Hid (w4.heap[w.heap.size + 1]? = _) := blk_below G2.out b
  replace I2 : Hid (VIn w4 _ _) := I2.out.below b
  replace GR1 : Hid (w4.heap[w1.heap.size]? = _) := blk_below GR1.out b
  replace GR2 : Hid (w4.heap[w2.heap.size]? = _) := blk_below GR2.out b
  replace HB : Hid (Below _ _ w4) := below_step HB.out b
  clear b
  clear p10 p11 p12 p13 p14 l1 p20 p21 p22 p23 p24 l2 pR10 pR11 pR12 pR13 pR14 lR1 pR20 pR21 pR22 pR23 pR24 lR2
  obtain ⟨p10, p11, p12, p13, p14⟩ := box5 G1.out (below_refl _)
  have l1 := blk_lt G1.out
  obtain ⟨p20, p21, p22, p23, p24⟩ := box5 G2.out (below_refl _)
  have l2 := blk_lt G2.out
  obtain ⟨pR10, pR11, pR12, pR13, pR14⟩ := box5 GR1.out (below_refl _)
  have lR1 := blk_lt GR1.out
  obtain ⟨pR20, pR21, pR22, pR23, pR24⟩ := box5 GR2.out (below_refl _)
  have lR2 := blk_lt GR2.out
  go_wp2_with (go_at_call 15; fail)
  refine (vmay_at _ _ V2 9 (by exact I2.out) M2.out).mono ?_
  rintro e w5 ⟨rfl, b⟩
  replace G1 : Hid (w5.heap[w.heap.size]? = _) := blk_below G1.out b
  replace I1 : Hid (VIn w5 _ _) := I1.out.below b
  replace G2 : Hid (w5.heap[w.heap.size + 1]? = _) := blk_below G2.out b
  replace I2 : Hid (VIn w5 _ _) := I2.out.below b
  replace GR1 : Hid (w5.heap[w1.heap.size]? = _) := blk_below GR1.out b
  replace GR2 : Hid (w5.heap[w2.heap.size]? = _) := blk_below GR2.out b
  replace HB : Hid (Below _ _ w5) := below_step HB.out b
  clear b
  clear p10 p11 p12 p13 p14 l1 p20 p21 p22 p23 p24 l2 pR10 pR11 pR12 pR13 pR14 lR1 pR20 pR21 pR22 pR23 pR24 lR2
  obtain ⟨p10, p11, p12, p13, p14⟩ := box5 G1.out (below_refl _)
  have l1 := blk_lt G1.out
  obtain ⟨p20, p21, p22, p23, p24⟩ := box5 G2.out (below_refl _)
  have l2 := blk_lt G2.out
  obtain ⟨pR10, pR11, pR12, pR13, pR14⟩ := box5 GR1.out (below_refl _)
  have lR1 := blk_lt GR1.out
  obtain ⟨pR20, pR21, pR22, pR23, pR24⟩ := box5 GR2.out (below_refl _)
  have lR2 := blk_lt GR2.out
  have HW : Below w5.heap.size w5 w5 := below_refl _
  clear l1 l2 lR1 lR2
  go_upto_region 10 with fail
  refine wp_region_held_drew (S := (fun w' => w'.cell? ⟨w.heap.size, 0, none⟩ = some (.int .i64 V1.s) ∧ w'.cell? ⟨w.heap.size, 1, none⟩ = some (.bool V1.i) ∧ w'.cell? ⟨w.heap.size, 2, none⟩ = some (.slice a1 V1.n c1) ∧ w'.cell? ⟨w.heap.size, 3, none⟩ = some (.int .i64 V1.l) ∧ w'.cell? ⟨w.heap.size, 4, none⟩ = some (.float .f64 V1.x) ∧ w'.cell? ⟨w.heap.size + 1, 0, none⟩ = some (.int .i64 V2.s) ∧ w'.cell? ⟨w.heap.size + 1, 1, none⟩ = some (.bool V2.i) ∧ w'.cell? ⟨w.heap.size + 1, 2, none⟩ = some (.slice a2 V2.n c2) ∧ w'.cell? ⟨w.heap.size + 1, 3, none⟩ = some (.int .i64 V2.l) ∧ w'.cell? ⟨w.heap.size + 1, 4, none⟩ = some (.float .f64 V2.x) ∧ w'.cell? ⟨w1.heap.size, 0, none⟩ = some (.int .i64 0) ∧ w'.cell? ⟨w1.heap.size, 1, none⟩ = some (.bool false) ∧ w'.cell? ⟨w1.heap.size, 2, none⟩ = some (.slice none 0 0) ∧ w'.cell? ⟨w1.heap.size, 3, none⟩ = some (.int .i64 0) ∧ w'.cell? ⟨w1.heap.size, 4, none⟩ = some (.float .f64 0) ∧ w'.cell? ⟨w2.heap.size, 0, none⟩ = some (.int .i64 0) ∧ w'.cell? ⟨w2.heap.size, 1, none⟩ = some (.bool false) ∧ w'.cell? ⟨w2.heap.size, 2, none⟩ = some (.slice none 0 0) ∧ w'.cell? ⟨w2.heap.size, 3, none⟩ = some (.int .i64 0) ∧ w'.cell? ⟨w2.heap.size, 4, none⟩ = some (.float .f64 0))) (by kernel_rfl) ?_ (fun hHeld => ?_)
  · (try dsimp only); first | exact ⟨p10, p11, p12, p13, p14, p20, p21, p22, p23, p24, pR10, pR11, pR12, pR13, pR14, pR20, pR21, pR22, pR23, pR24⟩ | go_keep
  refine wpAnyH_take (i := 0) (oi := { dst := some 90, op := Op.load 27 (Operand.tmp 5), type := 27, pos := "law.go:166", after := #[], guard := none }) (v := ?vu51) rfl (by kernel_rfl) (by kernel_rfl) (by kernel_rfl) (fun _ _ _ h => h) (Or.inl ⟨by rfl, ?hyu51⟩) (by assumption) ?restu51
  case hyu51 => (intro w hSw; (try dsimp only at hSw); go_simp; (try with_reducible rfl))
  try simp only [Act.put, List.setIfInBounds_toArray, List.set_cons_zero, List.set_cons_succ]
  refine wpAnyH_take (i := 1) (oi := { dst := some 91, op := Op.build 27 #[], type := 27, pos := "law.go:166", after := #[], guard := none }) (v := ?vu52) rfl (by kernel_rfl) (by kernel_rfl) (by kernel_rfl) (fun _ _ _ h => h) (Or.inl ⟨by rfl, ?hyu52⟩) (by assumption) ?restu52
  case hyu52 => (intro w hSw; (try dsimp only at hSw); go_simp; (try with_reducible rfl))
  try simp only [Act.put, List.setIfInBounds_toArray, List.set_cons_zero, List.set_cons_succ]
  refine wpAnyH_ready (rs := [2]) (by kernel_rfl) (by simp) ?_
  refine AllReadyH.cons (o := { dst := some 92, op := Op.call { callee := Callee.value (Operand.func 16), args := #[Operand.tmp 90, Operand.tmp 91], argTypes := #[27, 27] }, type := 4, pos := "law.go:166", after := #[{ on := 0, ground := Ground.data }, { on := 1, ground := Ground.data }], guard := none }) rfl (fun K hK => ?_) AllReadyH.nil
  go_simp
  go_at_call 16
  refine (fields_no _).mono ?_
  rintro e z0 ⟨rfl, b⟩
  replace HW := below_step (by first | exact HW | exact HW.drew) b
  clear b
  clear p10 p11 p12 p13 p14 p20 p21 p22 p23 p24 pR10 pR11 pR12 pR13 pR14 pR20 pR21 pR22 pR23 pR24
  obtain ⟨p10, p11, p12, p13, p14⟩ := box5 G1.out HW
  obtain ⟨p20, p21, p22, p23, p24⟩ := box5 G2.out HW
  obtain ⟨pR10, pR11, pR12, pR13, pR14⟩ := box5 GR1.out HW
  obtain ⟨pR20, pR21, pR22, pR23, pR24⟩ := box5 GR2.out HW
  refine hK.out _ _ ?_ (fun hHeldB => ?_)
  · (try dsimp only); first | exact ⟨p10, p11, p12, p13, p14, p20, p21, p22, p23, p24, pR10, pR11, pR12, pR13, pR14, pR20, pR21, pR22, pR23, pR24⟩ | go_keep
  clear hK K hHeld
  have hHeld := hHeldB
  clear hHeldB
  try simp only [Act.put, List.setIfInBounds_toArray, List.set_cons_zero, List.set_cons_succ]
  refine wpAnyH_take (i := 3) (oi := { dst := some 93, op := Op.move (Operand.tmp 92), type := 4, pos := "law.go:166", after := #[{ on := 2, ground := Ground.data }, { on := 2, ground := Ground.chain }], guard := none }) (v := ?vu53) rfl (by kernel_rfl) (by kernel_rfl) (by kernel_rfl) (fun _ _ _ h => h) (Or.inl ⟨by rfl, ?hyu53⟩) (by assumption) ?restu53
  case hyu53 => (intro w hSw; (try dsimp only at hSw); go_simp; (try with_reducible rfl))
  try simp only [Act.put, List.setIfInBounds_toArray, List.set_cons_zero, List.set_cons_succ]
  refine wpAnyH_take (i := 4) (oi := { dst := some 94, op := Op.load 27 (Operand.tmp 7), type := 27, pos := "law.go:166", after := #[{ on := 3, ground := Ground.guard }], guard := some (3, true) }) (v := ?vu54) rfl (by kernel_rfl) (by kernel_rfl) (by kernel_rfl) (fun _ _ _ h => h) (Or.inl ⟨by rfl, ?hyu54⟩) (by assumption) ?restu54
  case hyu54 => (intro w hSw; (try dsimp only at hSw); go_simp; (try with_reducible rfl))
  try simp only [Act.put, List.setIfInBounds_toArray, List.set_cons_zero, List.set_cons_succ]
  refine wpAnyH_take (i := 5) (oi := { dst := some 95, op := Op.build 27 #[], type := 27, pos := "law.go:166", after := #[{ on := 3, ground := Ground.guard }], guard := some (3, true) }) (v := ?vu55) rfl (by kernel_rfl) (by kernel_rfl) (by kernel_rfl) (fun _ _ _ h => h) (Or.inl ⟨by rfl, ?hyu55⟩) (by assumption) ?restu55
  case hyu55 => (intro w hSw; (try dsimp only at hSw); go_simp; (try with_reducible rfl))
  try simp only [Act.put, List.setIfInBounds_toArray, List.set_cons_zero, List.set_cons_succ]
  refine wpAnyH_ready (rs := [6]) (by kernel_rfl) (by simp) ?_
  refine AllReadyH.cons (o := { dst := some 96, op := Op.call { callee := Callee.value (Operand.func 16), args := #[Operand.tmp 94, Operand.tmp 95], argTypes := #[27, 27] }, type := 4, pos := "law.go:166", after := #[{ on := 4, ground := Ground.data }, { on := 5, ground := Ground.data }, { on := 3, ground := Ground.chain }, { on := 3, ground := Ground.guard }], guard := some (3, true) }) rfl (fun K hK => ?_) AllReadyH.nil
  go_simp
  go_at_call 16
  refine (fields_no _).mono ?_
  rintro e z1 ⟨rfl, b⟩
  replace HW := below_step (by first | exact HW | exact HW.drew) b
  clear b
  clear p10 p11 p12 p13 p14 p20 p21 p22 p23 p24 pR10 pR11 pR12 pR13 pR14 pR20 pR21 pR22 pR23 pR24
  obtain ⟨p10, p11, p12, p13, p14⟩ := box5 G1.out HW
  obtain ⟨p20, p21, p22, p23, p24⟩ := box5 G2.out HW
  obtain ⟨pR10, pR11, pR12, pR13, pR14⟩ := box5 GR1.out HW
  obtain ⟨pR20, pR21, pR22, pR23, pR24⟩ := box5 GR2.out HW
  refine hK.out _ _ ?_ (fun hHeldB => ?_)
  · (try dsimp only); first | exact ⟨p10, p11, p12, p13, p14, p20, p21, p22, p23, p24, pR10, pR11, pR12, pR13, pR14, pR20, pR21, pR22, pR23, pR24⟩ | go_keep
  clear hK K hHeld
  have hHeld := hHeldB
  clear hHeldB
  try simp only [Act.put, List.setIfInBounds_toArray, List.set_cons_zero, List.set_cons_succ]
  refine wpAnyH_take (i := 7) (oi := { dst := some 97, op := Op.pick (Operand.tmp 93) (Operand.tmp 96) (Operand.const (Value.bool false)), type := 4, pos := "law.go:166", after := #[{ on := 3, ground := Ground.data }, { on := 6, ground := Ground.data }], guard := none }) (v := ?vu56) rfl (by kernel_rfl) (by kernel_rfl) (by kernel_rfl) (fun _ _ _ h => h) (Or.inl ⟨by rfl, ?hyu56⟩) (by assumption) ?restu56
  case hyu56 => (intro w hSw; (try dsimp only at hSw); go_simp; (try with_reducible rfl))
  try simp only [Act.put, List.setIfInBounds_toArray, List.set_cons_zero, List.set_cons_succ]
  refine wpAnyH_take (i := 8) (oi := { dst := some 98, op := Op.move (Operand.tmp 97), type := 4, pos := "law.go:166", after := #[{ on := 7, ground := Ground.data }, { on := 6, ground := Ground.chain }], guard := none }) (v := ?vu57) rfl (by kernel_rfl) (by kernel_rfl) (by kernel_rfl) (fun _ _ _ h => h) (Or.inl ⟨by rfl, ?hyu57⟩) (by assumption) ?restu57
  case hyu57 => (intro w hSw; (try dsimp only at hSw); go_simp; (try with_reducible rfl))
  try simp only [Act.put, List.setIfInBounds_toArray, List.set_cons_zero, List.set_cons_succ]
  refine wpAnyH_take (i := 9) (oi := { dst := some 99, op := Op.move (Operand.tmp 9), type := 4, pos := "law.go:166", after := #[{ on := 8, ground := Ground.guard }], guard := some (8, true) }) (v := ?vu58) rfl (by kernel_rfl) (by kernel_rfl) (by kernel_rfl) (fun _ _ _ h => h) (Or.inl ⟨by rfl, ?hyu58⟩) (by assumption) ?restu58
  case hyu58 => (intro w hSw; (try dsimp only at hSw); go_simp; (try with_reducible rfl))
  try simp only [Act.put, List.setIfInBounds_toArray, List.set_cons_zero, List.set_cons_succ]
  refine wpAnyH_take (i := 10) (oi := { dst := some 100, op := Op.unOp UnOp.not 4 (Operand.tmp 99), type := 4, pos := "law.go:166", after := #[{ on := 9, ground := Ground.data }, { on := 8, ground := Ground.guard }], guard := some (8, true) }) (v := ?vu59) rfl (by kernel_rfl) (by kernel_rfl) (by kernel_rfl) (fun _ _ _ h => h) (Or.inl ⟨by rfl, ?hyu59⟩) (by assumption) ?restu59
  case hyu59 => (intro w hSw; (try dsimp only at hSw); go_simp; (try with_reducible rfl))
  try simp only [Act.put, List.setIfInBounds_toArray, List.set_cons_zero, List.set_cons_succ]
  refine wpAnyH_take (i := 11) (oi := { dst := some 101, op := Op.pick (Operand.tmp 98) (Operand.tmp 100) (Operand.const (Value.bool false)), type := 4, pos := "law.go:166", after := #[{ on := 8, ground := Ground.data }, { on := 10, ground := Ground.data }], guard := none }) (v := ?vu60) rfl (by kernel_rfl) (by kernel_rfl) (by kernel_rfl) (fun _ _ _ h => h) (Or.inl ⟨by rfl, ?hyu60⟩) (by assumption) ?restu60
  case hyu60 => (intro w hSw; (try dsimp only at hSw); go_simp; (try with_reducible rfl))
  try simp only [Act.put, List.setIfInBounds_toArray, List.set_cons_zero, List.set_cons_succ]
  refine wpAnyH_take (i := 12) (oi := { dst := some 102, op := Op.move (Operand.tmp 101), type := 4, pos := "law.go:166", after := #[{ on := 11, ground := Ground.data }, { on := 8, ground := Ground.chain }], guard := none }) (v := ?vu61) rfl (by kernel_rfl) (by kernel_rfl) (by kernel_rfl) (fun _ _ _ h => h) (Or.inl ⟨by rfl, ?hyu61⟩) (by assumption) ?restu61
  case hyu61 => (intro w hSw; (try dsimp only at hSw); go_simp; (try with_reducible rfl))
  try simp only [Act.put, List.setIfInBounds_toArray, List.set_cons_zero, List.set_cons_succ]
  refine wpAnyH_take (i := 13) (oi := { dst := some 103, op := Op.load 27 (Operand.tmp 2), type := 27, pos := "law.go:166", after := #[{ on := 12, ground := Ground.guard }], guard := some (12, true) }) (v := ?vu62) rfl (by kernel_rfl) (by kernel_rfl) (by kernel_rfl) (fun _ _ _ h => h) (Or.inl ⟨by rfl, ?hyu62⟩) (by assumption) ?restu62
  case hyu62 => (intro w hSw; (try dsimp only at hSw); go_simp; (try with_reducible rfl))
  try simp only [Act.put, List.setIfInBounds_toArray, List.set_cons_zero, List.set_cons_succ]
  refine wpAnyH_take (i := 14) (oi := { dst := some 104, op := Op.load 27 (Operand.tmp 3), type := 27, pos := "law.go:166", after := #[{ on := 12, ground := Ground.guard }], guard := some (12, true) }) (v := ?vu63) rfl (by kernel_rfl) (by kernel_rfl) (by kernel_rfl) (fun _ _ _ h => h) (Or.inl ⟨by rfl, ?hyu63⟩) (by assumption) ?restu63
  case hyu63 => (intro w hSw; (try dsimp only at hSw); go_simp; (try with_reducible rfl))
  try simp only [Act.put, List.setIfInBounds_toArray, List.set_cons_zero, List.set_cons_succ]
  refine wpAnyH_take (i := 17) (oi := { dst := some 107, op := Op.load 27 (Operand.tmp 2), type := 27, pos := "law.go:166", after := #[{ on := 12, ground := Ground.guard }], guard := some (12, true) }) (v := ?vu64) rfl (by kernel_rfl) (by kernel_rfl) (by kernel_rfl) (fun _ _ _ h => h) (Or.inl ⟨by rfl, ?hyu64⟩) (by assumption) ?restu64
  case hyu64 => (intro w hSw; (try dsimp only at hSw); go_simp; (try with_reducible rfl))
  try simp only [Act.put, List.setIfInBounds_toArray, List.set_cons_zero, List.set_cons_succ]
  refine wpAnyH_ready (rs := [15]) (by kernel_rfl) (by simp) ?_
  refine AllReadyH.cons (o := { dst := some 105, op := Op.call { callee := Callee.value (Operand.func 13), args := #[Operand.tmp 103, Operand.tmp 104], argTypes := #[27, 27] }, type := 4, pos := "law.go:166", after := #[{ on := 13, ground := Ground.data }, { on := 14, ground := Ground.data }, { on := 12, ground := Ground.chain }, { on := 12, ground := Ground.guard }], guard := some (12, true) }) rfl (fun K hK => ?_) AllReadyH.nil
  go_simp
  go_at_call 13
  refine (vsame_no _ _ _ V1 V2 (by exact I1.out.below (by first | exact HW | exact HW.drew)) (by exact I2.out.below (by first | exact HW | exact HW.drew)) EN.out).mono ?_
  rintro e z2 ⟨rfl, b⟩
  replace HW := below_step (by first | exact HW | exact HW.drew) b
  clear b
  clear p10 p11 p12 p13 p14 p20 p21 p22 p23 p24 pR10 pR11 pR12 pR13 pR14 pR20 pR21 pR22 pR23 pR24
  obtain ⟨p10, p11, p12, p13, p14⟩ := box5 G1.out HW
  obtain ⟨p20, p21, p22, p23, p24⟩ := box5 G2.out HW
  obtain ⟨pR10, pR11, pR12, pR13, pR14⟩ := box5 GR1.out HW
  obtain ⟨pR20, pR21, pR22, pR23, pR24⟩ := box5 GR2.out HW
  refine hK.out _ _ ?_ (fun hHeldB => ?_)
  · (try dsimp only); first | exact ⟨p10, p11, p12, p13, p14, p20, p21, p22, p23, p24, pR10, pR11, pR12, pR13, pR14, pR20, pR21, pR22, pR23, pR24⟩ | go_keep
  clear hK K hHeld
  have hHeld := hHeldB
  clear hHeldB
  try simp only [Act.put, List.setIfInBounds_toArray, List.set_cons_zero, List.set_cons_succ]
  refine wpAnyH_take (i := 16) (oi := { dst := some 106, op := Op.unOp UnOp.not 4 (Operand.tmp 105), type := 4, pos := "law.go:166", after := #[{ on := 15, ground := Ground.data }, { on := 12, ground := Ground.guard }], guard := some (12, true) }) (v := ?vu65) rfl (by kernel_rfl) (by kernel_rfl) (by kernel_rfl) (fun _ _ _ h => h) (Or.inl ⟨by rfl, ?hyu65⟩) (by assumption) ?restu65
  case hyu65 => (intro w hSw; (try dsimp only at hSw); go_simp; (try with_reducible rfl))
  try simp only [Act.put, List.setIfInBounds_toArray, List.set_cons_zero, List.set_cons_succ]
  refine wpAnyH_ready (rs := [18]) (by kernel_rfl) (by simp) ?_
  refine AllReadyH.cons (o := { dst := some 108, op := Op.call { callee := Callee.value (Operand.func 9), args := #[Operand.tmp 107], argTypes := #[27] }, type := 3, pos := "law.go:166", after := #[{ on := 17, ground := Ground.data }, { on := 15, ground := Ground.chain }, { on := 12, ground := Ground.guard }], guard := some (12, true) }) rfl (fun K hK => ?_) AllReadyH.nil
  go_simp
  go_at_call 9
  refine (rmv_at _ _ V1 0 (by exact I1.out.below (by first | exact HW | exact HW.drew)) M1.out).mono ?_
  rintro e z3 ⟨rfl, b⟩
  replace HW := below_step (by first | exact HW | exact HW.drew) b
  clear b
  clear p10 p11 p12 p13 p14 p20 p21 p22 p23 p24 pR10 pR11 pR12 pR13 pR14 pR20 pR21 pR22 pR23 pR24
  obtain ⟨p10, p11, p12, p13, p14⟩ := box5 G1.out HW
  obtain ⟨p20, p21, p22, p23, p24⟩ := box5 G2.out HW
  obtain ⟨pR10, pR11, pR12, pR13, pR14⟩ := box5 GR1.out HW
  obtain ⟨pR20, pR21, pR22, pR23, pR24⟩ := box5 GR2.out HW
  refine hK.out _ _ ?_ (fun hHeldB => ?_)
  · (try dsimp only); first | exact ⟨p10, p11, p12, p13, p14, p20, p21, p22, p23, p24, pR10, pR11, pR12, pR13, pR14, pR20, pR21, pR22, pR23, pR24⟩ | go_keep
  clear hK K hHeld
  have hHeld := hHeldB
  clear hHeldB
  try simp only [Act.put, List.setIfInBounds_toArray, List.set_cons_zero, List.set_cons_succ]
  refine wpAnyH_take (i := 19) (oi := { dst := some 109, op := Op.binOp BinOp.neq 3 (Operand.tmp 108) (Operand.const (Value.int IntKind.i64 0)) 3, type := 4, pos := "law.go:166", after := #[{ on := 18, ground := Ground.data }, { on := 12, ground := Ground.guard }], guard := some (12, true) }) (v := ?vu66) rfl (by kernel_rfl) (by kernel_rfl) (by kernel_rfl) (fun _ _ _ h => h) (Or.inl ⟨by rfl, ?hyu66⟩) (by assumption) ?restu66
  case hyu66 => (intro w hSw; (try dsimp only at hSw); go_simp; (try with_reducible rfl))
  try simp only [Act.put, List.setIfInBounds_toArray, List.set_cons_zero, List.set_cons_succ]
  refine wpAnyH_take (i := 20) (oi := { dst := some 110, op := Op.move (Operand.tmp 109), type := 4, pos := "law.go:166", after := #[{ on := 19, ground := Ground.data }, { on := 18, ground := Ground.chain }, { on := 12, ground := Ground.guard }], guard := some (12, true) }) (v := ?vu67) rfl (by kernel_rfl) (by kernel_rfl) (by kernel_rfl) (fun _ _ _ h => h) (Or.inl ⟨by rfl, ?hyu67⟩) (by assumption) ?restu67
  case hyu67 => (intro w hSw; (try dsimp only at hSw); go_simp; (try with_reducible rfl))
  try simp only [Act.put, List.setIfInBounds_toArray, List.set_cons_zero, List.set_cons_succ]
  refine wpAnyH_take (i := 21) (oi := { dst := some 111, op := Op.load 27 (Operand.tmp 3), type := 27, pos := "law.go:166", after := #[{ on := 20, ground := Ground.guard }], guard := some (20, false) }) (v := ?vu68) rfl (by kernel_rfl) (by kernel_rfl) (by kernel_rfl) (fun _ _ _ h => h) (Or.inl ⟨by rfl, ?hyu68⟩) (by assumption) ?restu68
  case hyu68 => (intro w hSw; (try dsimp only at hSw); go_simp; (try with_reducible rfl))
  try simp only [Act.put, List.setIfInBounds_toArray, List.set_cons_zero, List.set_cons_succ]
  refine wpAnyH_ready (rs := [22]) (by kernel_rfl) (by simp) ?_
  refine AllReadyH.cons (o := { dst := some 112, op := Op.call { callee := Callee.value (Operand.func 9), args := #[Operand.tmp 111], argTypes := #[27] }, type := 3, pos := "law.go:166", after := #[{ on := 21, ground := Ground.data }, { on := 20, ground := Ground.chain }, { on := 20, ground := Ground.guard }], guard := some (20, false) }) rfl (fun K hK => ?_) AllReadyH.nil
  go_simp
  go_at_call 9
  refine (rmv_at _ _ V2 9 (by exact I2.out.below (by first | exact HW | exact HW.drew)) M2.out).mono ?_
  rintro e z4 ⟨rfl, b⟩
  replace HW := below_step (by first | exact HW | exact HW.drew) b
  clear b
  clear p10 p11 p12 p13 p14 p20 p21 p22 p23 p24 pR10 pR11 pR12 pR13 pR14 pR20 pR21 pR22 pR23 pR24
  obtain ⟨p10, p11, p12, p13, p14⟩ := box5 G1.out HW
  obtain ⟨p20, p21, p22, p23, p24⟩ := box5 G2.out HW
  obtain ⟨pR10, pR11, pR12, pR13, pR14⟩ := box5 GR1.out HW
  obtain ⟨pR20, pR21, pR22, pR23, pR24⟩ := box5 GR2.out HW
  refine hK.out _ _ ?_ (fun hHeldB => ?_)
  · (try dsimp only); first | exact ⟨p10, p11, p12, p13, p14, p20, p21, p22, p23, p24, pR10, pR11, pR12, pR13, pR14, pR20, pR21, pR22, pR23, pR24⟩ | go_keep
  clear hK K hHeld
  have hHeld := hHeldB
  clear hHeldB
  try simp only [Act.put, List.setIfInBounds_toArray, List.set_cons_zero, List.set_cons_succ]
  refine wpAnyH_take (i := 23) (oi := { dst := some 113, op := Op.binOp BinOp.neq 3 (Operand.tmp 112) (Operand.const (Value.int IntKind.i64 0)) 3, type := 4, pos := "law.go:166", after := #[{ on := 22, ground := Ground.data }, { on := 20, ground := Ground.guard }], guard := some (20, false) }) (v := ?vu69) rfl (by kernel_rfl) (by kernel_rfl) (by kernel_rfl) (fun _ _ _ h => h) (Or.inl ⟨by rfl, ?hyu69⟩) (by assumption) ?restu69
  case hyu69 => (intro w hSw; (try dsimp only at hSw); go_simp; (try with_reducible rfl))
  try simp only [Act.put, List.setIfInBounds_toArray, List.set_cons_zero, List.set_cons_succ]
  refine wpAnyH_take (i := 24) (oi := { dst := some 114, op := Op.pick (Operand.tmp 110) (Operand.const (Value.bool true)) (Operand.tmp 113), type := 4, pos := "law.go:166", after := #[{ on := 20, ground := Ground.data }, { on := 23, ground := Ground.data }, { on := 12, ground := Ground.guard }], guard := some (12, true) }) (v := ?vu70) rfl (by kernel_rfl) (by kernel_rfl) (by kernel_rfl) (fun _ _ _ h => h) (Or.inl ⟨by rfl, ?hyu70⟩) (by assumption) ?restu70
  case hyu70 => (intro w hSw; (try dsimp only at hSw); go_simp; (try with_reducible rfl))
  try simp only [Act.put, List.setIfInBounds_toArray, List.set_cons_zero, List.set_cons_succ]
  refine wpAnyH_take (i := 25) (oi := { dst := some 115, op := Op.move (Operand.tmp 114), type := 4, pos := "law.go:166", after := #[{ on := 24, ground := Ground.data }, { on := 22, ground := Ground.chain }, { on := 12, ground := Ground.guard }], guard := some (12, true) }) (v := ?vu71) rfl (by kernel_rfl) (by kernel_rfl) (by kernel_rfl) (fun _ _ _ h => h) (Or.inl ⟨by rfl, ?hyu71⟩) (by assumption) ?restu71
  case hyu71 => (intro w hSw; (try dsimp only at hSw); go_simp; (try with_reducible rfl))
  try simp only [Act.put, List.setIfInBounds_toArray, List.set_cons_zero, List.set_cons_succ]
  refine wpAnyH_take (i := 26) (oi := { dst := some 116, op := Op.fieldAddr 27 (Operand.tmp 2) 0, type := 0, pos := "law.go:166", after := #[{ on := 25, ground := Ground.guard }], guard := some (25, false) }) (v := undef) rfl (by kernel_rfl) (by kernel_rfl) (by kernel_rfl) (fun _ _ _ h => h) (Or.inr ⟨by rfl, rfl⟩) (by assumption) ?_
  try simp only [Act.put, List.setIfInBounds_toArray, List.set_cons_zero, List.set_cons_succ]
  refine wpAnyH_take (i := 27) (oi := { dst := some 117, op := Op.load 3 (Operand.tmp 116), type := 3, pos := "law.go:166", after := #[{ on := 26, ground := Ground.data }, { on := 25, ground := Ground.guard }], guard := some (25, false) }) (v := undef) rfl (by kernel_rfl) (by kernel_rfl) (by kernel_rfl) (fun _ _ _ h => h) (Or.inr ⟨by rfl, rfl⟩) (by assumption) ?_
  try simp only [Act.put, List.setIfInBounds_toArray, List.set_cons_zero, List.set_cons_succ]
  refine wpAnyH_take (i := 28) (oi := { dst := some 118, op := Op.fieldAddr 27 (Operand.tmp 3) 0, type := 0, pos := "law.go:166", after := #[{ on := 25, ground := Ground.guard }], guard := some (25, false) }) (v := undef) rfl (by kernel_rfl) (by kernel_rfl) (by kernel_rfl) (fun _ _ _ h => h) (Or.inr ⟨by rfl, rfl⟩) (by assumption) ?_
  try simp only [Act.put, List.setIfInBounds_toArray, List.set_cons_zero, List.set_cons_succ]
  refine wpAnyH_take (i := 29) (oi := { dst := some 119, op := Op.load 3 (Operand.tmp 118), type := 3, pos := "law.go:166", after := #[{ on := 28, ground := Ground.data }, { on := 25, ground := Ground.guard }], guard := some (25, false) }) (v := undef) rfl (by kernel_rfl) (by kernel_rfl) (by kernel_rfl) (fun _ _ _ h => h) (Or.inr ⟨by rfl, rfl⟩) (by assumption) ?_
  try simp only [Act.put, List.setIfInBounds_toArray, List.set_cons_zero, List.set_cons_succ]
  refine wpAnyH_take (i := 30) (oi := { dst := some 120, op := Op.binOp BinOp.neq 3 (Operand.tmp 117) (Operand.tmp 119) 3, type := 4, pos := "law.go:166", after := #[{ on := 27, ground := Ground.data }, { on := 29, ground := Ground.data }, { on := 25, ground := Ground.guard }], guard := some (25, false) }) (v := undef) rfl (by kernel_rfl) (by kernel_rfl) (by kernel_rfl) (fun _ _ _ h => h) (Or.inr ⟨by rfl, rfl⟩) (by assumption) ?_
  try simp only [Act.put, List.setIfInBounds_toArray, List.set_cons_zero, List.set_cons_succ]
  refine wpAnyH_take (i := 31) (oi := { dst := some 121, op := Op.pick (Operand.tmp 115) (Operand.const (Value.bool true)) (Operand.tmp 120), type := 4, pos := "law.go:166", after := #[{ on := 25, ground := Ground.data }, { on := 30, ground := Ground.data }, { on := 12, ground := Ground.guard }], guard := some (12, true) }) (v := ?vu72) rfl (by kernel_rfl) (by kernel_rfl) (by kernel_rfl) (fun _ _ _ h => h) (Or.inl ⟨by rfl, ?hyu72⟩) (by assumption) ?restu72
  case hyu72 => (intro w hSw; (try dsimp only at hSw); go_simp; (try with_reducible rfl))
  try simp only [Act.put, List.setIfInBounds_toArray, List.set_cons_zero, List.set_cons_succ]
  refine wpAnyH_take (i := 32) (oi := { dst := some 122, op := Op.binOp BinOp.eql 4 (Operand.tmp 106) (Operand.tmp 121) 4, type := 4, pos := "law.go:166", after := #[{ on := 16, ground := Ground.data }, { on := 31, ground := Ground.data }, { on := 12, ground := Ground.guard }], guard := some (12, true) }) (v := ?vu73) rfl (by kernel_rfl) (by kernel_rfl) (by kernel_rfl) (fun _ _ _ h => h) (Or.inl ⟨by rfl, ?hyu73⟩) (by assumption) ?restu73
  case hyu73 => (intro w hSw; (try dsimp only at hSw); go_simp; (try with_reducible rfl))
  try simp only [Act.put, List.setIfInBounds_toArray, List.set_cons_zero, List.set_cons_succ]
  refine wpAnyH_take (i := 33) (oi := { dst := some 123, op := Op.pick (Operand.tmp 102) (Operand.tmp 122) (Operand.const (Value.bool false)), type := 4, pos := "law.go:166", after := #[{ on := 12, ground := Ground.data }, { on := 32, ground := Ground.data }], guard := none }) (v := ?vu74) rfl (by kernel_rfl) (by kernel_rfl) (by kernel_rfl) (fun _ _ _ h => h) (Or.inl ⟨by rfl, ?hyu74⟩) (by assumption) ?restu74
  case hyu74 => (intro w hSw; (try dsimp only at hSw); go_simp; (try with_reducible rfl))
  try simp only [Act.put, List.setIfInBounds_toArray, List.set_cons_zero, List.set_cons_succ]
  refine wpAnyH_take (i := 34) (oi := { dst := some 124, op := Op.move (Operand.tmp 123), type := 4, pos := "law.go:166", after := #[{ on := 33, ground := Ground.data }, { on := 25, ground := Ground.chain }], guard := none }) (v := ?vu75) rfl (by kernel_rfl) (by kernel_rfl) (by kernel_rfl) (fun _ _ _ h => h) (Or.inl ⟨by rfl, ?hyu75⟩) (by assumption) ?restu75
  case hyu75 => (intro w hSw; (try dsimp only at hSw); go_simp; (try with_reducible rfl))
  try simp only [Act.put, List.setIfInBounds_toArray, List.set_cons_zero, List.set_cons_succ]
  refine wpAnyH_ready (rs := [35]) (by kernel_rfl) (by simp) ?_
  refine AllReadyH.cons (o := { dst := some 125, op := Op.call { callee := Callee.value (Operand.func 7), args := #[], argTypes := #[] }, type := 4, pos := "law.go:166", after := #[{ on := 34, ground := Ground.chain }, { on := 34, ground := Ground.guard }], guard := some (34, true) }) rfl (fun K hK => ?_) AllReadyH.nil
  go_simp
  go_at_call 7
  refine (vawake_any _ (by exact HEnv.out.below (below_step HB.out (by first | exact HW | exact HW.drew)))).mono ?_
  rintro e z5 ⟨rfl, b⟩
  replace HW := below_step (by first | exact HW | exact HW.drew) b
  clear b
  clear p10 p11 p12 p13 p14 p20 p21 p22 p23 p24 pR10 pR11 pR12 pR13 pR14 pR20 pR21 pR22 pR23 pR24
  obtain ⟨p10, p11, p12, p13, p14⟩ := box5 G1.out HW
  obtain ⟨p20, p21, p22, p23, p24⟩ := box5 G2.out HW
  obtain ⟨pR10, pR11, pR12, pR13, pR14⟩ := box5 GR1.out HW
  obtain ⟨pR20, pR21, pR22, pR23, pR24⟩ := box5 GR2.out HW
  refine hK.out _ _ ?_ (fun hHeldB => ?_)
  · (try dsimp only); first | exact ⟨p10, p11, p12, p13, p14, p20, p21, p22, p23, p24, pR10, pR11, pR12, pR13, pR14, pR20, pR21, pR22, pR23, pR24⟩ | go_keep
  clear hK K hHeld
  have hHeld := hHeldB
  clear hHeldB
  try simp only [Act.put, List.setIfInBounds_toArray, List.set_cons_zero, List.set_cons_succ]
  refine wpAnyH_take (i := 36) (oi := { dst := some 126, op := Op.pick (Operand.tmp 124) (Operand.tmp 125) (Operand.const (Value.bool false)), type := 4, pos := "law.go:166", after := #[{ on := 34, ground := Ground.data }, { on := 35, ground := Ground.data }], guard := none }) (v := ?vu76) rfl (by kernel_rfl) (by kernel_rfl) (by kernel_rfl) (fun _ _ _ h => h) (Or.inl ⟨by rfl, ?hyu76⟩) (by assumption) ?restu76
  case hyu76 => (intro w hSw; (try dsimp only at hSw); go_simp; (try with_reducible rfl))
  try simp only [Act.put, List.setIfInBounds_toArray, List.set_cons_zero, List.set_cons_succ]
  refine wpAnyH_take (i := 37) (oi := { dst := some 4, op := Op.assign (Operand.tmp 126), type := 4, pos := "law.go:166", after := #[{ on := 36, ground := Ground.data }, { on := 35, ground := Ground.chain }, { on := 0, ground := Ground.phase }, { on := 1, ground := Ground.phase }, { on := 2, ground := Ground.phase }, { on := 3, ground := Ground.phase }, { on := 4, ground := Ground.phase }, { on := 5, ground := Ground.phase }, { on := 6, ground := Ground.phase }, { on := 7, ground := Ground.phase }, { on := 8, ground := Ground.phase }, { on := 9, ground := Ground.phase }, { on := 10, ground := Ground.phase }, { on := 11, ground := Ground.phase }, { on := 12, ground := Ground.phase }, { on := 13, ground := Ground.phase }, { on := 14, ground := Ground.phase }, { on := 15, ground := Ground.phase }, { on := 16, ground := Ground.phase }, { on := 17, ground := Ground.phase }, { on := 18, ground := Ground.phase }, { on := 19, ground := Ground.phase }, { on := 20, ground := Ground.phase }, { on := 21, ground := Ground.phase }, { on := 22, ground := Ground.phase }, { on := 23, ground := Ground.phase }, { on := 24, ground := Ground.phase }, { on := 25, ground := Ground.phase }, { on := 26, ground := Ground.phase }, { on := 27, ground := Ground.phase }, { on := 28, ground := Ground.phase }, { on := 29, ground := Ground.phase }, { on := 30, ground := Ground.phase }, { on := 31, ground := Ground.phase }, { on := 32, ground := Ground.phase }, { on := 33, ground := Ground.phase }, { on := 34, ground := Ground.phase }, { on := 35, ground := Ground.phase }, { on := 36, ground := Ground.phase }], guard := none }) (v := ?vu77) rfl (by kernel_rfl) (by kernel_rfl) (by kernel_rfl) (fun _ _ _ h => h) (Or.inl ⟨by rfl, ?hyu77⟩) (by assumption) ?restu77
  case hyu77 => (intro w hSw; (try dsimp only at hSw); go_simp; (try with_reducible rfl))
  try simp only [Act.put, List.setIfInBounds_toArray, List.set_cons_zero, List.set_cons_succ]
  refine wpAnyH_done (by kernel_rfl) ?_ _
  go_wp2
  go_ret
  exact ⟨rfl, below_step HB.out HW⟩
set_option maxHeartbeats 32000000 in
theorem mix_b16 (w : World) (v1 v2 : Value) (V1 V2 : Vl) (h1 : VIn w v1 V1) (h2 : VIn w v2 V2) (henv : Env w) (hsm : V1.n ≤ 60 ∧ V2.n ≤ 60)  (er : errV V1 V2 = 16) (en : errV V1 V2 ≠ 0) (m1 : mayV V1 = 0) (m2 : mayV V2 = 16) : Calls Tryd.prog 5 #[v1, v2] w fun e w' => e = .returned (.bool true) ∧ Below w.heap.size w w' := by
  have hsf := st_flo
  have HEnv : Hid (Env w) := henv
  clear henv
  have SM : Hid (V1.n ≤ 60 ∧ V2.n ≤ 60) := hsm
  have SN : Hid (V1.n ≤ 60 ∧ V2.n ≤ 60) := hsm
  clear hsm
  have ER : Hid (errV V1 V2 = 16) := er
  have EN : Hid (errV V1 V2 ≠ 0) := en
  have M1 : Hid (mayV V1 = 0) := m1
  have M2 : Hid (mayV V2 = 16) := m2
  clear er en m1 m2
  have H1' := h1
  obtain ⟨a1, c1, rfl, hr1, hL1, hn1, hx1, hl1, hs1⟩ := h1
  have H2' := h2
  obtain ⟨a2, c2, rfl, hr2, hL2, hn2, hx2, hl2, hs2⟩ := h2
  obtain ⟨W0, hW0⟩ : ∃ W0, W0 = (((w.alloc (.cells #[.int .i64 V1.s, .bool V1.i, .slice a1 V1.n c1, .int .i64 V1.l, .float .f64 V1.x] 27)).alloc (.cells #[.int .i64 V2.s, .bool V2.i, .slice a2 V2.n c2, .int .i64 V2.l, .float .f64 V2.x] 27)).alloc (.cells #[.int .i64 V1.s, .bool V1.i, .slice a1 V1.n c1, .int .i64 V1.l, .float .f64 V1.x, .int .i64 V2.s, .bool V2.i, .slice a2 V2.n c2, .int .i64 V2.l, .float .f64 V2.x] 27)) := ⟨_, rfl⟩
  have HB0 : Hid (Below w.heap.size w W0) := by rw [hW0]; exact below3 w _ _ _
  have Hg1 : Hid (W0.heap[w.heap.size]? = some (.cells #[.int .i64 V1.s, .bool V1.i, .slice a1 V1.n c1, .int .i64 V1.l, .float .f64 V1.x] 27)) := by
    show W0.heap[w.heap.size]? = _
    rw [hW0]; exact heap_at3_0 w _ _ _
  have Hg2 : Hid (W0.heap[w.heap.size + 1]? = some (.cells #[.int .i64 V2.s, .bool V2.i, .slice a2 V2.n c2, .int .i64 V2.l, .float .f64 V2.x] 27)) := by
    show W0.heap[w.heap.size + 1]? = _
    rw [hW0]; exact heap_at3_1 w _ _ _
  have Hg3 : Hid (W0.heap[w.heap.size + 1 + 1]? = some (.cells #[.int .i64 V1.s, .bool V1.i, .slice a1 V1.n c1, .int .i64 V1.l, .float .f64 V1.x, .int .i64 V2.s, .bool V2.i, .slice a2 V2.n c2, .int .i64 V2.l, .float .f64 V2.x] 27)) := by
    show W0.heap[w.heap.size + 1 + 1]? = _
    rw [hW0]; exact heap_at3_2 w _ _ _
  have H1 : Hid (VIn W0 (.agg #[.int .i64 V1.s, .bool V1.i, .slice a1 V1.n c1, .int .i64 V1.l, .float .f64 V1.x]) V1) := H1'.below HB0.out
  have H2 : Hid (VIn W0 (.agg #[.int .i64 V2.s, .bool V2.i, .slice a2 V2.n c2, .int .i64 V2.l, .float .f64 V2.x]) V2) := H2'.below HB0.out
  have HW : Below W0.heap.size W0 W0 := below_refl W0
  clear hr1 hL1 hn1 hx1 hl1 hs1 H1' hr2 hL2 hn2 hx2 hl2 hs2 H2'
  obtain ⟨p10, p11, p12, p13, p14⟩ := box5 Hg1.out HW
  obtain ⟨p20, p21, p22, p23, p24⟩ := box5 Hg2.out HW
  have cS : Calls Tryd.prog 6 #[.slice (some ⟨w.heap.size + 1 + 1, 0, none⟩) 2 2] W0 fun e w' => e = .returned (.bool true) ∧ w' = W0 := by
    refine vsmall_any (w.heap.size + 1 + 1) 2 (fun j => if j = 0 then a1 else a2) (fun j => if j = 0 then V1.n else V2.n) (fun j => if j = 0 then c1 else c2) W0 (by decide) (by decide) true (fun j hj => ?_) (fun h => ?_) (fun j hj h => ?_)
    · rw [cell_of_row W0 _ _ _ _ _ Hg3.out]
      match j, hj with
      | 0, _ => rfl
      | 1, _ => rfl
    · rfl
    · exfalso
      revert h
      have := SM.out
      match j, hj with
      | 0, _ => exact fun h => absurd h (by show ¬ 60 < V1.n; omega)
      | 1, _ => exact fun h => absurd h (by show ¬ 60 < V2.n; omega)
  have I1 := H1
  have G1 := Hg1
  have I2 := H2
  have G2 := Hg2
  have HB := HB0
  clear HW H1 Hg1 p10 p11 p12 p13 p14 H2 Hg2 p20 p21 p22 p23 p24 HB0 SM
  go_enter Tryd.func5, Tryd.ntmps5
  go_wp2_with (go_at_call 6; fail)
  rw [← hW0]
  refine cS.mono ?_
  rintro e w' ⟨rfl, hw⟩
  replace hw := hw.symm
  subst hw
  clear cS hW0 Hg3
  obtain ⟨p10, p11, p12, p13, p14⟩ := box5 G1.out (below_refl _)
  have l1 := blk_lt G1.out
  obtain ⟨p20, p21, p22, p23, p24⟩ := box5 G2.out (below_refl _)
  have l2 := blk_lt G2.out
  go_wp2_with (go_at_call 12; fail)
  refine (plus_err _ _ _ V1 V2 (by exact I1.out) (by exact I2.out) 16 ER.out (by decide)).mono ?_
  rintro e w1 ⟨rfl, b⟩
  replace G1 : Hid (w1.heap[w.heap.size]? = _) := blk_below G1.out b
  replace I1 : Hid (VIn w1 _ _) := I1.out.below b
  replace G2 : Hid (w1.heap[w.heap.size + 1]? = _) := blk_below G2.out b
  replace I2 : Hid (VIn w1 _ _) := I2.out.below b
  replace HB : Hid (Below _ _ w1) := below_step HB.out b
  clear b
  unfold noV
  clear p10 p11 p12 p13 p14 l1 p20 p21 p22 p23 p24 l2
  obtain ⟨p10, p11, p12, p13, p14⟩ := box5 G1.out (below_refl _)
  have l1 := blk_lt G1.out
  obtain ⟨p20, p21, p22, p23, p24⟩ := box5 G2.out (below_refl _)
  have l2 := blk_lt G2.out
  go_wp2_with (go_at_call 11; fail)
  obtain ⟨W1, hW⟩ : ∃ W1, W1 = w1.alloc (.cells #[.int .i64 0, .bool false, .slice none 0 0, .int .i64 0, .float .f64 0] 27) := ⟨_, rfl⟩
  rw [← hW]
  have hb : Below w1.heap.size w1 W1 := by rw [hW]; exact below1 _ _
  replace G1 : Hid (W1.heap[w.heap.size]? = _) := blk_below G1.out hb
  replace I1 : Hid (VIn W1 _ _) := I1.out.below hb
  replace G2 : Hid (W1.heap[w.heap.size + 1]? = _) := blk_below G2.out hb
  replace I2 : Hid (VIn W1 _ _) := I2.out.below hb
  replace HB : Hid (Below _ _ W1) := below_step HB.out hb
  have GR1 : Hid (W1.heap[w1.heap.size]? = some (.cells #[.int .i64 0, .bool false, .slice none 0 0, .int .i64 0, .float .f64 0] 27)) := by show W1.heap[w1.heap.size]? = _; rw [hW]; exact heap_alloc_new _ _
  clear hb hW
  refine (times_err _ _ _ V1 V2 (by exact I1.out) (by exact I2.out) 16 ER.out (by decide)).mono ?_
  rintro e w2 ⟨rfl, b⟩
  replace G1 : Hid (w2.heap[w.heap.size]? = _) := blk_below G1.out b
  replace I1 : Hid (VIn w2 _ _) := I1.out.below b
  replace G2 : Hid (w2.heap[w.heap.size + 1]? = _) := blk_below G2.out b
  replace I2 : Hid (VIn w2 _ _) := I2.out.below b
  replace GR1 : Hid (w2.heap[w1.heap.size]? = _) := blk_below GR1.out b
  replace HB : Hid (Below _ _ w2) := below_step HB.out b
  clear b
  unfold noV
  clear p10 p11 p12 p13 p14 l1 p20 p21 p22 p23 p24 l2
  obtain ⟨p10, p11, p12, p13, p14⟩ := box5 G1.out (below_refl _)
  have l1 := blk_lt G1.out
  obtain ⟨p20, p21, p22, p23, p24⟩ := box5 G2.out (below_refl _)
  have l2 := blk_lt G2.out
  obtain ⟨pR10, pR11, pR12, pR13, pR14⟩ := box5 GR1.out (below_refl _)
  have lR1 := blk_lt GR1.out
  go_wp2_with (go_at_call 14; fail)
  obtain ⟨W2, hW⟩ : ∃ W2, W2 = w2.alloc (.cells #[.int .i64 0, .bool false, .slice none 0 0, .int .i64 0, .float .f64 0] 27) := ⟨_, rfl⟩
  rw [← hW]
  have hb : Below w2.heap.size w2 W2 := by rw [hW]; exact below1 _ _
  replace G1 : Hid (W2.heap[w.heap.size]? = _) := blk_below G1.out hb
  replace I1 : Hid (VIn W2 _ _) := I1.out.below hb
  replace G2 : Hid (W2.heap[w.heap.size + 1]? = _) := blk_below G2.out hb
  replace I2 : Hid (VIn W2 _ _) := I2.out.below hb
  replace GR1 : Hid (W2.heap[w1.heap.size]? = _) := blk_below GR1.out hb
  replace HB : Hid (Below _ _ W2) := below_step HB.out hb
  have GR2 : Hid (W2.heap[w2.heap.size]? = some (.cells #[.int .i64 0, .bool false, .slice none 0 0, .int .i64 0, .float .f64 0] 27)) := by show W2.heap[w2.heap.size]? = _; rw [hW]; exact heap_alloc_new _ _
  clear hb hW
  refine (better_err _ _ _ V1 V2 (by exact I1.out) (by exact I2.out) 16 ER.out (by decide)).mono ?_
  rintro e w3 ⟨rfl, b⟩
  replace G1 : Hid (w3.heap[w.heap.size]? = _) := blk_below G1.out b
  replace I1 : Hid (VIn w3 _ _) := I1.out.below b
  replace G2 : Hid (w3.heap[w.heap.size + 1]? = _) := blk_below G2.out b
  replace I2 : Hid (VIn w3 _ _) := I2.out.below b
  replace GR1 : Hid (w3.heap[w1.heap.size]? = _) := blk_below GR1.out b
  replace GR2 : Hid (w3.heap[w2.heap.size]? = _) := blk_below GR2.out b
  replace HB : Hid (Below _ _ w3) := below_step HB.out b
  clear b
  clear p10 p11 p12 p13 p14 l1 p20 p21 p22 p23 p24 l2 pR10 pR11 pR12 pR13 pR14 lR1
  obtain ⟨p10, p11, p12, p13, p14⟩ := box5 G1.out (below_refl _)
  have l1 := blk_lt G1.out
  obtain ⟨p20, p21, p22, p23, p24⟩ := box5 G2.out (below_refl _)
  have l2 := blk_lt G2.out
  obtain ⟨pR10, pR11, pR12, pR13, pR14⟩ := box5 GR1.out (below_refl _)
  have lR1 := blk_lt GR1.out
  obtain ⟨pR20, pR21, pR22, pR23, pR24⟩ := box5 GR2.out (below_refl _)
  have lR2 := blk_lt GR2.out
  go_wp2_with (go_at_call 15; fail)
  refine (vmay_at _ _ V1 0 (by exact I1.out) M1.out).mono ?_
  rintro e w4 ⟨rfl, b⟩
  replace G1 : Hid (w4.heap[w.heap.size]? = _) := blk_below G1.out b
  replace I1 : Hid (VIn w4 _ _) := I1.out.below b
  replace G2 : Hid (w4.heap[w.heap.size + 1]? = _) := blk_below G2.out b
  replace I2 : Hid (VIn w4 _ _) := I2.out.below b
  replace GR1 : Hid (w4.heap[w1.heap.size]? = _) := blk_below GR1.out b
  replace GR2 : Hid (w4.heap[w2.heap.size]? = _) := blk_below GR2.out b
  replace HB : Hid (Below _ _ w4) := below_step HB.out b
  clear b
  clear p10 p11 p12 p13 p14 l1 p20 p21 p22 p23 p24 l2 pR10 pR11 pR12 pR13 pR14 lR1 pR20 pR21 pR22 pR23 pR24 lR2
  obtain ⟨p10, p11, p12, p13, p14⟩ := box5 G1.out (below_refl _)
  have l1 := blk_lt G1.out
  obtain ⟨p20, p21, p22, p23, p24⟩ := box5 G2.out (below_refl _)
  have l2 := blk_lt G2.out
  obtain ⟨pR10, pR11, pR12, pR13, pR14⟩ := box5 GR1.out (below_refl _)
  have lR1 := blk_lt GR1.out
  obtain ⟨pR20, pR21, pR22, pR23, pR24⟩ := box5 GR2.out (below_refl _)
  have lR2 := blk_lt GR2.out
  go_wp2_with (go_at_call 15; fail)
  refine (vmay_at _ _ V2 16 (by exact I2.out) M2.out).mono ?_
  rintro e w5 ⟨rfl, b⟩
  replace G1 : Hid (w5.heap[w.heap.size]? = _) := blk_below G1.out b
  replace I1 : Hid (VIn w5 _ _) := I1.out.below b
  replace G2 : Hid (w5.heap[w.heap.size + 1]? = _) := blk_below G2.out b
  replace I2 : Hid (VIn w5 _ _) := I2.out.below b
  replace GR1 : Hid (w5.heap[w1.heap.size]? = _) := blk_below GR1.out b
  replace GR2 : Hid (w5.heap[w2.heap.size]? = _) := blk_below GR2.out b
  replace HB : Hid (Below _ _ w5) := below_step HB.out b
  clear b
  clear p10 p11 p12 p13 p14 l1 p20 p21 p22 p23 p24 l2 pR10 pR11 pR12 pR13 pR14 lR1 pR20 pR21 pR22 pR23 pR24 lR2
  obtain ⟨p10, p11, p12, p13, p14⟩ := box5 G1.out (below_refl _)
  have l1 := blk_lt G1.out
  obtain ⟨p20, p21, p22, p23, p24⟩ := box5 G2.out (below_refl _)
  have l2 := blk_lt G2.out
  obtain ⟨pR10, pR11, pR12, pR13, pR14⟩ := box5 GR1.out (below_refl _)
  have lR1 := blk_lt GR1.out
  obtain ⟨pR20, pR21, pR22, pR23, pR24⟩ := box5 GR2.out (below_refl _)
  have lR2 := blk_lt GR2.out
  have HW : Below w5.heap.size w5 w5 := below_refl _
  clear l1 l2 lR1 lR2
  go_upto_region 10 with fail
  refine wp_region_held_drew (S := (fun w' => w'.cell? ⟨w.heap.size, 0, none⟩ = some (.int .i64 V1.s) ∧ w'.cell? ⟨w.heap.size, 1, none⟩ = some (.bool V1.i) ∧ w'.cell? ⟨w.heap.size, 2, none⟩ = some (.slice a1 V1.n c1) ∧ w'.cell? ⟨w.heap.size, 3, none⟩ = some (.int .i64 V1.l) ∧ w'.cell? ⟨w.heap.size, 4, none⟩ = some (.float .f64 V1.x) ∧ w'.cell? ⟨w.heap.size + 1, 0, none⟩ = some (.int .i64 V2.s) ∧ w'.cell? ⟨w.heap.size + 1, 1, none⟩ = some (.bool V2.i) ∧ w'.cell? ⟨w.heap.size + 1, 2, none⟩ = some (.slice a2 V2.n c2) ∧ w'.cell? ⟨w.heap.size + 1, 3, none⟩ = some (.int .i64 V2.l) ∧ w'.cell? ⟨w.heap.size + 1, 4, none⟩ = some (.float .f64 V2.x) ∧ w'.cell? ⟨w1.heap.size, 0, none⟩ = some (.int .i64 0) ∧ w'.cell? ⟨w1.heap.size, 1, none⟩ = some (.bool false) ∧ w'.cell? ⟨w1.heap.size, 2, none⟩ = some (.slice none 0 0) ∧ w'.cell? ⟨w1.heap.size, 3, none⟩ = some (.int .i64 0) ∧ w'.cell? ⟨w1.heap.size, 4, none⟩ = some (.float .f64 0) ∧ w'.cell? ⟨w2.heap.size, 0, none⟩ = some (.int .i64 0) ∧ w'.cell? ⟨w2.heap.size, 1, none⟩ = some (.bool false) ∧ w'.cell? ⟨w2.heap.size, 2, none⟩ = some (.slice none 0 0) ∧ w'.cell? ⟨w2.heap.size, 3, none⟩ = some (.int .i64 0) ∧ w'.cell? ⟨w2.heap.size, 4, none⟩ = some (.float .f64 0))) (by kernel_rfl) ?_ (fun hHeld => ?_)
  · (try dsimp only); first | exact ⟨p10, p11, p12, p13, p14, p20, p21, p22, p23, p24, pR10, pR11, pR12, pR13, pR14, pR20, pR21, pR22, pR23, pR24⟩ | go_keep
  refine wpAnyH_take (i := 0) (oi := { dst := some 90, op := Op.load 27 (Operand.tmp 5), type := 27, pos := "law.go:166", after := #[], guard := none }) (v := ?vu78) rfl (by kernel_rfl) (by kernel_rfl) (by kernel_rfl) (fun _ _ _ h => h) (Or.inl ⟨by rfl, ?hyu78⟩) (by assumption) ?restu78
  case hyu78 => (intro w hSw; (try dsimp only at hSw); go_simp; (try with_reducible rfl))
  try simp only [Act.put, List.setIfInBounds_toArray, List.set_cons_zero, List.set_cons_succ]
  refine wpAnyH_take (i := 1) (oi := { dst := some 91, op := Op.build 27 #[], type := 27, pos := "law.go:166", after := #[], guard := none }) (v := ?vu79) rfl (by kernel_rfl) (by kernel_rfl) (by kernel_rfl) (fun _ _ _ h => h) (Or.inl ⟨by rfl, ?hyu79⟩) (by assumption) ?restu79
  case hyu79 => (intro w hSw; (try dsimp only at hSw); go_simp; (try with_reducible rfl))
  try simp only [Act.put, List.setIfInBounds_toArray, List.set_cons_zero, List.set_cons_succ]
  refine wpAnyH_ready (rs := [2]) (by kernel_rfl) (by simp) ?_
  refine AllReadyH.cons (o := { dst := some 92, op := Op.call { callee := Callee.value (Operand.func 16), args := #[Operand.tmp 90, Operand.tmp 91], argTypes := #[27, 27] }, type := 4, pos := "law.go:166", after := #[{ on := 0, ground := Ground.data }, { on := 1, ground := Ground.data }], guard := none }) rfl (fun K hK => ?_) AllReadyH.nil
  go_simp
  go_at_call 16
  refine (fields_no _).mono ?_
  rintro e z0 ⟨rfl, b⟩
  replace HW := below_step (by first | exact HW | exact HW.drew) b
  clear b
  clear p10 p11 p12 p13 p14 p20 p21 p22 p23 p24 pR10 pR11 pR12 pR13 pR14 pR20 pR21 pR22 pR23 pR24
  obtain ⟨p10, p11, p12, p13, p14⟩ := box5 G1.out HW
  obtain ⟨p20, p21, p22, p23, p24⟩ := box5 G2.out HW
  obtain ⟨pR10, pR11, pR12, pR13, pR14⟩ := box5 GR1.out HW
  obtain ⟨pR20, pR21, pR22, pR23, pR24⟩ := box5 GR2.out HW
  refine hK.out _ _ ?_ (fun hHeldB => ?_)
  · (try dsimp only); first | exact ⟨p10, p11, p12, p13, p14, p20, p21, p22, p23, p24, pR10, pR11, pR12, pR13, pR14, pR20, pR21, pR22, pR23, pR24⟩ | go_keep
  clear hK K hHeld
  have hHeld := hHeldB
  clear hHeldB
  try simp only [Act.put, List.setIfInBounds_toArray, List.set_cons_zero, List.set_cons_succ]
  refine wpAnyH_take (i := 3) (oi := { dst := some 93, op := Op.move (Operand.tmp 92), type := 4, pos := "law.go:166", after := #[{ on := 2, ground := Ground.data }, { on := 2, ground := Ground.chain }], guard := none }) (v := ?vu80) rfl (by kernel_rfl) (by kernel_rfl) (by kernel_rfl) (fun _ _ _ h => h) (Or.inl ⟨by rfl, ?hyu80⟩) (by assumption) ?restu80
  case hyu80 => (intro w hSw; (try dsimp only at hSw); go_simp; (try with_reducible rfl))
  try simp only [Act.put, List.setIfInBounds_toArray, List.set_cons_zero, List.set_cons_succ]
  refine wpAnyH_take (i := 4) (oi := { dst := some 94, op := Op.load 27 (Operand.tmp 7), type := 27, pos := "law.go:166", after := #[{ on := 3, ground := Ground.guard }], guard := some (3, true) }) (v := ?vu81) rfl (by kernel_rfl) (by kernel_rfl) (by kernel_rfl) (fun _ _ _ h => h) (Or.inl ⟨by rfl, ?hyu81⟩) (by assumption) ?restu81
  case hyu81 => (intro w hSw; (try dsimp only at hSw); go_simp; (try with_reducible rfl))
  try simp only [Act.put, List.setIfInBounds_toArray, List.set_cons_zero, List.set_cons_succ]
  refine wpAnyH_take (i := 5) (oi := { dst := some 95, op := Op.build 27 #[], type := 27, pos := "law.go:166", after := #[{ on := 3, ground := Ground.guard }], guard := some (3, true) }) (v := ?vu82) rfl (by kernel_rfl) (by kernel_rfl) (by kernel_rfl) (fun _ _ _ h => h) (Or.inl ⟨by rfl, ?hyu82⟩) (by assumption) ?restu82
  case hyu82 => (intro w hSw; (try dsimp only at hSw); go_simp; (try with_reducible rfl))
  try simp only [Act.put, List.setIfInBounds_toArray, List.set_cons_zero, List.set_cons_succ]
  refine wpAnyH_ready (rs := [6]) (by kernel_rfl) (by simp) ?_
  refine AllReadyH.cons (o := { dst := some 96, op := Op.call { callee := Callee.value (Operand.func 16), args := #[Operand.tmp 94, Operand.tmp 95], argTypes := #[27, 27] }, type := 4, pos := "law.go:166", after := #[{ on := 4, ground := Ground.data }, { on := 5, ground := Ground.data }, { on := 3, ground := Ground.chain }, { on := 3, ground := Ground.guard }], guard := some (3, true) }) rfl (fun K hK => ?_) AllReadyH.nil
  go_simp
  go_at_call 16
  refine (fields_no _).mono ?_
  rintro e z1 ⟨rfl, b⟩
  replace HW := below_step (by first | exact HW | exact HW.drew) b
  clear b
  clear p10 p11 p12 p13 p14 p20 p21 p22 p23 p24 pR10 pR11 pR12 pR13 pR14 pR20 pR21 pR22 pR23 pR24
  obtain ⟨p10, p11, p12, p13, p14⟩ := box5 G1.out HW
  obtain ⟨p20, p21, p22, p23, p24⟩ := box5 G2.out HW
  obtain ⟨pR10, pR11, pR12, pR13, pR14⟩ := box5 GR1.out HW
  obtain ⟨pR20, pR21, pR22, pR23, pR24⟩ := box5 GR2.out HW
  refine hK.out _ _ ?_ (fun hHeldB => ?_)
  · (try dsimp only); first | exact ⟨p10, p11, p12, p13, p14, p20, p21, p22, p23, p24, pR10, pR11, pR12, pR13, pR14, pR20, pR21, pR22, pR23, pR24⟩ | go_keep
  clear hK K hHeld
  have hHeld := hHeldB
  clear hHeldB
  try simp only [Act.put, List.setIfInBounds_toArray, List.set_cons_zero, List.set_cons_succ]
  refine wpAnyH_take (i := 7) (oi := { dst := some 97, op := Op.pick (Operand.tmp 93) (Operand.tmp 96) (Operand.const (Value.bool false)), type := 4, pos := "law.go:166", after := #[{ on := 3, ground := Ground.data }, { on := 6, ground := Ground.data }], guard := none }) (v := ?vu83) rfl (by kernel_rfl) (by kernel_rfl) (by kernel_rfl) (fun _ _ _ h => h) (Or.inl ⟨by rfl, ?hyu83⟩) (by assumption) ?restu83
  case hyu83 => (intro w hSw; (try dsimp only at hSw); go_simp; (try with_reducible rfl))
  try simp only [Act.put, List.setIfInBounds_toArray, List.set_cons_zero, List.set_cons_succ]
  refine wpAnyH_take (i := 8) (oi := { dst := some 98, op := Op.move (Operand.tmp 97), type := 4, pos := "law.go:166", after := #[{ on := 7, ground := Ground.data }, { on := 6, ground := Ground.chain }], guard := none }) (v := ?vu84) rfl (by kernel_rfl) (by kernel_rfl) (by kernel_rfl) (fun _ _ _ h => h) (Or.inl ⟨by rfl, ?hyu84⟩) (by assumption) ?restu84
  case hyu84 => (intro w hSw; (try dsimp only at hSw); go_simp; (try with_reducible rfl))
  try simp only [Act.put, List.setIfInBounds_toArray, List.set_cons_zero, List.set_cons_succ]
  refine wpAnyH_take (i := 9) (oi := { dst := some 99, op := Op.move (Operand.tmp 9), type := 4, pos := "law.go:166", after := #[{ on := 8, ground := Ground.guard }], guard := some (8, true) }) (v := ?vu85) rfl (by kernel_rfl) (by kernel_rfl) (by kernel_rfl) (fun _ _ _ h => h) (Or.inl ⟨by rfl, ?hyu85⟩) (by assumption) ?restu85
  case hyu85 => (intro w hSw; (try dsimp only at hSw); go_simp; (try with_reducible rfl))
  try simp only [Act.put, List.setIfInBounds_toArray, List.set_cons_zero, List.set_cons_succ]
  refine wpAnyH_take (i := 10) (oi := { dst := some 100, op := Op.unOp UnOp.not 4 (Operand.tmp 99), type := 4, pos := "law.go:166", after := #[{ on := 9, ground := Ground.data }, { on := 8, ground := Ground.guard }], guard := some (8, true) }) (v := ?vu86) rfl (by kernel_rfl) (by kernel_rfl) (by kernel_rfl) (fun _ _ _ h => h) (Or.inl ⟨by rfl, ?hyu86⟩) (by assumption) ?restu86
  case hyu86 => (intro w hSw; (try dsimp only at hSw); go_simp; (try with_reducible rfl))
  try simp only [Act.put, List.setIfInBounds_toArray, List.set_cons_zero, List.set_cons_succ]
  refine wpAnyH_take (i := 11) (oi := { dst := some 101, op := Op.pick (Operand.tmp 98) (Operand.tmp 100) (Operand.const (Value.bool false)), type := 4, pos := "law.go:166", after := #[{ on := 8, ground := Ground.data }, { on := 10, ground := Ground.data }], guard := none }) (v := ?vu87) rfl (by kernel_rfl) (by kernel_rfl) (by kernel_rfl) (fun _ _ _ h => h) (Or.inl ⟨by rfl, ?hyu87⟩) (by assumption) ?restu87
  case hyu87 => (intro w hSw; (try dsimp only at hSw); go_simp; (try with_reducible rfl))
  try simp only [Act.put, List.setIfInBounds_toArray, List.set_cons_zero, List.set_cons_succ]
  refine wpAnyH_take (i := 12) (oi := { dst := some 102, op := Op.move (Operand.tmp 101), type := 4, pos := "law.go:166", after := #[{ on := 11, ground := Ground.data }, { on := 8, ground := Ground.chain }], guard := none }) (v := ?vu88) rfl (by kernel_rfl) (by kernel_rfl) (by kernel_rfl) (fun _ _ _ h => h) (Or.inl ⟨by rfl, ?hyu88⟩) (by assumption) ?restu88
  case hyu88 => (intro w hSw; (try dsimp only at hSw); go_simp; (try with_reducible rfl))
  try simp only [Act.put, List.setIfInBounds_toArray, List.set_cons_zero, List.set_cons_succ]
  refine wpAnyH_take (i := 13) (oi := { dst := some 103, op := Op.load 27 (Operand.tmp 2), type := 27, pos := "law.go:166", after := #[{ on := 12, ground := Ground.guard }], guard := some (12, true) }) (v := ?vu89) rfl (by kernel_rfl) (by kernel_rfl) (by kernel_rfl) (fun _ _ _ h => h) (Or.inl ⟨by rfl, ?hyu89⟩) (by assumption) ?restu89
  case hyu89 => (intro w hSw; (try dsimp only at hSw); go_simp; (try with_reducible rfl))
  try simp only [Act.put, List.setIfInBounds_toArray, List.set_cons_zero, List.set_cons_succ]
  refine wpAnyH_take (i := 14) (oi := { dst := some 104, op := Op.load 27 (Operand.tmp 3), type := 27, pos := "law.go:166", after := #[{ on := 12, ground := Ground.guard }], guard := some (12, true) }) (v := ?vu90) rfl (by kernel_rfl) (by kernel_rfl) (by kernel_rfl) (fun _ _ _ h => h) (Or.inl ⟨by rfl, ?hyu90⟩) (by assumption) ?restu90
  case hyu90 => (intro w hSw; (try dsimp only at hSw); go_simp; (try with_reducible rfl))
  try simp only [Act.put, List.setIfInBounds_toArray, List.set_cons_zero, List.set_cons_succ]
  refine wpAnyH_take (i := 17) (oi := { dst := some 107, op := Op.load 27 (Operand.tmp 2), type := 27, pos := "law.go:166", after := #[{ on := 12, ground := Ground.guard }], guard := some (12, true) }) (v := ?vu91) rfl (by kernel_rfl) (by kernel_rfl) (by kernel_rfl) (fun _ _ _ h => h) (Or.inl ⟨by rfl, ?hyu91⟩) (by assumption) ?restu91
  case hyu91 => (intro w hSw; (try dsimp only at hSw); go_simp; (try with_reducible rfl))
  try simp only [Act.put, List.setIfInBounds_toArray, List.set_cons_zero, List.set_cons_succ]
  refine wpAnyH_ready (rs := [15]) (by kernel_rfl) (by simp) ?_
  refine AllReadyH.cons (o := { dst := some 105, op := Op.call { callee := Callee.value (Operand.func 13), args := #[Operand.tmp 103, Operand.tmp 104], argTypes := #[27, 27] }, type := 4, pos := "law.go:166", after := #[{ on := 13, ground := Ground.data }, { on := 14, ground := Ground.data }, { on := 12, ground := Ground.chain }, { on := 12, ground := Ground.guard }], guard := some (12, true) }) rfl (fun K hK => ?_) AllReadyH.nil
  go_simp
  go_at_call 13
  refine (vsame_no _ _ _ V1 V2 (by exact I1.out.below (by first | exact HW | exact HW.drew)) (by exact I2.out.below (by first | exact HW | exact HW.drew)) EN.out).mono ?_
  rintro e z2 ⟨rfl, b⟩
  replace HW := below_step (by first | exact HW | exact HW.drew) b
  clear b
  clear p10 p11 p12 p13 p14 p20 p21 p22 p23 p24 pR10 pR11 pR12 pR13 pR14 pR20 pR21 pR22 pR23 pR24
  obtain ⟨p10, p11, p12, p13, p14⟩ := box5 G1.out HW
  obtain ⟨p20, p21, p22, p23, p24⟩ := box5 G2.out HW
  obtain ⟨pR10, pR11, pR12, pR13, pR14⟩ := box5 GR1.out HW
  obtain ⟨pR20, pR21, pR22, pR23, pR24⟩ := box5 GR2.out HW
  refine hK.out _ _ ?_ (fun hHeldB => ?_)
  · (try dsimp only); first | exact ⟨p10, p11, p12, p13, p14, p20, p21, p22, p23, p24, pR10, pR11, pR12, pR13, pR14, pR20, pR21, pR22, pR23, pR24⟩ | go_keep
  clear hK K hHeld
  have hHeld := hHeldB
  clear hHeldB
  try simp only [Act.put, List.setIfInBounds_toArray, List.set_cons_zero, List.set_cons_succ]
  refine wpAnyH_take (i := 16) (oi := { dst := some 106, op := Op.unOp UnOp.not 4 (Operand.tmp 105), type := 4, pos := "law.go:166", after := #[{ on := 15, ground := Ground.data }, { on := 12, ground := Ground.guard }], guard := some (12, true) }) (v := ?vu92) rfl (by kernel_rfl) (by kernel_rfl) (by kernel_rfl) (fun _ _ _ h => h) (Or.inl ⟨by rfl, ?hyu92⟩) (by assumption) ?restu92
  case hyu92 => (intro w hSw; (try dsimp only at hSw); go_simp; (try with_reducible rfl))
  try simp only [Act.put, List.setIfInBounds_toArray, List.set_cons_zero, List.set_cons_succ]
  refine wpAnyH_ready (rs := [18]) (by kernel_rfl) (by simp) ?_
  refine AllReadyH.cons (o := { dst := some 108, op := Op.call { callee := Callee.value (Operand.func 9), args := #[Operand.tmp 107], argTypes := #[27] }, type := 3, pos := "law.go:166", after := #[{ on := 17, ground := Ground.data }, { on := 15, ground := Ground.chain }, { on := 12, ground := Ground.guard }], guard := some (12, true) }) rfl (fun K hK => ?_) AllReadyH.nil
  go_simp
  go_at_call 9
  refine (rmv_at _ _ V1 0 (by exact I1.out.below (by first | exact HW | exact HW.drew)) M1.out).mono ?_
  rintro e z3 ⟨rfl, b⟩
  replace HW := below_step (by first | exact HW | exact HW.drew) b
  clear b
  clear p10 p11 p12 p13 p14 p20 p21 p22 p23 p24 pR10 pR11 pR12 pR13 pR14 pR20 pR21 pR22 pR23 pR24
  obtain ⟨p10, p11, p12, p13, p14⟩ := box5 G1.out HW
  obtain ⟨p20, p21, p22, p23, p24⟩ := box5 G2.out HW
  obtain ⟨pR10, pR11, pR12, pR13, pR14⟩ := box5 GR1.out HW
  obtain ⟨pR20, pR21, pR22, pR23, pR24⟩ := box5 GR2.out HW
  refine hK.out _ _ ?_ (fun hHeldB => ?_)
  · (try dsimp only); first | exact ⟨p10, p11, p12, p13, p14, p20, p21, p22, p23, p24, pR10, pR11, pR12, pR13, pR14, pR20, pR21, pR22, pR23, pR24⟩ | go_keep
  clear hK K hHeld
  have hHeld := hHeldB
  clear hHeldB
  try simp only [Act.put, List.setIfInBounds_toArray, List.set_cons_zero, List.set_cons_succ]
  refine wpAnyH_take (i := 19) (oi := { dst := some 109, op := Op.binOp BinOp.neq 3 (Operand.tmp 108) (Operand.const (Value.int IntKind.i64 0)) 3, type := 4, pos := "law.go:166", after := #[{ on := 18, ground := Ground.data }, { on := 12, ground := Ground.guard }], guard := some (12, true) }) (v := ?vu93) rfl (by kernel_rfl) (by kernel_rfl) (by kernel_rfl) (fun _ _ _ h => h) (Or.inl ⟨by rfl, ?hyu93⟩) (by assumption) ?restu93
  case hyu93 => (intro w hSw; (try dsimp only at hSw); go_simp; (try with_reducible rfl))
  try simp only [Act.put, List.setIfInBounds_toArray, List.set_cons_zero, List.set_cons_succ]
  refine wpAnyH_take (i := 20) (oi := { dst := some 110, op := Op.move (Operand.tmp 109), type := 4, pos := "law.go:166", after := #[{ on := 19, ground := Ground.data }, { on := 18, ground := Ground.chain }, { on := 12, ground := Ground.guard }], guard := some (12, true) }) (v := ?vu94) rfl (by kernel_rfl) (by kernel_rfl) (by kernel_rfl) (fun _ _ _ h => h) (Or.inl ⟨by rfl, ?hyu94⟩) (by assumption) ?restu94
  case hyu94 => (intro w hSw; (try dsimp only at hSw); go_simp; (try with_reducible rfl))
  try simp only [Act.put, List.setIfInBounds_toArray, List.set_cons_zero, List.set_cons_succ]
  refine wpAnyH_take (i := 21) (oi := { dst := some 111, op := Op.load 27 (Operand.tmp 3), type := 27, pos := "law.go:166", after := #[{ on := 20, ground := Ground.guard }], guard := some (20, false) }) (v := ?vu95) rfl (by kernel_rfl) (by kernel_rfl) (by kernel_rfl) (fun _ _ _ h => h) (Or.inl ⟨by rfl, ?hyu95⟩) (by assumption) ?restu95
  case hyu95 => (intro w hSw; (try dsimp only at hSw); go_simp; (try with_reducible rfl))
  try simp only [Act.put, List.setIfInBounds_toArray, List.set_cons_zero, List.set_cons_succ]
  refine wpAnyH_ready (rs := [22]) (by kernel_rfl) (by simp) ?_
  refine AllReadyH.cons (o := { dst := some 112, op := Op.call { callee := Callee.value (Operand.func 9), args := #[Operand.tmp 111], argTypes := #[27] }, type := 3, pos := "law.go:166", after := #[{ on := 21, ground := Ground.data }, { on := 20, ground := Ground.chain }, { on := 20, ground := Ground.guard }], guard := some (20, false) }) rfl (fun K hK => ?_) AllReadyH.nil
  go_simp
  go_at_call 9
  refine (rmv_at _ _ V2 16 (by exact I2.out.below (by first | exact HW | exact HW.drew)) M2.out).mono ?_
  rintro e z4 ⟨rfl, b⟩
  replace HW := below_step (by first | exact HW | exact HW.drew) b
  clear b
  clear p10 p11 p12 p13 p14 p20 p21 p22 p23 p24 pR10 pR11 pR12 pR13 pR14 pR20 pR21 pR22 pR23 pR24
  obtain ⟨p10, p11, p12, p13, p14⟩ := box5 G1.out HW
  obtain ⟨p20, p21, p22, p23, p24⟩ := box5 G2.out HW
  obtain ⟨pR10, pR11, pR12, pR13, pR14⟩ := box5 GR1.out HW
  obtain ⟨pR20, pR21, pR22, pR23, pR24⟩ := box5 GR2.out HW
  refine hK.out _ _ ?_ (fun hHeldB => ?_)
  · (try dsimp only); first | exact ⟨p10, p11, p12, p13, p14, p20, p21, p22, p23, p24, pR10, pR11, pR12, pR13, pR14, pR20, pR21, pR22, pR23, pR24⟩ | go_keep
  clear hK K hHeld
  have hHeld := hHeldB
  clear hHeldB
  try simp only [Act.put, List.setIfInBounds_toArray, List.set_cons_zero, List.set_cons_succ]
  refine wpAnyH_take (i := 23) (oi := { dst := some 113, op := Op.binOp BinOp.neq 3 (Operand.tmp 112) (Operand.const (Value.int IntKind.i64 0)) 3, type := 4, pos := "law.go:166", after := #[{ on := 22, ground := Ground.data }, { on := 20, ground := Ground.guard }], guard := some (20, false) }) (v := ?vu96) rfl (by kernel_rfl) (by kernel_rfl) (by kernel_rfl) (fun _ _ _ h => h) (Or.inl ⟨by rfl, ?hyu96⟩) (by assumption) ?restu96
  case hyu96 => (intro w hSw; (try dsimp only at hSw); go_simp; (try with_reducible rfl))
  try simp only [Act.put, List.setIfInBounds_toArray, List.set_cons_zero, List.set_cons_succ]
  refine wpAnyH_take (i := 24) (oi := { dst := some 114, op := Op.pick (Operand.tmp 110) (Operand.const (Value.bool true)) (Operand.tmp 113), type := 4, pos := "law.go:166", after := #[{ on := 20, ground := Ground.data }, { on := 23, ground := Ground.data }, { on := 12, ground := Ground.guard }], guard := some (12, true) }) (v := ?vu97) rfl (by kernel_rfl) (by kernel_rfl) (by kernel_rfl) (fun _ _ _ h => h) (Or.inl ⟨by rfl, ?hyu97⟩) (by assumption) ?restu97
  case hyu97 => (intro w hSw; (try dsimp only at hSw); go_simp; (try with_reducible rfl))
  try simp only [Act.put, List.setIfInBounds_toArray, List.set_cons_zero, List.set_cons_succ]
  refine wpAnyH_take (i := 25) (oi := { dst := some 115, op := Op.move (Operand.tmp 114), type := 4, pos := "law.go:166", after := #[{ on := 24, ground := Ground.data }, { on := 22, ground := Ground.chain }, { on := 12, ground := Ground.guard }], guard := some (12, true) }) (v := ?vu98) rfl (by kernel_rfl) (by kernel_rfl) (by kernel_rfl) (fun _ _ _ h => h) (Or.inl ⟨by rfl, ?hyu98⟩) (by assumption) ?restu98
  case hyu98 => (intro w hSw; (try dsimp only at hSw); go_simp; (try with_reducible rfl))
  try simp only [Act.put, List.setIfInBounds_toArray, List.set_cons_zero, List.set_cons_succ]
  refine wpAnyH_take (i := 26) (oi := { dst := some 116, op := Op.fieldAddr 27 (Operand.tmp 2) 0, type := 0, pos := "law.go:166", after := #[{ on := 25, ground := Ground.guard }], guard := some (25, false) }) (v := undef) rfl (by kernel_rfl) (by kernel_rfl) (by kernel_rfl) (fun _ _ _ h => h) (Or.inr ⟨by rfl, rfl⟩) (by assumption) ?_
  try simp only [Act.put, List.setIfInBounds_toArray, List.set_cons_zero, List.set_cons_succ]
  refine wpAnyH_take (i := 27) (oi := { dst := some 117, op := Op.load 3 (Operand.tmp 116), type := 3, pos := "law.go:166", after := #[{ on := 26, ground := Ground.data }, { on := 25, ground := Ground.guard }], guard := some (25, false) }) (v := undef) rfl (by kernel_rfl) (by kernel_rfl) (by kernel_rfl) (fun _ _ _ h => h) (Or.inr ⟨by rfl, rfl⟩) (by assumption) ?_
  try simp only [Act.put, List.setIfInBounds_toArray, List.set_cons_zero, List.set_cons_succ]
  refine wpAnyH_take (i := 28) (oi := { dst := some 118, op := Op.fieldAddr 27 (Operand.tmp 3) 0, type := 0, pos := "law.go:166", after := #[{ on := 25, ground := Ground.guard }], guard := some (25, false) }) (v := undef) rfl (by kernel_rfl) (by kernel_rfl) (by kernel_rfl) (fun _ _ _ h => h) (Or.inr ⟨by rfl, rfl⟩) (by assumption) ?_
  try simp only [Act.put, List.setIfInBounds_toArray, List.set_cons_zero, List.set_cons_succ]
  refine wpAnyH_take (i := 29) (oi := { dst := some 119, op := Op.load 3 (Operand.tmp 118), type := 3, pos := "law.go:166", after := #[{ on := 28, ground := Ground.data }, { on := 25, ground := Ground.guard }], guard := some (25, false) }) (v := undef) rfl (by kernel_rfl) (by kernel_rfl) (by kernel_rfl) (fun _ _ _ h => h) (Or.inr ⟨by rfl, rfl⟩) (by assumption) ?_
  try simp only [Act.put, List.setIfInBounds_toArray, List.set_cons_zero, List.set_cons_succ]
  refine wpAnyH_take (i := 30) (oi := { dst := some 120, op := Op.binOp BinOp.neq 3 (Operand.tmp 117) (Operand.tmp 119) 3, type := 4, pos := "law.go:166", after := #[{ on := 27, ground := Ground.data }, { on := 29, ground := Ground.data }, { on := 25, ground := Ground.guard }], guard := some (25, false) }) (v := undef) rfl (by kernel_rfl) (by kernel_rfl) (by kernel_rfl) (fun _ _ _ h => h) (Or.inr ⟨by rfl, rfl⟩) (by assumption) ?_
  try simp only [Act.put, List.setIfInBounds_toArray, List.set_cons_zero, List.set_cons_succ]
  refine wpAnyH_take (i := 31) (oi := { dst := some 121, op := Op.pick (Operand.tmp 115) (Operand.const (Value.bool true)) (Operand.tmp 120), type := 4, pos := "law.go:166", after := #[{ on := 25, ground := Ground.data }, { on := 30, ground := Ground.data }, { on := 12, ground := Ground.guard }], guard := some (12, true) }) (v := ?vu99) rfl (by kernel_rfl) (by kernel_rfl) (by kernel_rfl) (fun _ _ _ h => h) (Or.inl ⟨by rfl, ?hyu99⟩) (by assumption) ?restu99
  case hyu99 => (intro w hSw; (try dsimp only at hSw); go_simp; (try with_reducible rfl))
  try simp only [Act.put, List.setIfInBounds_toArray, List.set_cons_zero, List.set_cons_succ]
  refine wpAnyH_take (i := 32) (oi := { dst := some 122, op := Op.binOp BinOp.eql 4 (Operand.tmp 106) (Operand.tmp 121) 4, type := 4, pos := "law.go:166", after := #[{ on := 16, ground := Ground.data }, { on := 31, ground := Ground.data }, { on := 12, ground := Ground.guard }], guard := some (12, true) }) (v := ?vu100) rfl (by kernel_rfl) (by kernel_rfl) (by kernel_rfl) (fun _ _ _ h => h) (Or.inl ⟨by rfl, ?hyu100⟩) (by assumption) ?restu100
  case hyu100 => (intro w hSw; (try dsimp only at hSw); go_simp; (try with_reducible rfl))
  try simp only [Act.put, List.setIfInBounds_toArray, List.set_cons_zero, List.set_cons_succ]
  refine wpAnyH_take (i := 33) (oi := { dst := some 123, op := Op.pick (Operand.tmp 102) (Operand.tmp 122) (Operand.const (Value.bool false)), type := 4, pos := "law.go:166", after := #[{ on := 12, ground := Ground.data }, { on := 32, ground := Ground.data }], guard := none }) (v := ?vu101) rfl (by kernel_rfl) (by kernel_rfl) (by kernel_rfl) (fun _ _ _ h => h) (Or.inl ⟨by rfl, ?hyu101⟩) (by assumption) ?restu101
  case hyu101 => (intro w hSw; (try dsimp only at hSw); go_simp; (try with_reducible rfl))
  try simp only [Act.put, List.setIfInBounds_toArray, List.set_cons_zero, List.set_cons_succ]
  refine wpAnyH_take (i := 34) (oi := { dst := some 124, op := Op.move (Operand.tmp 123), type := 4, pos := "law.go:166", after := #[{ on := 33, ground := Ground.data }, { on := 25, ground := Ground.chain }], guard := none }) (v := ?vu102) rfl (by kernel_rfl) (by kernel_rfl) (by kernel_rfl) (fun _ _ _ h => h) (Or.inl ⟨by rfl, ?hyu102⟩) (by assumption) ?restu102
  case hyu102 => (intro w hSw; (try dsimp only at hSw); go_simp; (try with_reducible rfl))
  try simp only [Act.put, List.setIfInBounds_toArray, List.set_cons_zero, List.set_cons_succ]
  refine wpAnyH_ready (rs := [35]) (by kernel_rfl) (by simp) ?_
  refine AllReadyH.cons (o := { dst := some 125, op := Op.call { callee := Callee.value (Operand.func 7), args := #[], argTypes := #[] }, type := 4, pos := "law.go:166", after := #[{ on := 34, ground := Ground.chain }, { on := 34, ground := Ground.guard }], guard := some (34, true) }) rfl (fun K hK => ?_) AllReadyH.nil
  go_simp
  go_at_call 7
  refine (vawake_any _ (by exact HEnv.out.below (below_step HB.out (by first | exact HW | exact HW.drew)))).mono ?_
  rintro e z5 ⟨rfl, b⟩
  replace HW := below_step (by first | exact HW | exact HW.drew) b
  clear b
  clear p10 p11 p12 p13 p14 p20 p21 p22 p23 p24 pR10 pR11 pR12 pR13 pR14 pR20 pR21 pR22 pR23 pR24
  obtain ⟨p10, p11, p12, p13, p14⟩ := box5 G1.out HW
  obtain ⟨p20, p21, p22, p23, p24⟩ := box5 G2.out HW
  obtain ⟨pR10, pR11, pR12, pR13, pR14⟩ := box5 GR1.out HW
  obtain ⟨pR20, pR21, pR22, pR23, pR24⟩ := box5 GR2.out HW
  refine hK.out _ _ ?_ (fun hHeldB => ?_)
  · (try dsimp only); first | exact ⟨p10, p11, p12, p13, p14, p20, p21, p22, p23, p24, pR10, pR11, pR12, pR13, pR14, pR20, pR21, pR22, pR23, pR24⟩ | go_keep
  clear hK K hHeld
  have hHeld := hHeldB
  clear hHeldB
  try simp only [Act.put, List.setIfInBounds_toArray, List.set_cons_zero, List.set_cons_succ]
  refine wpAnyH_take (i := 36) (oi := { dst := some 126, op := Op.pick (Operand.tmp 124) (Operand.tmp 125) (Operand.const (Value.bool false)), type := 4, pos := "law.go:166", after := #[{ on := 34, ground := Ground.data }, { on := 35, ground := Ground.data }], guard := none }) (v := ?vu103) rfl (by kernel_rfl) (by kernel_rfl) (by kernel_rfl) (fun _ _ _ h => h) (Or.inl ⟨by rfl, ?hyu103⟩) (by assumption) ?restu103
  case hyu103 => (intro w hSw; (try dsimp only at hSw); go_simp; (try with_reducible rfl))
  try simp only [Act.put, List.setIfInBounds_toArray, List.set_cons_zero, List.set_cons_succ]
  refine wpAnyH_take (i := 37) (oi := { dst := some 4, op := Op.assign (Operand.tmp 126), type := 4, pos := "law.go:166", after := #[{ on := 36, ground := Ground.data }, { on := 35, ground := Ground.chain }, { on := 0, ground := Ground.phase }, { on := 1, ground := Ground.phase }, { on := 2, ground := Ground.phase }, { on := 3, ground := Ground.phase }, { on := 4, ground := Ground.phase }, { on := 5, ground := Ground.phase }, { on := 6, ground := Ground.phase }, { on := 7, ground := Ground.phase }, { on := 8, ground := Ground.phase }, { on := 9, ground := Ground.phase }, { on := 10, ground := Ground.phase }, { on := 11, ground := Ground.phase }, { on := 12, ground := Ground.phase }, { on := 13, ground := Ground.phase }, { on := 14, ground := Ground.phase }, { on := 15, ground := Ground.phase }, { on := 16, ground := Ground.phase }, { on := 17, ground := Ground.phase }, { on := 18, ground := Ground.phase }, { on := 19, ground := Ground.phase }, { on := 20, ground := Ground.phase }, { on := 21, ground := Ground.phase }, { on := 22, ground := Ground.phase }, { on := 23, ground := Ground.phase }, { on := 24, ground := Ground.phase }, { on := 25, ground := Ground.phase }, { on := 26, ground := Ground.phase }, { on := 27, ground := Ground.phase }, { on := 28, ground := Ground.phase }, { on := 29, ground := Ground.phase }, { on := 30, ground := Ground.phase }, { on := 31, ground := Ground.phase }, { on := 32, ground := Ground.phase }, { on := 33, ground := Ground.phase }, { on := 34, ground := Ground.phase }, { on := 35, ground := Ground.phase }, { on := 36, ground := Ground.phase }], guard := none }) (v := ?vu104) rfl (by kernel_rfl) (by kernel_rfl) (by kernel_rfl) (fun _ _ _ h => h) (Or.inl ⟨by rfl, ?hyu104⟩) (by assumption) ?restu104
  case hyu104 => (intro w hSw; (try dsimp only at hSw); go_simp; (try with_reducible rfl))
  try simp only [Act.put, List.setIfInBounds_toArray, List.set_cons_zero, List.set_cons_succ]
  refine wpAnyH_done (by kernel_rfl) ?_ _
  go_wp2
  go_ret
  exact ⟨rfl, below_step HB.out HW⟩
set_option maxHeartbeats 32000000 in
theorem mix_c (w : World) (v1 v2 : Value) (V1 V2 : Vl) (h1 : VIn w v1 V1) (h2 : VIn w v2 V2) (henv : Env w) (hsm : V1.n ≤ 60 ∧ V2.n ≤ 60)  (er : errV V1 V2 = 9) (en : errV V1 V2 ≠ 0) (m1 : mayV V1 = 0) (m2 : mayV V2 = 0) (h12 : (V1.s == V2.s) = false) : Calls Tryd.prog 5 #[v1, v2] w fun e w' => e = .returned (.bool true) ∧ Below w.heap.size w w' := by
  have hsf := st_flo
  have HEnv : Hid (Env w) := henv
  clear henv
  have SM : Hid (V1.n ≤ 60 ∧ V2.n ≤ 60) := hsm
  have SN : Hid (V1.n ≤ 60 ∧ V2.n ≤ 60) := hsm
  clear hsm
  have ER : Hid (errV V1 V2 = 9) := er
  have EN : Hid (errV V1 V2 ≠ 0) := en
  have M1 : Hid (mayV V1 = 0) := m1
  have M2 : Hid (mayV V2 = 0) := m2
  clear er en m1 m2
  have H1' := h1
  obtain ⟨a1, c1, rfl, hr1, hL1, hn1, hx1, hl1, hs1⟩ := h1
  have H2' := h2
  obtain ⟨a2, c2, rfl, hr2, hL2, hn2, hx2, hl2, hs2⟩ := h2
  obtain ⟨W0, hW0⟩ : ∃ W0, W0 = (((w.alloc (.cells #[.int .i64 V1.s, .bool V1.i, .slice a1 V1.n c1, .int .i64 V1.l, .float .f64 V1.x] 27)).alloc (.cells #[.int .i64 V2.s, .bool V2.i, .slice a2 V2.n c2, .int .i64 V2.l, .float .f64 V2.x] 27)).alloc (.cells #[.int .i64 V1.s, .bool V1.i, .slice a1 V1.n c1, .int .i64 V1.l, .float .f64 V1.x, .int .i64 V2.s, .bool V2.i, .slice a2 V2.n c2, .int .i64 V2.l, .float .f64 V2.x] 27)) := ⟨_, rfl⟩
  have HB0 : Hid (Below w.heap.size w W0) := by rw [hW0]; exact below3 w _ _ _
  have Hg1 : Hid (W0.heap[w.heap.size]? = some (.cells #[.int .i64 V1.s, .bool V1.i, .slice a1 V1.n c1, .int .i64 V1.l, .float .f64 V1.x] 27)) := by
    show W0.heap[w.heap.size]? = _
    rw [hW0]; exact heap_at3_0 w _ _ _
  have Hg2 : Hid (W0.heap[w.heap.size + 1]? = some (.cells #[.int .i64 V2.s, .bool V2.i, .slice a2 V2.n c2, .int .i64 V2.l, .float .f64 V2.x] 27)) := by
    show W0.heap[w.heap.size + 1]? = _
    rw [hW0]; exact heap_at3_1 w _ _ _
  have Hg3 : Hid (W0.heap[w.heap.size + 1 + 1]? = some (.cells #[.int .i64 V1.s, .bool V1.i, .slice a1 V1.n c1, .int .i64 V1.l, .float .f64 V1.x, .int .i64 V2.s, .bool V2.i, .slice a2 V2.n c2, .int .i64 V2.l, .float .f64 V2.x] 27)) := by
    show W0.heap[w.heap.size + 1 + 1]? = _
    rw [hW0]; exact heap_at3_2 w _ _ _
  have H1 : Hid (VIn W0 (.agg #[.int .i64 V1.s, .bool V1.i, .slice a1 V1.n c1, .int .i64 V1.l, .float .f64 V1.x]) V1) := H1'.below HB0.out
  have H2 : Hid (VIn W0 (.agg #[.int .i64 V2.s, .bool V2.i, .slice a2 V2.n c2, .int .i64 V2.l, .float .f64 V2.x]) V2) := H2'.below HB0.out
  have HW : Below W0.heap.size W0 W0 := below_refl W0
  clear hr1 hL1 hn1 hx1 hl1 hs1 H1' hr2 hL2 hn2 hx2 hl2 hs2 H2'
  obtain ⟨p10, p11, p12, p13, p14⟩ := box5 Hg1.out HW
  obtain ⟨p20, p21, p22, p23, p24⟩ := box5 Hg2.out HW
  have cS : Calls Tryd.prog 6 #[.slice (some ⟨w.heap.size + 1 + 1, 0, none⟩) 2 2] W0 fun e w' => e = .returned (.bool true) ∧ w' = W0 := by
    refine vsmall_any (w.heap.size + 1 + 1) 2 (fun j => if j = 0 then a1 else a2) (fun j => if j = 0 then V1.n else V2.n) (fun j => if j = 0 then c1 else c2) W0 (by decide) (by decide) true (fun j hj => ?_) (fun h => ?_) (fun j hj h => ?_)
    · rw [cell_of_row W0 _ _ _ _ _ Hg3.out]
      match j, hj with
      | 0, _ => rfl
      | 1, _ => rfl
    · rfl
    · exfalso
      revert h
      have := SM.out
      match j, hj with
      | 0, _ => exact fun h => absurd h (by show ¬ 60 < V1.n; omega)
      | 1, _ => exact fun h => absurd h (by show ¬ 60 < V2.n; omega)
  have I1 := H1
  have G1 := Hg1
  have I2 := H2
  have G2 := Hg2
  have HB := HB0
  clear HW H1 Hg1 p10 p11 p12 p13 p14 H2 Hg2 p20 p21 p22 p23 p24 HB0 SM
  go_enter Tryd.func5, Tryd.ntmps5
  go_wp2_with (go_at_call 6; fail)
  rw [← hW0]
  refine cS.mono ?_
  rintro e w' ⟨rfl, hw⟩
  replace hw := hw.symm
  subst hw
  clear cS hW0 Hg3
  obtain ⟨p10, p11, p12, p13, p14⟩ := box5 G1.out (below_refl _)
  have l1 := blk_lt G1.out
  obtain ⟨p20, p21, p22, p23, p24⟩ := box5 G2.out (below_refl _)
  have l2 := blk_lt G2.out
  go_wp2_with (go_at_call 12; fail)
  refine (plus_err _ _ _ V1 V2 (by exact I1.out) (by exact I2.out) 9 ER.out (by decide)).mono ?_
  rintro e w1 ⟨rfl, b⟩
  replace G1 : Hid (w1.heap[w.heap.size]? = _) := blk_below G1.out b
  replace I1 : Hid (VIn w1 _ _) := I1.out.below b
  replace G2 : Hid (w1.heap[w.heap.size + 1]? = _) := blk_below G2.out b
  replace I2 : Hid (VIn w1 _ _) := I2.out.below b
  replace HB : Hid (Below _ _ w1) := below_step HB.out b
  clear b
  unfold noV
  clear p10 p11 p12 p13 p14 l1 p20 p21 p22 p23 p24 l2
  obtain ⟨p10, p11, p12, p13, p14⟩ := box5 G1.out (below_refl _)
  have l1 := blk_lt G1.out
  obtain ⟨p20, p21, p22, p23, p24⟩ := box5 G2.out (below_refl _)
  have l2 := blk_lt G2.out
  go_wp2_with (go_at_call 11; fail)
  obtain ⟨W1, hW⟩ : ∃ W1, W1 = w1.alloc (.cells #[.int .i64 0, .bool false, .slice none 0 0, .int .i64 0, .float .f64 0] 27) := ⟨_, rfl⟩
  rw [← hW]
  have hb : Below w1.heap.size w1 W1 := by rw [hW]; exact below1 _ _
  replace G1 : Hid (W1.heap[w.heap.size]? = _) := blk_below G1.out hb
  replace I1 : Hid (VIn W1 _ _) := I1.out.below hb
  replace G2 : Hid (W1.heap[w.heap.size + 1]? = _) := blk_below G2.out hb
  replace I2 : Hid (VIn W1 _ _) := I2.out.below hb
  replace HB : Hid (Below _ _ W1) := below_step HB.out hb
  have GR1 : Hid (W1.heap[w1.heap.size]? = some (.cells #[.int .i64 0, .bool false, .slice none 0 0, .int .i64 0, .float .f64 0] 27)) := by show W1.heap[w1.heap.size]? = _; rw [hW]; exact heap_alloc_new _ _
  clear hb hW
  refine (times_err _ _ _ V1 V2 (by exact I1.out) (by exact I2.out) 9 ER.out (by decide)).mono ?_
  rintro e w2 ⟨rfl, b⟩
  replace G1 : Hid (w2.heap[w.heap.size]? = _) := blk_below G1.out b
  replace I1 : Hid (VIn w2 _ _) := I1.out.below b
  replace G2 : Hid (w2.heap[w.heap.size + 1]? = _) := blk_below G2.out b
  replace I2 : Hid (VIn w2 _ _) := I2.out.below b
  replace GR1 : Hid (w2.heap[w1.heap.size]? = _) := blk_below GR1.out b
  replace HB : Hid (Below _ _ w2) := below_step HB.out b
  clear b
  unfold noV
  clear p10 p11 p12 p13 p14 l1 p20 p21 p22 p23 p24 l2
  obtain ⟨p10, p11, p12, p13, p14⟩ := box5 G1.out (below_refl _)
  have l1 := blk_lt G1.out
  obtain ⟨p20, p21, p22, p23, p24⟩ := box5 G2.out (below_refl _)
  have l2 := blk_lt G2.out
  obtain ⟨pR10, pR11, pR12, pR13, pR14⟩ := box5 GR1.out (below_refl _)
  have lR1 := blk_lt GR1.out
  go_wp2_with (go_at_call 14; fail)
  obtain ⟨W2, hW⟩ : ∃ W2, W2 = w2.alloc (.cells #[.int .i64 0, .bool false, .slice none 0 0, .int .i64 0, .float .f64 0] 27) := ⟨_, rfl⟩
  rw [← hW]
  have hb : Below w2.heap.size w2 W2 := by rw [hW]; exact below1 _ _
  replace G1 : Hid (W2.heap[w.heap.size]? = _) := blk_below G1.out hb
  replace I1 : Hid (VIn W2 _ _) := I1.out.below hb
  replace G2 : Hid (W2.heap[w.heap.size + 1]? = _) := blk_below G2.out hb
  replace I2 : Hid (VIn W2 _ _) := I2.out.below hb
  replace GR1 : Hid (W2.heap[w1.heap.size]? = _) := blk_below GR1.out hb
  replace HB : Hid (Below _ _ W2) := below_step HB.out hb
  have GR2 : Hid (W2.heap[w2.heap.size]? = some (.cells #[.int .i64 0, .bool false, .slice none 0 0, .int .i64 0, .float .f64 0] 27)) := by show W2.heap[w2.heap.size]? = _; rw [hW]; exact heap_alloc_new _ _
  clear hb hW
  refine (better_err _ _ _ V1 V2 (by exact I1.out) (by exact I2.out) 9 ER.out (by decide)).mono ?_
  rintro e w3 ⟨rfl, b⟩
  replace G1 : Hid (w3.heap[w.heap.size]? = _) := blk_below G1.out b
  replace I1 : Hid (VIn w3 _ _) := I1.out.below b
  replace G2 : Hid (w3.heap[w.heap.size + 1]? = _) := blk_below G2.out b
  replace I2 : Hid (VIn w3 _ _) := I2.out.below b
  replace GR1 : Hid (w3.heap[w1.heap.size]? = _) := blk_below GR1.out b
  replace GR2 : Hid (w3.heap[w2.heap.size]? = _) := blk_below GR2.out b
  replace HB : Hid (Below _ _ w3) := below_step HB.out b
  clear b
  clear p10 p11 p12 p13 p14 l1 p20 p21 p22 p23 p24 l2 pR10 pR11 pR12 pR13 pR14 lR1
  obtain ⟨p10, p11, p12, p13, p14⟩ := box5 G1.out (below_refl _)
  have l1 := blk_lt G1.out
  obtain ⟨p20, p21, p22, p23, p24⟩ := box5 G2.out (below_refl _)
  have l2 := blk_lt G2.out
  obtain ⟨pR10, pR11, pR12, pR13, pR14⟩ := box5 GR1.out (below_refl _)
  have lR1 := blk_lt GR1.out
  obtain ⟨pR20, pR21, pR22, pR23, pR24⟩ := box5 GR2.out (below_refl _)
  have lR2 := blk_lt GR2.out
  go_wp2_with (go_at_call 15; fail)
  refine (vmay_at _ _ V1 0 (by exact I1.out) M1.out).mono ?_
  rintro e w4 ⟨rfl, b⟩
  replace G1 : Hid (w4.heap[w.heap.size]? = _) := blk_below G1.out b
  replace I1 : Hid (VIn w4 _ _) := I1.out.below b
  replace G2 : Hid (w4.heap[w.heap.size + 1]? = _) := blk_below G2.out b
  replace I2 : Hid (VIn w4 _ _) := I2.out.below b
  replace GR1 : Hid (w4.heap[w1.heap.size]? = _) := blk_below GR1.out b
  replace GR2 : Hid (w4.heap[w2.heap.size]? = _) := blk_below GR2.out b
  replace HB : Hid (Below _ _ w4) := below_step HB.out b
  clear b
  clear p10 p11 p12 p13 p14 l1 p20 p21 p22 p23 p24 l2 pR10 pR11 pR12 pR13 pR14 lR1 pR20 pR21 pR22 pR23 pR24 lR2
  obtain ⟨p10, p11, p12, p13, p14⟩ := box5 G1.out (below_refl _)
  have l1 := blk_lt G1.out
  obtain ⟨p20, p21, p22, p23, p24⟩ := box5 G2.out (below_refl _)
  have l2 := blk_lt G2.out
  obtain ⟨pR10, pR11, pR12, pR13, pR14⟩ := box5 GR1.out (below_refl _)
  have lR1 := blk_lt GR1.out
  obtain ⟨pR20, pR21, pR22, pR23, pR24⟩ := box5 GR2.out (below_refl _)
  have lR2 := blk_lt GR2.out
  go_wp2_with (go_at_call 15; fail)
  refine (vmay_at _ _ V2 0 (by exact I2.out) M2.out).mono ?_
  rintro e w5 ⟨rfl, b⟩
  replace G1 : Hid (w5.heap[w.heap.size]? = _) := blk_below G1.out b
  replace I1 : Hid (VIn w5 _ _) := I1.out.below b
  replace G2 : Hid (w5.heap[w.heap.size + 1]? = _) := blk_below G2.out b
  replace I2 : Hid (VIn w5 _ _) := I2.out.below b
  replace GR1 : Hid (w5.heap[w1.heap.size]? = _) := blk_below GR1.out b
  replace GR2 : Hid (w5.heap[w2.heap.size]? = _) := blk_below GR2.out b
  replace HB : Hid (Below _ _ w5) := below_step HB.out b
  clear b
  clear p10 p11 p12 p13 p14 l1 p20 p21 p22 p23 p24 l2 pR10 pR11 pR12 pR13 pR14 lR1 pR20 pR21 pR22 pR23 pR24 lR2
  obtain ⟨p10, p11, p12, p13, p14⟩ := box5 G1.out (below_refl _)
  have l1 := blk_lt G1.out
  obtain ⟨p20, p21, p22, p23, p24⟩ := box5 G2.out (below_refl _)
  have l2 := blk_lt G2.out
  obtain ⟨pR10, pR11, pR12, pR13, pR14⟩ := box5 GR1.out (below_refl _)
  have lR1 := blk_lt GR1.out
  obtain ⟨pR20, pR21, pR22, pR23, pR24⟩ := box5 GR2.out (below_refl _)
  have lR2 := blk_lt GR2.out
  have HW : Below w5.heap.size w5 w5 := below_refl _
  clear l1 l2 lR1 lR2
  go_upto_region 10 with fail
  refine wp_region_held_drew (S := (fun w' => w'.cell? ⟨w.heap.size, 0, none⟩ = some (.int .i64 V1.s) ∧ w'.cell? ⟨w.heap.size, 1, none⟩ = some (.bool V1.i) ∧ w'.cell? ⟨w.heap.size, 2, none⟩ = some (.slice a1 V1.n c1) ∧ w'.cell? ⟨w.heap.size, 3, none⟩ = some (.int .i64 V1.l) ∧ w'.cell? ⟨w.heap.size, 4, none⟩ = some (.float .f64 V1.x) ∧ w'.cell? ⟨w.heap.size + 1, 0, none⟩ = some (.int .i64 V2.s) ∧ w'.cell? ⟨w.heap.size + 1, 1, none⟩ = some (.bool V2.i) ∧ w'.cell? ⟨w.heap.size + 1, 2, none⟩ = some (.slice a2 V2.n c2) ∧ w'.cell? ⟨w.heap.size + 1, 3, none⟩ = some (.int .i64 V2.l) ∧ w'.cell? ⟨w.heap.size + 1, 4, none⟩ = some (.float .f64 V2.x) ∧ w'.cell? ⟨w1.heap.size, 0, none⟩ = some (.int .i64 0) ∧ w'.cell? ⟨w1.heap.size, 1, none⟩ = some (.bool false) ∧ w'.cell? ⟨w1.heap.size, 2, none⟩ = some (.slice none 0 0) ∧ w'.cell? ⟨w1.heap.size, 3, none⟩ = some (.int .i64 0) ∧ w'.cell? ⟨w1.heap.size, 4, none⟩ = some (.float .f64 0) ∧ w'.cell? ⟨w2.heap.size, 0, none⟩ = some (.int .i64 0) ∧ w'.cell? ⟨w2.heap.size, 1, none⟩ = some (.bool false) ∧ w'.cell? ⟨w2.heap.size, 2, none⟩ = some (.slice none 0 0) ∧ w'.cell? ⟨w2.heap.size, 3, none⟩ = some (.int .i64 0) ∧ w'.cell? ⟨w2.heap.size, 4, none⟩ = some (.float .f64 0))) (by kernel_rfl) ?_ (fun hHeld => ?_)
  · (try dsimp only); first | exact ⟨p10, p11, p12, p13, p14, p20, p21, p22, p23, p24, pR10, pR11, pR12, pR13, pR14, pR20, pR21, pR22, pR23, pR24⟩ | go_keep
  refine wpAnyH_take (i := 0) (oi := { dst := some 90, op := Op.load 27 (Operand.tmp 5), type := 27, pos := "law.go:166", after := #[], guard := none }) (v := ?vu105) rfl (by kernel_rfl) (by kernel_rfl) (by kernel_rfl) (fun _ _ _ h => h) (Or.inl ⟨by rfl, ?hyu105⟩) (by assumption) ?restu105
  case hyu105 => (intro w hSw; (try dsimp only at hSw); go_simp; (try with_reducible rfl))
  try simp only [Act.put, List.setIfInBounds_toArray, List.set_cons_zero, List.set_cons_succ]
  refine wpAnyH_take (i := 1) (oi := { dst := some 91, op := Op.build 27 #[], type := 27, pos := "law.go:166", after := #[], guard := none }) (v := ?vu106) rfl (by kernel_rfl) (by kernel_rfl) (by kernel_rfl) (fun _ _ _ h => h) (Or.inl ⟨by rfl, ?hyu106⟩) (by assumption) ?restu106
  case hyu106 => (intro w hSw; (try dsimp only at hSw); go_simp; (try with_reducible rfl))
  try simp only [Act.put, List.setIfInBounds_toArray, List.set_cons_zero, List.set_cons_succ]
  refine wpAnyH_ready (rs := [2]) (by kernel_rfl) (by simp) ?_
  refine AllReadyH.cons (o := { dst := some 92, op := Op.call { callee := Callee.value (Operand.func 16), args := #[Operand.tmp 90, Operand.tmp 91], argTypes := #[27, 27] }, type := 4, pos := "law.go:166", after := #[{ on := 0, ground := Ground.data }, { on := 1, ground := Ground.data }], guard := none }) rfl (fun K hK => ?_) AllReadyH.nil
  go_simp
  go_at_call 16
  refine (fields_no _).mono ?_
  rintro e z0 ⟨rfl, b⟩
  replace HW := below_step (by first | exact HW | exact HW.drew) b
  clear b
  clear p10 p11 p12 p13 p14 p20 p21 p22 p23 p24 pR10 pR11 pR12 pR13 pR14 pR20 pR21 pR22 pR23 pR24
  obtain ⟨p10, p11, p12, p13, p14⟩ := box5 G1.out HW
  obtain ⟨p20, p21, p22, p23, p24⟩ := box5 G2.out HW
  obtain ⟨pR10, pR11, pR12, pR13, pR14⟩ := box5 GR1.out HW
  obtain ⟨pR20, pR21, pR22, pR23, pR24⟩ := box5 GR2.out HW
  refine hK.out _ _ ?_ (fun hHeldB => ?_)
  · (try dsimp only); first | exact ⟨p10, p11, p12, p13, p14, p20, p21, p22, p23, p24, pR10, pR11, pR12, pR13, pR14, pR20, pR21, pR22, pR23, pR24⟩ | go_keep
  clear hK K hHeld
  have hHeld := hHeldB
  clear hHeldB
  try simp only [Act.put, List.setIfInBounds_toArray, List.set_cons_zero, List.set_cons_succ]
  refine wpAnyH_take (i := 3) (oi := { dst := some 93, op := Op.move (Operand.tmp 92), type := 4, pos := "law.go:166", after := #[{ on := 2, ground := Ground.data }, { on := 2, ground := Ground.chain }], guard := none }) (v := ?vu107) rfl (by kernel_rfl) (by kernel_rfl) (by kernel_rfl) (fun _ _ _ h => h) (Or.inl ⟨by rfl, ?hyu107⟩) (by assumption) ?restu107
  case hyu107 => (intro w hSw; (try dsimp only at hSw); go_simp; (try with_reducible rfl))
  try simp only [Act.put, List.setIfInBounds_toArray, List.set_cons_zero, List.set_cons_succ]
  refine wpAnyH_take (i := 4) (oi := { dst := some 94, op := Op.load 27 (Operand.tmp 7), type := 27, pos := "law.go:166", after := #[{ on := 3, ground := Ground.guard }], guard := some (3, true) }) (v := ?vu108) rfl (by kernel_rfl) (by kernel_rfl) (by kernel_rfl) (fun _ _ _ h => h) (Or.inl ⟨by rfl, ?hyu108⟩) (by assumption) ?restu108
  case hyu108 => (intro w hSw; (try dsimp only at hSw); go_simp; (try with_reducible rfl))
  try simp only [Act.put, List.setIfInBounds_toArray, List.set_cons_zero, List.set_cons_succ]
  refine wpAnyH_take (i := 5) (oi := { dst := some 95, op := Op.build 27 #[], type := 27, pos := "law.go:166", after := #[{ on := 3, ground := Ground.guard }], guard := some (3, true) }) (v := ?vu109) rfl (by kernel_rfl) (by kernel_rfl) (by kernel_rfl) (fun _ _ _ h => h) (Or.inl ⟨by rfl, ?hyu109⟩) (by assumption) ?restu109
  case hyu109 => (intro w hSw; (try dsimp only at hSw); go_simp; (try with_reducible rfl))
  try simp only [Act.put, List.setIfInBounds_toArray, List.set_cons_zero, List.set_cons_succ]
  refine wpAnyH_ready (rs := [6]) (by kernel_rfl) (by simp) ?_
  refine AllReadyH.cons (o := { dst := some 96, op := Op.call { callee := Callee.value (Operand.func 16), args := #[Operand.tmp 94, Operand.tmp 95], argTypes := #[27, 27] }, type := 4, pos := "law.go:166", after := #[{ on := 4, ground := Ground.data }, { on := 5, ground := Ground.data }, { on := 3, ground := Ground.chain }, { on := 3, ground := Ground.guard }], guard := some (3, true) }) rfl (fun K hK => ?_) AllReadyH.nil
  go_simp
  go_at_call 16
  refine (fields_no _).mono ?_
  rintro e z1 ⟨rfl, b⟩
  replace HW := below_step (by first | exact HW | exact HW.drew) b
  clear b
  clear p10 p11 p12 p13 p14 p20 p21 p22 p23 p24 pR10 pR11 pR12 pR13 pR14 pR20 pR21 pR22 pR23 pR24
  obtain ⟨p10, p11, p12, p13, p14⟩ := box5 G1.out HW
  obtain ⟨p20, p21, p22, p23, p24⟩ := box5 G2.out HW
  obtain ⟨pR10, pR11, pR12, pR13, pR14⟩ := box5 GR1.out HW
  obtain ⟨pR20, pR21, pR22, pR23, pR24⟩ := box5 GR2.out HW
  refine hK.out _ _ ?_ (fun hHeldB => ?_)
  · (try dsimp only); first | exact ⟨p10, p11, p12, p13, p14, p20, p21, p22, p23, p24, pR10, pR11, pR12, pR13, pR14, pR20, pR21, pR22, pR23, pR24⟩ | go_keep
  clear hK K hHeld
  have hHeld := hHeldB
  clear hHeldB
  try simp only [Act.put, List.setIfInBounds_toArray, List.set_cons_zero, List.set_cons_succ]
  refine wpAnyH_take (i := 7) (oi := { dst := some 97, op := Op.pick (Operand.tmp 93) (Operand.tmp 96) (Operand.const (Value.bool false)), type := 4, pos := "law.go:166", after := #[{ on := 3, ground := Ground.data }, { on := 6, ground := Ground.data }], guard := none }) (v := ?vu110) rfl (by kernel_rfl) (by kernel_rfl) (by kernel_rfl) (fun _ _ _ h => h) (Or.inl ⟨by rfl, ?hyu110⟩) (by assumption) ?restu110
  case hyu110 => (intro w hSw; (try dsimp only at hSw); go_simp; (try with_reducible rfl))
  try simp only [Act.put, List.setIfInBounds_toArray, List.set_cons_zero, List.set_cons_succ]
  refine wpAnyH_take (i := 8) (oi := { dst := some 98, op := Op.move (Operand.tmp 97), type := 4, pos := "law.go:166", after := #[{ on := 7, ground := Ground.data }, { on := 6, ground := Ground.chain }], guard := none }) (v := ?vu111) rfl (by kernel_rfl) (by kernel_rfl) (by kernel_rfl) (fun _ _ _ h => h) (Or.inl ⟨by rfl, ?hyu111⟩) (by assumption) ?restu111
  case hyu111 => (intro w hSw; (try dsimp only at hSw); go_simp; (try with_reducible rfl))
  try simp only [Act.put, List.setIfInBounds_toArray, List.set_cons_zero, List.set_cons_succ]
  refine wpAnyH_take (i := 9) (oi := { dst := some 99, op := Op.move (Operand.tmp 9), type := 4, pos := "law.go:166", after := #[{ on := 8, ground := Ground.guard }], guard := some (8, true) }) (v := ?vu112) rfl (by kernel_rfl) (by kernel_rfl) (by kernel_rfl) (fun _ _ _ h => h) (Or.inl ⟨by rfl, ?hyu112⟩) (by assumption) ?restu112
  case hyu112 => (intro w hSw; (try dsimp only at hSw); go_simp; (try with_reducible rfl))
  try simp only [Act.put, List.setIfInBounds_toArray, List.set_cons_zero, List.set_cons_succ]
  refine wpAnyH_take (i := 10) (oi := { dst := some 100, op := Op.unOp UnOp.not 4 (Operand.tmp 99), type := 4, pos := "law.go:166", after := #[{ on := 9, ground := Ground.data }, { on := 8, ground := Ground.guard }], guard := some (8, true) }) (v := ?vu113) rfl (by kernel_rfl) (by kernel_rfl) (by kernel_rfl) (fun _ _ _ h => h) (Or.inl ⟨by rfl, ?hyu113⟩) (by assumption) ?restu113
  case hyu113 => (intro w hSw; (try dsimp only at hSw); go_simp; (try with_reducible rfl))
  try simp only [Act.put, List.setIfInBounds_toArray, List.set_cons_zero, List.set_cons_succ]
  refine wpAnyH_take (i := 11) (oi := { dst := some 101, op := Op.pick (Operand.tmp 98) (Operand.tmp 100) (Operand.const (Value.bool false)), type := 4, pos := "law.go:166", after := #[{ on := 8, ground := Ground.data }, { on := 10, ground := Ground.data }], guard := none }) (v := ?vu114) rfl (by kernel_rfl) (by kernel_rfl) (by kernel_rfl) (fun _ _ _ h => h) (Or.inl ⟨by rfl, ?hyu114⟩) (by assumption) ?restu114
  case hyu114 => (intro w hSw; (try dsimp only at hSw); go_simp; (try with_reducible rfl))
  try simp only [Act.put, List.setIfInBounds_toArray, List.set_cons_zero, List.set_cons_succ]
  refine wpAnyH_take (i := 12) (oi := { dst := some 102, op := Op.move (Operand.tmp 101), type := 4, pos := "law.go:166", after := #[{ on := 11, ground := Ground.data }, { on := 8, ground := Ground.chain }], guard := none }) (v := ?vu115) rfl (by kernel_rfl) (by kernel_rfl) (by kernel_rfl) (fun _ _ _ h => h) (Or.inl ⟨by rfl, ?hyu115⟩) (by assumption) ?restu115
  case hyu115 => (intro w hSw; (try dsimp only at hSw); go_simp; (try with_reducible rfl))
  try simp only [Act.put, List.setIfInBounds_toArray, List.set_cons_zero, List.set_cons_succ]
  refine wpAnyH_take (i := 13) (oi := { dst := some 103, op := Op.load 27 (Operand.tmp 2), type := 27, pos := "law.go:166", after := #[{ on := 12, ground := Ground.guard }], guard := some (12, true) }) (v := ?vu116) rfl (by kernel_rfl) (by kernel_rfl) (by kernel_rfl) (fun _ _ _ h => h) (Or.inl ⟨by rfl, ?hyu116⟩) (by assumption) ?restu116
  case hyu116 => (intro w hSw; (try dsimp only at hSw); go_simp; (try with_reducible rfl))
  try simp only [Act.put, List.setIfInBounds_toArray, List.set_cons_zero, List.set_cons_succ]
  refine wpAnyH_take (i := 14) (oi := { dst := some 104, op := Op.load 27 (Operand.tmp 3), type := 27, pos := "law.go:166", after := #[{ on := 12, ground := Ground.guard }], guard := some (12, true) }) (v := ?vu117) rfl (by kernel_rfl) (by kernel_rfl) (by kernel_rfl) (fun _ _ _ h => h) (Or.inl ⟨by rfl, ?hyu117⟩) (by assumption) ?restu117
  case hyu117 => (intro w hSw; (try dsimp only at hSw); go_simp; (try with_reducible rfl))
  try simp only [Act.put, List.setIfInBounds_toArray, List.set_cons_zero, List.set_cons_succ]
  refine wpAnyH_take (i := 17) (oi := { dst := some 107, op := Op.load 27 (Operand.tmp 2), type := 27, pos := "law.go:166", after := #[{ on := 12, ground := Ground.guard }], guard := some (12, true) }) (v := ?vu118) rfl (by kernel_rfl) (by kernel_rfl) (by kernel_rfl) (fun _ _ _ h => h) (Or.inl ⟨by rfl, ?hyu118⟩) (by assumption) ?restu118
  case hyu118 => (intro w hSw; (try dsimp only at hSw); go_simp; (try with_reducible rfl))
  try simp only [Act.put, List.setIfInBounds_toArray, List.set_cons_zero, List.set_cons_succ]
  refine wpAnyH_ready (rs := [15]) (by kernel_rfl) (by simp) ?_
  refine AllReadyH.cons (o := { dst := some 105, op := Op.call { callee := Callee.value (Operand.func 13), args := #[Operand.tmp 103, Operand.tmp 104], argTypes := #[27, 27] }, type := 4, pos := "law.go:166", after := #[{ on := 13, ground := Ground.data }, { on := 14, ground := Ground.data }, { on := 12, ground := Ground.chain }, { on := 12, ground := Ground.guard }], guard := some (12, true) }) rfl (fun K hK => ?_) AllReadyH.nil
  go_simp
  go_at_call 13
  refine (vsame_no _ _ _ V1 V2 (by exact I1.out.below (by first | exact HW | exact HW.drew)) (by exact I2.out.below (by first | exact HW | exact HW.drew)) EN.out).mono ?_
  rintro e z2 ⟨rfl, b⟩
  replace HW := below_step (by first | exact HW | exact HW.drew) b
  clear b
  clear p10 p11 p12 p13 p14 p20 p21 p22 p23 p24 pR10 pR11 pR12 pR13 pR14 pR20 pR21 pR22 pR23 pR24
  obtain ⟨p10, p11, p12, p13, p14⟩ := box5 G1.out HW
  obtain ⟨p20, p21, p22, p23, p24⟩ := box5 G2.out HW
  obtain ⟨pR10, pR11, pR12, pR13, pR14⟩ := box5 GR1.out HW
  obtain ⟨pR20, pR21, pR22, pR23, pR24⟩ := box5 GR2.out HW
  refine hK.out _ _ ?_ (fun hHeldB => ?_)
  · (try dsimp only); first | exact ⟨p10, p11, p12, p13, p14, p20, p21, p22, p23, p24, pR10, pR11, pR12, pR13, pR14, pR20, pR21, pR22, pR23, pR24⟩ | go_keep
  clear hK K hHeld
  have hHeld := hHeldB
  clear hHeldB
  try simp only [Act.put, List.setIfInBounds_toArray, List.set_cons_zero, List.set_cons_succ]
  refine wpAnyH_take (i := 16) (oi := { dst := some 106, op := Op.unOp UnOp.not 4 (Operand.tmp 105), type := 4, pos := "law.go:166", after := #[{ on := 15, ground := Ground.data }, { on := 12, ground := Ground.guard }], guard := some (12, true) }) (v := ?vu119) rfl (by kernel_rfl) (by kernel_rfl) (by kernel_rfl) (fun _ _ _ h => h) (Or.inl ⟨by rfl, ?hyu119⟩) (by assumption) ?restu119
  case hyu119 => (intro w hSw; (try dsimp only at hSw); go_simp; (try with_reducible rfl))
  try simp only [Act.put, List.setIfInBounds_toArray, List.set_cons_zero, List.set_cons_succ]
  refine wpAnyH_ready (rs := [18]) (by kernel_rfl) (by simp) ?_
  refine AllReadyH.cons (o := { dst := some 108, op := Op.call { callee := Callee.value (Operand.func 9), args := #[Operand.tmp 107], argTypes := #[27] }, type := 3, pos := "law.go:166", after := #[{ on := 17, ground := Ground.data }, { on := 15, ground := Ground.chain }, { on := 12, ground := Ground.guard }], guard := some (12, true) }) rfl (fun K hK => ?_) AllReadyH.nil
  go_simp
  go_at_call 9
  refine (rmv_at _ _ V1 0 (by exact I1.out.below (by first | exact HW | exact HW.drew)) M1.out).mono ?_
  rintro e z3 ⟨rfl, b⟩
  replace HW := below_step (by first | exact HW | exact HW.drew) b
  clear b
  clear p10 p11 p12 p13 p14 p20 p21 p22 p23 p24 pR10 pR11 pR12 pR13 pR14 pR20 pR21 pR22 pR23 pR24
  obtain ⟨p10, p11, p12, p13, p14⟩ := box5 G1.out HW
  obtain ⟨p20, p21, p22, p23, p24⟩ := box5 G2.out HW
  obtain ⟨pR10, pR11, pR12, pR13, pR14⟩ := box5 GR1.out HW
  obtain ⟨pR20, pR21, pR22, pR23, pR24⟩ := box5 GR2.out HW
  refine hK.out _ _ ?_ (fun hHeldB => ?_)
  · (try dsimp only); first | exact ⟨p10, p11, p12, p13, p14, p20, p21, p22, p23, p24, pR10, pR11, pR12, pR13, pR14, pR20, pR21, pR22, pR23, pR24⟩ | go_keep
  clear hK K hHeld
  have hHeld := hHeldB
  clear hHeldB
  try simp only [Act.put, List.setIfInBounds_toArray, List.set_cons_zero, List.set_cons_succ]
  refine wpAnyH_take (i := 19) (oi := { dst := some 109, op := Op.binOp BinOp.neq 3 (Operand.tmp 108) (Operand.const (Value.int IntKind.i64 0)) 3, type := 4, pos := "law.go:166", after := #[{ on := 18, ground := Ground.data }, { on := 12, ground := Ground.guard }], guard := some (12, true) }) (v := ?vu120) rfl (by kernel_rfl) (by kernel_rfl) (by kernel_rfl) (fun _ _ _ h => h) (Or.inl ⟨by rfl, ?hyu120⟩) (by assumption) ?restu120
  case hyu120 => (intro w hSw; (try dsimp only at hSw); go_simp; (try with_reducible rfl))
  try simp only [Act.put, List.setIfInBounds_toArray, List.set_cons_zero, List.set_cons_succ]
  refine wpAnyH_take (i := 20) (oi := { dst := some 110, op := Op.move (Operand.tmp 109), type := 4, pos := "law.go:166", after := #[{ on := 19, ground := Ground.data }, { on := 18, ground := Ground.chain }, { on := 12, ground := Ground.guard }], guard := some (12, true) }) (v := ?vu121) rfl (by kernel_rfl) (by kernel_rfl) (by kernel_rfl) (fun _ _ _ h => h) (Or.inl ⟨by rfl, ?hyu121⟩) (by assumption) ?restu121
  case hyu121 => (intro w hSw; (try dsimp only at hSw); go_simp; (try with_reducible rfl))
  try simp only [Act.put, List.setIfInBounds_toArray, List.set_cons_zero, List.set_cons_succ]
  refine wpAnyH_take (i := 21) (oi := { dst := some 111, op := Op.load 27 (Operand.tmp 3), type := 27, pos := "law.go:166", after := #[{ on := 20, ground := Ground.guard }], guard := some (20, false) }) (v := ?vu122) rfl (by kernel_rfl) (by kernel_rfl) (by kernel_rfl) (fun _ _ _ h => h) (Or.inl ⟨by rfl, ?hyu122⟩) (by assumption) ?restu122
  case hyu122 => (intro w hSw; (try dsimp only at hSw); go_simp; (try with_reducible rfl))
  try simp only [Act.put, List.setIfInBounds_toArray, List.set_cons_zero, List.set_cons_succ]
  refine wpAnyH_ready (rs := [22]) (by kernel_rfl) (by simp) ?_
  refine AllReadyH.cons (o := { dst := some 112, op := Op.call { callee := Callee.value (Operand.func 9), args := #[Operand.tmp 111], argTypes := #[27] }, type := 3, pos := "law.go:166", after := #[{ on := 21, ground := Ground.data }, { on := 20, ground := Ground.chain }, { on := 20, ground := Ground.guard }], guard := some (20, false) }) rfl (fun K hK => ?_) AllReadyH.nil
  go_simp
  go_at_call 9
  refine (rmv_at _ _ V2 0 (by exact I2.out.below (by first | exact HW | exact HW.drew)) M2.out).mono ?_
  rintro e z4 ⟨rfl, b⟩
  replace HW := below_step (by first | exact HW | exact HW.drew) b
  clear b
  clear p10 p11 p12 p13 p14 p20 p21 p22 p23 p24 pR10 pR11 pR12 pR13 pR14 pR20 pR21 pR22 pR23 pR24
  obtain ⟨p10, p11, p12, p13, p14⟩ := box5 G1.out HW
  obtain ⟨p20, p21, p22, p23, p24⟩ := box5 G2.out HW
  obtain ⟨pR10, pR11, pR12, pR13, pR14⟩ := box5 GR1.out HW
  obtain ⟨pR20, pR21, pR22, pR23, pR24⟩ := box5 GR2.out HW
  refine hK.out _ _ ?_ (fun hHeldB => ?_)
  · (try dsimp only); first | exact ⟨p10, p11, p12, p13, p14, p20, p21, p22, p23, p24, pR10, pR11, pR12, pR13, pR14, pR20, pR21, pR22, pR23, pR24⟩ | go_keep
  clear hK K hHeld
  have hHeld := hHeldB
  clear hHeldB
  try simp only [Act.put, List.setIfInBounds_toArray, List.set_cons_zero, List.set_cons_succ]
  refine wpAnyH_take (i := 23) (oi := { dst := some 113, op := Op.binOp BinOp.neq 3 (Operand.tmp 112) (Operand.const (Value.int IntKind.i64 0)) 3, type := 4, pos := "law.go:166", after := #[{ on := 22, ground := Ground.data }, { on := 20, ground := Ground.guard }], guard := some (20, false) }) (v := ?vu123) rfl (by kernel_rfl) (by kernel_rfl) (by kernel_rfl) (fun _ _ _ h => h) (Or.inl ⟨by rfl, ?hyu123⟩) (by assumption) ?restu123
  case hyu123 => (intro w hSw; (try dsimp only at hSw); go_simp; (try with_reducible rfl))
  try simp only [Act.put, List.setIfInBounds_toArray, List.set_cons_zero, List.set_cons_succ]
  refine wpAnyH_take (i := 24) (oi := { dst := some 114, op := Op.pick (Operand.tmp 110) (Operand.const (Value.bool true)) (Operand.tmp 113), type := 4, pos := "law.go:166", after := #[{ on := 20, ground := Ground.data }, { on := 23, ground := Ground.data }, { on := 12, ground := Ground.guard }], guard := some (12, true) }) (v := ?vu124) rfl (by kernel_rfl) (by kernel_rfl) (by kernel_rfl) (fun _ _ _ h => h) (Or.inl ⟨by rfl, ?hyu124⟩) (by assumption) ?restu124
  case hyu124 => (intro w hSw; (try dsimp only at hSw); go_simp; (try with_reducible rfl))
  try simp only [Act.put, List.setIfInBounds_toArray, List.set_cons_zero, List.set_cons_succ]
  refine wpAnyH_take (i := 25) (oi := { dst := some 115, op := Op.move (Operand.tmp 114), type := 4, pos := "law.go:166", after := #[{ on := 24, ground := Ground.data }, { on := 22, ground := Ground.chain }, { on := 12, ground := Ground.guard }], guard := some (12, true) }) (v := ?vu125) rfl (by kernel_rfl) (by kernel_rfl) (by kernel_rfl) (fun _ _ _ h => h) (Or.inl ⟨by rfl, ?hyu125⟩) (by assumption) ?restu125
  case hyu125 => (intro w hSw; (try dsimp only at hSw); go_simp; (try with_reducible rfl))
  try simp only [Act.put, List.setIfInBounds_toArray, List.set_cons_zero, List.set_cons_succ]
  refine wpAnyH_take (i := 26) (oi := { dst := some 116, op := Op.fieldAddr 27 (Operand.tmp 2) 0, type := 0, pos := "law.go:166", after := #[{ on := 25, ground := Ground.guard }], guard := some (25, false) }) (v := ?vu126) rfl (by kernel_rfl) (by kernel_rfl) (by kernel_rfl) (fun _ _ _ h => h) (Or.inl ⟨by rfl, ?hyu126⟩) (by assumption) ?restu126
  case hyu126 => (intro w hSw; (try dsimp only at hSw); go_simp; (try with_reducible rfl))
  try simp only [Act.put, List.setIfInBounds_toArray, List.set_cons_zero, List.set_cons_succ]
  refine wpAnyH_take (i := 27) (oi := { dst := some 117, op := Op.load 3 (Operand.tmp 116), type := 3, pos := "law.go:166", after := #[{ on := 26, ground := Ground.data }, { on := 25, ground := Ground.guard }], guard := some (25, false) }) (v := ?vu127) rfl (by kernel_rfl) (by kernel_rfl) (by kernel_rfl) (fun _ _ _ h => h) (Or.inl ⟨by rfl, ?hyu127⟩) (by assumption) ?restu127
  case hyu127 => (intro w hSw; (try dsimp only at hSw); go_simp; (try with_reducible rfl))
  try simp only [Act.put, List.setIfInBounds_toArray, List.set_cons_zero, List.set_cons_succ]
  refine wpAnyH_take (i := 28) (oi := { dst := some 118, op := Op.fieldAddr 27 (Operand.tmp 3) 0, type := 0, pos := "law.go:166", after := #[{ on := 25, ground := Ground.guard }], guard := some (25, false) }) (v := ?vu128) rfl (by kernel_rfl) (by kernel_rfl) (by kernel_rfl) (fun _ _ _ h => h) (Or.inl ⟨by rfl, ?hyu128⟩) (by assumption) ?restu128
  case hyu128 => (intro w hSw; (try dsimp only at hSw); go_simp; (try with_reducible rfl))
  try simp only [Act.put, List.setIfInBounds_toArray, List.set_cons_zero, List.set_cons_succ]
  refine wpAnyH_take (i := 29) (oi := { dst := some 119, op := Op.load 3 (Operand.tmp 118), type := 3, pos := "law.go:166", after := #[{ on := 28, ground := Ground.data }, { on := 25, ground := Ground.guard }], guard := some (25, false) }) (v := ?vu129) rfl (by kernel_rfl) (by kernel_rfl) (by kernel_rfl) (fun _ _ _ h => h) (Or.inl ⟨by rfl, ?hyu129⟩) (by assumption) ?restu129
  case hyu129 => (intro w hSw; (try dsimp only at hSw); go_simp; (try with_reducible rfl))
  try simp only [Act.put, List.setIfInBounds_toArray, List.set_cons_zero, List.set_cons_succ]
  refine wpAnyH_take (i := 30) (oi := { dst := some 120, op := Op.binOp BinOp.neq 3 (Operand.tmp 117) (Operand.tmp 119) 3, type := 4, pos := "law.go:166", after := #[{ on := 27, ground := Ground.data }, { on := 29, ground := Ground.data }, { on := 25, ground := Ground.guard }], guard := some (25, false) }) (v := ?vu130) rfl (by kernel_rfl) (by kernel_rfl) (by kernel_rfl) (fun _ _ _ h => h) (Or.inl ⟨by rfl, ?hyu130⟩) (by assumption) ?restu130
  case hyu130 => (intro w hSw; (try dsimp only at hSw); go_simp; (try with_reducible rfl))
  try simp only [Act.put, List.setIfInBounds_toArray, List.set_cons_zero, List.set_cons_succ]
  refine wpAnyH_take (i := 31) (oi := { dst := some 121, op := Op.pick (Operand.tmp 115) (Operand.const (Value.bool true)) (Operand.tmp 120), type := 4, pos := "law.go:166", after := #[{ on := 25, ground := Ground.data }, { on := 30, ground := Ground.data }, { on := 12, ground := Ground.guard }], guard := some (12, true) }) (v := ?vu131) rfl (by kernel_rfl) (by kernel_rfl) (by kernel_rfl) (fun _ _ _ h => h) (Or.inl ⟨by rfl, ?hyu131⟩) (by assumption) ?restu131
  case hyu131 => (intro w hSw; (try dsimp only at hSw); go_simp; (try with_reducible rfl))
  try simp only [Act.put, List.setIfInBounds_toArray, List.set_cons_zero, List.set_cons_succ]
  refine wpAnyH_take (i := 32) (oi := { dst := some 122, op := Op.binOp BinOp.eql 4 (Operand.tmp 106) (Operand.tmp 121) 4, type := 4, pos := "law.go:166", after := #[{ on := 16, ground := Ground.data }, { on := 31, ground := Ground.data }, { on := 12, ground := Ground.guard }], guard := some (12, true) }) (v := ?vu132) rfl (by kernel_rfl) (by kernel_rfl) (by kernel_rfl) (fun _ _ _ h => h) (Or.inl ⟨by rfl, ?hyu132⟩) (by assumption) ?restu132
  case hyu132 => (intro w hSw; (try dsimp only at hSw); go_simp; (try with_reducible rfl))
  try simp only [Act.put, List.setIfInBounds_toArray, List.set_cons_zero, List.set_cons_succ]
  refine wpAnyH_take (i := 33) (oi := { dst := some 123, op := Op.pick (Operand.tmp 102) (Operand.tmp 122) (Operand.const (Value.bool false)), type := 4, pos := "law.go:166", after := #[{ on := 12, ground := Ground.data }, { on := 32, ground := Ground.data }], guard := none }) (v := ?vu133) rfl (by kernel_rfl) (by kernel_rfl) (by kernel_rfl) (fun _ _ _ h => h) (Or.inl ⟨by rfl, ?hyu133⟩) (by assumption) ?restu133
  case hyu133 => (intro w hSw; (try dsimp only at hSw); go_simp; (try with_reducible rfl))
  try simp only [Act.put, List.setIfInBounds_toArray, List.set_cons_zero, List.set_cons_succ]
  refine wpAnyH_take (i := 34) (oi := { dst := some 124, op := Op.move (Operand.tmp 123), type := 4, pos := "law.go:166", after := #[{ on := 33, ground := Ground.data }, { on := 25, ground := Ground.chain }], guard := none }) (v := ?vu134) rfl (by kernel_rfl) (by kernel_rfl) (by kernel_rfl) (fun _ _ _ h => h) (Or.inl ⟨by rfl, ?hyu134⟩) (by assumption) ?restu134
  case hyu134 => (intro w hSw; (try dsimp only at hSw); go_simp; (try with_reducible rfl))
  try simp only [Act.put, List.setIfInBounds_toArray, List.set_cons_zero, List.set_cons_succ]
  refine wpAnyH_ready (rs := [35]) (by kernel_rfl) (by simp) ?_
  refine AllReadyH.cons (o := { dst := some 125, op := Op.call { callee := Callee.value (Operand.func 7), args := #[], argTypes := #[] }, type := 4, pos := "law.go:166", after := #[{ on := 34, ground := Ground.chain }, { on := 34, ground := Ground.guard }], guard := some (34, true) }) rfl (fun K hK => ?_) AllReadyH.nil
  go_simp
  rw [if_neg (show ¬ V1.s = V2.s by simpa using h12)]
  go_at_call 7
  refine (vawake_any _ (by exact HEnv.out.below (below_step HB.out (by first | exact HW | exact HW.drew)))).mono ?_
  rintro e z5 ⟨rfl, b⟩
  replace HW := below_step (by first | exact HW | exact HW.drew) b
  clear b
  clear p10 p11 p12 p13 p14 p20 p21 p22 p23 p24 pR10 pR11 pR12 pR13 pR14 pR20 pR21 pR22 pR23 pR24
  obtain ⟨p10, p11, p12, p13, p14⟩ := box5 G1.out HW
  obtain ⟨p20, p21, p22, p23, p24⟩ := box5 G2.out HW
  obtain ⟨pR10, pR11, pR12, pR13, pR14⟩ := box5 GR1.out HW
  obtain ⟨pR20, pR21, pR22, pR23, pR24⟩ := box5 GR2.out HW
  refine hK.out _ _ ?_ (fun hHeldB => ?_)
  · (try dsimp only); first | exact ⟨p10, p11, p12, p13, p14, p20, p21, p22, p23, p24, pR10, pR11, pR12, pR13, pR14, pR20, pR21, pR22, pR23, pR24⟩ | go_keep
  clear hK K hHeld
  have hHeld := hHeldB
  clear hHeldB
  try simp only [Act.put, List.setIfInBounds_toArray, List.set_cons_zero, List.set_cons_succ]
  refine wpAnyH_take (i := 36) (oi := { dst := some 126, op := Op.pick (Operand.tmp 124) (Operand.tmp 125) (Operand.const (Value.bool false)), type := 4, pos := "law.go:166", after := #[{ on := 34, ground := Ground.data }, { on := 35, ground := Ground.data }], guard := none }) (v := ?vu135) rfl (by kernel_rfl) (by kernel_rfl) (by kernel_rfl) (fun _ _ _ h => h) (Or.inl ⟨by rfl, ?hyu135⟩) (by assumption) ?restu135
  case hyu135 => (intro w hSw; (try dsimp only at hSw); go_simp; (try with_reducible rfl))
  try simp only [Act.put, List.setIfInBounds_toArray, List.set_cons_zero, List.set_cons_succ]
  refine wpAnyH_take (i := 37) (oi := { dst := some 4, op := Op.assign (Operand.tmp 126), type := 4, pos := "law.go:166", after := #[{ on := 36, ground := Ground.data }, { on := 35, ground := Ground.chain }, { on := 0, ground := Ground.phase }, { on := 1, ground := Ground.phase }, { on := 2, ground := Ground.phase }, { on := 3, ground := Ground.phase }, { on := 4, ground := Ground.phase }, { on := 5, ground := Ground.phase }, { on := 6, ground := Ground.phase }, { on := 7, ground := Ground.phase }, { on := 8, ground := Ground.phase }, { on := 9, ground := Ground.phase }, { on := 10, ground := Ground.phase }, { on := 11, ground := Ground.phase }, { on := 12, ground := Ground.phase }, { on := 13, ground := Ground.phase }, { on := 14, ground := Ground.phase }, { on := 15, ground := Ground.phase }, { on := 16, ground := Ground.phase }, { on := 17, ground := Ground.phase }, { on := 18, ground := Ground.phase }, { on := 19, ground := Ground.phase }, { on := 20, ground := Ground.phase }, { on := 21, ground := Ground.phase }, { on := 22, ground := Ground.phase }, { on := 23, ground := Ground.phase }, { on := 24, ground := Ground.phase }, { on := 25, ground := Ground.phase }, { on := 26, ground := Ground.phase }, { on := 27, ground := Ground.phase }, { on := 28, ground := Ground.phase }, { on := 29, ground := Ground.phase }, { on := 30, ground := Ground.phase }, { on := 31, ground := Ground.phase }, { on := 32, ground := Ground.phase }, { on := 33, ground := Ground.phase }, { on := 34, ground := Ground.phase }, { on := 35, ground := Ground.phase }, { on := 36, ground := Ground.phase }], guard := none }) (v := ?vu136) rfl (by kernel_rfl) (by kernel_rfl) (by kernel_rfl) (fun _ _ _ h => h) (Or.inl ⟨by rfl, ?hyu136⟩) (by assumption) ?restu136
  case hyu136 => (intro w hSw; (try dsimp only at hSw); go_simp; (try with_reducible rfl))
  try simp only [Act.put, List.setIfInBounds_toArray, List.set_cons_zero, List.set_cons_succ]
  refine wpAnyH_done (by kernel_rfl) ?_ _
  go_wp2
  go_ret
  have hb : (V1.s != V2.s) = true := by simp [bne, h12]
  rw [hb]
  exact ⟨rfl, below_step HB.out HW⟩
set_option maxHeartbeats 32000000 in
theorem mix_ok (w : World) (v1 v2 : Value) (V1 V2 : Vl) (h1 : VIn w v1 V1) (h2 : VIn w v2 V2) (henv : Env w) (hsm : V1.n ≤ 60 ∧ V2.n ≤ 60) (m1 : mayV V1 = 0) (m2 : mayV V2 = 0) (es2 : V2.s = V1.s) : Calls Tryd.prog 5 #[v1, v2] w fun e w' => e = .returned (.bool true) ∧ Below w.heap.size w w' := by
  have hsf := st_flo
  have HEnv : Hid (Env w) := henv
  clear henv
  have SM : Hid (V1.n ≤ 60 ∧ V2.n ≤ 60) := hsm
  have SN : Hid (V1.n ≤ 60 ∧ V2.n ≤ 60) := hsm
  clear hsm
  have M1 : Hid (mayV V1 = 0) := m1
  have M2 : Hid (mayV V2 = 0) := m2
  have F2 : Hid (V2.s = V1.s) := es2
  have SH1 : Hid (V1.s = 1 ∨ V1.s = 3 → Short 60 (denV V1)) := fun hs => den_short h1 SM.out.1 hs
  have SH2 : Hid (V1.s = 1 ∨ V1.s = 3 → Short 60 (denV V2)) := fun hs => den_short h2 SM.out.2 (es2 ▸ hs)
  clear m1 m2
  have H1' := h1
  obtain ⟨a1, c1, rfl, hr1, hL1, hn1, hx1, hl1, hs1⟩ := h1
  have H2' := h2
  obtain ⟨a2, c2, rfl, hr2, hL2, hn2, hx2, hl2, hs2⟩ := h2
  rw [es2] at H2' ⊢
  obtain ⟨W0, hW0⟩ : ∃ W0, W0 = (((w.alloc (.cells #[.int .i64 V1.s, .bool V1.i, .slice a1 V1.n c1, .int .i64 V1.l, .float .f64 V1.x] 27)).alloc (.cells #[.int .i64 V1.s, .bool V2.i, .slice a2 V2.n c2, .int .i64 V2.l, .float .f64 V2.x] 27)).alloc (.cells #[.int .i64 V1.s, .bool V1.i, .slice a1 V1.n c1, .int .i64 V1.l, .float .f64 V1.x, .int .i64 V1.s, .bool V2.i, .slice a2 V2.n c2, .int .i64 V2.l, .float .f64 V2.x] 27)) := ⟨_, rfl⟩
  have HB0 : Hid (Below w.heap.size w W0) := by rw [hW0]; exact below3 w _ _ _
  have Hg1 : Hid (W0.heap[w.heap.size]? = some (.cells #[.int .i64 V1.s, .bool V1.i, .slice a1 V1.n c1, .int .i64 V1.l, .float .f64 V1.x] 27)) := by
    show W0.heap[w.heap.size]? = _
    rw [hW0]; exact heap_at3_0 w _ _ _
  have Hg2 : Hid (W0.heap[w.heap.size + 1]? = some (.cells #[.int .i64 V1.s, .bool V2.i, .slice a2 V2.n c2, .int .i64 V2.l, .float .f64 V2.x] 27)) := by
    show W0.heap[w.heap.size + 1]? = _
    rw [hW0]; exact heap_at3_1 w _ _ _
  have Hg3 : Hid (W0.heap[w.heap.size + 1 + 1]? = some (.cells #[.int .i64 V1.s, .bool V1.i, .slice a1 V1.n c1, .int .i64 V1.l, .float .f64 V1.x, .int .i64 V1.s, .bool V2.i, .slice a2 V2.n c2, .int .i64 V2.l, .float .f64 V2.x] 27)) := by
    show W0.heap[w.heap.size + 1 + 1]? = _
    rw [hW0]; exact heap_at3_2 w _ _ _
  have H1 : Hid (VIn W0 (.agg #[.int .i64 V1.s, .bool V1.i, .slice a1 V1.n c1, .int .i64 V1.l, .float .f64 V1.x]) V1) := H1'.below HB0.out
  have H2 : Hid (VIn W0 (.agg #[.int .i64 V1.s, .bool V2.i, .slice a2 V2.n c2, .int .i64 V2.l, .float .f64 V2.x]) V2) := H2'.below HB0.out
  have HW : Below W0.heap.size W0 W0 := below_refl W0
  clear hr1 hL1 hn1 hx1 hl1 hs1 H1' hr2 hL2 hn2 hx2 hl2 hs2 H2'
  obtain ⟨p10, p11, p12, p13, p14⟩ := box5 Hg1.out HW
  obtain ⟨p20, p21, p22, p23, p24⟩ := box5 Hg2.out HW
  have cS : Calls Tryd.prog 6 #[.slice (some ⟨w.heap.size + 1 + 1, 0, none⟩) 2 2] W0 fun e w' => e = .returned (.bool true) ∧ w' = W0 := by
    refine vsmall_any (w.heap.size + 1 + 1) 2 (fun j => if j = 0 then a1 else a2) (fun j => if j = 0 then V1.n else V2.n) (fun j => if j = 0 then c1 else c2) W0 (by decide) (by decide) true (fun j hj => ?_) (fun h => ?_) (fun j hj h => ?_)
    · rw [cell_of_row W0 _ _ _ _ _ Hg3.out]
      match j, hj with
      | 0, _ => rfl
      | 1, _ => rfl
    · rfl
    · exfalso
      revert h
      have := SM.out
      match j, hj with
      | 0, _ => exact fun h => absurd h (by show ¬ 60 < V1.n; omega)
      | 1, _ => exact fun h => absurd h (by show ¬ 60 < V2.n; omega)
  have I1 := H1
  have G1 := Hg1
  have I2 := H2
  have G2 := Hg2
  have HB := HB0
  clear HW H1 Hg1 p10 p11 p12 p13 p14 H2 Hg2 p20 p21 p22 p23 p24 HB0 SM
  go_enter Tryd.func5, Tryd.ntmps5
  go_wp2_with (go_at_call 6; fail)
  rw [← hW0]
  refine cS.mono ?_
  rintro e w' ⟨rfl, hw⟩
  replace hw := hw.symm
  subst hw
  clear cS hW0 Hg3
  obtain ⟨p10, p11, p12, p13, p14⟩ := box5 G1.out (below_refl _)
  have l1 := blk_lt G1.out
  obtain ⟨p20, p21, p22, p23, p24⟩ := box5 G2.out (below_refl _)
  have l2 := blk_lt G2.out
  go_wp2_with (go_at_call 12; fail)
  refine (vplus_at _ _ _ V1 V2 V1.s (denV V1) (denV V2) (by exact I1.out) (by exact I2.out) M1.out M2.out rfl F2.out rfl rfl).mono ?_
  rintro e w1 ⟨⟨u, rfl, o⟩, b⟩
  replace G1 : Hid (w1.heap[w.heap.size]? = _) := blk_below G1.out b
  replace I1 : Hid (VIn w1 _ _) := I1.out.below b
  replace G2 : Hid (w1.heap[w.heap.size + 1]? = _) := blk_below G2.out b
  replace I2 : Hid (VIn w1 _ _) := I2.out.below b
  replace HB : Hid (Below _ _ w1) := below_step HB.out b
  obtain ⟨V3, i3, m3, e3, d3⟩ := o.ok (fun hs => (padd_short hs (SH1.out hs) (SH2.out hs)).le (by decide))
  have I3 : Hid (VIn w1 _ _) := i3
  obtain ⟨a3, c3, rfl, -⟩ := i3
  have M3 : Hid (mayV V3 = 0) := m3
  have E3 : Hid (V3.s = _) := e3
  have D3 : Hid (denV V3 = _) := d3
  clear m3 e3 d3 o
  clear b
  rw [E3.out] at I3 ⊢
  clear p10 p11 p12 p13 p14 l1 p20 p21 p22 p23 p24 l2
  obtain ⟨p10, p11, p12, p13, p14⟩ := box5 G1.out (below_refl _)
  have l1 := blk_lt G1.out
  obtain ⟨p20, p21, p22, p23, p24⟩ := box5 G2.out (below_refl _)
  have l2 := blk_lt G2.out
  go_wp2_with (go_at_call 11; fail)
  obtain ⟨W1, hW⟩ : ∃ W1, W1 = w1.alloc (.cells #[.int .i64 V1.s, .bool V3.i, .slice a3 V3.n c3, .int .i64 V3.l, .float .f64 V3.x] 27) := ⟨_, rfl⟩
  rw [← hW]
  have hb : Below w1.heap.size w1 W1 := by rw [hW]; exact below1 _ _
  replace G1 : Hid (W1.heap[w.heap.size]? = _) := blk_below G1.out hb
  replace I1 : Hid (VIn W1 _ _) := I1.out.below hb
  replace G2 : Hid (W1.heap[w.heap.size + 1]? = _) := blk_below G2.out hb
  replace I2 : Hid (VIn W1 _ _) := I2.out.below hb
  replace HB : Hid (Below _ _ W1) := below_step HB.out hb
  have G3 : Hid (W1.heap[w1.heap.size]? = some (.cells #[.int .i64 V1.s, .bool V3.i, .slice a3 V3.n c3, .int .i64 V3.l, .float .f64 V3.x] 27)) := by show W1.heap[w1.heap.size]? = _; rw [hW]; exact heap_alloc_new _ _
  replace I3 : Hid (VIn W1 _ _) := I3.out.below hb
  clear hb hW
  refine (vtimes_at _ _ _ V1 V2 V1.s (denV V1) (denV V2) (by exact I1.out) (by exact I2.out) M1.out M2.out rfl F2.out rfl rfl).mono ?_
  rintro e w2 ⟨⟨u, rfl, o⟩, b⟩
  replace G1 : Hid (w2.heap[w.heap.size]? = _) := blk_below G1.out b
  replace I1 : Hid (VIn w2 _ _) := I1.out.below b
  replace G2 : Hid (w2.heap[w.heap.size + 1]? = _) := blk_below G2.out b
  replace I2 : Hid (VIn w2 _ _) := I2.out.below b
  replace G3 : Hid (w2.heap[w1.heap.size]? = _) := blk_below G3.out b
  replace I3 : Hid (VIn w2 _ _) := I3.out.below b
  replace HB : Hid (Below _ _ w2) := below_step HB.out b
  obtain ⟨V4, i4, m4, e4, d4⟩ := o.ok (fun hs => (pmul_short hs (SH1.out hs) (SH2.out hs)).le (by decide))
  have I4 : Hid (VIn w2 _ _) := i4
  obtain ⟨a4, c4, rfl, -⟩ := i4
  have M4 : Hid (mayV V4 = 0) := m4
  have E4 : Hid (V4.s = _) := e4
  have D4 : Hid (denV V4 = _) := d4
  clear m4 e4 d4 o
  clear b
  rw [E4.out] at I4 ⊢
  clear p10 p11 p12 p13 p14 l1 p20 p21 p22 p23 p24 l2
  obtain ⟨p10, p11, p12, p13, p14⟩ := box5 G1.out (below_refl _)
  have l1 := blk_lt G1.out
  obtain ⟨p20, p21, p22, p23, p24⟩ := box5 G2.out (below_refl _)
  have l2 := blk_lt G2.out
  obtain ⟨p30, p31, p32, p33, p34⟩ := box5 G3.out (below_refl _)
  have l3 := blk_lt G3.out
  go_wp2_with (go_at_call 14; fail)
  obtain ⟨W2, hW⟩ : ∃ W2, W2 = w2.alloc (.cells #[.int .i64 V1.s, .bool V4.i, .slice a4 V4.n c4, .int .i64 V4.l, .float .f64 V4.x] 27) := ⟨_, rfl⟩
  rw [← hW]
  have hb : Below w2.heap.size w2 W2 := by rw [hW]; exact below1 _ _
  replace G1 : Hid (W2.heap[w.heap.size]? = _) := blk_below G1.out hb
  replace I1 : Hid (VIn W2 _ _) := I1.out.below hb
  replace G2 : Hid (W2.heap[w.heap.size + 1]? = _) := blk_below G2.out hb
  replace I2 : Hid (VIn W2 _ _) := I2.out.below hb
  replace G3 : Hid (W2.heap[w1.heap.size]? = _) := blk_below G3.out hb
  replace I3 : Hid (VIn W2 _ _) := I3.out.below hb
  replace HB : Hid (Below _ _ W2) := below_step HB.out hb
  have G4 : Hid (W2.heap[w2.heap.size]? = some (.cells #[.int .i64 V1.s, .bool V4.i, .slice a4 V4.n c4, .int .i64 V4.l, .float .f64 V4.x] 27)) := by show W2.heap[w2.heap.size]? = _; rw [hW]; exact heap_alloc_new _ _
  replace I4 : Hid (VIn W2 _ _) := I4.out.below hb
  clear hb hW
  refine (better_ok _ _ _ V1 V2 (by exact I1.out) (by exact I2.out) 60 (by decide) SN.out.1 SN.out.2 (ok_err M1.out M2.out F2.out.symm)).mono ?_
  rintro e w3 ⟨rfl, b⟩
  replace G1 : Hid (w3.heap[w.heap.size]? = _) := blk_below G1.out b
  replace I1 : Hid (VIn w3 _ _) := I1.out.below b
  replace G2 : Hid (w3.heap[w.heap.size + 1]? = _) := blk_below G2.out b
  replace I2 : Hid (VIn w3 _ _) := I2.out.below b
  replace G3 : Hid (w3.heap[w1.heap.size]? = _) := blk_below G3.out b
  replace I3 : Hid (VIn w3 _ _) := I3.out.below b
  replace G4 : Hid (w3.heap[w2.heap.size]? = _) := blk_below G4.out b
  replace I4 : Hid (VIn w3 _ _) := I4.out.below b
  replace HB : Hid (Below _ _ w3) := below_step HB.out b
  clear b
  clear p10 p11 p12 p13 p14 l1 p20 p21 p22 p23 p24 l2 p30 p31 p32 p33 p34 l3
  obtain ⟨p10, p11, p12, p13, p14⟩ := box5 G1.out (below_refl _)
  have l1 := blk_lt G1.out
  obtain ⟨p20, p21, p22, p23, p24⟩ := box5 G2.out (below_refl _)
  have l2 := blk_lt G2.out
  obtain ⟨p30, p31, p32, p33, p34⟩ := box5 G3.out (below_refl _)
  have l3 := blk_lt G3.out
  obtain ⟨p40, p41, p42, p43, p44⟩ := box5 G4.out (below_refl _)
  have l4 := blk_lt G4.out
  go_wp2_with (go_at_call 15; fail)
  refine (vmay_at _ _ V1 0 (by exact I1.out) M1.out).mono ?_
  rintro e w4 ⟨rfl, b⟩
  replace G1 : Hid (w4.heap[w.heap.size]? = _) := blk_below G1.out b
  replace I1 : Hid (VIn w4 _ _) := I1.out.below b
  replace G2 : Hid (w4.heap[w.heap.size + 1]? = _) := blk_below G2.out b
  replace I2 : Hid (VIn w4 _ _) := I2.out.below b
  replace G3 : Hid (w4.heap[w1.heap.size]? = _) := blk_below G3.out b
  replace I3 : Hid (VIn w4 _ _) := I3.out.below b
  replace G4 : Hid (w4.heap[w2.heap.size]? = _) := blk_below G4.out b
  replace I4 : Hid (VIn w4 _ _) := I4.out.below b
  replace HB : Hid (Below _ _ w4) := below_step HB.out b
  clear b
  clear p10 p11 p12 p13 p14 l1 p20 p21 p22 p23 p24 l2 p30 p31 p32 p33 p34 l3 p40 p41 p42 p43 p44 l4
  obtain ⟨p10, p11, p12, p13, p14⟩ := box5 G1.out (below_refl _)
  have l1 := blk_lt G1.out
  obtain ⟨p20, p21, p22, p23, p24⟩ := box5 G2.out (below_refl _)
  have l2 := blk_lt G2.out
  obtain ⟨p30, p31, p32, p33, p34⟩ := box5 G3.out (below_refl _)
  have l3 := blk_lt G3.out
  obtain ⟨p40, p41, p42, p43, p44⟩ := box5 G4.out (below_refl _)
  have l4 := blk_lt G4.out
  go_wp2_with (go_at_call 15; fail)
  refine (vmay_at _ _ V2 0 (by exact I2.out) M2.out).mono ?_
  rintro e w5 ⟨rfl, b⟩
  replace G1 : Hid (w5.heap[w.heap.size]? = _) := blk_below G1.out b
  replace I1 : Hid (VIn w5 _ _) := I1.out.below b
  replace G2 : Hid (w5.heap[w.heap.size + 1]? = _) := blk_below G2.out b
  replace I2 : Hid (VIn w5 _ _) := I2.out.below b
  replace G3 : Hid (w5.heap[w1.heap.size]? = _) := blk_below G3.out b
  replace I3 : Hid (VIn w5 _ _) := I3.out.below b
  replace G4 : Hid (w5.heap[w2.heap.size]? = _) := blk_below G4.out b
  replace I4 : Hid (VIn w5 _ _) := I4.out.below b
  replace HB : Hid (Below _ _ w5) := below_step HB.out b
  clear b
  clear p10 p11 p12 p13 p14 l1 p20 p21 p22 p23 p24 l2 p30 p31 p32 p33 p34 l3 p40 p41 p42 p43 p44 l4
  obtain ⟨p10, p11, p12, p13, p14⟩ := box5 G1.out (below_refl _)
  have l1 := blk_lt G1.out
  obtain ⟨p20, p21, p22, p23, p24⟩ := box5 G2.out (below_refl _)
  have l2 := blk_lt G2.out
  obtain ⟨p30, p31, p32, p33, p34⟩ := box5 G3.out (below_refl _)
  have l3 := blk_lt G3.out
  obtain ⟨p40, p41, p42, p43, p44⟩ := box5 G4.out (below_refl _)
  have l4 := blk_lt G4.out
  go_wp2_with (go_at_call 15; fail)
  refine (vmay_at _ _ V3 0 (by exact I3.out) M3.out).mono ?_
  rintro e w6 ⟨rfl, b⟩
  replace G1 : Hid (w6.heap[w.heap.size]? = _) := blk_below G1.out b
  replace I1 : Hid (VIn w6 _ _) := I1.out.below b
  replace G2 : Hid (w6.heap[w.heap.size + 1]? = _) := blk_below G2.out b
  replace I2 : Hid (VIn w6 _ _) := I2.out.below b
  replace G3 : Hid (w6.heap[w1.heap.size]? = _) := blk_below G3.out b
  replace I3 : Hid (VIn w6 _ _) := I3.out.below b
  replace G4 : Hid (w6.heap[w2.heap.size]? = _) := blk_below G4.out b
  replace I4 : Hid (VIn w6 _ _) := I4.out.below b
  replace HB : Hid (Below _ _ w6) := below_step HB.out b
  clear b
  clear p10 p11 p12 p13 p14 l1 p20 p21 p22 p23 p24 l2 p30 p31 p32 p33 p34 l3 p40 p41 p42 p43 p44 l4
  obtain ⟨p10, p11, p12, p13, p14⟩ := box5 G1.out (below_refl _)
  have l1 := blk_lt G1.out
  obtain ⟨p20, p21, p22, p23, p24⟩ := box5 G2.out (below_refl _)
  have l2 := blk_lt G2.out
  obtain ⟨p30, p31, p32, p33, p34⟩ := box5 G3.out (below_refl _)
  have l3 := blk_lt G3.out
  obtain ⟨p40, p41, p42, p43, p44⟩ := box5 G4.out (below_refl _)
  have l4 := blk_lt G4.out
  go_wp2_with (go_at_call 15; fail)
  refine (vmay_at _ _ V4 0 (by exact I4.out) M4.out).mono ?_
  rintro e w7 ⟨rfl, b⟩
  replace G1 : Hid (w7.heap[w.heap.size]? = _) := blk_below G1.out b
  replace I1 : Hid (VIn w7 _ _) := I1.out.below b
  replace G2 : Hid (w7.heap[w.heap.size + 1]? = _) := blk_below G2.out b
  replace I2 : Hid (VIn w7 _ _) := I2.out.below b
  replace G3 : Hid (w7.heap[w1.heap.size]? = _) := blk_below G3.out b
  replace I3 : Hid (VIn w7 _ _) := I3.out.below b
  replace G4 : Hid (w7.heap[w2.heap.size]? = _) := blk_below G4.out b
  replace I4 : Hid (VIn w7 _ _) := I4.out.below b
  replace HB : Hid (Below _ _ w7) := below_step HB.out b
  clear b
  clear p10 p11 p12 p13 p14 l1 p20 p21 p22 p23 p24 l2 p30 p31 p32 p33 p34 l3 p40 p41 p42 p43 p44 l4
  obtain ⟨p10, p11, p12, p13, p14⟩ := box5 G1.out (below_refl _)
  have l1 := blk_lt G1.out
  obtain ⟨p20, p21, p22, p23, p24⟩ := box5 G2.out (below_refl _)
  have l2 := blk_lt G2.out
  obtain ⟨p30, p31, p32, p33, p34⟩ := box5 G3.out (below_refl _)
  have l3 := blk_lt G3.out
  obtain ⟨p40, p41, p42, p43, p44⟩ := box5 G4.out (below_refl _)
  have l4 := blk_lt G4.out
  go_wp2_with (go_at_call 7; fail)
  refine (vawake_any _ (by exact HEnv.out.below HB.out)).mono ?_
  rintro e w8 ⟨rfl, b⟩
  replace G1 : Hid (w8.heap[w.heap.size]? = _) := blk_below G1.out b
  replace I1 : Hid (VIn w8 _ _) := I1.out.below b
  replace G2 : Hid (w8.heap[w.heap.size + 1]? = _) := blk_below G2.out b
  replace I2 : Hid (VIn w8 _ _) := I2.out.below b
  replace G3 : Hid (w8.heap[w1.heap.size]? = _) := blk_below G3.out b
  replace I3 : Hid (VIn w8 _ _) := I3.out.below b
  replace G4 : Hid (w8.heap[w2.heap.size]? = _) := blk_below G4.out b
  replace I4 : Hid (VIn w8 _ _) := I4.out.below b
  replace HB : Hid (Below _ _ w8) := below_step HB.out b
  clear b
  clear p10 p11 p12 p13 p14 l1 p20 p21 p22 p23 p24 l2 p30 p31 p32 p33 p34 l3 p40 p41 p42 p43 p44 l4
  obtain ⟨p10, p11, p12, p13, p14⟩ := box5 G1.out (below_refl _)
  have l1 := blk_lt G1.out
  obtain ⟨p20, p21, p22, p23, p24⟩ := box5 G2.out (below_refl _)
  have l2 := blk_lt G2.out
  obtain ⟨p30, p31, p32, p33, p34⟩ := box5 G3.out (below_refl _)
  have l3 := blk_lt G3.out
  obtain ⟨p40, p41, p42, p43, p44⟩ := box5 G4.out (below_refl _)
  have l4 := blk_lt G4.out
  go_wp2
  go_ret
  exact ⟨rfl, HB.out⟩
theorem mixed_all (s1 : Int) (i1 : Bool) (a1 : Option Addr) (n1 c1 : Nat) (L1 : Nat → Nat) (l1 : Int) (x1 : Nat) (s2 : Int) (i2 : Bool) (a2 : Option Addr) (n2 c2 : Nat) (L2 : Nat → Nat) (l2 : Int) (x2 : Nat) (w : World) (henv : Env w)
    (hR1 : Rd w a1 n1 c1 (u32s L1)) (hL1 : ∀ j, L1 j < 4294967296) (hx1 : x1 < 18446744073709551616) (hl1 : -9223372036854775808 ≤ l1 ∧ l1 ≤ 9223372036854775807) (hs1 : -9223372036854775808 ≤ s1 ∧ s1 ≤ 9223372036854775807)
    (hR2 : Rd w a2 n2 c2 (u32s L2)) (hL2 : ∀ j, L2 j < 4294967296) (hx2 : x2 < 18446744073709551616) (hl2 : -9223372036854775808 ≤ l2 ∧ l2 ≤ 9223372036854775807) (hs2 : -9223372036854775808 ≤ s2 ∧ s2 ≤ 9223372036854775807) :
    Calls Tryd.prog 5 #[.agg #[.int .i64 s1, .bool i1, .slice a1 n1 c1, .int .i64 l1, .float .f64 x1], .agg #[.int .i64 s2, .bool i2, .slice a2 n2 c2, .int .i64 l2, .float .f64 x2]] w fun e w' => e = .returned (.bool true) ∧ Below w.heap.size w w' := by
  by_cases hn : n1 ≤ 60 ∧ n2 ≤ 60
  · have h1 : VIn w (.agg #[.int .i64 s1, .bool i1, .slice a1 n1 c1, .int .i64 l1, .float .f64 x1]) ⟨s1, i1, n1, L1, l1, x1⟩ := ⟨a1, c1, rfl, hR1, hL1, by show n1 ≤ 10000; omega, hx1, hl1, hs1⟩
    have h2 : VIn w (.agg #[.int .i64 s2, .bool i2, .slice a2 n2 c2, .int .i64 l2, .float .f64 x2]) ⟨s2, i2, n2, L2, l2, x2⟩ := ⟨a2, c2, rfl, hR2, hL2, by show n2 ≤ 10000; omega, hx2, hl2, hs2⟩
    revert h1 h2
    generalize eV1 : (⟨s1, i1, n1, L1, l1, x1⟩ : Vl) = V1
    generalize eV2 : (⟨s2, i2, n2, L2, l2, x2⟩ : Vl) = V2
    have hm : V1.n ≤ 60 ∧ V2.n ≤ 60 := by subst eV1 eV2; exact hn
    intro h1 h2
    rcases mayV_cases V1 with m1 | m1 | m1
    · rcases mayV_cases V2 with m2 | m2 | m2
      · by_cases es : V1.s = V2.s
        · exact mix_ok w _ _ V1 V2 h1 h2 henv hm m1 m2 es.symm
        · have e : errV V1 V2 = 9 := by unfold errV; rw [if_neg (by rw [m1]; decide), if_neg (by rw [m2]; decide), if_pos es]
          exact mix_c w _ _ V1 V2 h1 h2 henv hm e (by rw [e]; decide) m1 m2 (by simpa using es)
      · have e : errV V1 V2 = 9 := by unfold errV; rw [if_neg (by rw [m1]; decide), if_pos (by rw [m2]; decide), m2]
        exact mix_b9 w _ _ V1 V2 h1 h2 henv hm e (by rw [e]; decide) m1 m2
      · have e : errV V1 V2 = 16 := by unfold errV; rw [if_neg (by rw [m1]; decide), if_pos (by rw [m2]; decide), m2]
        exact mix_b16 w _ _ V1 V2 h1 h2 henv hm e (by rw [e]; decide) m1 m2
    · have e : errV V1 V2 = 9 := by unfold errV; rw [if_pos (by rw [m1]; decide), m1]
      exact mix_a9 w _ _ V1 V2 h1 h2 henv hm e (by rw [e]; decide) m1
    · have e : errV V1 V2 = 16 := by unfold errV; rw [if_pos (by rw [m1]; decide), m1]
      exact mix_a16 w _ _ V1 V2 h1 h2 henv hm e (by rw [e]; decide) m1
  · exact mix_big w ⟨s1, i1, n1, L1, l1, x1⟩ ⟨s2, i2, n2, L2, l2, x2⟩ a1 a2 c1 c2 henv hn
end Go.Proofs.YtjdbapkmaggllaaDoor
