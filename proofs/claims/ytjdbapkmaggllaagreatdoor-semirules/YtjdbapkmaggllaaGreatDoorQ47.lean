/- What SemiRules leans on: its functions plus and times, the laws' exact. -/
import Derived.Test.YtjdbapkmaggllaaGreatDoorQ45
import Derived.Test.YtjdbapkmaggllaaGreatDoorQ46
namespace Go.Proofs.YtjdbapkmaggllaaGreatDoor
open Go.RowKit Fo
set_option maxRecDepth 100000

theorem cplus0 (w : World) (v1 v2 : Value) (V1 V2 : Vl) (h1 : VIn w v1 V1) (h2 : VIn w v2 V2) (m1 : mayV V1 = 0) (m2 : mayV V2 = 0) (es : V2.s = V1.s) : Calls Tryz.prog 28 #[v1, v2] w fun e w' => (∃ u, e = .returned u ∧ VOut w' u V1.s (padd V1.s (denV V1) (denV V2))) ∧ Below w.heap.size w w' := by
  have H1' := h1
  obtain ⟨a1, c1, rfl, hr1, hL1, hn1, hx1, hl1, hs1⟩ := h1
  have H2' := h2
  obtain ⟨a2, c2, rfl, hr2, hL2, hn2, hx2, hl2, hs2⟩ := h2
  obtain ⟨W0, hW0⟩ : ∃ W0, W0 = (((w.alloc (.cells #[.int .i64 V1.s, .bool V1.i, .slice a1 V1.n c1, .int .i64 V1.l, .float .f64 V1.x] 27)).alloc (.cells #[.int .i64 V2.s, .bool V2.i, .slice a2 V2.n c2, .int .i64 V2.l, .float .f64 V2.x] 27)).alloc (.cells #[.int .i64 0, .bool false, .slice none 0 0, .int .i64 0, .float .f64 0] 27)) := ⟨_, rfl⟩
  have HB0 : Hid (Below w.heap.size w W0) := by rw [hW0]; exact below3 w _ _ _
  have Hg1 : Hid (W0.heap[w.heap.size]? = some (.cells #[.int .i64 V1.s, .bool V1.i, .slice a1 V1.n c1, .int .i64 V1.l, .float .f64 V1.x] 27)) := by
    show W0.heap[w.heap.size]? = _
    rw [hW0]; exact heap_at3_0 w _ _ _
  have Hg2 : Hid (W0.heap[w.heap.size + 1]? = some (.cells #[.int .i64 V2.s, .bool V2.i, .slice a2 V2.n c2, .int .i64 V2.l, .float .f64 V2.x] 27)) := by
    show W0.heap[w.heap.size + 1]? = _
    rw [hW0]; exact heap_at3_1 w _ _ _
  have Hg3 : Hid (W0.heap[w.heap.size + 1 + 1]? = some (.cells #[.int .i64 0, .bool false, .slice none 0 0, .int .i64 0, .float .f64 0] 27)) := by
    show W0.heap[w.heap.size + 1 + 1]? = _
    rw [hW0]; exact heap_at3_2 w _ _ _
  have H1 : Hid (VIn W0 (.agg #[.int .i64 V1.s, .bool V1.i, .slice a1 V1.n c1, .int .i64 V1.l, .float .f64 V1.x]) V1) := H1'.below HB0.out
  have H2 : Hid (VIn W0 (.agg #[.int .i64 V2.s, .bool V2.i, .slice a2 V2.n c2, .int .i64 V2.l, .float .f64 V2.x]) V2) := H2'.below HB0.out
  have HW : Below W0.heap.size W0 W0 := below_refl W0
  clear hr1 hL1 hn1 hx1 hl1 hs1 H1' hr2 hL2 hn2 hx2 hl2 hs2 H2'
  obtain ⟨p10, p11, p12, p13, p14⟩ := box5 Hg1.out HW
  obtain ⟨p20, p21, p22, p23, p24⟩ := box5 Hg2.out HW
  have hsf := st_flo
  have SZ : Hid (w.heap.size + 1 + 1 < W0.heap.size) := by show w.heap.size + 1 + 1 < W0.heap.size; rw [hW0]; simp
  have M1 : Hid (mayV V1 = 0) := m1
  have M2 : Hid (mayV V2 = 0) := m2
  have ES : Hid (V2.s = V1.s) := es
  clear m1 m2 es
  go_enter Tryz.func28, Tryz.ntmps28
  go_wp2_with (go_at_call 12; fail)
  rw [← hW0]
  clear hW0
  refine (vplus_at _ _ _ V1 V2 V1.s (denV V1) (denV V2) (by exact H1.out.below HW) (by exact H2.out.below HW) M1.out M2.out rfl ES.out rfl rfl).mono ?_
  rintro e w1 ⟨⟨u, rfl, o⟩, b⟩
  replace HW := below_step HW b
  clear b
  clear p10 p11 p12 p13 p14 p20 p21 p22 p23 p24; obtain ⟨p10, p11, p12, p13, p14⟩ := box5 Hg1.out HW; obtain ⟨p20, p21, p22, p23, p24⟩ := box5 Hg2.out HW
  obtain ⟨s, i, a, n, c, l, x, rfl⟩ := o.form
  have O : Hid (VOut _ _ _ _) := o
  clear o
  have hlt : w.heap.size + 1 + 1 < w1.heap.size := Nat.lt_of_lt_of_le SZ.out HW.size
  have hgr := (HW.block (w.heap.size + 1 + 1) SZ.out).trans Hg3.out
  obtain ⟨W1, hW1⟩ : ∃ W1, W1 = w1.alloc (.cells #[.int .i64 s, .bool i, .slice a n c, .int .i64 l, .float .f64 x] 27) := ⟨_, rfl⟩
  have b1 : Below w1.heap.size w1 W1 := by rw [hW1]; exact below1 _ _
  have hgr1 := blk_below hgr b1
  have hgv : W1.heap[w1.heap.size]? = some (.cells #[.int .i64 s, .bool i, .slice a n c, .int .i64 l, .float .f64 x] 27) := by rw [hW1]; exact heap_alloc_new _ _
  obtain ⟨⟨z0, z1, z2, z3, z4⟩, ⟨f0, f1, f2, f3, f4⟩, s0, s1, s2, s3, s4⟩ := box5_facts hgr1
  obtain ⟨q0, q1, q2, q3, q4⟩ := box5 hgv (below_refl _)
  have Hgr : Hid (W1.heap[w.heap.size + 1 + 1]? = _) := hgr1
  have O1 : Hid (VOut W1 _ _ _) := O.out.below b1
  have HWW : Hid (Below W0.heap.size W0 W1) := below_step HW b1
  clear hgr hgr1 hgv b1
  go_upto_region 2 with fail
  rw [← hW1]
  clear hW1
  go_wp2
  refine bodyPost_ret (v := .agg #[.int .i64 s, .bool i, .slice a n c, .int .i64 l, .float .f64 x]) (by simp [results, Tryz.results28, go_sem, s0, s1, s2, s3, s4]) rfl ?_
  exact ⟨⟨_, rfl, O1.out.set5 Hgr.out _ _ _ _ _⟩, below_set5 (below_step HB0.out HWW.out) (by omega) _ _ _ _ _⟩
theorem cplus_at (w : World) (v1 v2 : Value) (s : Int) (P Q : Option Nat) (h1 : VOk w v1 s P) (h2 : VOk w v2 s Q) (hp : (s = 1 ∨ s = 3) → Short 10000 (padd s P Q)) :
    Calls Tryz.prog 28 #[v1, v2] w fun e w' => (∃ u, e = .returned u ∧ VOk w' u s (padd s P Q)) ∧ Below w.heap.size w w' := by
  obtain ⟨V1, h1, m1, e1, d1⟩ := h1
  obtain ⟨V2, h2, m2, e2, d2⟩ := h2
  have := cplus0 w v1 v2 V1 V2 h1 h2 m1 m2 (e2.trans e1.symm)
  rw [e1, d1, d2] at this
  exact this.mono fun e w' ⟨⟨u, hu, o⟩, b⟩ => ⟨⟨u, hu, o.ok hp⟩, b⟩
theorem ctimes0 (w : World) (v1 v2 : Value) (V1 V2 : Vl) (h1 : VIn w v1 V1) (h2 : VIn w v2 V2) (m1 : mayV V1 = 0) (m2 : mayV V2 = 0) (es : V2.s = V1.s) : Calls Tryz.prog 29 #[v1, v2] w fun e w' => (∃ u, e = .returned u ∧ VOut w' u V1.s (pmul V1.s (denV V1) (denV V2))) ∧ Below w.heap.size w w' := by
  have H1' := h1
  obtain ⟨a1, c1, rfl, hr1, hL1, hn1, hx1, hl1, hs1⟩ := h1
  have H2' := h2
  obtain ⟨a2, c2, rfl, hr2, hL2, hn2, hx2, hl2, hs2⟩ := h2
  obtain ⟨W0, hW0⟩ : ∃ W0, W0 = (((w.alloc (.cells #[.int .i64 V1.s, .bool V1.i, .slice a1 V1.n c1, .int .i64 V1.l, .float .f64 V1.x] 27)).alloc (.cells #[.int .i64 V2.s, .bool V2.i, .slice a2 V2.n c2, .int .i64 V2.l, .float .f64 V2.x] 27)).alloc (.cells #[.int .i64 0, .bool false, .slice none 0 0, .int .i64 0, .float .f64 0] 27)) := ⟨_, rfl⟩
  have HB0 : Hid (Below w.heap.size w W0) := by rw [hW0]; exact below3 w _ _ _
  have Hg1 : Hid (W0.heap[w.heap.size]? = some (.cells #[.int .i64 V1.s, .bool V1.i, .slice a1 V1.n c1, .int .i64 V1.l, .float .f64 V1.x] 27)) := by
    show W0.heap[w.heap.size]? = _
    rw [hW0]; exact heap_at3_0 w _ _ _
  have Hg2 : Hid (W0.heap[w.heap.size + 1]? = some (.cells #[.int .i64 V2.s, .bool V2.i, .slice a2 V2.n c2, .int .i64 V2.l, .float .f64 V2.x] 27)) := by
    show W0.heap[w.heap.size + 1]? = _
    rw [hW0]; exact heap_at3_1 w _ _ _
  have Hg3 : Hid (W0.heap[w.heap.size + 1 + 1]? = some (.cells #[.int .i64 0, .bool false, .slice none 0 0, .int .i64 0, .float .f64 0] 27)) := by
    show W0.heap[w.heap.size + 1 + 1]? = _
    rw [hW0]; exact heap_at3_2 w _ _ _
  have H1 : Hid (VIn W0 (.agg #[.int .i64 V1.s, .bool V1.i, .slice a1 V1.n c1, .int .i64 V1.l, .float .f64 V1.x]) V1) := H1'.below HB0.out
  have H2 : Hid (VIn W0 (.agg #[.int .i64 V2.s, .bool V2.i, .slice a2 V2.n c2, .int .i64 V2.l, .float .f64 V2.x]) V2) := H2'.below HB0.out
  have HW : Below W0.heap.size W0 W0 := below_refl W0
  clear hr1 hL1 hn1 hx1 hl1 hs1 H1' hr2 hL2 hn2 hx2 hl2 hs2 H2'
  obtain ⟨p10, p11, p12, p13, p14⟩ := box5 Hg1.out HW
  obtain ⟨p20, p21, p22, p23, p24⟩ := box5 Hg2.out HW
  have hsf := st_flo
  have SZ : Hid (w.heap.size + 1 + 1 < W0.heap.size) := by show w.heap.size + 1 + 1 < W0.heap.size; rw [hW0]; simp
  have M1 : Hid (mayV V1 = 0) := m1
  have M2 : Hid (mayV V2 = 0) := m2
  have ES : Hid (V2.s = V1.s) := es
  clear m1 m2 es
  go_enter Tryz.func29, Tryz.ntmps29
  go_wp2_with (go_at_call 14; fail)
  rw [← hW0]
  clear hW0
  refine (vtimes_at _ _ _ V1 V2 V1.s (denV V1) (denV V2) (by exact H1.out.below HW) (by exact H2.out.below HW) M1.out M2.out rfl ES.out rfl rfl).mono ?_
  rintro e w1 ⟨⟨u, rfl, o⟩, b⟩
  replace HW := below_step HW b
  clear b
  clear p10 p11 p12 p13 p14 p20 p21 p22 p23 p24; obtain ⟨p10, p11, p12, p13, p14⟩ := box5 Hg1.out HW; obtain ⟨p20, p21, p22, p23, p24⟩ := box5 Hg2.out HW
  obtain ⟨s, i, a, n, c, l, x, rfl⟩ := o.form
  have O : Hid (VOut _ _ _ _) := o
  clear o
  have hlt : w.heap.size + 1 + 1 < w1.heap.size := Nat.lt_of_lt_of_le SZ.out HW.size
  have hgr := (HW.block (w.heap.size + 1 + 1) SZ.out).trans Hg3.out
  obtain ⟨W1, hW1⟩ : ∃ W1, W1 = w1.alloc (.cells #[.int .i64 s, .bool i, .slice a n c, .int .i64 l, .float .f64 x] 27) := ⟨_, rfl⟩
  have b1 : Below w1.heap.size w1 W1 := by rw [hW1]; exact below1 _ _
  have hgr1 := blk_below hgr b1
  have hgv : W1.heap[w1.heap.size]? = some (.cells #[.int .i64 s, .bool i, .slice a n c, .int .i64 l, .float .f64 x] 27) := by rw [hW1]; exact heap_alloc_new _ _
  obtain ⟨⟨z0, z1, z2, z3, z4⟩, ⟨f0, f1, f2, f3, f4⟩, s0, s1, s2, s3, s4⟩ := box5_facts hgr1
  obtain ⟨q0, q1, q2, q3, q4⟩ := box5 hgv (below_refl _)
  have Hgr : Hid (W1.heap[w.heap.size + 1 + 1]? = _) := hgr1
  have O1 : Hid (VOut W1 _ _ _) := O.out.below b1
  have HWW : Hid (Below W0.heap.size W0 W1) := below_step HW b1
  clear hgr hgr1 hgv b1
  go_upto_region 2 with fail
  rw [← hW1]
  clear hW1
  go_wp2
  refine bodyPost_ret (v := .agg #[.int .i64 s, .bool i, .slice a n c, .int .i64 l, .float .f64 x]) (by simp [results, Tryz.results29, go_sem, s0, s1, s2, s3, s4]) rfl ?_
  exact ⟨⟨_, rfl, O1.out.set5 Hgr.out _ _ _ _ _⟩, below_set5 (below_step HB0.out HWW.out) (by omega) _ _ _ _ _⟩
theorem ctimes_at (w : World) (v1 v2 : Value) (s : Int) (P Q : Option Nat) (h1 : VOk w v1 s P) (h2 : VOk w v2 s Q) (hp : (s = 1 ∨ s = 3) → Short 10000 (pmul s P Q)) :
    Calls Tryz.prog 29 #[v1, v2] w fun e w' => (∃ u, e = .returned u ∧ VOk w' u s (pmul s P Q)) ∧ Below w.heap.size w w' := by
  obtain ⟨V1, h1, m1, e1, d1⟩ := h1
  obtain ⟨V2, h2, m2, e2, d2⟩ := h2
  have := ctimes0 w v1 v2 V1 V2 h1 h2 m1 m2 (e2.trans e1.symm)
  rw [e1, d1, d2] at this
  exact this.mono fun e w' ⟨⟨u, hu, o⟩, b⟩ => ⟨⟨u, hu, o.ok hp⟩, b⟩
theorem same_of (w : World) (v1 v2 : Value) (s : Int) (P Q : Option Nat) (h1 : VOk w v1 s P) (h2 : VOk w v2 s Q) (e : P = Q) : Calls Tryz.prog 23 #[v1, v2] w fun e w' => e = .returned (.bool true) ∧ Below w.heap.size w w' := by
  obtain ⟨V1, h1, m1, e1, d1⟩ := h1
  obtain ⟨V2, h2, m2, e2, d2⟩ := h2
  exact vsame_yes w v1 v2 V1 V2 h1 h2 m1 m2 (e1.trans e2.symm) (d1.trans (e.trans d2.symm))
theorem iszero_of (w : World) (v : Value) (s : Int) (P : Option Nat) (b : Bool) (h : VOk w v s P) (hb : decide (P = pzero s) = b) : Calls Tryz.prog 25 #[v] w fun e w' => e = .returned (.bool b) ∧ Below w.heap.size w w' := by
  obtain ⟨V, h1, m, rfl, rfl⟩ := h
  refine calls_bool (viszero_any w v V h1) ?_
  unfold zerV
  rw [decide_eq_true m, hb]; rfl
namespace Fo
def triX (a b c : Nat) : Nat → Nat
  | 0 => a
  | 1 => b
  | _ => c
end Fo
theorem tri_cells (w : World) (a b c : Nat) (t : TypeId) : ∀ j, j < 3 → (w.alloc (.cells #[.float .f64 a, .float .f64 b, .float .f64 c] t)).cell? ⟨w.heap.size, j, none⟩ = some (.float .f64 (triX a b c j)) := by
  intro j hj
  match j, hj with
  | 0, _ => rw [World.cell?_alloc_new]; rfl
  | 1, _ => rw [World.cell?_alloc_new]; rfl
  | 2, _ => rw [World.cell?_alloc_new]; rfl
end Go.Proofs.YtjdbapkmaggllaaGreatDoor
