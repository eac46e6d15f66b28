/- The document's own Star and Better. -/
import Derived.Test.YtjdbapkmaggllaaGreatDoorS47
namespace Go.Proofs.YtjdbapkmaggllaaGreatDoor
open Go.RowKit Fo
set_option maxRecDepth 100000

theorem lv_zero_at {L : Nat → Nat} : ∀ {n : Nat}, lv L n = 0 → ∀ j, j < n → L j = 0
  | 0, _, j, hj => absurd hj (by omega)
  | n + 1, h, j, hj => by
    unfold lv at h
    have h1 : lv L n = 0 := by omega
    have h2 : L n * 4294967296 ^ n = 0 := by omega
    by_cases e : j = n
    · subst e
      rcases Nat.mul_eq_zero.1 h2 with h | h
      · exact h
      · exact absurd h (by have := Nat.pow_pos (n := j) (show 0 < 4294967296 by decide); omega)
    · exact lv_zero_at h1 j (by omega)
theorem rstar_err (w : World) (v1 : Value) (V1 : Vl) (h1 : VIn w v1 V1) (r : Int) (m1 : mayV V1 = r) (hr : (r != 0) = true) : Calls Tryz.prog 17 #[v1] w fun e w' => e = .returned (.tuple #[noV, .int .i64 r]) ∧ Below w.heap.size w w' := by
  have H1' := h1
  obtain ⟨a1, c1, rfl, hr1, hL1, hn1, hx1, hl1, hs1⟩ := h1
  obtain ⟨W0, hW0⟩ : ∃ W0, W0 = ((w.alloc (.cells #[.int .i64 V1.s, .bool V1.i, .slice a1 V1.n c1, .int .i64 V1.l, .float .f64 V1.x] 27)).alloc (.cells #[.int .i64 0, .bool false, .slice none 0 0, .int .i64 0, .float .f64 0] 27)) := ⟨_, rfl⟩
  have HB0 : Hid (Below w.heap.size w W0) := by rw [hW0]; exact below2 w _ _
  have Hg1 : Hid (W0.heap[w.heap.size]? = some (.cells #[.int .i64 V1.s, .bool V1.i, .slice a1 V1.n c1, .int .i64 V1.l, .float .f64 V1.x] 27)) := by
    show W0.heap[w.heap.size]? = _
    rw [hW0]; exact heap_at2_0 w _ _
  have Hg2 : Hid (W0.heap[w.heap.size + 1]? = some (.cells #[.int .i64 0, .bool false, .slice none 0 0, .int .i64 0, .float .f64 0] 27)) := by
    show W0.heap[w.heap.size + 1]? = _
    rw [hW0]; exact heap_at2_1 w _ _
  have H1 : Hid (VIn W0 (.agg #[.int .i64 V1.s, .bool V1.i, .slice a1 V1.n c1, .int .i64 V1.l, .float .f64 V1.x]) V1) := H1'.below HB0.out
  have HW : Below W0.heap.size W0 W0 := below_refl W0
  clear hr1 hL1 hn1 hx1 hl1 hs1 H1'
  obtain ⟨p10, p11, p12, p13, p14⟩ := box5 Hg1.out HW
  have hsf := st_flo
  have SZ : Hid (w.heap.size + 1 < W0.heap.size) := by show w.heap.size + 1 < W0.heap.size; rw [hW0]; simp
  have M1 : Hid (mayV V1 = r) := m1
  clear m1
  go_enter Tryz.func17, Tryz.ntmps17
  go_wp2_with (go_at_call 22; fail)
  rw [← hW0]
  clear hW0
  refine (rmv_at _ _ V1 r (by exact H1.out.below HW) M1.out).mono ?_
  rintro e w1 ⟨rfl, b⟩
  replace HW := below_step HW b
  clear b
  clear p10 p11 p12 p13 p14; obtain ⟨p10, p11, p12, p13, p14⟩ := box5 Hg1.out HW
  have hgr := (HW.block (w.heap.size + 1) SZ.out).trans Hg2.out
  obtain ⟨⟨z0, z1, z2, z3, z4⟩, ⟨f0, f1, f2, f3, f4⟩, s0, s1, s2, s3, s4⟩ := box5_facts hgr
  have Hgr : Hid (w1.heap[w.heap.size + 1]? = _) := hgr
  clear hgr
  go_wp2
  refine bodyPost_ret (v := .tuple #[noV, .int .i64 r]) (by simp [results, Tryz.results17, go_sem, s0, s1, s2, s3, s4, noV]) rfl ?_
  exact ⟨rfl, below_set5 (below_step HB0.out HW) (by omega) _ _ _ _ _⟩
theorem rstar_inf (w : World) (v1 : Value) (V1 : Vl) (h1 : VIn w v1 V1) (es1 : V1.s = 1) (m1 : mayV V1 = 0) (hi : V1.i = true) : Calls Tryz.prog 17 #[v1] w fun e w' => (∃ u, e = .returned (.tuple #[u, .int .i64 0]) ∧ VOut w' u 1 (none)) ∧ Below w.heap.size w w' := by
  have H1' := h1
  obtain ⟨a1, c1, rfl, hr1, hL1, hn1, hx1, hl1, hs1⟩ := h1
  rw [es1] at H1' ⊢
  obtain ⟨W0, hW0⟩ : ∃ W0, W0 = ((w.alloc (.cells #[.int .i64 1, .bool V1.i, .slice a1 V1.n c1, .int .i64 V1.l, .float .f64 V1.x] 27)).alloc (.cells #[.int .i64 0, .bool false, .slice none 0 0, .int .i64 0, .float .f64 0] 27)) := ⟨_, rfl⟩
  have HB0 : Hid (Below w.heap.size w W0) := by rw [hW0]; exact below2 w _ _
  have Hg1 : Hid (W0.heap[w.heap.size]? = some (.cells #[.int .i64 1, .bool V1.i, .slice a1 V1.n c1, .int .i64 V1.l, .float .f64 V1.x] 27)) := by
    show W0.heap[w.heap.size]? = _
    rw [hW0]; exact heap_at2_0 w _ _
  have Hg2 : Hid (W0.heap[w.heap.size + 1]? = some (.cells #[.int .i64 0, .bool false, .slice none 0 0, .int .i64 0, .float .f64 0] 27)) := by
    show W0.heap[w.heap.size + 1]? = _
    rw [hW0]; exact heap_at2_1 w _ _
  have H1 : Hid (VIn W0 (.agg #[.int .i64 1, .bool V1.i, .slice a1 V1.n c1, .int .i64 V1.l, .float .f64 V1.x]) V1) := H1'.below HB0.out
  have HW : Below W0.heap.size W0 W0 := below_refl W0
  clear hr1 hL1 hn1 hx1 hl1 hs1 H1'
  obtain ⟨p10, p11, p12, p13, p14⟩ := box5 Hg1.out HW
  have hsf := st_flo
  have SZ : Hid (w.heap.size + 1 < W0.heap.size) := by show w.heap.size + 1 < W0.heap.size; rw [hW0]; simp
  have M1 : Hid (mayV V1 = 0) := m1
  have HI : Hid (V1.i = true) := hi
  clear hi
  clear m1 es1
  go_enter Tryz.func17, Tryz.ntmps17
  go_wp2_with (go_at_call 22; fail)
  rw [← hW0]
  clear hW0
  refine (rmv_at _ _ V1 0 (by exact H1.out.below HW) M1.out).mono ?_
  rintro e w1 ⟨rfl, b⟩
  replace HW := below_step HW b
  have hi := HI.out
  clear b
  clear p10 p11 p12 p13 p14; obtain ⟨p10, p11, p12, p13, p14⟩ := box5 Hg1.out HW
  have hgr := (HW.block (w.heap.size + 1) SZ.out).trans Hg2.out
  obtain ⟨⟨z0, z1, z2, z3, z4⟩, ⟨f0, f1, f2, f3, f4⟩, s0, s1, s2, s3, s4⟩ := box5_facts hgr
  have Hgr : Hid (w1.heap[w.heap.size + 1]? = _) := hgr
  clear hgr
  go_wp2
  refine bodyPost_ret (v := .tuple #[.agg #[.int .i64 1, .bool true, .slice none 0 0, .int .i64 0, .float .f64 0], .int .i64 0]) (by simp [results, Tryz.results17, go_sem, s0, s1, s2, s3, s4]) rfl ?_
  exact ⟨⟨_, rfl, Or.inl ⟨by decide, _, _, _, _, rfl, nout_inf _⟩⟩, below_set5 (below_step HB0.out HW) (by omega) _ _ _ _ _⟩
theorem rstar_pos (w : World) (v1 : Value) (V1 : Vl) (h1 : VIn w v1 V1) (es1 : V1.s = 1) (m1 : mayV V1 = 0) (hi : V1.i = false) (hn : (0 : Int) < (V1.n : Int)) : Calls Tryz.prog 17 #[v1] w fun e w' => (∃ u, e = .returned (.tuple #[u, .int .i64 0]) ∧ VOut w' u 1 (none)) ∧ Below w.heap.size w w' := by
  have H1' := h1
  obtain ⟨a1, c1, rfl, hr1, hL1, hn1, hx1, hl1, hs1⟩ := h1
  rw [es1] at H1' ⊢
  obtain ⟨W0, hW0⟩ : ∃ W0, W0 = ((w.alloc (.cells #[.int .i64 1, .bool V1.i, .slice a1 V1.n c1, .int .i64 V1.l, .float .f64 V1.x] 27)).alloc (.cells #[.int .i64 0, .bool false, .slice none 0 0, .int .i64 0, .float .f64 0] 27)) := ⟨_, rfl⟩
  have HB0 : Hid (Below w.heap.size w W0) := by rw [hW0]; exact below2 w _ _
  have Hg1 : Hid (W0.heap[w.heap.size]? = some (.cells #[.int .i64 1, .bool V1.i, .slice a1 V1.n c1, .int .i64 V1.l, .float .f64 V1.x] 27)) := by
    show W0.heap[w.heap.size]? = _
    rw [hW0]; exact heap_at2_0 w _ _
  have Hg2 : Hid (W0.heap[w.heap.size + 1]? = some (.cells #[.int .i64 0, .bool false, .slice none 0 0, .int .i64 0, .float .f64 0] 27)) := by
    show W0.heap[w.heap.size + 1]? = _
    rw [hW0]; exact heap_at2_1 w _ _
  have H1 : Hid (VIn W0 (.agg #[.int .i64 1, .bool V1.i, .slice a1 V1.n c1, .int .i64 V1.l, .float .f64 V1.x]) V1) := H1'.below HB0.out
  have HW : Below W0.heap.size W0 W0 := below_refl W0
  clear hr1 hL1 hn1 hx1 hl1 hs1 H1'
  obtain ⟨p10, p11, p12, p13, p14⟩ := box5 Hg1.out HW
  have hsf := st_flo
  have SZ : Hid (w.heap.size + 1 < W0.heap.size) := by show w.heap.size + 1 < W0.heap.size; rw [hW0]; simp
  have M1 : Hid (mayV V1 = 0) := m1
  have HI : Hid (V1.i = false) := hi
  clear hi
  clear m1 es1
  go_enter Tryz.func17, Tryz.ntmps17
  go_wp2_with (go_at_call 22; fail)
  rw [← hW0]
  clear hW0
  refine (rmv_at _ _ V1 0 (by exact H1.out.below HW) M1.out).mono ?_
  rintro e w1 ⟨rfl, b⟩
  replace HW := below_step HW b
  have hi := HI.out
  clear b
  clear p10 p11 p12 p13 p14; obtain ⟨p10, p11, p12, p13, p14⟩ := box5 Hg1.out HW
  have hgr := (HW.block (w.heap.size + 1) SZ.out).trans Hg2.out
  obtain ⟨⟨z0, z1, z2, z3, z4⟩, ⟨f0, f1, f2, f3, f4⟩, s0, s1, s2, s3, s4⟩ := box5_facts hgr
  have Hgr : Hid (w1.heap[w.heap.size + 1]? = _) := hgr
  clear hgr
  go_wp2
  refine bodyPost_ret (v := .tuple #[.agg #[.int .i64 1, .bool true, .slice none 0 0, .int .i64 0, .float .f64 0], .int .i64 0]) (by simp [results, Tryz.results17, go_sem, s0, s1, s2, s3, s4]) rfl ?_
  exact ⟨⟨_, rfl, Or.inl ⟨by decide, _, _, _, _, rfl, nout_inf _⟩⟩, below_set5 (below_step HB0.out HW) (by omega) _ _ _ _ _⟩
theorem rstar_zero (w : World) (v1 : Value) (V1 : Vl) (h1 : VIn w v1 V1) (es1 : V1.s = 1) (m1 : mayV V1 = 0) (hi : V1.i = false) (hn : ¬ (0 : Int) < (V1.n : Int)) : Calls Tryz.prog 17 #[v1] w fun e w' => (∃ u, e = .returned (.tuple #[u, .int .i64 0]) ∧ VOut w' u 1 (pone 1)) ∧ Below w.heap.size w w' := by
  have H1' := h1
  obtain ⟨a1, c1, rfl, hr1, hL1, hn1, hx1, hl1, hs1⟩ := h1
  rw [es1] at H1' ⊢
  obtain ⟨W0, hW0⟩ : ∃ W0, W0 = ((w.alloc (.cells #[.int .i64 1, .bool V1.i, .slice a1 V1.n c1, .int .i64 V1.l, .float .f64 V1.x] 27)).alloc (.cells #[.int .i64 0, .bool false, .slice none 0 0, .int .i64 0, .float .f64 0] 27)) := ⟨_, rfl⟩
  have HB0 : Hid (Below w.heap.size w W0) := by rw [hW0]; exact below2 w _ _
  have Hg1 : Hid (W0.heap[w.heap.size]? = some (.cells #[.int .i64 1, .bool V1.i, .slice a1 V1.n c1, .int .i64 V1.l, .float .f64 V1.x] 27)) := by
    show W0.heap[w.heap.size]? = _
    rw [hW0]; exact heap_at2_0 w _ _
  have Hg2 : Hid (W0.heap[w.heap.size + 1]? = some (.cells #[.int .i64 0, .bool false, .slice none 0 0, .int .i64 0, .float .f64 0] 27)) := by
    show W0.heap[w.heap.size + 1]? = _
    rw [hW0]; exact heap_at2_1 w _ _
  have H1 : Hid (VIn W0 (.agg #[.int .i64 1, .bool V1.i, .slice a1 V1.n c1, .int .i64 V1.l, .float .f64 V1.x]) V1) := H1'.below HB0.out
  have HW : Below W0.heap.size W0 W0 := below_refl W0
  clear hr1 hL1 hn1 hx1 hl1 hs1 H1'
  obtain ⟨p10, p11, p12, p13, p14⟩ := box5 Hg1.out HW
  have hsf := st_flo
  have SZ : Hid (w.heap.size + 1 < W0.heap.size) := by show w.heap.size + 1 < W0.heap.size; rw [hW0]; simp
  have M1 : Hid (mayV V1 = 0) := m1
  have HI : Hid (V1.i = false) := hi
  clear hi
  have HS : Hid (isSem 1) := Or.inl rfl
  clear m1 es1
  go_enter Tryz.func17, Tryz.ntmps17
  go_wp2_with (go_at_call 22; fail)
  rw [← hW0]
  clear hW0
  refine (rmv_at _ _ V1 0 (by exact H1.out.below HW) M1.out).mono ?_
  rintro e w1 ⟨rfl, b⟩
  replace HW := below_step HW b
  have hi := HI.out
  clear b
  clear p10 p11 p12 p13 p14; obtain ⟨p10, p11, p12, p13, p14⟩ := box5 Hg1.out HW
  go_wp2_with (go_at_call 11; fail)
  refine (rone_any 1 _ HS.out).mono ?_
  rintro e w2 ⟨⟨u, rfl, o⟩, b⟩
  replace HW := below_step HW b
  clear b
  clear p10 p11 p12 p13 p14; obtain ⟨p10, p11, p12, p13, p14⟩ := box5 Hg1.out HW
  obtain ⟨s, i, a, n, c, l, x, rfl⟩ := o.form
  have O : Hid (VOut _ _ _ _) := o
  clear o
  have hgr := (HW.block (w.heap.size + 1) SZ.out).trans Hg2.out
  obtain ⟨⟨z0, z1, z2, z3, z4⟩, ⟨f0, f1, f2, f3, f4⟩, s0, s1, s2, s3, s4⟩ := box5_facts hgr
  have Hgr : Hid (w2.heap[w.heap.size + 1]? = _) := hgr
  clear hgr
  go_wp2
  refine bodyPost_ret (v := .tuple #[.agg #[.int .i64 s, .bool i, .slice a n c, .int .i64 l, .float .f64 x], .int .i64 0]) (by simp [results, Tryz.results17, go_sem, s0, s1, s2, s3, s4]) rfl ?_
  exact ⟨⟨_, rfl, O.out.set5 Hgr.out _ _ _ _ _⟩, below_set5 (below_step HB0.out HW) (by omega) _ _ _ _ _⟩
theorem rstar_one (w : World) (v1 : Value) (V1 : Vl) (h1 : VIn w v1 V1) (m1 : mayV V1 = 0) (hs : isSem V1.s) (h1s : (V1.s == 1) = false) : Calls Tryz.prog 17 #[v1] w fun e w' => (∃ u, e = .returned (.tuple #[u, .int .i64 0]) ∧ VOut w' u V1.s (pone V1.s)) ∧ Below w.heap.size w w' := by
  have H1' := h1
  obtain ⟨a1, c1, rfl, hr1, hL1, hn1, hx1, hl1, hs1⟩ := h1
  obtain ⟨W0, hW0⟩ : ∃ W0, W0 = ((w.alloc (.cells #[.int .i64 V1.s, .bool V1.i, .slice a1 V1.n c1, .int .i64 V1.l, .float .f64 V1.x] 27)).alloc (.cells #[.int .i64 0, .bool false, .slice none 0 0, .int .i64 0, .float .f64 0] 27)) := ⟨_, rfl⟩
  have HB0 : Hid (Below w.heap.size w W0) := by rw [hW0]; exact below2 w _ _
  have Hg1 : Hid (W0.heap[w.heap.size]? = some (.cells #[.int .i64 V1.s, .bool V1.i, .slice a1 V1.n c1, .int .i64 V1.l, .float .f64 V1.x] 27)) := by
    show W0.heap[w.heap.size]? = _
    rw [hW0]; exact heap_at2_0 w _ _
  have Hg2 : Hid (W0.heap[w.heap.size + 1]? = some (.cells #[.int .i64 0, .bool false, .slice none 0 0, .int .i64 0, .float .f64 0] 27)) := by
    show W0.heap[w.heap.size + 1]? = _
    rw [hW0]; exact heap_at2_1 w _ _
  have H1 : Hid (VIn W0 (.agg #[.int .i64 V1.s, .bool V1.i, .slice a1 V1.n c1, .int .i64 V1.l, .float .f64 V1.x]) V1) := H1'.below HB0.out
  have HW : Below W0.heap.size W0 W0 := below_refl W0
  clear hr1 hL1 hn1 hx1 hl1 hs1 H1'
  obtain ⟨p10, p11, p12, p13, p14⟩ := box5 Hg1.out HW
  have hsf := st_flo
  have SZ : Hid (w.heap.size + 1 < W0.heap.size) := by show w.heap.size + 1 < W0.heap.size; rw [hW0]; simp
  have M1 : Hid (mayV V1 = 0) := m1
  have HS : Hid (isSem V1.s) := hs
  clear m1 hs
  go_enter Tryz.func17, Tryz.ntmps17
  go_wp2_with (go_at_call 22; fail)
  rw [← hW0]
  clear hW0
  refine (rmv_at _ _ V1 0 (by exact H1.out.below HW) M1.out).mono ?_
  rintro e w1 ⟨rfl, b⟩
  replace HW := below_step HW b
  clear b
  clear p10 p11 p12 p13 p14; obtain ⟨p10, p11, p12, p13, p14⟩ := box5 Hg1.out HW
  go_wp2_with (go_at_call 11; fail)
  refine (rone_any V1.s _ HS.out).mono ?_
  rintro e w2 ⟨⟨u, rfl, o⟩, b⟩
  replace HW := below_step HW b
  clear b
  clear p10 p11 p12 p13 p14; obtain ⟨p10, p11, p12, p13, p14⟩ := box5 Hg1.out HW
  obtain ⟨s, i, a, n, c, l, x, rfl⟩ := o.form
  have O : Hid (VOut _ _ _ _) := o
  clear o
  have hgr := (HW.block (w.heap.size + 1) SZ.out).trans Hg2.out
  obtain ⟨⟨z0, z1, z2, z3, z4⟩, ⟨f0, f1, f2, f3, f4⟩, s0, s1, s2, s3, s4⟩ := box5_facts hgr
  have Hgr : Hid (w2.heap[w.heap.size + 1]? = _) := hgr
  clear hgr
  go_wp2
  refine bodyPost_ret (v := .tuple #[.agg #[.int .i64 s, .bool i, .slice a n c, .int .i64 l, .float .f64 x], .int .i64 0]) (by simp [results, Tryz.results17, go_sem, s0, s1, s2, s3, s4]) rfl ?_
  exact ⟨⟨_, rfl, O.out.set5 Hgr.out _ _ _ _ _⟩, below_set5 (below_step HB0.out HW) (by omega) _ _ _ _ _⟩
theorem rstar_ok (w : World) (v1 : Value) (V1 : Vl) (h1 : VIn w v1 V1) (m1 : mayV V1 = 0) : Calls Tryz.prog 17 #[v1] w fun e w' => (∃ u, e = .returned (.tuple #[u, .int .i64 0]) ∧ VOut w' u V1.s (pstar V1.s (denV V1))) ∧ Below w.heap.size w w' := by
  unfold pstar
  by_cases h : V1.s = 1
  · have hm : mayB V1.i V1.n V1.L = true := by
      have := m1
      unfold mayV at this
      rw [if_pos (Or.inl h)] at this
      by_cases hb : mayB V1.i V1.n V1.L = true
      · exact hb
      · rw [if_neg hb] at this; cases this
    cases hi : V1.i
    · have hd : denV V1 = some (lv V1.L V1.n) := by unfold denV; rw [if_pos (Or.inl h), hi]; rfl
      rw [hd, h]
      by_cases hn : 0 < V1.n
      · have hne : lv V1.L V1.n ≠ 0 := by
          rw [hi] at hm
          unfold mayB at hm
          rw [if_neg (by decide)] at hm
          simp at hm
          intro h0
          have h2 : V1.L (V1.n - 1) ≠ 0 := hm.resolve_left (by omega)
          have := lv_zero_at h0 (V1.n - 1) (by omega)
          exact h2 this
        rw [if_pos ⟨rfl, by simpa using hne⟩]
        exact rstar_pos w v1 V1 h1 h m1 hi (by omega)
      · have h0 : V1.n = 0 := by omega
        rw [if_neg (by rw [h0]; simp [lv])]
        exact rstar_zero w v1 V1 h1 h m1 hi (by omega)
    · have hd : denV V1 = none := by unfold denV; rw [if_pos (Or.inl h), hi]; rfl
      rw [hd, h, if_pos ⟨rfl, by simp⟩]
      exact rstar_inf w v1 V1 h1 h m1 hi
  · rw [if_neg (fun hh => h hh.1)]
    exact rstar_one w v1 V1 h1 m1 (may_sem m1) (by simp [h])
theorem rstar_any (w : World) (v1 : Value) (V1 : Vl) (r : Int) (h1 : VIn w v1 V1) (er : mayV V1 = r) : Calls Tryz.prog 17 #[v1] w fun e w' => (∃ u, e = .returned (.tuple #[u, .int .i64 r]) ∧ VR w' u r V1.s (pstar V1.s (denV V1))) ∧ Below w.heap.size w w' := by
  by_cases hr : r = 0
  · rw [hr] at er ⊢
    exact (rstar_ok w v1 V1 h1 er).mono fun e w' ⟨⟨u, hu, o⟩, b⟩ => ⟨⟨u, hu, Or.inl ⟨rfl, o⟩⟩, b⟩
  · exact (rstar_err w v1 V1 h1 r er (by simpa using hr)).mono fun e w' ⟨hu, b⟩ => ⟨⟨noV, hu, Or.inr ⟨hr, rfl⟩⟩, b⟩
theorem rbet_err (w : World) (v1 v2 : Value) (V1 V2 : Vl) (h1 : VIn w v1 V1) (h2 : VIn w v2 V2) (r : Int) (e1 : errV V1 V2 = r) (hr : (r != 0) = true) : Calls Tryz.prog 19 #[v1, v2] w fun e w' => e = .returned (.tuple #[.bool false, .int .i64 r]) ∧ Below w.heap.size w w' := by
  have H1' := h1
  obtain ⟨a1, c1, rfl, hr1, hL1, hn1, hx1, hl1, hs1⟩ := h1
  have H2' := h2
  obtain ⟨a2, c2, rfl, hr2, hL2, hn2, hx2, hl2, hs2⟩ := h2
  obtain ⟨W0, hW0⟩ : ∃ W0, W0 = ((w.alloc (.cells #[.int .i64 V1.s, .bool V1.i, .slice a1 V1.n c1, .int .i64 V1.l, .float .f64 V1.x] 27)).alloc (.cells #[.int .i64 V2.s, .bool V2.i, .slice a2 V2.n c2, .int .i64 V2.l, .float .f64 V2.x] 27)) := ⟨_, rfl⟩
  have HB0 : Hid (Below w.heap.size w W0) := by rw [hW0]; exact below2 w _ _
  have Hg1 : Hid (W0.heap[w.heap.size]? = some (.cells #[.int .i64 V1.s, .bool V1.i, .slice a1 V1.n c1, .int .i64 V1.l, .float .f64 V1.x] 27)) := by
    show W0.heap[w.heap.size]? = _
    rw [hW0]; exact heap_at2_0 w _ _
  have Hg2 : Hid (W0.heap[w.heap.size + 1]? = some (.cells #[.int .i64 V2.s, .bool V2.i, .slice a2 V2.n c2, .int .i64 V2.l, .float .f64 V2.x] 27)) := by
    show W0.heap[w.heap.size + 1]? = _
    rw [hW0]; exact heap_at2_1 w _ _
  have H1 : Hid (VIn W0 (.agg #[.int .i64 V1.s, .bool V1.i, .slice a1 V1.n c1, .int .i64 V1.l, .float .f64 V1.x]) V1) := H1'.below HB0.out
  have H2 : Hid (VIn W0 (.agg #[.int .i64 V2.s, .bool V2.i, .slice a2 V2.n c2, .int .i64 V2.l, .float .f64 V2.x]) V2) := H2'.below HB0.out
  have HW : Below W0.heap.size W0 W0 := below_refl W0
  clear hr1 hL1 hn1 hx1 hl1 hs1 H1' hr2 hL2 hn2 hx2 hl2 hs2 H2'
  obtain ⟨p10, p11, p12, p13, p14⟩ := box5 Hg1.out HW
  obtain ⟨p20, p21, p22, p23, p24⟩ := box5 Hg2.out HW
  have hsf := st_flo
  have E1 : Hid (errV V1 V2 = r) := e1
  clear e1
  go_enter Tryz.func19, Tryz.ntmps19
  go_wp2_with (go_at_call 13; fail)
  rw [← hW0]
  clear hW0
  refine (rplus_any _ _ _ V1 V2 (by exact H1.out.below HW) (by exact H2.out.below HW) r E1.out).mono ?_
  rintro e w1 ⟨⟨u, rfl, o⟩, b⟩
  replace HW := below_step HW b
  clear b
  clear p10 p11 p12 p13 p14 p20 p21 p22 p23 p24; obtain ⟨p10, p11, p12, p13, p14⟩ := box5 Hg1.out HW; obtain ⟨p20, p21, p22, p23, p24⟩ := box5 Hg2.out HW
  obtain ⟨s, i, a, n, c, l, x, rfl⟩ := o.form
  clear o
  have hl1 : w.heap.size < w1.heap.size := World.block_lt_of_cell? w1 _ p10
  have hl2 : w.heap.size + 1 < w1.heap.size := World.block_lt_of_cell? w1 _ p20
  go_wp2
  go_ret2
  exact ⟨rfl, below_step HB0.out (HW.alloc HW.size _)⟩
theorem rbet_cmp (w : World) (v1 v2 : Value) (V1 V2 : Vl) (h1 : VIn w v1 V1) (h2 : VIn w v2 V2) (es1 : V1.s = 1) (es2 : V2.s = 1) (e1 : errV V1 V2 = 0) (q : Int) (eq : ocmp (numV V1) (numV V2) = q) : Calls Tryz.prog 19 #[v1, v2] w fun e w' => e = .returned (.tuple #[.bool (decide (0 ≤ q)), .int .i64 0]) ∧ Below w.heap.size w w' := by
  have H1' := h1
  obtain ⟨a1, c1, rfl, hr1, hL1, hn1, hx1, hl1, hs1⟩ := h1
  rw [es1] at H1' ⊢
  have H2' := h2
  obtain ⟨a2, c2, rfl, hr2, hL2, hn2, hx2, hl2, hs2⟩ := h2
  rw [es2] at H2' ⊢
  obtain ⟨W0, hW0⟩ : ∃ W0, W0 = ((w.alloc (.cells #[.int .i64 1, .bool V1.i, .slice a1 V1.n c1, .int .i64 V1.l, .float .f64 V1.x] 27)).alloc (.cells #[.int .i64 1, .bool V2.i, .slice a2 V2.n c2, .int .i64 V2.l, .float .f64 V2.x] 27)) := ⟨_, rfl⟩
  have HB0 : Hid (Below w.heap.size w W0) := by rw [hW0]; exact below2 w _ _
  have Hg1 : Hid (W0.heap[w.heap.size]? = some (.cells #[.int .i64 1, .bool V1.i, .slice a1 V1.n c1, .int .i64 V1.l, .float .f64 V1.x] 27)) := by
    show W0.heap[w.heap.size]? = _
    rw [hW0]; exact heap_at2_0 w _ _
  have Hg2 : Hid (W0.heap[w.heap.size + 1]? = some (.cells #[.int .i64 1, .bool V2.i, .slice a2 V2.n c2, .int .i64 V2.l, .float .f64 V2.x] 27)) := by
    show W0.heap[w.heap.size + 1]? = _
    rw [hW0]; exact heap_at2_1 w _ _
  have H1 : Hid (VIn W0 (.agg #[.int .i64 1, .bool V1.i, .slice a1 V1.n c1, .int .i64 V1.l, .float .f64 V1.x]) V1) := H1'.below HB0.out
  have H2 : Hid (VIn W0 (.agg #[.int .i64 1, .bool V2.i, .slice a2 V2.n c2, .int .i64 V2.l, .float .f64 V2.x]) V2) := H2'.below HB0.out
  have HW : Below W0.heap.size W0 W0 := below_refl W0
  clear hr1 hL1 hn1 hx1 hl1 hs1 H1' hr2 hL2 hn2 hx2 hl2 hs2 H2'
  obtain ⟨p10, p11, p12, p13, p14⟩ := box5 Hg1.out HW
  obtain ⟨p20, p21, p22, p23, p24⟩ := box5 Hg2.out HW
  have hsf := st_flo
  have E1 : Hid (errV V1 V2 = 0) := e1
  clear e1
  have EQ : Hid (ocmp (numV V1) (numV V2) = q) := eq
  clear eq es1 es2
  go_enter Tryz.func19, Tryz.ntmps19
  go_wp2_with (go_at_call 13; fail)
  rw [← hW0]
  clear hW0
  refine (rplus_any _ _ _ V1 V2 (by exact H1.out.below HW) (by exact H2.out.below HW) 0 E1.out).mono ?_
  rintro e w1 ⟨⟨u, rfl, o⟩, b⟩
  replace HW := below_step HW b
  clear b
  clear p10 p11 p12 p13 p14 p20 p21 p22 p23 p24; obtain ⟨p10, p11, p12, p13, p14⟩ := box5 Hg1.out HW; obtain ⟨p20, p21, p22, p23, p24⟩ := box5 Hg2.out HW
  obtain ⟨s, i, a, n, c, l, x, rfl⟩ := o.form
  clear o
  have hl1 : w.heap.size < w1.heap.size := World.block_lt_of_cell? w1 _ p10
  have hl2 : w.heap.size + 1 < w1.heap.size := World.block_lt_of_cell? w1 _ p20
  go_wp2_with (go_at_call 47; fail)
  refine (rcompare_to _ _ _ (numV V1) (numV V2) q (by exact (H1.out.below (HW.alloc HW.size _)).num') (by exact (H2.out.below (HW.alloc HW.size _)).num') EQ.out).mono ?_
  rintro e w2 ⟨rfl, b⟩
  replace HW := below_step (HW.alloc HW.size _) b
  clear b
  go_wp2
  go_ret2
  exact ⟨rfl, below_step HB0.out HW⟩
theorem rbet_sum (w : World) (v1 v2 : Value) (V1 V2 : Vl) (h1 : VIn w v1 V1) (h2 : VIn w v2 V2) (bb : Bool) (h1s : (V1.s == 1) = false) (e1 : errV V1 V2 = 0) (m1 : mayV V1 = 0) (hbb : decide (padd V1.s (denV V1) (denV V2) = denV V1) = bb) (hP : (V1.s = 1 ∨ V1.s = 3) → Short 10000 (padd V1.s (denV V1) (denV V2))) : Calls Tryz.prog 19 #[v1, v2] w fun e w' => e = .returned (.tuple #[.bool bb, .int .i64 0]) ∧ Below w.heap.size w w' := by
  have H1' := h1
  obtain ⟨a1, c1, rfl, hr1, hL1, hn1, hx1, hl1, hs1⟩ := h1
  have H2' := h2
  obtain ⟨a2, c2, rfl, hr2, hL2, hn2, hx2, hl2, hs2⟩ := h2
  obtain ⟨W0, hW0⟩ : ∃ W0, W0 = ((w.alloc (.cells #[.int .i64 V1.s, .bool V1.i, .slice a1 V1.n c1, .int .i64 V1.l, .float .f64 V1.x] 27)).alloc (.cells #[.int .i64 V2.s, .bool V2.i, .slice a2 V2.n c2, .int .i64 V2.l, .float .f64 V2.x] 27)) := ⟨_, rfl⟩
  have HB0 : Hid (Below w.heap.size w W0) := by rw [hW0]; exact below2 w _ _
  have Hg1 : Hid (W0.heap[w.heap.size]? = some (.cells #[.int .i64 V1.s, .bool V1.i, .slice a1 V1.n c1, .int .i64 V1.l, .float .f64 V1.x] 27)) := by
    show W0.heap[w.heap.size]? = _
    rw [hW0]; exact heap_at2_0 w _ _
  have Hg2 : Hid (W0.heap[w.heap.size + 1]? = some (.cells #[.int .i64 V2.s, .bool V2.i, .slice a2 V2.n c2, .int .i64 V2.l, .float .f64 V2.x] 27)) := by
    show W0.heap[w.heap.size + 1]? = _
    rw [hW0]; exact heap_at2_1 w _ _
  have H1 : Hid (VIn W0 (.agg #[.int .i64 V1.s, .bool V1.i, .slice a1 V1.n c1, .int .i64 V1.l, .float .f64 V1.x]) V1) := H1'.below HB0.out
  have H2 : Hid (VIn W0 (.agg #[.int .i64 V2.s, .bool V2.i, .slice a2 V2.n c2, .int .i64 V2.l, .float .f64 V2.x]) V2) := H2'.below HB0.out
  have HW : Below W0.heap.size W0 W0 := below_refl W0
  clear hr1 hL1 hn1 hx1 hl1 hs1 H1' hr2 hL2 hn2 hx2 hl2 hs2 H2'
  obtain ⟨p10, p11, p12, p13, p14⟩ := box5 Hg1.out HW
  obtain ⟨p20, p21, p22, p23, p24⟩ := box5 Hg2.out HW
  have hsf := st_flo
  have E1 : Hid (errV V1 V2 = 0) := e1
  clear e1
  have M1 : Hid (mayV V1 = 0) := m1
  have HBB : Hid (decide (padd V1.s (denV V1) (denV V2) = denV V1) = bb) := hbb
  have HP : Hid ((V1.s = 1 ∨ V1.s = 3) → Short 10000 (padd V1.s (denV V1) (denV V2))) := hP
  clear m1 hbb hP
  go_enter Tryz.func19, Tryz.ntmps19
  go_wp2_with (go_at_call 13; fail)
  rw [← hW0]
  clear hW0
  refine (rplus_any _ _ _ V1 V2 (by exact H1.out.below HW) (by exact H2.out.below HW) 0 E1.out).mono ?_
  rintro e w1 ⟨⟨u, rfl, o⟩, b⟩
  replace HW := below_step HW b
  clear b
  clear p10 p11 p12 p13 p14 p20 p21 p22 p23 p24; obtain ⟨p10, p11, p12, p13, p14⟩ := box5 Hg1.out HW; obtain ⟨p20, p21, p22, p23, p24⟩ := box5 Hg2.out HW
  obtain ⟨s, i, a, n, c, l, x, rfl⟩ := o.form
  have O : Hid (VOut w1 (.agg #[.int .i64 s, .bool i, .slice a n c, .int .i64 l, .float .f64 x]) V1.s (padd V1.s (denV V1) (denV V2))) := by
    rcases o with ⟨-, o⟩ | ⟨h, -⟩
    · exact o
    · exact absurd rfl h
  clear o
  have hl1 : w.heap.size < w1.heap.size := World.block_lt_of_cell? w1 _ p10
  have hl2 : w.heap.size + 1 < w1.heap.size := World.block_lt_of_cell? w1 _ p20
  go_wp2_with (go_at_call 24; fail)
  refine (ralike_of _ _ _ V1 _ bb (by exact (O.out.ok HP.out).below (below1 _ _)) (by exact H1.out.below (HW.alloc HW.size _)) M1.out HBB.out).mono ?_
  rintro e w2 ⟨rfl, b⟩
  replace HW := below_step (HW.alloc HW.size _) b
  clear b
  go_wp2
  go_ret2
  exact ⟨rfl, below_step HB0.out HW⟩
namespace Fo
/-- What Better tells, or that it tells nothing. -/
def betR (V1 V2 : Vl) : Bool := decide (errV V1 V2 = 0) && betV V1 V2
end Fo
/-- THE DOCUMENT's OWN BETTER. -/
theorem rbetter_any (w : World) (v1 v2 : Value) (V1 V2 : Vl) (r : Int) (bb : Bool) (h1 : VIn w v1 V1) (h2 : VIn w v2 V2) (n1 : V1.n ≤ 60) (n2 : V2.n ≤ 60) (er : errV V1 V2 = r) (hb : betR V1 V2 = bb) :
    Calls Tryz.prog 19 #[v1, v2] w fun e w' => e = .returned (.tuple #[.bool bb, .int .i64 r]) ∧ Below w.heap.size w w' := by
  subst hb
  unfold betR
  by_cases hr : r = 0
  · rw [hr] at er ⊢
    obtain ⟨m1, m2, es⟩ := err_ok er
    rw [decide_eq_true er, Bool.true_and]
    unfold betV
    by_cases h : V1.s = 1
    · rw [if_pos h, den_nat (Or.inl h), den_nat (Or.inl (es ▸ h))]
      exact rbet_cmp w v1 v2 V1 V2 h1 h2 h (es ▸ h) er _ rfl
    · rw [if_neg h]
      refine rbet_sum w v1 v2 V1 V2 h1 h2 _ (by simp [h]) er m1 rfl (fun hs => ?_)
      have hs2 : V2.s = 1 ∨ V2.s = 3 := es ▸ hs
      rw [den_nat hs, den_nat hs2]
      exact (padd_short (k := 60) hs (h1.shortn n1) (h2.shortn n2)).le (by decide)
  · rw [decide_eq_false (fun h => hr (er.symm.trans h)), Bool.false_and]
    exact rbet_err w v1 v2 V1 V2 h1 h2 r er (by simpa using hr)
theorem vbetter_any (w : World) (v1 v2 : Value) (V1 V2 : Vl) (r : Int) (bb : Bool) (h1 : VIn w v1 V1) (h2 : VIn w v2 V2) (n1 : V1.n ≤ 60) (n2 : V2.n ≤ 60) (er : errV V1 V2 = r) (hb : betR V1 V2 = bb) :
    Calls Tryz.prog 18 #[v1, v2] w fun e w' => e = .returned (.tuple #[.bool bb, .int .i64 r]) ∧ Below w.heap.size w w' := by
  subst hb
  unfold betR
  by_cases hr : r = 0
  · rw [hr] at er ⊢
    rw [decide_eq_true er, Bool.true_and]
    exact better_ok w v1 v2 V1 V2 h1 h2 60 (by decide) n1 n2 er
  · rw [decide_eq_false (fun h => hr (er.symm.trans h)), Bool.false_and]
    exact better_err w v1 v2 V1 V2 h1 h2 r er (by simpa using hr)
theorem vplus_all (w : World) (v1 v2 : Value) (V1 V2 : Vl) (r : Int) (h1 : VIn w v1 V1) (h2 : VIn w v2 V2) (er : errV V1 V2 = r) : Calls Tryz.prog 12 #[v1, v2] w fun e w' => (∃ u, e = .returned (.tuple #[u, .int .i64 r]) ∧ VR w' u r V1.s (padd V1.s (denV V1) (denV V2))) ∧ Below w.heap.size w w' := by
  by_cases hr : r = 0
  · rw [hr] at er ⊢
    obtain ⟨m1, m2, es⟩ := err_ok er
    exact (plus_ok w v1 v2 V1 V2 h1 h2 er m1 m2 es).mono fun e w' ⟨⟨u, hu, o⟩, b⟩ => ⟨⟨u, hu, Or.inl ⟨rfl, o⟩⟩, b⟩
  · exact (plus_err w v1 v2 V1 V2 h1 h2 r er (by simpa using hr)).mono fun e w' ⟨hu, b⟩ => ⟨⟨noV, hu, Or.inr ⟨hr, rfl⟩⟩, b⟩
theorem vtimes_all (w : World) (v1 v2 : Value) (V1 V2 : Vl) (r : Int) (h1 : VIn w v1 V1) (h2 : VIn w v2 V2) (er : errV V1 V2 = r) : Calls Tryz.prog 14 #[v1, v2] w fun e w' => (∃ u, e = .returned (.tuple #[u, .int .i64 r]) ∧ VR w' u r V1.s (pmul V1.s (denV V1) (denV V2))) ∧ Below w.heap.size w w' := by
  by_cases hr : r = 0
  · rw [hr] at er ⊢
    obtain ⟨m1, m2, es⟩ := err_ok er
    exact (times_ok w v1 v2 V1 V2 h1 h2 er m1 m2 es).mono fun e w' ⟨⟨u, hu, o⟩, b⟩ => ⟨⟨u, hu, Or.inl ⟨rfl, o⟩⟩, b⟩
  · exact (times_err w v1 v2 V1 V2 h1 h2 r er (by simpa using hr)).mono fun e w' ⟨hu, b⟩ => ⟨⟨noV, hu, Or.inr ⟨hr, rfl⟩⟩, b⟩
theorem vstar_all (w : World) (v1 : Value) (V1 : Vl) (r : Int) (h1 : VIn w v1 V1) (er : mayV V1 = r) : Calls Tryz.prog 16 #[v1] w fun e w' => (∃ u, e = .returned (.tuple #[u, .int .i64 r]) ∧ VR w' u r V1.s (pstar V1.s (denV V1))) ∧ Below w.heap.size w w' := by
  by_cases hr : r = 0
  · rw [hr] at er ⊢
    exact (star_ok w v1 V1 h1 er).mono fun e w' ⟨⟨u, hu, o⟩, b⟩ => ⟨⟨u, hu, Or.inl ⟨rfl, o⟩⟩, b⟩
  · exact (star_err w v1 V1 h1 r er (by simpa using hr)).mono fun e w' ⟨hu, b⟩ => ⟨⟨noV, hu, Or.inr ⟨hr, rfl⟩⟩, b⟩
end Go.Proofs.YtjdbapkmaggllaaGreatDoor
