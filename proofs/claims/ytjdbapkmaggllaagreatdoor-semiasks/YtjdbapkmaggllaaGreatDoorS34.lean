/- add and multiply of levels and doubles. -/
import Derived.Test.YtjdbapkmaggllaaGreatDoorS33
import Derived.Test.YtjdbapkmaggllaaGreatDoorS22
namespace Go.Proofs.YtjdbapkmaggllaaGreatDoor
open Go.RowKit Fo
set_option maxRecDepth 100000

theorem max_two (x y : Nat) (hx : x ≤ 9218868437227405312) (hy : y ≤ 9218868437227405312) : Builtin.max2 (.float .f64 x) (.float .f64 y) = pure (.float .f64 (max x y)) := by
  rcases Nat.lt_trichotomy x y with h | h | h
  · simp only [Builtin.max2, Fl.ord_lt hy h]
    rw [Nat.max_eq_right (by omega)]
  · subst h
    simp only [Builtin.max2, Fl.ord_eq hx rfl]
    rw [Nat.max_self, ite_self]
  · simp only [Builtin.max2, Fl.ord_gt hx h]
    rw [Nat.max_eq_left (by omega)]
theorem run_max (x y : Nat) (hx : x ≤ 9218868437227405312) (hy : y ≤ 9218868437227405312) (ts : Array TypeId) (t : TypeId) (w : World) :
    (Builtin.max_ ts t #[.float .f64 x, .float .f64 y]).run Tryz.prog w = .ok (.float .f64 (max x y)) w := by
  have h : Builtin.max_ ts t #[.float .f64 x, .float .f64 y] = List.foldlM Builtin.max2 (.float .f64 x) [.float .f64 y] := rfl
  rw [h, List.foldlM_cons, max_two x y hx hy]
  rfl
theorem min_two (x y : Nat) (hx : x ≤ 9218868437227405312) (hy : y ≤ 9218868437227405312) : Builtin.min2 (.float .f64 x) (.float .f64 y) = pure (.float .f64 (min x y)) := by
  rcases Nat.lt_trichotomy x y with h | h | h
  · simp only [Builtin.min2, Fl.ord_lt hy h]
    rw [Nat.min_eq_left (by omega)]
  · subst h
    simp only [Builtin.min2, Fl.ord_eq hx rfl]
    rw [Nat.min_self, ite_self]
  · simp only [Builtin.min2, Fl.ord_gt hx h]
    rw [Nat.min_eq_right (by omega)]
theorem run_min (x y : Nat) (hx : x ≤ 9218868437227405312) (hy : y ≤ 9218868437227405312) (ts : Array TypeId) (t : TypeId) (w : World) :
    (Builtin.min_ ts t #[.float .f64 x, .float .f64 y]).run Tryz.prog w = .ok (.float .f64 (min x y)) w := by
  have h : Builtin.min_ ts t #[.float .f64 x, .float .f64 y] = List.foldlM Builtin.min2 (.float .f64 x) [.float .f64 y] := rfl
  rw [h, List.foldlM_cons, min_two x y hx hy]
  rfl
theorem run_maxi (x y : Int) (ts : Array TypeId) (t : TypeId) (w : World) :
    (Builtin.max_ ts t #[.int .i64 x, .int .i64 y]).run Tryz.prog w = .ok (.int .i64 (max x y)) w := by
  have h : Builtin.max_ ts t #[.int .i64 x, .int .i64 y] = List.foldlM Builtin.max2 (.int .i64 x) [.int .i64 y] := rfl
  have e : Builtin.max2 (.int .i64 x) (.int .i64 y) = pure (.int .i64 (max x y)) := by
    show pure (Value.int .i64 (if y > x then y else x)) = _
    by_cases hh : y > x
    · rw [if_pos hh, Int.max_eq_right (by omega)]
    · rw [if_neg hh, Int.max_eq_left (by omega)]
  rw [h, List.foldlM_cons, e]
  rfl
theorem run_mini (x y : Int) (ts : Array TypeId) (t : TypeId) (w : World) :
    (Builtin.min_ ts t #[.int .i64 x, .int .i64 y]).run Tryz.prog w = .ok (.int .i64 (min x y)) w := by
  have h : Builtin.min_ ts t #[.int .i64 x, .int .i64 y] = List.foldlM Builtin.min2 (.int .i64 x) [.int .i64 y] := rfl
  have e : Builtin.min2 (.int .i64 x) (.int .i64 y) = pure (.int .i64 (min x y)) := by
    show pure (Value.int .i64 (if y < x then y else x)) = _
    by_cases hh : y < x
    · rw [if_pos hh, Int.min_eq_right (by omega)]
    · rw [if_neg hh, Int.min_eq_left (by omega)]
  rw [h, List.foldlM_cons, e]
  rfl
set_option maxHeartbeats 8000000 in
theorem add2 (w : World) (v1 v2 : Value) (V1 V2 : Vl) (h1 : VIn w v1 V1) (h2 : VIn w v2 V2) (es1 : V1.s = 2) (es2 : V2.s = 2) (hb1 : 0 ≤ V1.l ∧ V1.l ≤ 1) (hb2 : 0 ≤ V2.l ∧ V2.l ≤ 1) : Calls Tryz.prog 42 #[v1, v2] w fun e w' => (∃ u, e = .returned u ∧ VOut w' u 2 (some (max V1.l V2.l).toNat)) ∧ Below w.heap.size w w' := by
  have hsf := st_flo
  have hm := run_maxi V1.l V2.l
  have Hb : Hid ((0 ≤ V1.l ∧ V1.l ≤ 1) ∧ (0 ≤ V2.l ∧ V2.l ≤ 1)) := ⟨hb1, hb2⟩
  clear hb1 hb2
  have H1' := h1
  obtain ⟨a1, c1, rfl, hr1, hL1, hn1, hx1, hl1, hs1⟩ := h1
  rw [es1] at H1' ⊢
  have H2' := h2
  obtain ⟨a2, c2, rfl, hr2, hL2, hn2, hx2, hl2, hs2⟩ := h2
  rw [es2] at H2' ⊢
  obtain ⟨W0, hW0⟩ : ∃ W0, W0 = (((w.alloc (.cells #[.int .i64 2, .bool V1.i, .slice a1 V1.n c1, .int .i64 V1.l, .float .f64 V1.x] 27)).alloc (.cells #[.int .i64 2, .bool V2.i, .slice a2 V2.n c2, .int .i64 V2.l, .float .f64 V2.x] 27)).alloc (.cells #[.int .i64 0, .bool false, .slice none 0 0, .int .i64 0, .float .f64 0] 27)) := ⟨_, rfl⟩
  have HB0 : Hid (Below w.heap.size w W0) := by rw [hW0]; exact below3 w _ _ _
  have Hg1 : Hid (W0.heap[w.heap.size]? = some (.cells #[.int .i64 2, .bool V1.i, .slice a1 V1.n c1, .int .i64 V1.l, .float .f64 V1.x] 27)) := by
    show W0.heap[w.heap.size]? = _
    rw [hW0]; exact heap_at3_0 w _ _ _
  have Hg2 : Hid (W0.heap[w.heap.size + 1]? = some (.cells #[.int .i64 2, .bool V2.i, .slice a2 V2.n c2, .int .i64 V2.l, .float .f64 V2.x] 27)) := by
    show W0.heap[w.heap.size + 1]? = _
    rw [hW0]; exact heap_at3_1 w _ _ _
  have Hg3 : Hid (W0.heap[w.heap.size + 1 + 1]? = some (.cells #[.int .i64 0, .bool false, .slice none 0 0, .int .i64 0, .float .f64 0] 27)) := by
    show W0.heap[w.heap.size + 1 + 1]? = _
    rw [hW0]; exact heap_at3_2 w _ _ _
  have H1 : Hid (VIn W0 (.agg #[.int .i64 2, .bool V1.i, .slice a1 V1.n c1, .int .i64 V1.l, .float .f64 V1.x]) V1) := H1'.below HB0.out
  have H2 : Hid (VIn W0 (.agg #[.int .i64 2, .bool V2.i, .slice a2 V2.n c2, .int .i64 V2.l, .float .f64 V2.x]) V2) := H2'.below HB0.out
  have HW : Below W0.heap.size W0 W0 := below_refl W0
  clear hr1 hL1 hn1 hx1 hl1 hs1 H1' hr2 hL2 hn2 hx2 hl2 hs2 H2'
  obtain ⟨p10, p11, p12, p13, p14⟩ := box5 Hg1.out HW
  obtain ⟨p20, p21, p22, p23, p24⟩ := box5 Hg2.out HW
  have SZ : Hid (w.heap.size + 1 + 1 < W0.heap.size) := by show w.heap.size + 1 + 1 < W0.heap.size; rw [hW0]; simp
  clear es1 es2
  go_enter Tryz.func42, Tryz.ntmps42
  go_wp2_with (go_at_call 35; fail)
  rw [← hW0]
  clear hW0
  refine (oflevel_any _ _ _).mono ?_
  rintro e w1 ⟨rfl, b⟩
  replace HW := below_step HW b
  clear b
  clear p10 p11 p12 p13 p14 p20 p21 p22 p23 p24; obtain ⟨p10, p11, p12, p13, p14⟩ := box5 Hg1.out HW; obtain ⟨p20, p21, p22, p23, p24⟩ := box5 Hg2.out HW
  have hgr := (HW.block (w.heap.size + 1 + 1) SZ.out).trans Hg3.out
  obtain ⟨⟨z0, z1, z2, z3, z4⟩, ⟨f0, f1, f2, f3, f4⟩, s0, s1, s2, s3, s4⟩ := box5_facts hgr
  clear hgr
  go_wp2
  refine bodyPost_ret (v := .agg #[.int .i64 2, .bool false, .slice none 0 0, .int .i64 (max V1.l V2.l), .float .f64 0]) (by simp [results, Tryz.results42, go_sem, s0, s1, s2, s3, s4]) rfl ?_
  exact ⟨⟨_, rfl, Or.inr (Or.inl ⟨by decide, _, rfl, by have := Hb.out; show _ ≤ 1; omega, by rw [Int.toNat_of_nonneg (by have := Hb.out; omega)]⟩)⟩, below_set5 (below_step HB0.out HW) (by omega) _ _ _ _ _⟩
set_option maxHeartbeats 8000000 in
theorem mul2 (w : World) (v1 v2 : Value) (V1 V2 : Vl) (h1 : VIn w v1 V1) (h2 : VIn w v2 V2) (es1 : V1.s = 2) (es2 : V2.s = 2) (hb1 : 0 ≤ V1.l ∧ V1.l ≤ 1) (hb2 : 0 ≤ V2.l ∧ V2.l ≤ 1) : Calls Tryz.prog 44 #[v1, v2] w fun e w' => (∃ u, e = .returned u ∧ VOut w' u 2 (some (min V1.l V2.l).toNat)) ∧ Below w.heap.size w w' := by
  have hsf := st_flo
  have hm := run_mini V1.l V2.l
  have Hb : Hid ((0 ≤ V1.l ∧ V1.l ≤ 1) ∧ (0 ≤ V2.l ∧ V2.l ≤ 1)) := ⟨hb1, hb2⟩
  clear hb1 hb2
  have H1' := h1
  obtain ⟨a1, c1, rfl, hr1, hL1, hn1, hx1, hl1, hs1⟩ := h1
  rw [es1] at H1' ⊢
  have H2' := h2
  obtain ⟨a2, c2, rfl, hr2, hL2, hn2, hx2, hl2, hs2⟩ := h2
  rw [es2] at H2' ⊢
  obtain ⟨W0, hW0⟩ : ∃ W0, W0 = (((w.alloc (.cells #[.int .i64 2, .bool V1.i, .slice a1 V1.n c1, .int .i64 V1.l, .float .f64 V1.x] 27)).alloc (.cells #[.int .i64 2, .bool V2.i, .slice a2 V2.n c2, .int .i64 V2.l, .float .f64 V2.x] 27)).alloc (.cells #[.int .i64 0, .bool false, .slice none 0 0, .int .i64 0, .float .f64 0] 27)) := ⟨_, rfl⟩
  have HB0 : Hid (Below w.heap.size w W0) := by rw [hW0]; exact below3 w _ _ _
  have Hg1 : Hid (W0.heap[w.heap.size]? = some (.cells #[.int .i64 2, .bool V1.i, .slice a1 V1.n c1, .int .i64 V1.l, .float .f64 V1.x] 27)) := by
    show W0.heap[w.heap.size]? = _
    rw [hW0]; exact heap_at3_0 w _ _ _
  have Hg2 : Hid (W0.heap[w.heap.size + 1]? = some (.cells #[.int .i64 2, .bool V2.i, .slice a2 V2.n c2, .int .i64 V2.l, .float .f64 V2.x] 27)) := by
    show W0.heap[w.heap.size + 1]? = _
    rw [hW0]; exact heap_at3_1 w _ _ _
  have Hg3 : Hid (W0.heap[w.heap.size + 1 + 1]? = some (.cells #[.int .i64 0, .bool false, .slice none 0 0, .int .i64 0, .float .f64 0] 27)) := by
    show W0.heap[w.heap.size + 1 + 1]? = _
    rw [hW0]; exact heap_at3_2 w _ _ _
  have H1 : Hid (VIn W0 (.agg #[.int .i64 2, .bool V1.i, .slice a1 V1.n c1, .int .i64 V1.l, .float .f64 V1.x]) V1) := H1'.below HB0.out
  have H2 : Hid (VIn W0 (.agg #[.int .i64 2, .bool V2.i, .slice a2 V2.n c2, .int .i64 V2.l, .float .f64 V2.x]) V2) := H2'.below HB0.out
  have HW : Below W0.heap.size W0 W0 := below_refl W0
  clear hr1 hL1 hn1 hx1 hl1 hs1 H1' hr2 hL2 hn2 hx2 hl2 hs2 H2'
  obtain ⟨p10, p11, p12, p13, p14⟩ := box5 Hg1.out HW
  obtain ⟨p20, p21, p22, p23, p24⟩ := box5 Hg2.out HW
  have SZ : Hid (w.heap.size + 1 + 1 < W0.heap.size) := by show w.heap.size + 1 + 1 < W0.heap.size; rw [hW0]; simp
  clear es1 es2
  go_enter Tryz.func44, Tryz.ntmps44
  go_wp2_with (go_at_call 35; fail)
  rw [← hW0]
  clear hW0
  refine (oflevel_any _ _ _).mono ?_
  rintro e w1 ⟨rfl, b⟩
  replace HW := below_step HW b
  clear b
  clear p10 p11 p12 p13 p14 p20 p21 p22 p23 p24; obtain ⟨p10, p11, p12, p13, p14⟩ := box5 Hg1.out HW; obtain ⟨p20, p21, p22, p23, p24⟩ := box5 Hg2.out HW
  have hgr := (HW.block (w.heap.size + 1 + 1) SZ.out).trans Hg3.out
  obtain ⟨⟨z0, z1, z2, z3, z4⟩, ⟨f0, f1, f2, f3, f4⟩, s0, s1, s2, s3, s4⟩ := box5_facts hgr
  clear hgr
  go_wp2
  refine bodyPost_ret (v := .agg #[.int .i64 2, .bool false, .slice none 0 0, .int .i64 (min V1.l V2.l), .float .f64 0]) (by simp [results, Tryz.results44, go_sem, s0, s1, s2, s3, s4]) rfl ?_
  exact ⟨⟨_, rfl, Or.inr (Or.inl ⟨by decide, _, rfl, by have := Hb.out; show _ ≤ 1; omega, by rw [Int.toNat_of_nonneg (by have := Hb.out; omega)]⟩)⟩, below_set5 (below_step HB0.out HW) (by omega) _ _ _ _ _⟩
set_option maxHeartbeats 8000000 in
theorem add4 (w : World) (v1 v2 : Value) (V1 V2 : Vl) (h1 : VIn w v1 V1) (h2 : VIn w v2 V2) (es1 : V1.s = 4) (es2 : V2.s = 4) (hb1 : 0 ≤ V1.l ∧ V1.l ≤ 7) (hb2 : 0 ≤ V2.l ∧ V2.l ≤ 7) : Calls Tryz.prog 42 #[v1, v2] w fun e w' => (∃ u, e = .returned u ∧ VOut w' u 4 (some (max V1.l V2.l).toNat)) ∧ Below w.heap.size w w' := by
  have hsf := st_flo
  have hm := run_maxi V1.l V2.l
  have Hb : Hid ((0 ≤ V1.l ∧ V1.l ≤ 7) ∧ (0 ≤ V2.l ∧ V2.l ≤ 7)) := ⟨hb1, hb2⟩
  clear hb1 hb2
  have H1' := h1
  obtain ⟨a1, c1, rfl, hr1, hL1, hn1, hx1, hl1, hs1⟩ := h1
  rw [es1] at H1' ⊢
  have H2' := h2
  obtain ⟨a2, c2, rfl, hr2, hL2, hn2, hx2, hl2, hs2⟩ := h2
  rw [es2] at H2' ⊢
  obtain ⟨W0, hW0⟩ : ∃ W0, W0 = (((w.alloc (.cells #[.int .i64 4, .bool V1.i, .slice a1 V1.n c1, .int .i64 V1.l, .float .f64 V1.x] 27)).alloc (.cells #[.int .i64 4, .bool V2.i, .slice a2 V2.n c2, .int .i64 V2.l, .float .f64 V2.x] 27)).alloc (.cells #[.int .i64 0, .bool false, .slice none 0 0, .int .i64 0, .float .f64 0] 27)) := ⟨_, rfl⟩
  have HB0 : Hid (Below w.heap.size w W0) := by rw [hW0]; exact below3 w _ _ _
  have Hg1 : Hid (W0.heap[w.heap.size]? = some (.cells #[.int .i64 4, .bool V1.i, .slice a1 V1.n c1, .int .i64 V1.l, .float .f64 V1.x] 27)) := by
    show W0.heap[w.heap.size]? = _
    rw [hW0]; exact heap_at3_0 w _ _ _
  have Hg2 : Hid (W0.heap[w.heap.size + 1]? = some (.cells #[.int .i64 4, .bool V2.i, .slice a2 V2.n c2, .int .i64 V2.l, .float .f64 V2.x] 27)) := by
    show W0.heap[w.heap.size + 1]? = _
    rw [hW0]; exact heap_at3_1 w _ _ _
  have Hg3 : Hid (W0.heap[w.heap.size + 1 + 1]? = some (.cells #[.int .i64 0, .bool false, .slice none 0 0, .int .i64 0, .float .f64 0] 27)) := by
    show W0.heap[w.heap.size + 1 + 1]? = _
    rw [hW0]; exact heap_at3_2 w _ _ _
  have H1 : Hid (VIn W0 (.agg #[.int .i64 4, .bool V1.i, .slice a1 V1.n c1, .int .i64 V1.l, .float .f64 V1.x]) V1) := H1'.below HB0.out
  have H2 : Hid (VIn W0 (.agg #[.int .i64 4, .bool V2.i, .slice a2 V2.n c2, .int .i64 V2.l, .float .f64 V2.x]) V2) := H2'.below HB0.out
  have HW : Below W0.heap.size W0 W0 := below_refl W0
  clear hr1 hL1 hn1 hx1 hl1 hs1 H1' hr2 hL2 hn2 hx2 hl2 hs2 H2'
  obtain ⟨p10, p11, p12, p13, p14⟩ := box5 Hg1.out HW
  obtain ⟨p20, p21, p22, p23, p24⟩ := box5 Hg2.out HW
  have SZ : Hid (w.heap.size + 1 + 1 < W0.heap.size) := by show w.heap.size + 1 + 1 < W0.heap.size; rw [hW0]; simp
  clear es1 es2
  go_enter Tryz.func42, Tryz.ntmps42
  go_wp2_with (go_at_call 35; fail)
  rw [← hW0]
  clear hW0
  refine (oflevel_any _ _ _).mono ?_
  rintro e w1 ⟨rfl, b⟩
  replace HW := below_step HW b
  clear b
  clear p10 p11 p12 p13 p14 p20 p21 p22 p23 p24; obtain ⟨p10, p11, p12, p13, p14⟩ := box5 Hg1.out HW; obtain ⟨p20, p21, p22, p23, p24⟩ := box5 Hg2.out HW
  have hgr := (HW.block (w.heap.size + 1 + 1) SZ.out).trans Hg3.out
  obtain ⟨⟨z0, z1, z2, z3, z4⟩, ⟨f0, f1, f2, f3, f4⟩, s0, s1, s2, s3, s4⟩ := box5_facts hgr
  clear hgr
  go_wp2
  refine bodyPost_ret (v := .agg #[.int .i64 4, .bool false, .slice none 0 0, .int .i64 (max V1.l V2.l), .float .f64 0]) (by simp [results, Tryz.results42, go_sem, s0, s1, s2, s3, s4]) rfl ?_
  exact ⟨⟨_, rfl, Or.inr (Or.inl ⟨by decide, _, rfl, by have := Hb.out; show _ ≤ 7; omega, by rw [Int.toNat_of_nonneg (by have := Hb.out; omega)]⟩)⟩, below_set5 (below_step HB0.out HW) (by omega) _ _ _ _ _⟩
set_option maxHeartbeats 8000000 in
theorem mul4 (w : World) (v1 v2 : Value) (V1 V2 : Vl) (h1 : VIn w v1 V1) (h2 : VIn w v2 V2) (es1 : V1.s = 4) (es2 : V2.s = 4) (hb1 : 0 ≤ V1.l ∧ V1.l ≤ 7) (hb2 : 0 ≤ V2.l ∧ V2.l ≤ 7) : Calls Tryz.prog 44 #[v1, v2] w fun e w' => (∃ u, e = .returned u ∧ VOut w' u 4 (some (min V1.l V2.l).toNat)) ∧ Below w.heap.size w w' := by
  have hsf := st_flo
  have hm := run_mini V1.l V2.l
  have Hb : Hid ((0 ≤ V1.l ∧ V1.l ≤ 7) ∧ (0 ≤ V2.l ∧ V2.l ≤ 7)) := ⟨hb1, hb2⟩
  clear hb1 hb2
  have H1' := h1
  obtain ⟨a1, c1, rfl, hr1, hL1, hn1, hx1, hl1, hs1⟩ := h1
  rw [es1] at H1' ⊢
  have H2' := h2
  obtain ⟨a2, c2, rfl, hr2, hL2, hn2, hx2, hl2, hs2⟩ := h2
  rw [es2] at H2' ⊢
  obtain ⟨W0, hW0⟩ : ∃ W0, W0 = (((w.alloc (.cells #[.int .i64 4, .bool V1.i, .slice a1 V1.n c1, .int .i64 V1.l, .float .f64 V1.x] 27)).alloc (.cells #[.int .i64 4, .bool V2.i, .slice a2 V2.n c2, .int .i64 V2.l, .float .f64 V2.x] 27)).alloc (.cells #[.int .i64 0, .bool false, .slice none 0 0, .int .i64 0, .float .f64 0] 27)) := ⟨_, rfl⟩
  have HB0 : Hid (Below w.heap.size w W0) := by rw [hW0]; exact below3 w _ _ _
  have Hg1 : Hid (W0.heap[w.heap.size]? = some (.cells #[.int .i64 4, .bool V1.i, .slice a1 V1.n c1, .int .i64 V1.l, .float .f64 V1.x] 27)) := by
    show W0.heap[w.heap.size]? = _
    rw [hW0]; exact heap_at3_0 w _ _ _
  have Hg2 : Hid (W0.heap[w.heap.size + 1]? = some (.cells #[.int .i64 4, .bool V2.i, .slice a2 V2.n c2, .int .i64 V2.l, .float .f64 V2.x] 27)) := by
    show W0.heap[w.heap.size + 1]? = _
    rw [hW0]; exact heap_at3_1 w _ _ _
  have Hg3 : Hid (W0.heap[w.heap.size + 1 + 1]? = some (.cells #[.int .i64 0, .bool false, .slice none 0 0, .int .i64 0, .float .f64 0] 27)) := by
    show W0.heap[w.heap.size + 1 + 1]? = _
    rw [hW0]; exact heap_at3_2 w _ _ _
  have H1 : Hid (VIn W0 (.agg #[.int .i64 4, .bool V1.i, .slice a1 V1.n c1, .int .i64 V1.l, .float .f64 V1.x]) V1) := H1'.below HB0.out
  have H2 : Hid (VIn W0 (.agg #[.int .i64 4, .bool V2.i, .slice a2 V2.n c2, .int .i64 V2.l, .float .f64 V2.x]) V2) := H2'.below HB0.out
  have HW : Below W0.heap.size W0 W0 := below_refl W0
  clear hr1 hL1 hn1 hx1 hl1 hs1 H1' hr2 hL2 hn2 hx2 hl2 hs2 H2'
  obtain ⟨p10, p11, p12, p13, p14⟩ := box5 Hg1.out HW
  obtain ⟨p20, p21, p22, p23, p24⟩ := box5 Hg2.out HW
  have SZ : Hid (w.heap.size + 1 + 1 < W0.heap.size) := by show w.heap.size + 1 + 1 < W0.heap.size; rw [hW0]; simp
  clear es1 es2
  go_enter Tryz.func44, Tryz.ntmps44
  go_wp2_with (go_at_call 35; fail)
  rw [← hW0]
  clear hW0
  refine (oflevel_any _ _ _).mono ?_
  rintro e w1 ⟨rfl, b⟩
  replace HW := below_step HW b
  clear b
  clear p10 p11 p12 p13 p14 p20 p21 p22 p23 p24; obtain ⟨p10, p11, p12, p13, p14⟩ := box5 Hg1.out HW; obtain ⟨p20, p21, p22, p23, p24⟩ := box5 Hg2.out HW
  have hgr := (HW.block (w.heap.size + 1 + 1) SZ.out).trans Hg3.out
  obtain ⟨⟨z0, z1, z2, z3, z4⟩, ⟨f0, f1, f2, f3, f4⟩, s0, s1, s2, s3, s4⟩ := box5_facts hgr
  clear hgr
  go_wp2
  refine bodyPost_ret (v := .agg #[.int .i64 4, .bool false, .slice none 0 0, .int .i64 (min V1.l V2.l), .float .f64 0]) (by simp [results, Tryz.results44, go_sem, s0, s1, s2, s3, s4]) rfl ?_
  exact ⟨⟨_, rfl, Or.inr (Or.inl ⟨by decide, _, rfl, by have := Hb.out; show _ ≤ 7; omega, by rw [Int.toNat_of_nonneg (by have := Hb.out; omega)]⟩)⟩, below_set5 (below_step HB0.out HW) (by omega) _ _ _ _ _⟩
set_option maxHeartbeats 8000000 in
theorem add5 (w : World) (v1 v2 : Value) (V1 V2 : Vl) (h1 : VIn w v1 V1) (h2 : VIn w v2 V2) (es1 : V1.s = 5) (es2 : V2.s = 5) (hb1 : V1.x ≤ 4607182418800017408) (hb2 : V2.x ≤ 4607182418800017408) : Calls Tryz.prog 42 #[v1, v2] w fun e w' => (∃ u, e = .returned u ∧ VOut w' u 5 (some (max V1.x V2.x))) ∧ Below w.heap.size w w' := by
  have hsf := st_flo
  have Hb : Hid (V1.x ≤ 4607182418800017408 ∧ V2.x ≤ 4607182418800017408) := ⟨hb1, hb2⟩
  have hm := run_max V1.x V2.x (by omega) (by omega)
  clear hb1 hb2
  have H1' := h1
  obtain ⟨a1, c1, rfl, hr1, hL1, hn1, hx1, hl1, hs1⟩ := h1
  rw [es1] at H1' ⊢
  have H2' := h2
  obtain ⟨a2, c2, rfl, hr2, hL2, hn2, hx2, hl2, hs2⟩ := h2
  rw [es2] at H2' ⊢
  obtain ⟨W0, hW0⟩ : ∃ W0, W0 = (((w.alloc (.cells #[.int .i64 5, .bool V1.i, .slice a1 V1.n c1, .int .i64 V1.l, .float .f64 V1.x] 27)).alloc (.cells #[.int .i64 5, .bool V2.i, .slice a2 V2.n c2, .int .i64 V2.l, .float .f64 V2.x] 27)).alloc (.cells #[.int .i64 0, .bool false, .slice none 0 0, .int .i64 0, .float .f64 0] 27)) := ⟨_, rfl⟩
  have HB0 : Hid (Below w.heap.size w W0) := by rw [hW0]; exact below3 w _ _ _
  have Hg1 : Hid (W0.heap[w.heap.size]? = some (.cells #[.int .i64 5, .bool V1.i, .slice a1 V1.n c1, .int .i64 V1.l, .float .f64 V1.x] 27)) := by
    show W0.heap[w.heap.size]? = _
    rw [hW0]; exact heap_at3_0 w _ _ _
  have Hg2 : Hid (W0.heap[w.heap.size + 1]? = some (.cells #[.int .i64 5, .bool V2.i, .slice a2 V2.n c2, .int .i64 V2.l, .float .f64 V2.x] 27)) := by
    show W0.heap[w.heap.size + 1]? = _
    rw [hW0]; exact heap_at3_1 w _ _ _
  have Hg3 : Hid (W0.heap[w.heap.size + 1 + 1]? = some (.cells #[.int .i64 0, .bool false, .slice none 0 0, .int .i64 0, .float .f64 0] 27)) := by
    show W0.heap[w.heap.size + 1 + 1]? = _
    rw [hW0]; exact heap_at3_2 w _ _ _
  have H1 : Hid (VIn W0 (.agg #[.int .i64 5, .bool V1.i, .slice a1 V1.n c1, .int .i64 V1.l, .float .f64 V1.x]) V1) := H1'.below HB0.out
  have H2 : Hid (VIn W0 (.agg #[.int .i64 5, .bool V2.i, .slice a2 V2.n c2, .int .i64 V2.l, .float .f64 V2.x]) V2) := H2'.below HB0.out
  have HW : Below W0.heap.size W0 W0 := below_refl W0
  clear hr1 hL1 hn1 hx1 hl1 hs1 H1' hr2 hL2 hn2 hx2 hl2 hs2 H2'
  obtain ⟨p10, p11, p12, p13, p14⟩ := box5 Hg1.out HW
  obtain ⟨p20, p21, p22, p23, p24⟩ := box5 Hg2.out HW
  have SZ : Hid (w.heap.size + 1 + 1 < W0.heap.size) := by show w.heap.size + 1 + 1 < W0.heap.size; rw [hW0]; simp
  clear es1 es2
  go_enter Tryz.func42, Tryz.ntmps42
  go_wp2_with (go_at_call 36; fail)
  rw [← hW0]
  clear hW0
  refine (ofx_any _ _ _).mono ?_
  rintro e w1 ⟨rfl, b⟩
  replace HW := below_step HW b
  clear b
  clear p10 p11 p12 p13 p14 p20 p21 p22 p23 p24; obtain ⟨p10, p11, p12, p13, p14⟩ := box5 Hg1.out HW; obtain ⟨p20, p21, p22, p23, p24⟩ := box5 Hg2.out HW
  have hgr := (HW.block (w.heap.size + 1 + 1) SZ.out).trans Hg3.out
  obtain ⟨⟨z0, z1, z2, z3, z4⟩, ⟨f0, f1, f2, f3, f4⟩, s0, s1, s2, s3, s4⟩ := box5_facts hgr
  clear hgr
  go_wp2
  refine bodyPost_ret (v := .agg #[.int .i64 5, .bool false, .slice none 0 0, .int .i64 0, .float .f64 (max V1.x V2.x)]) (by simp [results, Tryz.results42, go_sem, s0, s1, s2, s3, s4]) rfl ?_
  exact ⟨⟨_, rfl, Or.inr (Or.inr ⟨by decide, _, rfl, (by have := Hb.out; show max V1.x V2.x ≤ 4607182418800017408; omega), rfl⟩)⟩, below_set5 (below_step HB0.out HW) (by omega) _ _ _ _ _⟩
set_option maxHeartbeats 8000000 in
theorem add6 (w : World) (v1 v2 : Value) (V1 V2 : Vl) (h1 : VIn w v1 V1) (h2 : VIn w v2 V2) (es1 : V1.s = 6) (es2 : V2.s = 6) (hb1 : V1.x ≤ 9218868437227405312) (hb2 : V2.x ≤ 9218868437227405312) : Calls Tryz.prog 42 #[v1, v2] w fun e w' => (∃ u, e = .returned u ∧ VOut w' u 6 (some (min V1.x V2.x))) ∧ Below w.heap.size w w' := by
  have hsf := st_flo
  have Hb : Hid (V1.x ≤ 9218868437227405312 ∧ V2.x ≤ 9218868437227405312) := ⟨hb1, hb2⟩
  have hm := run_min V1.x V2.x (by omega) (by omega)
  clear hb1 hb2
  have H1' := h1
  obtain ⟨a1, c1, rfl, hr1, hL1, hn1, hx1, hl1, hs1⟩ := h1
  rw [es1] at H1' ⊢
  have H2' := h2
  obtain ⟨a2, c2, rfl, hr2, hL2, hn2, hx2, hl2, hs2⟩ := h2
  rw [es2] at H2' ⊢
  obtain ⟨W0, hW0⟩ : ∃ W0, W0 = (((w.alloc (.cells #[.int .i64 6, .bool V1.i, .slice a1 V1.n c1, .int .i64 V1.l, .float .f64 V1.x] 27)).alloc (.cells #[.int .i64 6, .bool V2.i, .slice a2 V2.n c2, .int .i64 V2.l, .float .f64 V2.x] 27)).alloc (.cells #[.int .i64 0, .bool false, .slice none 0 0, .int .i64 0, .float .f64 0] 27)) := ⟨_, rfl⟩
  have HB0 : Hid (Below w.heap.size w W0) := by rw [hW0]; exact below3 w _ _ _
  have Hg1 : Hid (W0.heap[w.heap.size]? = some (.cells #[.int .i64 6, .bool V1.i, .slice a1 V1.n c1, .int .i64 V1.l, .float .f64 V1.x] 27)) := by
    show W0.heap[w.heap.size]? = _
    rw [hW0]; exact heap_at3_0 w _ _ _
  have Hg2 : Hid (W0.heap[w.heap.size + 1]? = some (.cells #[.int .i64 6, .bool V2.i, .slice a2 V2.n c2, .int .i64 V2.l, .float .f64 V2.x] 27)) := by
    show W0.heap[w.heap.size + 1]? = _
    rw [hW0]; exact heap_at3_1 w _ _ _
  have Hg3 : Hid (W0.heap[w.heap.size + 1 + 1]? = some (.cells #[.int .i64 0, .bool false, .slice none 0 0, .int .i64 0, .float .f64 0] 27)) := by
    show W0.heap[w.heap.size + 1 + 1]? = _
    rw [hW0]; exact heap_at3_2 w _ _ _
  have H1 : Hid (VIn W0 (.agg #[.int .i64 6, .bool V1.i, .slice a1 V1.n c1, .int .i64 V1.l, .float .f64 V1.x]) V1) := H1'.below HB0.out
  have H2 : Hid (VIn W0 (.agg #[.int .i64 6, .bool V2.i, .slice a2 V2.n c2, .int .i64 V2.l, .float .f64 V2.x]) V2) := H2'.below HB0.out
  have HW : Below W0.heap.size W0 W0 := below_refl W0
  clear hr1 hL1 hn1 hx1 hl1 hs1 H1' hr2 hL2 hn2 hx2 hl2 hs2 H2'
  obtain ⟨p10, p11, p12, p13, p14⟩ := box5 Hg1.out HW
  obtain ⟨p20, p21, p22, p23, p24⟩ := box5 Hg2.out HW
  have SZ : Hid (w.heap.size + 1 + 1 < W0.heap.size) := by show w.heap.size + 1 + 1 < W0.heap.size; rw [hW0]; simp
  clear es1 es2
  go_enter Tryz.func42, Tryz.ntmps42
  go_wp2_with (go_at_call 36; fail)
  rw [← hW0]
  clear hW0
  refine (ofx_any _ _ _).mono ?_
  rintro e w1 ⟨rfl, b⟩
  replace HW := below_step HW b
  clear b
  clear p10 p11 p12 p13 p14 p20 p21 p22 p23 p24; obtain ⟨p10, p11, p12, p13, p14⟩ := box5 Hg1.out HW; obtain ⟨p20, p21, p22, p23, p24⟩ := box5 Hg2.out HW
  have hgr := (HW.block (w.heap.size + 1 + 1) SZ.out).trans Hg3.out
  obtain ⟨⟨z0, z1, z2, z3, z4⟩, ⟨f0, f1, f2, f3, f4⟩, s0, s1, s2, s3, s4⟩ := box5_facts hgr
  clear hgr
  go_wp2
  refine bodyPost_ret (v := .agg #[.int .i64 6, .bool false, .slice none 0 0, .int .i64 0, .float .f64 (min V1.x V2.x)]) (by simp [results, Tryz.results42, go_sem, s0, s1, s2, s3, s4]) rfl ?_
  exact ⟨⟨_, rfl, Or.inr (Or.inr ⟨by decide, _, rfl, (by have := Hb.out; show min V1.x V2.x ≤ 9218868437227405312; omega), rfl⟩)⟩, below_set5 (below_step HB0.out HW) (by omega) _ _ _ _ _⟩
set_option maxHeartbeats 8000000 in
theorem mul5 (w : World) (v1 v2 : Value) (V1 V2 : Vl) (h1 : VIn w v1 V1) (h2 : VIn w v2 V2) (es1 : V1.s = 5) (es2 : V2.s = 5) (hb1 : V1.x ≤ 4607182418800017408) (hb2 : V2.x ≤ 4607182418800017408) : Calls Tryz.prog 44 #[v1, v2] w fun e w' => (∃ u, e = .returned u ∧ VOut w' u 5 (some (Fl.Fo.tm V1.x V2.x))) ∧ Below w.heap.size w w' := by
  have hsf := st_flo
  have Hb : Hid (V1.x ≤ 4607182418800017408 ∧ V2.x ≤ 4607182418800017408) := ⟨hb1, hb2⟩
  have hm := Fl.times_any V1.x V2.x h1.xlt h2.xlt
  clear hb1 hb2
  have H1' := h1
  obtain ⟨a1, c1, rfl, hr1, hL1, hn1, hx1, hl1, hs1⟩ := h1
  rw [es1] at H1' ⊢
  have H2' := h2
  obtain ⟨a2, c2, rfl, hr2, hL2, hn2, hx2, hl2, hs2⟩ := h2
  rw [es2] at H2' ⊢
  obtain ⟨W0, hW0⟩ : ∃ W0, W0 = (((w.alloc (.cells #[.int .i64 5, .bool V1.i, .slice a1 V1.n c1, .int .i64 V1.l, .float .f64 V1.x] 27)).alloc (.cells #[.int .i64 5, .bool V2.i, .slice a2 V2.n c2, .int .i64 V2.l, .float .f64 V2.x] 27)).alloc (.cells #[.int .i64 0, .bool false, .slice none 0 0, .int .i64 0, .float .f64 0] 27)) := ⟨_, rfl⟩
  have HB0 : Hid (Below w.heap.size w W0) := by rw [hW0]; exact below3 w _ _ _
  have Hg1 : Hid (W0.heap[w.heap.size]? = some (.cells #[.int .i64 5, .bool V1.i, .slice a1 V1.n c1, .int .i64 V1.l, .float .f64 V1.x] 27)) := by
    show W0.heap[w.heap.size]? = _
    rw [hW0]; exact heap_at3_0 w _ _ _
  have Hg2 : Hid (W0.heap[w.heap.size + 1]? = some (.cells #[.int .i64 5, .bool V2.i, .slice a2 V2.n c2, .int .i64 V2.l, .float .f64 V2.x] 27)) := by
    show W0.heap[w.heap.size + 1]? = _
    rw [hW0]; exact heap_at3_1 w _ _ _
  have Hg3 : Hid (W0.heap[w.heap.size + 1 + 1]? = some (.cells #[.int .i64 0, .bool false, .slice none 0 0, .int .i64 0, .float .f64 0] 27)) := by
    show W0.heap[w.heap.size + 1 + 1]? = _
    rw [hW0]; exact heap_at3_2 w _ _ _
  have H1 : Hid (VIn W0 (.agg #[.int .i64 5, .bool V1.i, .slice a1 V1.n c1, .int .i64 V1.l, .float .f64 V1.x]) V1) := H1'.below HB0.out
  have H2 : Hid (VIn W0 (.agg #[.int .i64 5, .bool V2.i, .slice a2 V2.n c2, .int .i64 V2.l, .float .f64 V2.x]) V2) := H2'.below HB0.out
  have HW : Below W0.heap.size W0 W0 := below_refl W0
  clear hr1 hL1 hn1 hx1 hl1 hs1 H1' hr2 hL2 hn2 hx2 hl2 hs2 H2'
  obtain ⟨p10, p11, p12, p13, p14⟩ := box5 Hg1.out HW
  obtain ⟨p20, p21, p22, p23, p24⟩ := box5 Hg2.out HW
  have SZ : Hid (w.heap.size + 1 + 1 < W0.heap.size) := by show w.heap.size + 1 + 1 < W0.heap.size; rw [hW0]; simp
  clear es1 es2
  go_enter Tryz.func44, Tryz.ntmps44
  go_wp2_with (first | (go_at_call 68; refine (hm _).mono ?_; rintro e w1 ⟨rfl, rfl⟩) | (go_at_call 36; fail))
  rw [← hW0]
  clear hW0
  refine (ofx_any _ _ _).mono ?_
  rintro e w1 ⟨rfl, b⟩
  replace HW := below_step HW b
  clear b
  clear p10 p11 p12 p13 p14 p20 p21 p22 p23 p24; obtain ⟨p10, p11, p12, p13, p14⟩ := box5 Hg1.out HW; obtain ⟨p20, p21, p22, p23, p24⟩ := box5 Hg2.out HW
  have hgr := (HW.block (w.heap.size + 1 + 1) SZ.out).trans Hg3.out
  obtain ⟨⟨z0, z1, z2, z3, z4⟩, ⟨f0, f1, f2, f3, f4⟩, s0, s1, s2, s3, s4⟩ := box5_facts hgr
  clear hgr
  go_wp2
  refine bodyPost_ret (v := .agg #[.int .i64 5, .bool false, .slice none 0 0, .int .i64 0, .float .f64 (Fl.Fo.tm V1.x V2.x)]) (by simp [results, Tryz.results44, go_sem, s0, s1, s2, s3, s4]) rfl ?_
  exact ⟨⟨_, rfl, Or.inr (Or.inr ⟨by decide, _, rfl, (by have := Hb.out; exact Fl.Fo.tm_le V1.x V2.x (by omega) (by omega)), rfl⟩)⟩, below_set5 (below_step HB0.out HW) (by omega) _ _ _ _ _⟩
set_option maxHeartbeats 8000000 in
theorem mul6 (w : World) (v1 v2 : Value) (V1 V2 : Vl) (h1 : VIn w v1 V1) (h2 : VIn w v2 V2) (es1 : V1.s = 6) (es2 : V2.s = 6) (hb1 : V1.x ≤ 9218868437227405312) (hb2 : V2.x ≤ 9218868437227405312) : Calls Tryz.prog 44 #[v1, v2] w fun e w' => (∃ u, e = .returned u ∧ VOut w' u 6 (some (Fl.Fo.ps V1.x V2.x))) ∧ Below w.heap.size w w' := by
  have hsf := st_flo
  have Hb : Hid (V1.x ≤ 9218868437227405312 ∧ V2.x ≤ 9218868437227405312) := ⟨hb1, hb2⟩
  have hm := Fl.plus_any V1.x V2.x h1.xlt h2.xlt
  clear hb1 hb2
  have H1' := h1
  obtain ⟨a1, c1, rfl, hr1, hL1, hn1, hx1, hl1, hs1⟩ := h1
  rw [es1] at H1' ⊢
  have H2' := h2
  obtain ⟨a2, c2, rfl, hr2, hL2, hn2, hx2, hl2, hs2⟩ := h2
  rw [es2] at H2' ⊢
  obtain ⟨W0, hW0⟩ : ∃ W0, W0 = (((w.alloc (.cells #[.int .i64 6, .bool V1.i, .slice a1 V1.n c1, .int .i64 V1.l, .float .f64 V1.x] 27)).alloc (.cells #[.int .i64 6, .bool V2.i, .slice a2 V2.n c2, .int .i64 V2.l, .float .f64 V2.x] 27)).alloc (.cells #[.int .i64 0, .bool false, .slice none 0 0, .int .i64 0, .float .f64 0] 27)) := ⟨_, rfl⟩
  have HB0 : Hid (Below w.heap.size w W0) := by rw [hW0]; exact below3 w _ _ _
  have Hg1 : Hid (W0.heap[w.heap.size]? = some (.cells #[.int .i64 6, .bool V1.i, .slice a1 V1.n c1, .int .i64 V1.l, .float .f64 V1.x] 27)) := by
    show W0.heap[w.heap.size]? = _
    rw [hW0]; exact heap_at3_0 w _ _ _
  have Hg2 : Hid (W0.heap[w.heap.size + 1]? = some (.cells #[.int .i64 6, .bool V2.i, .slice a2 V2.n c2, .int .i64 V2.l, .float .f64 V2.x] 27)) := by
    show W0.heap[w.heap.size + 1]? = _
    rw [hW0]; exact heap_at3_1 w _ _ _
  have Hg3 : Hid (W0.heap[w.heap.size + 1 + 1]? = some (.cells #[.int .i64 0, .bool false, .slice none 0 0, .int .i64 0, .float .f64 0] 27)) := by
    show W0.heap[w.heap.size + 1 + 1]? = _
    rw [hW0]; exact heap_at3_2 w _ _ _
  have H1 : Hid (VIn W0 (.agg #[.int .i64 6, .bool V1.i, .slice a1 V1.n c1, .int .i64 V1.l, .float .f64 V1.x]) V1) := H1'.below HB0.out
  have H2 : Hid (VIn W0 (.agg #[.int .i64 6, .bool V2.i, .slice a2 V2.n c2, .int .i64 V2.l, .float .f64 V2.x]) V2) := H2'.below HB0.out
  have HW : Below W0.heap.size W0 W0 := below_refl W0
  clear hr1 hL1 hn1 hx1 hl1 hs1 H1' hr2 hL2 hn2 hx2 hl2 hs2 H2'
  obtain ⟨p10, p11, p12, p13, p14⟩ := box5 Hg1.out HW
  obtain ⟨p20, p21, p22, p23, p24⟩ := box5 Hg2.out HW
  have SZ : Hid (w.heap.size + 1 + 1 < W0.heap.size) := by show w.heap.size + 1 + 1 < W0.heap.size; rw [hW0]; simp
  clear es1 es2
  go_enter Tryz.func44, Tryz.ntmps44
  go_wp2_with (first | (go_at_call 69; refine (hm _).mono ?_; rintro e w1 ⟨rfl, rfl⟩) | (go_at_call 36; fail))
  rw [← hW0]
  clear hW0
  refine (ofx_any _ _ _).mono ?_
  rintro e w1 ⟨rfl, b⟩
  replace HW := below_step HW b
  clear b
  clear p10 p11 p12 p13 p14 p20 p21 p22 p23 p24; obtain ⟨p10, p11, p12, p13, p14⟩ := box5 Hg1.out HW; obtain ⟨p20, p21, p22, p23, p24⟩ := box5 Hg2.out HW
  have hgr := (HW.block (w.heap.size + 1 + 1) SZ.out).trans Hg3.out
  obtain ⟨⟨z0, z1, z2, z3, z4⟩, ⟨f0, f1, f2, f3, f4⟩, s0, s1, s2, s3, s4⟩ := box5_facts hgr
  clear hgr
  go_wp2
  refine bodyPost_ret (v := .agg #[.int .i64 6, .bool false, .slice none 0 0, .int .i64 0, .float .f64 (Fl.Fo.ps V1.x V2.x)]) (by simp [results, Tryz.results44, go_sem, s0, s1, s2, s3, s4]) rfl ?_
  exact ⟨⟨_, rfl, Or.inr (Or.inr ⟨by decide, _, rfl, (by have := Hb.out; exact Fl.Fo.ps_le V1.x V2.x (by omega) (by omega)), rfl⟩)⟩, below_set5 (below_step HB0.out HW) (by omega) _ _ _ _ _⟩
end Go.Proofs.YtjdbapkmaggllaaGreatDoor
