/- equal, Same. -/
import Derived.Test.YtjdbapkmaggllaaGreatDoorS29
namespace Go.Proofs.YtjdbapkmaggllaaGreatDoor
open Go.RowKit Fo
set_option maxRecDepth 100000

namespace Fo
/-- The number of a value. -/
def numV (V : Vl) : Option Nat := if V.i then none else some (lv V.L V.n)
theorem VIn.num {w : World} {V : Vl} {a : Option Addr} {c : Nat} (h : VIn w (.agg #[.int .i64 V.s, .bool V.i, .slice a V.n c, .int .i64 V.l, .float .f64 V.x]) V) : NIn w (.agg #[.bool V.i, .slice a V.n c]) (numV V) := by
  obtain ⟨a', c', e, hr, hL, hn, -⟩ := h
  simp at e
  obtain ⟨rfl, rfl⟩ := e
  exact ⟨V.i, a, V.n, c, V.L, rfl, hr, hL, by omega, rfl⟩
theorem VIn.xlt {w : World} {v : Value} {V : Vl} (h : VIn w v V) : V.x < 18446744073709551616 := by
  obtain ⟨a', c', e, hr, hL, hn, hx, -⟩ := h
  exact hx
theorem VIn.short {w : World} {v : Value} {V : Vl} (h : VIn w v V) : Short 10000 (numV V) := by
  obtain ⟨a', c', e, hr, hL, hn, -⟩ := h
  intro N e
  unfold numV at e
  cases hi : V.i
  · rw [hi] at e
    obtain rfl : lv V.L V.n = N := by simpa using e
    exact Nat.le_trans (ln_le V.n _ (lv_lt V.n fun j _ => hL j)) hn
  · rw [hi] at e; cases e
end Fo
theorem equal_nat1 (w : World) (v1 v2 : Value) (V1 V2 : Vl) (h1 : VIn w v1 V1) (h2 : VIn w v2 V2) (e1 : V1.s = 1) : Calls Tryz.prog 46 #[v1, v2] w fun e w' => e = .returned (.bool (decide (numV V1 = numV V2))) ∧ Below w.heap.size w w' := by
  have H1' := h1
  obtain ⟨a1, c1, rfl, hr1, hL1, hn1, hx1, hl1, hs1⟩ := h1
  have H2' := h2
  obtain ⟨a2, c2, rfl, hr2, hL2, hn2, hx2, hl2, hs2⟩ := h2
  obtain ⟨W0, hW0⟩ : ∃ W0, W0 = ((w.alloc (.cells #[.int .i64 V1.s, .bool V1.i, .slice a1 V1.n c1, .int .i64 V1.l, .float .f64 V1.x] 27)).alloc (.cells #[.int .i64 V2.s, .bool V2.i, .slice a2 V2.n c2, .int .i64 V2.l, .float .f64 V2.x] 27)) := ⟨_, rfl⟩
  have HB0 : Hid (Below w.heap.size w W0) := by rw [hW0]; exact below2 w _ _
  have Hg1 : Hid (W0.heap[w.heap.size]? = some (.cells #[.int .i64 V1.s, .bool V1.i, .slice a1 V1.n c1, .int .i64 V1.l, .float .f64 V1.x] 27)) := by
    show W0.heap[w.heap.size]? = _
    rw [hW0]; exact heap_at2_0 w _ _
  have Hg2 : Hid (W0.heap[w.heap.size + 1]? = some (.cells #[.int .i64 V2.s, .bool V2.i, .slice a2 V2.n c2, .int .i64 V2.l, .float .f64 V2.x] 27)) := by
    show W0.heap[w.heap.size + 1]? = _
    rw [hW0]; exact heap_at2_1 w _ _
  have H1 : Hid (VIn W0 (.agg #[.int .i64 V1.s, .bool V1.i, .slice a1 V1.n c1, .int .i64 V1.l, .float .f64 V1.x]) V1) := H1'.below HB0.out
  have H2 : Hid (VIn W0 (.agg #[.int .i64 V2.s, .bool V2.i, .slice a2 V2.n c2, .int .i64 V2.l, .float .f64 V2.x]) V2) := H2'.below HB0.out
  have HW : Below W0.heap.size W0 W0 := below_refl W0
  clear hr1 hL1 hn1 hx1 hl1 hs1 H1' hr2 hL2 hn2 hx2 hl2 hs2 H2'
  obtain ⟨p10, p11, p12, p13, p14⟩ := box5 Hg1.out HW
  obtain ⟨p20, p21, p22, p23, p24⟩ := box5 Hg2.out HW
  go_enter Tryz.func46, Tryz.ntmps46
  go_wp2_with (go_at_call 72; fail)
  simp only [← e1]
  rw [← hW0]
  refine (same_any _ _ _ (numV V1) (numV V2) (by exact H1.out.num) (by exact H2.out.num)).mono ?_
  rintro e w1 ⟨rfl, b1⟩
  replace HW := below_step HW b1
  clear b1 hW0
  clear p10 p11 p12 p13 p14 p20 p21 p22 p23 p24; obtain ⟨p10, p11, p12, p13, p14⟩ := box5 Hg1.out HW; obtain ⟨p20, p21, p22, p23, p24⟩ := box5 Hg2.out HW
  go_wp2
  go_ret
  exact ⟨rfl, below_step HB0.out HW⟩
theorem equal_nat3 (w : World) (v1 v2 : Value) (V1 V2 : Vl) (h1 : VIn w v1 V1) (h2 : VIn w v2 V2) (e1 : V1.s = 3) : Calls Tryz.prog 46 #[v1, v2] w fun e w' => e = .returned (.bool (decide (numV V1 = numV V2))) ∧ Below w.heap.size w w' := by
  have H1' := h1
  obtain ⟨a1, c1, rfl, hr1, hL1, hn1, hx1, hl1, hs1⟩ := h1
  have H2' := h2
  obtain ⟨a2, c2, rfl, hr2, hL2, hn2, hx2, hl2, hs2⟩ := h2
  obtain ⟨W0, hW0⟩ : ∃ W0, W0 = ((w.alloc (.cells #[.int .i64 V1.s, .bool V1.i, .slice a1 V1.n c1, .int .i64 V1.l, .float .f64 V1.x] 27)).alloc (.cells #[.int .i64 V2.s, .bool V2.i, .slice a2 V2.n c2, .int .i64 V2.l, .float .f64 V2.x] 27)) := ⟨_, rfl⟩
  have HB0 : Hid (Below w.heap.size w W0) := by rw [hW0]; exact below2 w _ _
  have Hg1 : Hid (W0.heap[w.heap.size]? = some (.cells #[.int .i64 V1.s, .bool V1.i, .slice a1 V1.n c1, .int .i64 V1.l, .float .f64 V1.x] 27)) := by
    show W0.heap[w.heap.size]? = _
    rw [hW0]; exact heap_at2_0 w _ _
  have Hg2 : Hid (W0.heap[w.heap.size + 1]? = some (.cells #[.int .i64 V2.s, .bool V2.i, .slice a2 V2.n c2, .int .i64 V2.l, .float .f64 V2.x] 27)) := by
    show W0.heap[w.heap.size + 1]? = _
    rw [hW0]; exact heap_at2_1 w _ _
  have H1 : Hid (VIn W0 (.agg #[.int .i64 V1.s, .bool V1.i, .slice a1 V1.n c1, .int .i64 V1.l, .float .f64 V1.x]) V1) := H1'.below HB0.out
  have H2 : Hid (VIn W0 (.agg #[.int .i64 V2.s, .bool V2.i, .slice a2 V2.n c2, .int .i64 V2.l, .float .f64 V2.x]) V2) := H2'.below HB0.out
  have HW : Below W0.heap.size W0 W0 := below_refl W0
  clear hr1 hL1 hn1 hx1 hl1 hs1 H1' hr2 hL2 hn2 hx2 hl2 hs2 H2'
  obtain ⟨p10, p11, p12, p13, p14⟩ := box5 Hg1.out HW
  obtain ⟨p20, p21, p22, p23, p24⟩ := box5 Hg2.out HW
  go_enter Tryz.func46, Tryz.ntmps46
  go_wp2_with (go_at_call 72; fail)
  simp only [← e1]
  rw [← hW0]
  refine (same_any _ _ _ (numV V1) (numV V2) (by exact H1.out.num) (by exact H2.out.num)).mono ?_
  rintro e w1 ⟨rfl, b1⟩
  replace HW := below_step HW b1
  clear b1 hW0
  clear p10 p11 p12 p13 p14 p20 p21 p22 p23 p24; obtain ⟨p10, p11, p12, p13, p14⟩ := box5 Hg1.out HW; obtain ⟨p20, p21, p22, p23, p24⟩ := box5 Hg2.out HW
  go_wp2
  go_ret
  exact ⟨rfl, below_step HB0.out HW⟩
theorem equal_flo5 (w : World) (v1 v2 : Value) (V1 V2 : Vl) (h1 : VIn w v1 V1) (h2 : VIn w v2 V2) (e1 : V1.s = 5) : Calls Tryz.prog 46 #[v1, v2] w fun e w' => e = .returned (.bool (decide (Fl.Fo.bitsOf V1.x = Fl.Fo.bitsOf V2.x))) ∧ Below w.heap.size w w' := by
  have H1' := h1
  obtain ⟨a1, c1, rfl, hr1, hL1, hn1, hx1, hl1, hs1⟩ := h1
  have H2' := h2
  obtain ⟨a2, c2, rfl, hr2, hL2, hn2, hx2, hl2, hs2⟩ := h2
  obtain ⟨W0, hW0⟩ : ∃ W0, W0 = ((w.alloc (.cells #[.int .i64 V1.s, .bool V1.i, .slice a1 V1.n c1, .int .i64 V1.l, .float .f64 V1.x] 27)).alloc (.cells #[.int .i64 V2.s, .bool V2.i, .slice a2 V2.n c2, .int .i64 V2.l, .float .f64 V2.x] 27)) := ⟨_, rfl⟩
  have HB0 : Hid (Below w.heap.size w W0) := by rw [hW0]; exact below2 w _ _
  have Hg1 : Hid (W0.heap[w.heap.size]? = some (.cells #[.int .i64 V1.s, .bool V1.i, .slice a1 V1.n c1, .int .i64 V1.l, .float .f64 V1.x] 27)) := by
    show W0.heap[w.heap.size]? = _
    rw [hW0]; exact heap_at2_0 w _ _
  have Hg2 : Hid (W0.heap[w.heap.size + 1]? = some (.cells #[.int .i64 V2.s, .bool V2.i, .slice a2 V2.n c2, .int .i64 V2.l, .float .f64 V2.x] 27)) := by
    show W0.heap[w.heap.size + 1]? = _
    rw [hW0]; exact heap_at2_1 w _ _
  have H1 : Hid (VIn W0 (.agg #[.int .i64 V1.s, .bool V1.i, .slice a1 V1.n c1, .int .i64 V1.l, .float .f64 V1.x]) V1) := H1'.below HB0.out
  have H2 : Hid (VIn W0 (.agg #[.int .i64 V2.s, .bool V2.i, .slice a2 V2.n c2, .int .i64 V2.l, .float .f64 V2.x]) V2) := H2'.below HB0.out
  have HW : Below W0.heap.size W0 W0 := below_refl W0
  clear hr1 hL1 hn1 hx1 hl1 hs1 H1' hr2 hL2 hn2 hx2 hl2 hs2 H2'
  obtain ⟨p10, p11, p12, p13, p14⟩ := box5 Hg1.out HW
  obtain ⟨p20, p21, p22, p23, p24⟩ := box5 Hg2.out HW
  have cs := Fl.same_any V1.x V2.x H1.out.xlt H2.out.xlt
  go_enter Tryz.func46, Tryz.ntmps46
  go_wp2_with (go_at_call 73; refine (cs _).mono ?_; rintro e w1 ⟨rfl, rfl⟩)
  go_ret
  simp only [← e1]
  rw [← hW0]
  exact ⟨rfl, below_step HB0.out HW⟩
theorem equal_flo6 (w : World) (v1 v2 : Value) (V1 V2 : Vl) (h1 : VIn w v1 V1) (h2 : VIn w v2 V2) (e1 : V1.s = 6) : Calls Tryz.prog 46 #[v1, v2] w fun e w' => e = .returned (.bool (decide (Fl.Fo.bitsOf V1.x = Fl.Fo.bitsOf V2.x))) ∧ Below w.heap.size w w' := by
  have H1' := h1
  obtain ⟨a1, c1, rfl, hr1, hL1, hn1, hx1, hl1, hs1⟩ := h1
  have H2' := h2
  obtain ⟨a2, c2, rfl, hr2, hL2, hn2, hx2, hl2, hs2⟩ := h2
  obtain ⟨W0, hW0⟩ : ∃ W0, W0 = ((w.alloc (.cells #[.int .i64 V1.s, .bool V1.i, .slice a1 V1.n c1, .int .i64 V1.l, .float .f64 V1.x] 27)).alloc (.cells #[.int .i64 V2.s, .bool V2.i, .slice a2 V2.n c2, .int .i64 V2.l, .float .f64 V2.x] 27)) := ⟨_, rfl⟩
  have HB0 : Hid (Below w.heap.size w W0) := by rw [hW0]; exact below2 w _ _
  have Hg1 : Hid (W0.heap[w.heap.size]? = some (.cells #[.int .i64 V1.s, .bool V1.i, .slice a1 V1.n c1, .int .i64 V1.l, .float .f64 V1.x] 27)) := by
    show W0.heap[w.heap.size]? = _
    rw [hW0]; exact heap_at2_0 w _ _
  have Hg2 : Hid (W0.heap[w.heap.size + 1]? = some (.cells #[.int .i64 V2.s, .bool V2.i, .slice a2 V2.n c2, .int .i64 V2.l, .float .f64 V2.x] 27)) := by
    show W0.heap[w.heap.size + 1]? = _
    rw [hW0]; exact heap_at2_1 w _ _
  have H1 : Hid (VIn W0 (.agg #[.int .i64 V1.s, .bool V1.i, .slice a1 V1.n c1, .int .i64 V1.l, .float .f64 V1.x]) V1) := H1'.below HB0.out
  have H2 : Hid (VIn W0 (.agg #[.int .i64 V2.s, .bool V2.i, .slice a2 V2.n c2, .int .i64 V2.l, .float .f64 V2.x]) V2) := H2'.below HB0.out
  have HW : Below W0.heap.size W0 W0 := below_refl W0
  clear hr1 hL1 hn1 hx1 hl1 hs1 H1' hr2 hL2 hn2 hx2 hl2 hs2 H2'
  obtain ⟨p10, p11, p12, p13, p14⟩ := box5 Hg1.out HW
  obtain ⟨p20, p21, p22, p23, p24⟩ := box5 Hg2.out HW
  have cs := Fl.same_any V1.x V2.x H1.out.xlt H2.out.xlt
  go_enter Tryz.func46, Tryz.ntmps46
  go_wp2_with (go_at_call 73; refine (cs _).mono ?_; rintro e w1 ⟨rfl, rfl⟩)
  go_ret
  simp only [← e1]
  rw [← hW0]
  exact ⟨rfl, below_step HB0.out HW⟩
theorem equal_lev2 (w : World) (v1 v2 : Value) (V1 V2 : Vl) (h1 : VIn w v1 V1) (h2 : VIn w v2 V2) (e1 : V1.s = 2) : Calls Tryz.prog 46 #[v1, v2] w fun e w' => e = .returned (.bool (V1.l == V2.l)) ∧ Below w.heap.size w w' := by
  have H1' := h1
  obtain ⟨a1, c1, rfl, hr1, hL1, hn1, hx1, hl1, hs1⟩ := h1
  have H2' := h2
  obtain ⟨a2, c2, rfl, hr2, hL2, hn2, hx2, hl2, hs2⟩ := h2
  obtain ⟨W0, hW0⟩ : ∃ W0, W0 = ((w.alloc (.cells #[.int .i64 V1.s, .bool V1.i, .slice a1 V1.n c1, .int .i64 V1.l, .float .f64 V1.x] 27)).alloc (.cells #[.int .i64 V2.s, .bool V2.i, .slice a2 V2.n c2, .int .i64 V2.l, .float .f64 V2.x] 27)) := ⟨_, rfl⟩
  have HB0 : Hid (Below w.heap.size w W0) := by rw [hW0]; exact below2 w _ _
  have Hg1 : Hid (W0.heap[w.heap.size]? = some (.cells #[.int .i64 V1.s, .bool V1.i, .slice a1 V1.n c1, .int .i64 V1.l, .float .f64 V1.x] 27)) := by
    show W0.heap[w.heap.size]? = _
    rw [hW0]; exact heap_at2_0 w _ _
  have Hg2 : Hid (W0.heap[w.heap.size + 1]? = some (.cells #[.int .i64 V2.s, .bool V2.i, .slice a2 V2.n c2, .int .i64 V2.l, .float .f64 V2.x] 27)) := by
    show W0.heap[w.heap.size + 1]? = _
    rw [hW0]; exact heap_at2_1 w _ _
  have H1 : Hid (VIn W0 (.agg #[.int .i64 V1.s, .bool V1.i, .slice a1 V1.n c1, .int .i64 V1.l, .float .f64 V1.x]) V1) := H1'.below HB0.out
  have H2 : Hid (VIn W0 (.agg #[.int .i64 V2.s, .bool V2.i, .slice a2 V2.n c2, .int .i64 V2.l, .float .f64 V2.x]) V2) := H2'.below HB0.out
  have HW : Below W0.heap.size W0 W0 := below_refl W0
  clear hr1 hL1 hn1 hx1 hl1 hs1 H1' hr2 hL2 hn2 hx2 hl2 hs2 H2'
  obtain ⟨p10, p11, p12, p13, p14⟩ := box5 Hg1.out HW
  obtain ⟨p20, p21, p22, p23, p24⟩ := box5 Hg2.out HW
  go_enter Tryz.func46, Tryz.ntmps46
  go_wp2
  go_ret
  simp only [← e1]
  rw [← hW0]
  exact ⟨rfl, below_step HB0.out HW⟩
theorem equal_lev4 (w : World) (v1 v2 : Value) (V1 V2 : Vl) (h1 : VIn w v1 V1) (h2 : VIn w v2 V2) (e1 : V1.s = 4) : Calls Tryz.prog 46 #[v1, v2] w fun e w' => e = .returned (.bool (V1.l == V2.l)) ∧ Below w.heap.size w w' := by
  have H1' := h1
  obtain ⟨a1, c1, rfl, hr1, hL1, hn1, hx1, hl1, hs1⟩ := h1
  have H2' := h2
  obtain ⟨a2, c2, rfl, hr2, hL2, hn2, hx2, hl2, hs2⟩ := h2
  obtain ⟨W0, hW0⟩ : ∃ W0, W0 = ((w.alloc (.cells #[.int .i64 V1.s, .bool V1.i, .slice a1 V1.n c1, .int .i64 V1.l, .float .f64 V1.x] 27)).alloc (.cells #[.int .i64 V2.s, .bool V2.i, .slice a2 V2.n c2, .int .i64 V2.l, .float .f64 V2.x] 27)) := ⟨_, rfl⟩
  have HB0 : Hid (Below w.heap.size w W0) := by rw [hW0]; exact below2 w _ _
  have Hg1 : Hid (W0.heap[w.heap.size]? = some (.cells #[.int .i64 V1.s, .bool V1.i, .slice a1 V1.n c1, .int .i64 V1.l, .float .f64 V1.x] 27)) := by
    show W0.heap[w.heap.size]? = _
    rw [hW0]; exact heap_at2_0 w _ _
  have Hg2 : Hid (W0.heap[w.heap.size + 1]? = some (.cells #[.int .i64 V2.s, .bool V2.i, .slice a2 V2.n c2, .int .i64 V2.l, .float .f64 V2.x] 27)) := by
    show W0.heap[w.heap.size + 1]? = _
    rw [hW0]; exact heap_at2_1 w _ _
  have H1 : Hid (VIn W0 (.agg #[.int .i64 V1.s, .bool V1.i, .slice a1 V1.n c1, .int .i64 V1.l, .float .f64 V1.x]) V1) := H1'.below HB0.out
  have H2 : Hid (VIn W0 (.agg #[.int .i64 V2.s, .bool V2.i, .slice a2 V2.n c2, .int .i64 V2.l, .float .f64 V2.x]) V2) := H2'.below HB0.out
  have HW : Below W0.heap.size W0 W0 := below_refl W0
  clear hr1 hL1 hn1 hx1 hl1 hs1 H1' hr2 hL2 hn2 hx2 hl2 hs2 H2'
  obtain ⟨p10, p11, p12, p13, p14⟩ := box5 Hg1.out HW
  obtain ⟨p20, p21, p22, p23, p24⟩ := box5 Hg2.out HW
  go_enter Tryz.func46, Tryz.ntmps46
  go_wp2
  go_ret
  simp only [← e1]
  rw [← hW0]
  exact ⟨rfl, below_step HB0.out HW⟩
end Go.Proofs.YtjdbapkmaggllaaGreatDoor
