/- Plus and Times. -/
import Derived.Test.YtjdbapkmaggllaaGreatDoorS34
namespace Go.Proofs.YtjdbapkmaggllaaGreatDoor
open Go.RowKit Fo
set_option maxRecDepth 100000

namespace Fo
def o2 (f : Nat → Nat → Nat) : Option Nat → Option Nat → Option Nat
  | some x, some y => some (f x y)
  | _, _ => none
/-- The sum and the product of two worths. -/
def padd (s : Int) (P Q : Option Nat) : Option Nat := if s = 1 then oadd P Q else if s = 3 then omin P Q else if s = 6 then o2 min P Q else o2 max P Q
def pmul (s : Int) (P Q : Option Nat) : Option Nat := if s = 1 then omul P Q else if s = 3 then oadd P Q else if s = 5 then o2 Fl.Fo.tm P Q else if s = 6 then o2 Fl.Fo.ps P Q else o2 min P Q
end Fo
theorem Fo.VOut.form {w : World} {v : Value} {s : Int} {P : Option Nat} (h : VOut w v s P) : ∃ (s' : Int) (i : Bool) (a : Option Addr) (n c : Nat) (l : Int) (x : Nat), v = .agg #[.int .i64 s', .bool i, .slice a n c, .int .i64 l, .float .f64 x] := by
  rcases h with ⟨hs, i, a, n, c, rfl, h⟩ | ⟨hs, l, rfl, hl, rfl⟩ | ⟨hs, x, rfl, hx, rfl⟩
  · exact ⟨_, _, _, _, _, _, _, rfl⟩
  · exact ⟨_, _, _, _, _, _, _, rfl⟩
  · exact ⟨_, _, _, _, _, _, _, rfl⟩
theorem Fo.VOut.set5 {w : World} {g : Nat} {s l : Int} {i : Bool} {a0 : Option Addr} {n0 c0 x : Nat} {t : TypeId} {v0 : Value} {s0 : Int} {P : Option Nat} (h : VOut w v0 s0 P)
    (hg : w.heap[g]? = some (.cells #[.int .i64 s, .bool i, .slice a0 n0 c0, .int .i64 l, .float .f64 x] t)) (u v y z q : Value) :
    VOut (((((w.setCell ⟨g, 0, none⟩ u).setCell ⟨g, 1, none⟩ v).setCell ⟨g, 2, none⟩ y).setCell ⟨g, 3, none⟩ z).setCell ⟨g, 4, none⟩ q) v0 s0 P := by
  rcases h with ⟨hs, i, a, n, c, rfl, h⟩ | h | h
  · exact Or.inl ⟨hs, i, a, n, c, rfl, h.set5 hg u v y z q⟩
  · exact Or.inr (Or.inl h)
  · exact Or.inr (Or.inr h)
theorem toNat_max (a b : Int) (ha : 0 ≤ a) (hb : 0 ≤ b) : (max a b).toNat = max a.toNat b.toNat := by omega
theorem toNat_min (a b : Int) (ha : 0 ≤ a) (hb : 0 ≤ b) : (min a b).toNat = min a.toNat b.toNat := by omega
theorem add_ok (w : World) (v1 v2 : Value) (V1 V2 : Vl) (h1 : VIn w v1 V1) (h2 : VIn w v2 V2) (m1 : mayV V1 = 0) (m2 : mayV V2 = 0) (es : V1.s = V2.s) :
    Calls Tryz.prog 42 #[v1, v2] w fun e w' => (∃ u, e = .returned u ∧ VOut w' u V1.s (padd V1.s (denV V1) (denV V2))) ∧ Below w.heap.size w w' := by
  have r2 := may_range m2
  rcases may_range m1 with ⟨hs, -⟩ | ⟨hs, ha⟩ | ⟨hs, ha⟩ | ⟨hs, hx⟩ | ⟨hs, hx⟩
  · rw [den_nat hs, den_nat (es ▸ hs)]
    rcases hs with hs | hs
    · rw [hs]; exact add1 w v1 v2 V1 V2 h1 h2 hs (es ▸ hs)
    · rw [hs]; exact add3 w v1 v2 V1 V2 h1 h2 hs (es ▸ hs)
  · rw [den_lev (Or.inl hs), den_lev (Or.inl (es ▸ hs)), hs]
    have := add2 w v1 v2 V1 V2 h1 h2 hs (es ▸ hs) ha (by omega)
    rw [toNat_max _ _ (by omega) (by omega)] at this
    exact this
  · rw [den_lev (Or.inr hs), den_lev (Or.inr (es ▸ hs)), hs]
    have := add4 w v1 v2 V1 V2 h1 h2 hs (es ▸ hs) ha (by omega)
    rw [toNat_max _ _ (by omega) (by omega)] at this
    exact this
  · rw [den_flo (Or.inl hs), den_flo (Or.inl (es ▸ hs)), hs]
    exact add5 w v1 v2 V1 V2 h1 h2 hs (es ▸ hs) hx (by omega)
  · rw [den_flo (Or.inr hs), den_flo (Or.inr (es ▸ hs)), hs]
    exact add6 w v1 v2 V1 V2 h1 h2 hs (es ▸ hs) hx (by omega)
theorem mul_ok (w : World) (v1 v2 : Value) (V1 V2 : Vl) (h1 : VIn w v1 V1) (h2 : VIn w v2 V2) (m1 : mayV V1 = 0) (m2 : mayV V2 = 0) (es : V1.s = V2.s) :
    Calls Tryz.prog 44 #[v1, v2] w fun e w' => (∃ u, e = .returned u ∧ VOut w' u V1.s (pmul V1.s (denV V1) (denV V2))) ∧ Below w.heap.size w w' := by
  have r2 := may_range m2
  rcases may_range m1 with ⟨hs, -⟩ | ⟨hs, ha⟩ | ⟨hs, ha⟩ | ⟨hs, hx⟩ | ⟨hs, hx⟩
  · rw [den_nat hs, den_nat (es ▸ hs)]
    rcases hs with hs | hs
    · rw [hs]; exact mul1 w v1 v2 V1 V2 h1 h2 hs (es ▸ hs)
    · rw [hs]; exact mul3 w v1 v2 V1 V2 h1 h2 hs (es ▸ hs)
  · rw [den_lev (Or.inl hs), den_lev (Or.inl (es ▸ hs)), hs]
    have := mul2 w v1 v2 V1 V2 h1 h2 hs (es ▸ hs) ha (by omega)
    rw [toNat_min _ _ (by omega) (by omega)] at this
    exact this
  · rw [den_lev (Or.inr hs), den_lev (Or.inr (es ▸ hs)), hs]
    have := mul4 w v1 v2 V1 V2 h1 h2 hs (es ▸ hs) ha (by omega)
    rw [toNat_min _ _ (by omega) (by omega)] at this
    exact this
  · rw [den_flo (Or.inl hs), den_flo (Or.inl (es ▸ hs)), hs]
    exact mul5 w v1 v2 V1 V2 h1 h2 hs (es ▸ hs) hx (by omega)
  · rw [den_flo (Or.inr hs), den_flo (Or.inr (es ▸ hs)), hs]
    exact mul6 w v1 v2 V1 V2 h1 h2 hs (es ▸ hs) hx (by omega)
theorem plus_err (w : World) (v1 v2 : Value) (V1 V2 : Vl) (h1 : VIn w v1 V1) (h2 : VIn w v2 V2) (r : Int) (e1 : errV V1 V2 = r) (hr : (r == 0) = false) : Calls Tryz.prog 12 #[v1, v2] w fun e w' => e = .returned (.tuple #[noV, .int .i64 r]) ∧ Below w.heap.size w w' := by
  have H1' := h1
  obtain ⟨a1, c1, rfl, hr1, hL1, hn1, hx1, hl1, hs1⟩ := h1
  have H2' := h2
  obtain ⟨a2, c2, rfl, hr2, hL2, hn2, hx2, hl2, hs2⟩ := h2
  obtain ⟨W0, hW0⟩ : ∃ W0, W0 = (((w.alloc (.cells #[.int .i64 V1.s, .bool V1.i, .slice a1 V1.n c1, .int .i64 V1.l, .float .f64 V1.x] 27)).alloc (.cells #[.int .i64 V2.s, .bool V2.i, .slice a2 V2.n c2, .int .i64 V2.l, .float .f64 V2.x] 27)).alloc (.cells #[.int .i64 0, .bool false, .slice none 0 0, .int .i64 0, .float .f64 0] 27)) := ⟨_, rfl⟩
  have HB0 : Hid (Below w.heap.size w W0) := by rw [hW0]; exact below3 w _ _ _
  have Hg1 : Hid (W0.heap[w.heap.size]? = some (.cells #[.int .i64 V1.s, .bool V1.i, .slice a1 V1.n c1, .int .i64 V1.l, .float .f64 V1.x] 27)) := by
    show W0.heap[w.heap.size]? = _
    rw [hW0]; exact heap_at3_0 w _ _ _
  have Hg2 : Hid (W0.heap[w.heap.size + 1]? = some (.cells #[.int .i64 V2.s, .bool V2.i, .slice a2 V2.n c2, .int .i64 V2.l, .float .f64 V2.x] 27)) := by
    show W0.heap[w.heap.size + 1]? = _
    rw [hW0]; exact heap_at3_1 w _ _ _
  have Hg3 : Hid (W0.heap[w.heap.size + 1 + 1]? = some (.cells #[.int .i64 0, .bool false, .slice none 0 0, .int .i64 0, .float .f64 0] 27)) := by
    show W0.heap[w.heap.size + 1 + 1]? = _
    rw [hW0]; exact heap_at3_2 w _ _ _
  have H1 : Hid (VIn W0 (.agg #[.int .i64 V1.s, .bool V1.i, .slice a1 V1.n c1, .int .i64 V1.l, .float .f64 V1.x]) V1) := H1'.below HB0.out
  have H2 : Hid (VIn W0 (.agg #[.int .i64 V2.s, .bool V2.i, .slice a2 V2.n c2, .int .i64 V2.l, .float .f64 V2.x]) V2) := H2'.below HB0.out
  have HW : Below W0.heap.size W0 W0 := below_refl W0
  clear hr1 hL1 hn1 hx1 hl1 hs1 H1' hr2 hL2 hn2 hx2 hl2 hs2 H2'
  obtain ⟨p10, p11, p12, p13, p14⟩ := box5 Hg1.out HW
  obtain ⟨p20, p21, p22, p23, p24⟩ := box5 Hg2.out HW
  have hsf := st_flo
  have SZ : Hid (w.heap.size + 1 + 1 < W0.heap.size) := by show w.heap.size + 1 + 1 < W0.heap.size; rw [hW0]; simp
  have E1 : Hid (errV V1 V2 = r) := e1
  clear e1
  go_enter Tryz.func12, Tryz.ntmps12
  go_wp2_with (go_at_call 41; fail)
  rw [← hW0]
  clear hW0
  refine (pair_at _ _ _ V1 V2 r (by exact H1.out.below HW) (by exact H2.out.below HW) E1.out).mono ?_
  rintro e w1 ⟨rfl, b⟩
  replace HW := below_step HW b
  clear b
  clear p10 p11 p12 p13 p14 p20 p21 p22 p23 p24; obtain ⟨p10, p11, p12, p13, p14⟩ := box5 Hg1.out HW; obtain ⟨p20, p21, p22, p23, p24⟩ := box5 Hg2.out HW
  have hgr := (HW.block (w.heap.size + 1 + 1) SZ.out).trans Hg3.out
  obtain ⟨⟨z0, z1, z2, z3, z4⟩, ⟨f0, f1, f2, f3, f4⟩, s0, s1, s2, s3, s4⟩ := box5_facts hgr
  clear hgr
  go_wp2
  refine bodyPost_ret (v := .tuple #[noV, .int .i64 r]) (by simp [results, Tryz.results12, go_sem, s0, s1, s2, s3, s4, noV]) rfl ?_
  exact ⟨rfl, below_set5 (below_step HB0.out HW) (by omega) _ _ _ _ _⟩
theorem plus_ok (w : World) (v1 v2 : Value) (V1 V2 : Vl) (h1 : VIn w v1 V1) (h2 : VIn w v2 V2) (e1 : errV V1 V2 = 0) (m1 : mayV V1 = 0) (m2 : mayV V2 = 0) (es : V1.s = V2.s) : Calls Tryz.prog 12 #[v1, v2] w fun e w' => (∃ u, e = .returned (.tuple #[u, .int .i64 0]) ∧ VOut w' u V1.s (padd V1.s (denV V1) (denV V2))) ∧ Below w.heap.size w w' := by
  have H1' := h1
  obtain ⟨a1, c1, rfl, hr1, hL1, hn1, hx1, hl1, hs1⟩ := h1
  have H2' := h2
  obtain ⟨a2, c2, rfl, hr2, hL2, hn2, hx2, hl2, hs2⟩ := h2
  obtain ⟨W0, hW0⟩ : ∃ W0, W0 = (((w.alloc (.cells #[.int .i64 V1.s, .bool V1.i, .slice a1 V1.n c1, .int .i64 V1.l, .float .f64 V1.x] 27)).alloc (.cells #[.int .i64 V2.s, .bool V2.i, .slice a2 V2.n c2, .int .i64 V2.l, .float .f64 V2.x] 27)).alloc (.cells #[.int .i64 0, .bool false, .slice none 0 0, .int .i64 0, .float .f64 0] 27)) := ⟨_, rfl⟩
  have HB0 : Hid (Below w.heap.size w W0) := by rw [hW0]; exact below3 w _ _ _
  have Hg1 : Hid (W0.heap[w.heap.size]? = some (.cells #[.int .i64 V1.s, .bool V1.i, .slice a1 V1.n c1, .int .i64 V1.l, .float .f64 V1.x] 27)) := by
    show W0.heap[w.heap.size]? = _
    rw [hW0]; exact heap_at3_0 w _ _ _
  have Hg2 : Hid (W0.heap[w.heap.size + 1]? = some (.cells #[.int .i64 V2.s, .bool V2.i, .slice a2 V2.n c2, .int .i64 V2.l, .float .f64 V2.x] 27)) := by
    show W0.heap[w.heap.size + 1]? = _
    rw [hW0]; exact heap_at3_1 w _ _ _
  have Hg3 : Hid (W0.heap[w.heap.size + 1 + 1]? = some (.cells #[.int .i64 0, .bool false, .slice none 0 0, .int .i64 0, .float .f64 0] 27)) := by
    show W0.heap[w.heap.size + 1 + 1]? = _
    rw [hW0]; exact heap_at3_2 w _ _ _
  have H1 : Hid (VIn W0 (.agg #[.int .i64 V1.s, .bool V1.i, .slice a1 V1.n c1, .int .i64 V1.l, .float .f64 V1.x]) V1) := H1'.below HB0.out
  have H2 : Hid (VIn W0 (.agg #[.int .i64 V2.s, .bool V2.i, .slice a2 V2.n c2, .int .i64 V2.l, .float .f64 V2.x]) V2) := H2'.below HB0.out
  have HW : Below W0.heap.size W0 W0 := below_refl W0
  clear hr1 hL1 hn1 hx1 hl1 hs1 H1' hr2 hL2 hn2 hx2 hl2 hs2 H2'
  obtain ⟨p10, p11, p12, p13, p14⟩ := box5 Hg1.out HW
  obtain ⟨p20, p21, p22, p23, p24⟩ := box5 Hg2.out HW
  have hsf := st_flo
  have SZ : Hid (w.heap.size + 1 + 1 < W0.heap.size) := by show w.heap.size + 1 + 1 < W0.heap.size; rw [hW0]; simp
  have E1 : Hid (errV V1 V2 = 0) := e1
  have M1 : Hid (mayV V1 = 0) := m1
  have M2 : Hid (mayV V2 = 0) := m2
  have ES : Hid (V1.s = V2.s) := es
  clear e1 m1 m2 es
  go_enter Tryz.func12, Tryz.ntmps12
  go_wp2_with (go_at_call 41; fail)
  rw [← hW0]
  clear hW0
  refine (pair_at _ _ _ V1 V2 0 (by exact H1.out.below HW) (by exact H2.out.below HW) E1.out).mono ?_
  rintro e w1 ⟨rfl, b⟩
  replace HW := below_step HW b
  clear b
  clear p10 p11 p12 p13 p14 p20 p21 p22 p23 p24; obtain ⟨p10, p11, p12, p13, p14⟩ := box5 Hg1.out HW; obtain ⟨p20, p21, p22, p23, p24⟩ := box5 Hg2.out HW
  go_wp2_with (go_at_call 42; fail)
  refine (add_ok _ _ _ V1 V2 (by exact H1.out.below HW) (by exact H2.out.below HW) M1.out M2.out ES.out).mono ?_
  rintro e w2 ⟨⟨u, rfl, o⟩, b⟩
  replace HW := below_step HW b
  clear b
  clear p10 p11 p12 p13 p14 p20 p21 p22 p23 p24; obtain ⟨p10, p11, p12, p13, p14⟩ := box5 Hg1.out HW; obtain ⟨p20, p21, p22, p23, p24⟩ := box5 Hg2.out HW
  obtain ⟨s, i, a, n, c, l, x, rfl⟩ := o.form
  have O : Hid (VOut _ _ _ _) := o
  clear o
  have hgr := (HW.block (w.heap.size + 1 + 1) SZ.out).trans Hg3.out
  obtain ⟨⟨z0, z1, z2, z3, z4⟩, ⟨f0, f1, f2, f3, f4⟩, s0, s1, s2, s3, s4⟩ := box5_facts hgr
  have Hgr : Hid (w2.heap[w.heap.size + 1 + 1]? = _) := hgr
  clear hgr
  go_wp2
  refine bodyPost_ret (v := .tuple #[.agg #[.int .i64 s, .bool i, .slice a n c, .int .i64 l, .float .f64 x], .int .i64 0]) (by simp [results, Tryz.results12, go_sem, s0, s1, s2, s3, s4]) rfl ?_
  exact ⟨⟨_, rfl, O.out.set5 Hgr.out _ _ _ _ _⟩, below_set5 (below_step HB0.out HW) (by omega) _ _ _ _ _⟩
theorem times_err (w : World) (v1 v2 : Value) (V1 V2 : Vl) (h1 : VIn w v1 V1) (h2 : VIn w v2 V2) (r : Int) (e1 : errV V1 V2 = r) (hr : (r == 0) = false) : Calls Tryz.prog 14 #[v1, v2] w fun e w' => e = .returned (.tuple #[noV, .int .i64 r]) ∧ Below w.heap.size w w' := by
  have H1' := h1
  obtain ⟨a1, c1, rfl, hr1, hL1, hn1, hx1, hl1, hs1⟩ := h1
  have H2' := h2
  obtain ⟨a2, c2, rfl, hr2, hL2, hn2, hx2, hl2, hs2⟩ := h2
  obtain ⟨W0, hW0⟩ : ∃ W0, W0 = (((w.alloc (.cells #[.int .i64 V1.s, .bool V1.i, .slice a1 V1.n c1, .int .i64 V1.l, .float .f64 V1.x] 27)).alloc (.cells #[.int .i64 V2.s, .bool V2.i, .slice a2 V2.n c2, .int .i64 V2.l, .float .f64 V2.x] 27)).alloc (.cells #[.int .i64 0, .bool false, .slice none 0 0, .int .i64 0, .float .f64 0] 27)) := ⟨_, rfl⟩
  have HB0 : Hid (Below w.heap.size w W0) := by rw [hW0]; exact below3 w _ _ _
  have Hg1 : Hid (W0.heap[w.heap.size]? = some (.cells #[.int .i64 V1.s, .bool V1.i, .slice a1 V1.n c1, .int .i64 V1.l, .float .f64 V1.x] 27)) := by
    show W0.heap[w.heap.size]? = _
    rw [hW0]; exact heap_at3_0 w _ _ _
  have Hg2 : Hid (W0.heap[w.heap.size + 1]? = some (.cells #[.int .i64 V2.s, .bool V2.i, .slice a2 V2.n c2, .int .i64 V2.l, .float .f64 V2.x] 27)) := by
    show W0.heap[w.heap.size + 1]? = _
    rw [hW0]; exact heap_at3_1 w _ _ _
  have Hg3 : Hid (W0.heap[w.heap.size + 1 + 1]? = some (.cells #[.int .i64 0, .bool false, .slice none 0 0, .int .i64 0, .float .f64 0] 27)) := by
    show W0.heap[w.heap.size + 1 + 1]? = _
    rw [hW0]; exact heap_at3_2 w _ _ _
  have H1 : Hid (VIn W0 (.agg #[.int .i64 V1.s, .bool V1.i, .slice a1 V1.n c1, .int .i64 V1.l, .float .f64 V1.x]) V1) := H1'.below HB0.out
  have H2 : Hid (VIn W0 (.agg #[.int .i64 V2.s, .bool V2.i, .slice a2 V2.n c2, .int .i64 V2.l, .float .f64 V2.x]) V2) := H2'.below HB0.out
  have HW : Below W0.heap.size W0 W0 := below_refl W0
  clear hr1 hL1 hn1 hx1 hl1 hs1 H1' hr2 hL2 hn2 hx2 hl2 hs2 H2'
  obtain ⟨p10, p11, p12, p13, p14⟩ := box5 Hg1.out HW
  obtain ⟨p20, p21, p22, p23, p24⟩ := box5 Hg2.out HW
  have hsf := st_flo
  have SZ : Hid (w.heap.size + 1 + 1 < W0.heap.size) := by show w.heap.size + 1 + 1 < W0.heap.size; rw [hW0]; simp
  have E1 : Hid (errV V1 V2 = r) := e1
  clear e1
  go_enter Tryz.func14, Tryz.ntmps14
  go_wp2_with (go_at_call 41; fail)
  rw [← hW0]
  clear hW0
  refine (pair_at _ _ _ V1 V2 r (by exact H1.out.below HW) (by exact H2.out.below HW) E1.out).mono ?_
  rintro e w1 ⟨rfl, b⟩
  replace HW := below_step HW b
  clear b
  clear p10 p11 p12 p13 p14 p20 p21 p22 p23 p24; obtain ⟨p10, p11, p12, p13, p14⟩ := box5 Hg1.out HW; obtain ⟨p20, p21, p22, p23, p24⟩ := box5 Hg2.out HW
  have hgr := (HW.block (w.heap.size + 1 + 1) SZ.out).trans Hg3.out
  obtain ⟨⟨z0, z1, z2, z3, z4⟩, ⟨f0, f1, f2, f3, f4⟩, s0, s1, s2, s3, s4⟩ := box5_facts hgr
  clear hgr
  go_wp2
  refine bodyPost_ret (v := .tuple #[noV, .int .i64 r]) (by simp [results, Tryz.results14, go_sem, s0, s1, s2, s3, s4, noV]) rfl ?_
  exact ⟨rfl, below_set5 (below_step HB0.out HW) (by omega) _ _ _ _ _⟩
theorem times_ok (w : World) (v1 v2 : Value) (V1 V2 : Vl) (h1 : VIn w v1 V1) (h2 : VIn w v2 V2) (e1 : errV V1 V2 = 0) (m1 : mayV V1 = 0) (m2 : mayV V2 = 0) (es : V1.s = V2.s) : Calls Tryz.prog 14 #[v1, v2] w fun e w' => (∃ u, e = .returned (.tuple #[u, .int .i64 0]) ∧ VOut w' u V1.s (pmul V1.s (denV V1) (denV V2))) ∧ Below w.heap.size w w' := by
  have H1' := h1
  obtain ⟨a1, c1, rfl, hr1, hL1, hn1, hx1, hl1, hs1⟩ := h1
  have H2' := h2
  obtain ⟨a2, c2, rfl, hr2, hL2, hn2, hx2, hl2, hs2⟩ := h2
  obtain ⟨W0, hW0⟩ : ∃ W0, W0 = (((w.alloc (.cells #[.int .i64 V1.s, .bool V1.i, .slice a1 V1.n c1, .int .i64 V1.l, .float .f64 V1.x] 27)).alloc (.cells #[.int .i64 V2.s, .bool V2.i, .slice a2 V2.n c2, .int .i64 V2.l, .float .f64 V2.x] 27)).alloc (.cells #[.int .i64 0, .bool false, .slice none 0 0, .int .i64 0, .float .f64 0] 27)) := ⟨_, rfl⟩
  have HB0 : Hid (Below w.heap.size w W0) := by rw [hW0]; exact below3 w _ _ _
  have Hg1 : Hid (W0.heap[w.heap.size]? = some (.cells #[.int .i64 V1.s, .bool V1.i, .slice a1 V1.n c1, .int .i64 V1.l, .float .f64 V1.x] 27)) := by
    show W0.heap[w.heap.size]? = _
    rw [hW0]; exact heap_at3_0 w _ _ _
  have Hg2 : Hid (W0.heap[w.heap.size + 1]? = some (.cells #[.int .i64 V2.s, .bool V2.i, .slice a2 V2.n c2, .int .i64 V2.l, .float .f64 V2.x] 27)) := by
    show W0.heap[w.heap.size + 1]? = _
    rw [hW0]; exact heap_at3_1 w _ _ _
  have Hg3 : Hid (W0.heap[w.heap.size + 1 + 1]? = some (.cells #[.int .i64 0, .bool false, .slice none 0 0, .int .i64 0, .float .f64 0] 27)) := by
    show W0.heap[w.heap.size + 1 + 1]? = _
    rw [hW0]; exact heap_at3_2 w _ _ _
  have H1 : Hid (VIn W0 (.agg #[.int .i64 V1.s, .bool V1.i, .slice a1 V1.n c1, .int .i64 V1.l, .float .f64 V1.x]) V1) := H1'.below HB0.out
  have H2 : Hid (VIn W0 (.agg #[.int .i64 V2.s, .bool V2.i, .slice a2 V2.n c2, .int .i64 V2.l, .float .f64 V2.x]) V2) := H2'.below HB0.out
  have HW : Below W0.heap.size W0 W0 := below_refl W0
  clear hr1 hL1 hn1 hx1 hl1 hs1 H1' hr2 hL2 hn2 hx2 hl2 hs2 H2'
  obtain ⟨p10, p11, p12, p13, p14⟩ := box5 Hg1.out HW
  obtain ⟨p20, p21, p22, p23, p24⟩ := box5 Hg2.out HW
  have hsf := st_flo
  have SZ : Hid (w.heap.size + 1 + 1 < W0.heap.size) := by show w.heap.size + 1 + 1 < W0.heap.size; rw [hW0]; simp
  have E1 : Hid (errV V1 V2 = 0) := e1
  have M1 : Hid (mayV V1 = 0) := m1
  have M2 : Hid (mayV V2 = 0) := m2
  have ES : Hid (V1.s = V2.s) := es
  clear e1 m1 m2 es
  go_enter Tryz.func14, Tryz.ntmps14
  go_wp2_with (go_at_call 41; fail)
  rw [← hW0]
  clear hW0
  refine (pair_at _ _ _ V1 V2 0 (by exact H1.out.below HW) (by exact H2.out.below HW) E1.out).mono ?_
  rintro e w1 ⟨rfl, b⟩
  replace HW := below_step HW b
  clear b
  clear p10 p11 p12 p13 p14 p20 p21 p22 p23 p24; obtain ⟨p10, p11, p12, p13, p14⟩ := box5 Hg1.out HW; obtain ⟨p20, p21, p22, p23, p24⟩ := box5 Hg2.out HW
  go_wp2_with (go_at_call 44; fail)
  refine (mul_ok _ _ _ V1 V2 (by exact H1.out.below HW) (by exact H2.out.below HW) M1.out M2.out ES.out).mono ?_
  rintro e w2 ⟨⟨u, rfl, o⟩, b⟩
  replace HW := below_step HW b
  clear b
  clear p10 p11 p12 p13 p14 p20 p21 p22 p23 p24; obtain ⟨p10, p11, p12, p13, p14⟩ := box5 Hg1.out HW; obtain ⟨p20, p21, p22, p23, p24⟩ := box5 Hg2.out HW
  obtain ⟨s, i, a, n, c, l, x, rfl⟩ := o.form
  have O : Hid (VOut _ _ _ _) := o
  clear o
  have hgr := (HW.block (w.heap.size + 1 + 1) SZ.out).trans Hg3.out
  obtain ⟨⟨z0, z1, z2, z3, z4⟩, ⟨f0, f1, f2, f3, f4⟩, s0, s1, s2, s3, s4⟩ := box5_facts hgr
  have Hgr : Hid (w2.heap[w.heap.size + 1 + 1]? = _) := hgr
  clear hgr
  go_wp2
  refine bodyPost_ret (v := .tuple #[.agg #[.int .i64 s, .bool i, .slice a n c, .int .i64 l, .float .f64 x], .int .i64 0]) (by simp [results, Tryz.results14, go_sem, s0, s1, s2, s3, s4]) rfl ?_
  exact ⟨⟨_, rfl, O.out.set5 Hgr.out _ _ _ _ _⟩, below_set5 (below_step HB0.out HW) (by omega) _ _ _ _ _⟩
end Go.Proofs.YtjdbapkmaggllaaGreatDoor
