/- The document's own sums and products, all ways; PlusValue and TimesValue. -/
import Derived.Test.YtjdbapkmaggllaaGreatDoorS43
namespace Go.Proofs.YtjdbapkmaggllaaGreatDoor
open Go.RowKit Fo
set_option maxRecDepth 100000

namespace Fo
/-- What is answered: a value, or nothing and why. -/
def VR (w : World) (u : Value) (r : Int) (s : Int) (P : Option Nat) : Prop := (r = 0 ∧ VOut w u s P) ∨ (¬ r = 0 ∧ u = noV)
theorem VR.form {w : World} {u : Value} {r s : Int} {P : Option Nat} (h : VR w u r s P) : ∃ (s' : Int) (i : Bool) (a : Option Addr) (n c : Nat) (l : Int) (x : Nat), u = .agg #[.int .i64 s', .bool i, .slice a n c, .int .i64 l, .float .f64 x] := by
  rcases h with ⟨-, h⟩ | ⟨-, rfl⟩
  · exact h.form
  · exact ⟨_, _, _, _, _, _, _, rfl⟩
theorem VR.set5 {w : World} {g : Nat} {s l : Int} {i : Bool} {a0 : Option Addr} {n0 c0 x : Nat} {t : TypeId} {v0 : Value} {r s0 : Int} {P : Option Nat} (h : VR w v0 r s0 P)
    (hg : w.heap[g]? = some (.cells #[.int .i64 s, .bool i, .slice a0 n0 c0, .int .i64 l, .float .f64 x] t)) (u v y z q : Value) :
    VR (((((w.setCell ⟨g, 0, none⟩ u).setCell ⟨g, 1, none⟩ v).setCell ⟨g, 2, none⟩ y).setCell ⟨g, 3, none⟩ z).setCell ⟨g, 4, none⟩ q) v0 r s0 P := by
  rcases h with ⟨h0, h⟩ | h
  · exact Or.inl ⟨h0, h.set5 hg u v y z q⟩
  · exact Or.inr h
theorem VR.below {w w1 : World} {v : Value} {r s : Int} {P : Option Nat} (h : VR w v r s P) (hb : Below w.heap.size w w1) : VR w1 v r s P := by
  rcases h with ⟨h0, h⟩ | h
  · exact Or.inl ⟨h0, h.below hb⟩
  · exact Or.inr h
end Fo
theorem rop_a (w : World) (v1 v2 : Value) (V1 V2 : Vl) (h1 : VIn w v1 V1) (h2 : VIn w v2 V2) (t : Bool) (r : Int) (m1 : mayV V1 = r) (hr : (r != 0) = true) : Calls Tryz.prog 43 #[v1, v2, .bool t] w fun e w' => e = .returned (.tuple #[noV, .int .i64 r]) ∧ Below w.heap.size w w' := by
  have H1' := h1
  obtain ⟨a1, c1, rfl, hr1, hL1, hn1, hx1, hl1, hs1⟩ := h1
  have H2' := h2
  obtain ⟨a2, c2, rfl, hr2, hL2, hn2, hx2, hl2, hs2⟩ := h2
  obtain ⟨W0, hW0⟩ : ∃ W0, W0 = (((w.alloc (.cells #[.int .i64 V1.s, .bool V1.i, .slice a1 V1.n c1, .int .i64 V1.l, .float .f64 V1.x] 27)).alloc (.cells #[.int .i64 V2.s, .bool V2.i, .slice a2 V2.n c2, .int .i64 V2.l, .float .f64 V2.x] 27)).alloc (.cells #[.int .i64 0, .bool false, .slice none 0 0, .int .i64 0, .float .f64 0] 27)) := ⟨_, rfl⟩
  have HB0 : Hid (Below w.heap.size w W0) := by rw [hW0]; exact below3 w _ _ _
  have Hg1 : Hid (W0.heap[w.heap.size]? = some (.cells #[.int .i64 V1.s, .bool V1.i, .slice a1 V1.n c1, .int .i64 V1.l, .float .f64 V1.x] 27)) := by
    show W0.heap[w.heap.size]? = _
    rw [hW0]; exact heap_at3_0 w _ _ _
  have Hg2 : Hid (W0.heap[w.heap.size + 1]? = some (.cells #[.int .i64 V2.s, .bool V2.i, .slice a2 V2.n c2, .int .i64 V2.l, .float .f64 V2.x] 27)) := by
    show W0.heap[w.heap.size + 1]? = _
    rw [hW0]; exact heap_at3_1 w _ _ _
  have Hg3 : Hid (W0.heap[w.heap.size + 1 + 1]? = some (.cells #[.int .i64 0, .bool false, .slice none 0 0, .int .i64 0, .float .f64 0] 27)) := by
    show W0.heap[w.heap.size + 1 + 1]? = _
    rw [hW0]; exact heap_at3_2 w _ _ _
  have H1 : Hid (VIn W0 (.agg #[.int .i64 V1.s, .bool V1.i, .slice a1 V1.n c1, .int .i64 V1.l, .float .f64 V1.x]) V1) := H1'.below HB0.out
  have H2 : Hid (VIn W0 (.agg #[.int .i64 V2.s, .bool V2.i, .slice a2 V2.n c2, .int .i64 V2.l, .float .f64 V2.x]) V2) := H2'.below HB0.out
  have HW : Below W0.heap.size W0 W0 := below_refl W0
  clear hr1 hL1 hn1 hx1 hl1 hs1 H1' hr2 hL2 hn2 hx2 hl2 hs2 H2'
  obtain ⟨p10, p11, p12, p13, p14⟩ := box5 Hg1.out HW
  obtain ⟨p20, p21, p22, p23, p24⟩ := box5 Hg2.out HW
  have hsf := st_flo
  have SZ : Hid (w.heap.size + 1 + 1 < W0.heap.size) := by show w.heap.size + 1 + 1 < W0.heap.size; rw [hW0]; simp
  have M1 : Hid (mayV V1 = r) := m1
  clear m1
  go_enter Tryz.func43, Tryz.ntmps43
  go_wp2_with (go_at_call 22; fail)
  rw [← hW0]
  clear hW0
  refine (rmv_at _ _ V1 r (by exact H1.out.below HW) M1.out).mono ?_
  rintro e w1 ⟨rfl, b⟩
  replace HW := below_step HW b
  clear b
  clear p10 p11 p12 p13 p14 p20 p21 p22 p23 p24; obtain ⟨p10, p11, p12, p13, p14⟩ := box5 Hg1.out HW; obtain ⟨p20, p21, p22, p23, p24⟩ := box5 Hg2.out HW
  have hgr := (HW.block (w.heap.size + 1 + 1) SZ.out).trans Hg3.out
  obtain ⟨⟨z0, z1, z2, z3, z4⟩, ⟨f0, f1, f2, f3, f4⟩, s0, s1, s2, s3, s4⟩ := box5_facts hgr
  clear hgr
  go_wp2
  refine bodyPost_ret (v := .tuple #[noV, .int .i64 r]) (by simp [results, Tryz.results43, go_sem, s0, s1, s2, s3, s4, noV]) rfl ?_
  exact ⟨rfl, below_set5 (below_step HB0.out HW) (by omega) _ _ _ _ _⟩
theorem rop_b (w : World) (v1 v2 : Value) (V1 V2 : Vl) (h1 : VIn w v1 V1) (h2 : VIn w v2 V2) (t : Bool) (r : Int) (m1 : mayV V1 = 0) (m2 : mayV V2 = r) (hr : (r != 0) = true) : Calls Tryz.prog 43 #[v1, v2, .bool t] w fun e w' => e = .returned (.tuple #[noV, .int .i64 r]) ∧ Below w.heap.size w w' := by
  have H1' := h1
  obtain ⟨a1, c1, rfl, hr1, hL1, hn1, hx1, hl1, hs1⟩ := h1
  have H2' := h2
  obtain ⟨a2, c2, rfl, hr2, hL2, hn2, hx2, hl2, hs2⟩ := h2
  obtain ⟨W0, hW0⟩ : ∃ W0, W0 = (((w.alloc (.cells #[.int .i64 V1.s, .bool V1.i, .slice a1 V1.n c1, .int .i64 V1.l, .float .f64 V1.x] 27)).alloc (.cells #[.int .i64 V2.s, .bool V2.i, .slice a2 V2.n c2, .int .i64 V2.l, .float .f64 V2.x] 27)).alloc (.cells #[.int .i64 0, .bool false, .slice none 0 0, .int .i64 0, .float .f64 0] 27)) := ⟨_, rfl⟩
  have HB0 : Hid (Below w.heap.size w W0) := by rw [hW0]; exact below3 w _ _ _
  have Hg1 : Hid (W0.heap[w.heap.size]? = some (.cells #[.int .i64 V1.s, .bool V1.i, .slice a1 V1.n c1, .int .i64 V1.l, .float .f64 V1.x] 27)) := by
    show W0.heap[w.heap.size]? = _
    rw [hW0]; exact heap_at3_0 w _ _ _
  have Hg2 : Hid (W0.heap[w.heap.size + 1]? = some (.cells #[.int .i64 V2.s, .bool V2.i, .slice a2 V2.n c2, .int .i64 V2.l, .float .f64 V2.x] 27)) := by
    show W0.heap[w.heap.size + 1]? = _
    rw [hW0]; exact heap_at3_1 w _ _ _
  have Hg3 : Hid (W0.heap[w.heap.size + 1 + 1]? = some (.cells #[.int .i64 0, .bool false, .slice none 0 0, .int .i64 0, .float .f64 0] 27)) := by
    show W0.heap[w.heap.size + 1 + 1]? = _
    rw [hW0]; exact heap_at3_2 w _ _ _
  have H1 : Hid (VIn W0 (.agg #[.int .i64 V1.s, .bool V1.i, .slice a1 V1.n c1, .int .i64 V1.l, .float .f64 V1.x]) V1) := H1'.below HB0.out
  have H2 : Hid (VIn W0 (.agg #[.int .i64 V2.s, .bool V2.i, .slice a2 V2.n c2, .int .i64 V2.l, .float .f64 V2.x]) V2) := H2'.below HB0.out
  have HW : Below W0.heap.size W0 W0 := below_refl W0
  clear hr1 hL1 hn1 hx1 hl1 hs1 H1' hr2 hL2 hn2 hx2 hl2 hs2 H2'
  obtain ⟨p10, p11, p12, p13, p14⟩ := box5 Hg1.out HW
  obtain ⟨p20, p21, p22, p23, p24⟩ := box5 Hg2.out HW
  have hsf := st_flo
  have SZ : Hid (w.heap.size + 1 + 1 < W0.heap.size) := by show w.heap.size + 1 + 1 < W0.heap.size; rw [hW0]; simp
  have M1 : Hid (mayV V1 = 0) := m1
  have M2 : Hid (mayV V2 = r) := m2
  clear m1 m2
  go_enter Tryz.func43, Tryz.ntmps43
  go_wp2_with (go_at_call 22; fail)
  rw [← hW0]
  clear hW0
  refine (rmv_at _ _ V1 0 (by exact H1.out.below HW) M1.out).mono ?_
  rintro e w1 ⟨rfl, b⟩
  replace HW := below_step HW b
  clear b
  clear p10 p11 p12 p13 p14 p20 p21 p22 p23 p24; obtain ⟨p10, p11, p12, p13, p14⟩ := box5 Hg1.out HW; obtain ⟨p20, p21, p22, p23, p24⟩ := box5 Hg2.out HW
  go_wp2_with (go_at_call 22; fail)
  refine (rmv_at _ _ V2 r (by exact H2.out.below HW) M2.out).mono ?_
  rintro e w2 ⟨rfl, b⟩
  replace HW := below_step HW b
  clear b
  clear p10 p11 p12 p13 p14 p20 p21 p22 p23 p24; obtain ⟨p10, p11, p12, p13, p14⟩ := box5 Hg1.out HW; obtain ⟨p20, p21, p22, p23, p24⟩ := box5 Hg2.out HW
  have hgr := (HW.block (w.heap.size + 1 + 1) SZ.out).trans Hg3.out
  obtain ⟨⟨z0, z1, z2, z3, z4⟩, ⟨f0, f1, f2, f3, f4⟩, s0, s1, s2, s3, s4⟩ := box5_facts hgr
  clear hgr
  go_wp2
  refine bodyPost_ret (v := .tuple #[noV, .int .i64 r]) (by simp [results, Tryz.results43, go_sem, s0, s1, s2, s3, s4, noV]) rfl ?_
  exact ⟨rfl, below_set5 (below_step HB0.out HW) (by omega) _ _ _ _ _⟩
theorem rop_c (w : World) (v1 v2 : Value) (V1 V2 : Vl) (h1 : VIn w v1 V1) (h2 : VIn w v2 V2) (t : Bool) (m1 : mayV V1 = 0) (m2 : mayV V2 = 0) (es : (V1.s != V2.s) = true) : Calls Tryz.prog 43 #[v1, v2, .bool t] w fun e w' => e = .returned (.tuple #[noV, .int .i64 9]) ∧ Below w.heap.size w w' := by
  have H1' := h1
  obtain ⟨a1, c1, rfl, hr1, hL1, hn1, hx1, hl1, hs1⟩ := h1
  have H2' := h2
  obtain ⟨a2, c2, rfl, hr2, hL2, hn2, hx2, hl2, hs2⟩ := h2
  obtain ⟨W0, hW0⟩ : ∃ W0, W0 = (((w.alloc (.cells #[.int .i64 V1.s, .bool V1.i, .slice a1 V1.n c1, .int .i64 V1.l, .float .f64 V1.x] 27)).alloc (.cells #[.int .i64 V2.s, .bool V2.i, .slice a2 V2.n c2, .int .i64 V2.l, .float .f64 V2.x] 27)).alloc (.cells #[.int .i64 0, .bool false, .slice none 0 0, .int .i64 0, .float .f64 0] 27)) := ⟨_, rfl⟩
  have HB0 : Hid (Below w.heap.size w W0) := by rw [hW0]; exact below3 w _ _ _
  have Hg1 : Hid (W0.heap[w.heap.size]? = some (.cells #[.int .i64 V1.s, .bool V1.i, .slice a1 V1.n c1, .int .i64 V1.l, .float .f64 V1.x] 27)) := by
    show W0.heap[w.heap.size]? = _
    rw [hW0]; exact heap_at3_0 w _ _ _
  have Hg2 : Hid (W0.heap[w.heap.size + 1]? = some (.cells #[.int .i64 V2.s, .bool V2.i, .slice a2 V2.n c2, .int .i64 V2.l, .float .f64 V2.x] 27)) := by
    show W0.heap[w.heap.size + 1]? = _
    rw [hW0]; exact heap_at3_1 w _ _ _
  have Hg3 : Hid (W0.heap[w.heap.size + 1 + 1]? = some (.cells #[.int .i64 0, .bool false, .slice none 0 0, .int .i64 0, .float .f64 0] 27)) := by
    show W0.heap[w.heap.size + 1 + 1]? = _
    rw [hW0]; exact heap_at3_2 w _ _ _
  have H1 : Hid (VIn W0 (.agg #[.int .i64 V1.s, .bool V1.i, .slice a1 V1.n c1, .int .i64 V1.l, .float .f64 V1.x]) V1) := H1'.below HB0.out
  have H2 : Hid (VIn W0 (.agg #[.int .i64 V2.s, .bool V2.i, .slice a2 V2.n c2, .int .i64 V2.l, .float .f64 V2.x]) V2) := H2'.below HB0.out
  have HW : Below W0.heap.size W0 W0 := below_refl W0
  clear hr1 hL1 hn1 hx1 hl1 hs1 H1' hr2 hL2 hn2 hx2 hl2 hs2 H2'
  obtain ⟨p10, p11, p12, p13, p14⟩ := box5 Hg1.out HW
  obtain ⟨p20, p21, p22, p23, p24⟩ := box5 Hg2.out HW
  have hsf := st_flo
  have SZ : Hid (w.heap.size + 1 + 1 < W0.heap.size) := by show w.heap.size + 1 + 1 < W0.heap.size; rw [hW0]; simp
  have M1 : Hid (mayV V1 = 0) := m1
  have M2 : Hid (mayV V2 = 0) := m2
  clear m1 m2
  go_enter Tryz.func43, Tryz.ntmps43
  go_wp2_with (go_at_call 22; fail)
  rw [← hW0]
  clear hW0
  refine (rmv_at _ _ V1 0 (by exact H1.out.below HW) M1.out).mono ?_
  rintro e w1 ⟨rfl, b⟩
  replace HW := below_step HW b
  clear b
  clear p10 p11 p12 p13 p14 p20 p21 p22 p23 p24; obtain ⟨p10, p11, p12, p13, p14⟩ := box5 Hg1.out HW; obtain ⟨p20, p21, p22, p23, p24⟩ := box5 Hg2.out HW
  go_wp2_with (go_at_call 22; fail)
  refine (rmv_at _ _ V2 0 (by exact H2.out.below HW) M2.out).mono ?_
  rintro e w2 ⟨rfl, b⟩
  replace HW := below_step HW b
  clear b
  clear p10 p11 p12 p13 p14 p20 p21 p22 p23 p24; obtain ⟨p10, p11, p12, p13, p14⟩ := box5 Hg1.out HW; obtain ⟨p20, p21, p22, p23, p24⟩ := box5 Hg2.out HW
  have hgr := (HW.block (w.heap.size + 1 + 1) SZ.out).trans Hg3.out
  obtain ⟨⟨z0, z1, z2, z3, z4⟩, ⟨f0, f1, f2, f3, f4⟩, s0, s1, s2, s3, s4⟩ := box5_facts hgr
  clear hgr
  go_wp2
  refine bodyPost_ret (v := .tuple #[noV, .int .i64 9]) (by simp [results, Tryz.results43, go_sem, s0, s1, s2, s3, s4, noV]) rfl ?_
  exact ⟨rfl, below_set5 (below_step HB0.out HW) (by omega) _ _ _ _ _⟩
theorem rop_ok (w : World) (v1 v2 : Value) (V1 V2 : Vl) (t : Bool) (h1 : VIn w v1 V1) (h2 : VIn w v2 V2) (m1 : mayV V1 = 0) (m2 : mayV V2 = 0) (es : V1.s = V2.s) :
    Calls Tryz.prog 43 #[v1, v2, .bool t] w fun e w' => (∃ u, e = .returned (.tuple #[u, .int .i64 0]) ∧ VOut w' u V1.s (if t then pmul V1.s (denV V1) (denV V2) else padd V1.s (denV V1) (denV V2))) ∧ Below w.heap.size w w' := by
  have r2 := may_range m2
  rcases may_range m1 with ⟨hs, -⟩ | ⟨hs, ha⟩ | ⟨hs, ha⟩ | ⟨hs, hx⟩ | ⟨hs, hx⟩
  · rw [den_nat hs, den_nat (es ▸ hs)]
    rcases hs with hs | hs
    · rw [hs]
      cases t
      · exact rop1f w v1 v2 V1 V2 h1 h2 hs (es ▸ hs) m1 m2
      · exact rop1t w v1 v2 V1 V2 h1 h2 hs (es ▸ hs) m1 m2
    · rw [hs]
      by_cases hq : ocmp (numV V2) (numV V1) < 0
      · cases t
        · have := rop3fl w v1 v2 V1 V2 h1 h2 hs (es ▸ hs) m1 m2 _ rfl hq
          have e : padd 3 (numV V1) (numV V2) = numV V2 := by show omin _ _ = _; unfold omin; rw [if_pos hq]
          rw [if_neg (by decide), e]; exact this
        · exact rop3tl w v1 v2 V1 V2 h1 h2 hs (es ▸ hs) m1 m2 _ rfl hq
      · cases t
        · have := rop3fg w v1 v2 V1 V2 h1 h2 hs (es ▸ hs) m1 m2 _ rfl hq
          have e : padd 3 (numV V1) (numV V2) = numV V1 := by show omin _ _ = _; unfold omin; rw [if_neg hq]
          rw [if_neg (by decide), e]; exact this
        · exact rop3tg w v1 v2 V1 V2 h1 h2 hs (es ▸ hs) m1 m2 _ rfl hq
  · rw [den_lev (Or.inl hs), den_lev (Or.inl (es ▸ hs)), hs]
    cases t
    · have := rop2f w v1 v2 V1 V2 h1 h2 hs (es ▸ hs) m1 m2 ha (by omega)
      rw [toNat_max _ _ (by omega) (by omega)] at this
      exact this
    · have := rop2t w v1 v2 V1 V2 h1 h2 hs (es ▸ hs) m1 m2 ha (by omega)
      rw [toNat_min _ _ (by omega) (by omega)] at this
      exact this
  · rw [den_lev (Or.inr hs), den_lev (Or.inr (es ▸ hs)), hs]
    cases t
    · have := rop4f w v1 v2 V1 V2 h1 h2 hs (es ▸ hs) m1 m2 ha (by omega)
      rw [toNat_max _ _ (by omega) (by omega)] at this
      exact this
    · have := rop4t w v1 v2 V1 V2 h1 h2 hs (es ▸ hs) m1 m2 ha (by omega)
      rw [toNat_min _ _ (by omega) (by omega)] at this
      exact this
  · rw [den_flo (Or.inl hs), den_flo (Or.inl (es ▸ hs)), hs]
    cases t
    · exact rop5f w v1 v2 V1 V2 h1 h2 hs (es ▸ hs) m1 m2 hx (by omega)
    · exact rop5t w v1 v2 V1 V2 h1 h2 hs (es ▸ hs) m1 m2 hx (by omega)
  · rw [den_flo (Or.inr hs), den_flo (Or.inr (es ▸ hs)), hs]
    cases t
    · exact rop6f w v1 v2 V1 V2 h1 h2 hs (es ▸ hs) m1 m2 hx (by omega)
    · exact rop6t w v1 v2 V1 V2 h1 h2 hs (es ▸ hs) m1 m2 hx (by omega)
theorem rop_any (w : World) (v1 v2 : Value) (V1 V2 : Vl) (t : Bool) (r : Int) (h1 : VIn w v1 V1) (h2 : VIn w v2 V2) (er : errV V1 V2 = r) :
    Calls Tryz.prog 43 #[v1, v2, .bool t] w fun e w' => (∃ u, e = .returned (.tuple #[u, .int .i64 r]) ∧ VR w' u r V1.s (if t then pmul V1.s (denV V1) (denV V2) else padd V1.s (denV V1) (denV V2))) ∧ Below w.heap.size w w' := by
  by_cases m1 : mayV V1 = 0
  · by_cases m2 : mayV V2 = 0
    · by_cases es : V1.s = V2.s
      · have e0 : r = 0 := by rw [← er]; exact ok_err m1 m2 es
        rw [e0]
        exact (rop_ok w v1 v2 V1 V2 t h1 h2 m1 m2 es).mono fun e w' ⟨⟨u, hu, o⟩, b⟩ => ⟨⟨u, hu, Or.inl ⟨rfl, o⟩⟩, b⟩
      · have e9 : r = 9 := by rw [← er]; unfold errV; rw [if_neg (by simp [m1]), if_neg (by simp [m2]), if_pos es]
        rw [e9]
        exact (rop_c w v1 v2 V1 V2 h1 h2 t m1 m2 (by simpa using es)).mono fun e w' ⟨hu, b⟩ => ⟨⟨noV, hu, Or.inr ⟨by decide, rfl⟩⟩, b⟩
    · have e2 : r = mayV V2 := by rw [← er]; unfold errV; rw [if_neg (by simp [m1]), if_pos m2]
      have hr : ¬ r = 0 := by rw [e2]; exact m2
      exact (rop_b w v1 v2 V1 V2 h1 h2 t r m1 e2.symm (by simpa using hr)).mono fun e w' ⟨hu, b⟩ => ⟨⟨noV, hu, Or.inr ⟨hr, rfl⟩⟩, b⟩
  · have e1 : r = mayV V1 := by rw [← er]; unfold errV; rw [if_pos m1]
    have hr : ¬ r = 0 := by rw [e1]; exact m1
    exact (rop_a w v1 v2 V1 V2 h1 h2 t r e1.symm (by simpa using hr)).mono fun e w' ⟨hu, b⟩ => ⟨⟨noV, hu, Or.inr ⟨hr, rfl⟩⟩, b⟩
theorem rplus_any (w : World) (v1 v2 : Value) (V1 V2 : Vl) (h1 : VIn w v1 V1) (h2 : VIn w v2 V2) (r : Int) (er : errV V1 V2 = r) : Calls Tryz.prog 13 #[v1, v2] w fun e w' => (∃ u, e = .returned (.tuple #[u, .int .i64 r]) ∧ VR w' u r V1.s (padd V1.s (denV V1) (denV V2))) ∧ Below w.heap.size w w' := by
  have H1' := h1
  obtain ⟨a1, c1, rfl, hr1, hL1, hn1, hx1, hl1, hs1⟩ := h1
  have H2' := h2
  obtain ⟨a2, c2, rfl, hr2, hL2, hn2, hx2, hl2, hs2⟩ := h2
  obtain ⟨W0, hW0⟩ : ∃ W0, W0 = (((w.alloc (.cells #[.int .i64 V1.s, .bool V1.i, .slice a1 V1.n c1, .int .i64 V1.l, .float .f64 V1.x] 27)).alloc (.cells #[.int .i64 V2.s, .bool V2.i, .slice a2 V2.n c2, .int .i64 V2.l, .float .f64 V2.x] 27)).alloc (.cells #[.int .i64 0, .bool false, .slice none 0 0, .int .i64 0, .float .f64 0] 27)) := ⟨_, rfl⟩
  have HB0 : Hid (Below w.heap.size w W0) := by rw [hW0]; exact below3 w _ _ _
  have Hg1 : Hid (W0.heap[w.heap.size]? = some (.cells #[.int .i64 V1.s, .bool V1.i, .slice a1 V1.n c1, .int .i64 V1.l, .float .f64 V1.x] 27)) := by
    show W0.heap[w.heap.size]? = _
    rw [hW0]; exact heap_at3_0 w _ _ _
  have Hg2 : Hid (W0.heap[w.heap.size + 1]? = some (.cells #[.int .i64 V2.s, .bool V2.i, .slice a2 V2.n c2, .int .i64 V2.l, .float .f64 V2.x] 27)) := by
    show W0.heap[w.heap.size + 1]? = _
    rw [hW0]; exact heap_at3_1 w _ _ _
  have Hg3 : Hid (W0.heap[w.heap.size + 1 + 1]? = some (.cells #[.int .i64 0, .bool false, .slice none 0 0, .int .i64 0, .float .f64 0] 27)) := by
    show W0.heap[w.heap.size + 1 + 1]? = _
    rw [hW0]; exact heap_at3_2 w _ _ _
  have H1 : Hid (VIn W0 (.agg #[.int .i64 V1.s, .bool V1.i, .slice a1 V1.n c1, .int .i64 V1.l, .float .f64 V1.x]) V1) := H1'.below HB0.out
  have H2 : Hid (VIn W0 (.agg #[.int .i64 V2.s, .bool V2.i, .slice a2 V2.n c2, .int .i64 V2.l, .float .f64 V2.x]) V2) := H2'.below HB0.out
  have HW : Below W0.heap.size W0 W0 := below_refl W0
  clear hr1 hL1 hn1 hx1 hl1 hs1 H1' hr2 hL2 hn2 hx2 hl2 hs2 H2'
  obtain ⟨p10, p11, p12, p13, p14⟩ := box5 Hg1.out HW
  obtain ⟨p20, p21, p22, p23, p24⟩ := box5 Hg2.out HW
  have hsf := st_flo
  have SZ : Hid (w.heap.size + 1 + 1 < W0.heap.size) := by show w.heap.size + 1 + 1 < W0.heap.size; rw [hW0]; simp
  have ER : Hid (errV V1 V2 = r) := er
  clear er
  go_enter Tryz.func13, Tryz.ntmps13
  go_wp2_with (go_at_call 43; fail)
  rw [← hW0]
  clear hW0
  refine (rop_any _ _ _ V1 V2 false r (by exact H1.out.below HW) (by exact H2.out.below HW) ER.out).mono ?_
  rintro e w1 ⟨⟨u, rfl, o⟩, b⟩
  replace HW := below_step HW b
  clear b
  clear p10 p11 p12 p13 p14 p20 p21 p22 p23 p24; obtain ⟨p10, p11, p12, p13, p14⟩ := box5 Hg1.out HW; obtain ⟨p20, p21, p22, p23, p24⟩ := box5 Hg2.out HW
  obtain ⟨s, i, a, n, c, l, x, rfl⟩ := o.form
  have O : Hid (VR _ _ r V1.s (padd V1.s (denV V1) (denV V2))) := o
  clear o
  have hgr := (HW.block (w.heap.size + 1 + 1) SZ.out).trans Hg3.out
  obtain ⟨⟨z0, z1, z2, z3, z4⟩, ⟨f0, f1, f2, f3, f4⟩, s0, s1, s2, s3, s4⟩ := box5_facts hgr
  have Hgr : Hid (w1.heap[w.heap.size + 1 + 1]? = _) := hgr
  clear hgr
  go_wp2
  refine bodyPost_ret (v := .tuple #[.agg #[.int .i64 s, .bool i, .slice a n c, .int .i64 l, .float .f64 x], .int .i64 r]) (by simp [results, Tryz.results13, go_sem, s0, s1, s2, s3, s4]) rfl ?_
  exact ⟨⟨_, rfl, O.out.set5 Hgr.out _ _ _ _ _⟩, below_set5 (below_step HB0.out HW) (by omega) _ _ _ _ _⟩
theorem rtimes_any (w : World) (v1 v2 : Value) (V1 V2 : Vl) (h1 : VIn w v1 V1) (h2 : VIn w v2 V2) (r : Int) (er : errV V1 V2 = r) : Calls Tryz.prog 15 #[v1, v2] w fun e w' => (∃ u, e = .returned (.tuple #[u, .int .i64 r]) ∧ VR w' u r V1.s (pmul V1.s (denV V1) (denV V2))) ∧ Below w.heap.size w w' := by
  have H1' := h1
  obtain ⟨a1, c1, rfl, hr1, hL1, hn1, hx1, hl1, hs1⟩ := h1
  have H2' := h2
  obtain ⟨a2, c2, rfl, hr2, hL2, hn2, hx2, hl2, hs2⟩ := h2
  obtain ⟨W0, hW0⟩ : ∃ W0, W0 = (((w.alloc (.cells #[.int .i64 V1.s, .bool V1.i, .slice a1 V1.n c1, .int .i64 V1.l, .float .f64 V1.x] 27)).alloc (.cells #[.int .i64 V2.s, .bool V2.i, .slice a2 V2.n c2, .int .i64 V2.l, .float .f64 V2.x] 27)).alloc (.cells #[.int .i64 0, .bool false, .slice none 0 0, .int .i64 0, .float .f64 0] 27)) := ⟨_, rfl⟩
  have HB0 : Hid (Below w.heap.size w W0) := by rw [hW0]; exact below3 w _ _ _
  have Hg1 : Hid (W0.heap[w.heap.size]? = some (.cells #[.int .i64 V1.s, .bool V1.i, .slice a1 V1.n c1, .int .i64 V1.l, .float .f64 V1.x] 27)) := by
    show W0.heap[w.heap.size]? = _
    rw [hW0]; exact heap_at3_0 w _ _ _
  have Hg2 : Hid (W0.heap[w.heap.size + 1]? = some (.cells #[.int .i64 V2.s, .bool V2.i, .slice a2 V2.n c2, .int .i64 V2.l, .float .f64 V2.x] 27)) := by
    show W0.heap[w.heap.size + 1]? = _
    rw [hW0]; exact heap_at3_1 w _ _ _
  have Hg3 : Hid (W0.heap[w.heap.size + 1 + 1]? = some (.cells #[.int .i64 0, .bool false, .slice none 0 0, .int .i64 0, .float .f64 0] 27)) := by
    show W0.heap[w.heap.size + 1 + 1]? = _
    rw [hW0]; exact heap_at3_2 w _ _ _
  have H1 : Hid (VIn W0 (.agg #[.int .i64 V1.s, .bool V1.i, .slice a1 V1.n c1, .int .i64 V1.l, .float .f64 V1.x]) V1) := H1'.below HB0.out
  have H2 : Hid (VIn W0 (.agg #[.int .i64 V2.s, .bool V2.i, .slice a2 V2.n c2, .int .i64 V2.l, .float .f64 V2.x]) V2) := H2'.below HB0.out
  have HW : Below W0.heap.size W0 W0 := below_refl W0
  clear hr1 hL1 hn1 hx1 hl1 hs1 H1' hr2 hL2 hn2 hx2 hl2 hs2 H2'
  obtain ⟨p10, p11, p12, p13, p14⟩ := box5 Hg1.out HW
  obtain ⟨p20, p21, p22, p23, p24⟩ := box5 Hg2.out HW
  have hsf := st_flo
  have SZ : Hid (w.heap.size + 1 + 1 < W0.heap.size) := by show w.heap.size + 1 + 1 < W0.heap.size; rw [hW0]; simp
  have ER : Hid (errV V1 V2 = r) := er
  clear er
  go_enter Tryz.func15, Tryz.ntmps15
  go_wp2_with (go_at_call 43; fail)
  rw [← hW0]
  clear hW0
  refine (rop_any _ _ _ V1 V2 true r (by exact H1.out.below HW) (by exact H2.out.below HW) ER.out).mono ?_
  rintro e w1 ⟨⟨u, rfl, o⟩, b⟩
  replace HW := below_step HW b
  clear b
  clear p10 p11 p12 p13 p14 p20 p21 p22 p23 p24; obtain ⟨p10, p11, p12, p13, p14⟩ := box5 Hg1.out HW; obtain ⟨p20, p21, p22, p23, p24⟩ := box5 Hg2.out HW
  obtain ⟨s, i, a, n, c, l, x, rfl⟩ := o.form
  have O : Hid (VR _ _ r V1.s (pmul V1.s (denV V1) (denV V2))) := o
  clear o
  have hgr := (HW.block (w.heap.size + 1 + 1) SZ.out).trans Hg3.out
  obtain ⟨⟨z0, z1, z2, z3, z4⟩, ⟨f0, f1, f2, f3, f4⟩, s0, s1, s2, s3, s4⟩ := box5_facts hgr
  have Hgr : Hid (w1.heap[w.heap.size + 1 + 1]? = _) := hgr
  clear hgr
  go_wp2
  refine bodyPost_ret (v := .tuple #[.agg #[.int .i64 s, .bool i, .slice a n c, .int .i64 l, .float .f64 x], .int .i64 r]) (by simp [results, Tryz.results15, go_sem, s0, s1, s2, s3, s4]) rfl ?_
  exact ⟨⟨_, rfl, O.out.set5 Hgr.out _ _ _ _ _⟩, below_set5 (below_step HB0.out HW) (by omega) _ _ _ _ _⟩
end Go.Proofs.YtjdbapkmaggllaaGreatDoor
