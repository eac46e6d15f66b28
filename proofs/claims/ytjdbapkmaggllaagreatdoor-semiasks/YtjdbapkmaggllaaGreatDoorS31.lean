/- Same and IsZero. -/
import Derived.Test.YtjdbapkmaggllaaGreatDoorS30
namespace Go.Proofs.YtjdbapkmaggllaaGreatDoor
open Go.RowKit Fo
set_option maxRecDepth 100000

namespace Fo
theorem may_range {V : Vl} (h : mayV V = 0) : ((V.s = 1 ∨ V.s = 3) ∧ mayB V.i V.n V.L = true) ∨ (V.s = 2 ∧ 0 ≤ V.l ∧ V.l ≤ 1) ∨ (V.s = 4 ∧ 0 ≤ V.l ∧ V.l ≤ 7) ∨ (V.s = 5 ∧ V.x ≤ 4607182418800017408) ∨ (V.s = 6 ∧ V.x ≤ 9218868437227405312) := by
  unfold mayV at h
  by_cases h13 : V.s = 1 ∨ V.s = 3
  · rw [if_pos h13] at h
    cases hb : mayB V.i V.n V.L
    · rw [hb] at h; simp at h
    · exact Or.inl ⟨h13, rfl⟩
  rw [if_neg h13] at h
  by_cases h2 : V.s = 2
  · rw [if_pos h2] at h
    by_cases hh : 0 ≤ V.l ∧ V.l ≤ 1
    · exact Or.inr (Or.inl ⟨h2, hh⟩)
    · rw [if_neg hh] at h; omega
  rw [if_neg h2] at h
  by_cases h4 : V.s = 4
  · rw [if_pos h4] at h
    by_cases hh : 0 ≤ V.l ∧ V.l ≤ 7
    · exact Or.inr (Or.inr (Or.inl ⟨h4, hh⟩))
    · rw [if_neg hh] at h; omega
  rw [if_neg h4] at h
  by_cases h5 : V.s = 5
  · rw [if_pos h5] at h
    by_cases hh : V.x ≤ 4607182418800017408
    · exact Or.inr (Or.inr (Or.inr (Or.inl ⟨h5, hh⟩)))
    · rw [if_neg hh] at h; omega
  rw [if_neg h5] at h
  by_cases h6 : V.s = 6
  · rw [if_pos h6] at h
    by_cases hh : V.x ≤ 9218868437227405312
    · exact Or.inr (Or.inr (Or.inr (Or.inr ⟨h6, hh⟩)))
    · rw [if_neg hh] at h; omega
  rw [if_neg h6] at h
  omega
theorem may_sem {V : Vl} (h : mayV V = 0) : isSem V.s := by
  have := may_range h
  unfold isSem; omega
theorem den_nat {V : Vl} (h : V.s = 1 ∨ V.s = 3) : denV V = numV V := by unfold denV numV; rw [if_pos h]
theorem den_lev {V : Vl} (h : V.s = 2 ∨ V.s = 4) : denV V = some V.l.toNat := by unfold denV; rw [if_neg (by omega), if_pos h]
theorem den_flo {V : Vl} (h : V.s = 5 ∨ V.s = 6) : denV V = some V.x := by unfold denV; rw [if_neg (by omega), if_neg (by omega)]
theorem bits_low {x : Nat} (h : x ≤ 9218868437227405312) : Fl.Fo.bitsOf x = x := by
  unfold Fl.Fo.bitsOf Fl.Fo.isN
  rw [if_neg]
  simp; omega
end Fo
theorem calls_bool {f : FuncId} {args : Array Value} {w : World} {a b : Bool} (h : Calls Tryz.prog f args w fun e w' => e = .returned (.bool a) ∧ Below w.heap.size w w') (e : a = b) : Calls Tryz.prog f args w fun e w' => e = .returned (.bool b) ∧ Below w.heap.size w w' := e ▸ h
/-- TWO THAT MAY BE TAKEN TOGETHER, COMPARED. -/
theorem equal_ok (w : World) (v1 v2 : Value) (V1 V2 : Vl) (h1 : VIn w v1 V1) (h2 : VIn w v2 V2) (m1 : mayV V1 = 0) (m2 : mayV V2 = 0) (es : V1.s = V2.s) :
    Calls Tryz.prog 46 #[v1, v2] w fun e w' => e = .returned (.bool (decide (denV V1 = denV V2))) ∧ Below w.heap.size w w' := by
  have r2 := may_range m2
  rcases may_range m1 with ⟨hs, -⟩ | ⟨hs, ha, hb⟩ | ⟨hs, ha, hb⟩ | ⟨hs, hx⟩ | ⟨hs, hx⟩
  · rw [den_nat hs, den_nat (es ▸ hs)]
    rcases hs with hs | hs
    · exact equal_nat1 w v1 v2 V1 V2 h1 h2 hs
    · exact equal_nat3 w v1 v2 V1 V2 h1 h2 hs
  · rw [den_lev (Or.inl hs), den_lev (Or.inl (es ▸ hs))]
    refine calls_bool (equal_lev2 w v1 v2 V1 V2 h1 h2 hs) ?_
    rw [Bool.eq_iff_iff]; simp; omega
  · rw [den_lev (Or.inr hs), den_lev (Or.inr (es ▸ hs))]
    refine calls_bool (equal_lev4 w v1 v2 V1 V2 h1 h2 hs) ?_
    rw [Bool.eq_iff_iff]; simp; omega
  · rw [den_flo (Or.inl hs), den_flo (Or.inl (es ▸ hs))]
    refine calls_bool (equal_flo5 w v1 v2 V1 V2 h1 h2 hs) ?_
    rw [bits_low (by omega), bits_low (by omega), Bool.eq_iff_iff]; simp
  · rw [den_flo (Or.inr hs), den_flo (Or.inr (es ▸ hs))]
    refine calls_bool (equal_flo6 w v1 v2 V1 V2 h1 h2 hs) ?_
    rw [bits_low (by omega), bits_low (by omega), Bool.eq_iff_iff]; simp
namespace Fo
def sameV (V1 V2 : Vl) : Bool := decide (errV V1 V2 = 0) && decide (denV V1 = denV V2)
theorem err_ok {V1 V2 : Vl} (h : errV V1 V2 = 0) : mayV V1 = 0 ∧ mayV V2 = 0 ∧ V1.s = V2.s := by
  unfold errV at h
  split at h
  · contradiction
  · split at h
    · contradiction
    · split at h
      · cases h
      · simp_all
theorem ok_err {V1 V2 : Vl} (h1 : mayV V1 = 0) (h2 : mayV V2 = 0) (h3 : V1.s = V2.s) : errV V1 V2 = 0 := by
  unfold errV; simp [h1, h2, h3]
end Fo
theorem pair_at (w : World) (v1 v2 : Value) (V1 V2 : Vl) (r : Int) (h1 : VIn w v1 V1) (h2 : VIn w v2 V2) (e : errV V1 V2 = r) : Calls Tryz.prog 41 #[v1, v2] w fun e w' => e = .returned (.int .i64 r) ∧ Below w.heap.size w w' := by
  rw [← e]; exact pair_any w v1 v2 V1 V2 h1 h2
theorem same_y (w : World) (v1 v2 : Value) (V1 V2 : Vl) (h1 : VIn w v1 V1) (h2 : VIn w v2 V2) (b : Bool) (e1 : errV V1 V2 = 0) (m1 : mayV V1 = 0) (m2 : mayV V2 = 0) (es : V1.s = V2.s) (hb : decide (denV V1 = denV V2) = b) : Calls Tryz.prog 23 #[v1, v2] w fun e w' => e = .returned (.bool b) ∧ Below w.heap.size w w' := by
  have H1' := h1
  obtain ⟨a1, c1, rfl, hr1, hL1, hn1, hx1, hl1, hs1⟩ := h1
  have H2' := h2
  obtain ⟨a2, c2, rfl, hr2, hL2, hn2, hx2, hl2, hs2⟩ := h2
  obtain ⟨W0, hW0⟩ : ∃ W0, W0 = ((w.alloc (.cells #[.int .i64 V1.s, .bool V1.i, .slice a1 V1.n c1, .int .i64 V1.l, .float .f64 V1.x] 27)).alloc (.cells #[.int .i64 V2.s, .bool V2.i, .slice a2 V2.n c2, .int .i64 V2.l, .float .f64 V2.x] 27)) := ⟨_, rfl⟩
  have HB0 : Hid (Below w.heap.size w W0) := by rw [hW0]; exact below2 w _ _
  have Hg1 : Hid (W0.heap[w.heap.size]? = some (.cells #[.int .i64 V1.s, .bool V1.i, .slice a1 V1.n c1, .int .i64 V1.l, .float .f64 V1.x] 27)) := by
    show W0.heap[w.heap.size]? = _
    rw [hW0]; exact heap_at2_0 w _ _
  have Hg2 : Hid (W0.heap[w.heap.size + 1]? = some (.cells #[.int .i64 V2.s, .bool V2.i, .slice a2 V2.n c2, .int .i64 V2.l, .float .f64 V2.x] 27)) := by
    show W0.heap[w.heap.size + 1]? = _
    rw [hW0]; exact heap_at2_1 w _ _
  have H1 : Hid (VIn W0 (.agg #[.int .i64 V1.s, .bool V1.i, .slice a1 V1.n c1, .int .i64 V1.l, .float .f64 V1.x]) V1) := H1'.below HB0.out
  have H2 : Hid (VIn W0 (.agg #[.int .i64 V2.s, .bool V2.i, .slice a2 V2.n c2, .int .i64 V2.l, .float .f64 V2.x]) V2) := H2'.below HB0.out
  have HW : Below W0.heap.size W0 W0 := below_refl W0
  clear hr1 hL1 hn1 hx1 hl1 hs1 H1' hr2 hL2 hn2 hx2 hl2 hs2 H2'
  obtain ⟨p10, p11, p12, p13, p14⟩ := box5 Hg1.out HW
  obtain ⟨p20, p21, p22, p23, p24⟩ := box5 Hg2.out HW
  have E1 : Hid (errV V1 V2 = 0) := e1
  have M1 : Hid (mayV V1 = 0) := m1
  have M2 : Hid (mayV V2 = 0) := m2
  have ES : Hid (V1.s = V2.s) := es
  have HBE : Hid (decide (denV V1 = denV V2) = b) := hb
  clear e1 m1 m2 es hb
  go_enter Tryz.func23, Tryz.ntmps23
  go_wp2_with (go_at_call 41; fail)
  rw [← hW0]
  clear hW0
  refine (pair_at _ _ _ V1 V2 0 (by exact H1.out.below HW) (by exact H2.out.below HW) E1.out).mono ?_
  rintro e w1 ⟨rfl, b⟩
  replace HW := below_step HW b
  clear b
  clear p10 p11 p12 p13 p14 p20 p21 p22 p23 p24; obtain ⟨p10, p11, p12, p13, p14⟩ := box5 Hg1.out HW; obtain ⟨p20, p21, p22, p23, p24⟩ := box5 Hg2.out HW
  go_wp2_with (go_at_call 46; fail)
  refine (calls_bool (equal_ok _ _ _ V1 V2 (by exact H1.out.below HW) (by exact H2.out.below HW) M1.out M2.out ES.out) HBE.out).mono ?_
  rintro e w2 ⟨rfl, b⟩
  replace HW := below_step HW b
  clear b
  clear p10 p11 p12 p13 p14 p20 p21 p22 p23 p24; obtain ⟨p10, p11, p12, p13, p14⟩ := box5 Hg1.out HW; obtain ⟨p20, p21, p22, p23, p24⟩ := box5 Hg2.out HW
  go_wp2
  go_ret
  exact ⟨rfl, below_step HB0.out HW⟩
theorem same_n (w : World) (v1 v2 : Value) (V1 V2 : Vl) (h1 : VIn w v1 V1) (h2 : VIn w v2 V2) (r : Int) (e1 : errV V1 V2 = r) (hr : (r == 0) = false) : Calls Tryz.prog 23 #[v1, v2] w fun e w' => e = .returned (.bool false) ∧ Below w.heap.size w w' := by
  have H1' := h1
  obtain ⟨a1, c1, rfl, hr1, hL1, hn1, hx1, hl1, hs1⟩ := h1
  have H2' := h2
  obtain ⟨a2, c2, rfl, hr2, hL2, hn2, hx2, hl2, hs2⟩ := h2
  obtain ⟨W0, hW0⟩ : ∃ W0, W0 = ((w.alloc (.cells #[.int .i64 V1.s, .bool V1.i, .slice a1 V1.n c1, .int .i64 V1.l, .float .f64 V1.x] 27)).alloc (.cells #[.int .i64 V2.s, .bool V2.i, .slice a2 V2.n c2, .int .i64 V2.l, .float .f64 V2.x] 27)) := ⟨_, rfl⟩
  have HB0 : Hid (Below w.heap.size w W0) := by rw [hW0]; exact below2 w _ _
  have Hg1 : Hid (W0.heap[w.heap.size]? = some (.cells #[.int .i64 V1.s, .bool V1.i, .slice a1 V1.n c1, .int .i64 V1.l, .float .f64 V1.x] 27)) := by
    show W0.heap[w.heap.size]? = _
    rw [hW0]; exact heap_at2_0 w _ _
  have Hg2 : Hid (W0.heap[w.heap.size + 1]? = some (.cells #[.int .i64 V2.s, .bool V2.i, .slice a2 V2.n c2, .int .i64 V2.l, .float .f64 V2.x] 27)) := by
    show W0.heap[w.heap.size + 1]? = _
    rw [hW0]; exact heap_at2_1 w _ _
  have H1 : Hid (VIn W0 (.agg #[.int .i64 V1.s, .bool V1.i, .slice a1 V1.n c1, .int .i64 V1.l, .float .f64 V1.x]) V1) := H1'.below HB0.out
  have H2 : Hid (VIn W0 (.agg #[.int .i64 V2.s, .bool V2.i, .slice a2 V2.n c2, .int .i64 V2.l, .float .f64 V2.x]) V2) := H2'.below HB0.out
  have HW : Below W0.heap.size W0 W0 := below_refl W0
  clear hr1 hL1 hn1 hx1 hl1 hs1 H1' hr2 hL2 hn2 hx2 hl2 hs2 H2'
  obtain ⟨p10, p11, p12, p13, p14⟩ := box5 Hg1.out HW
  obtain ⟨p20, p21, p22, p23, p24⟩ := box5 Hg2.out HW
  have E1 : Hid (errV V1 V2 = r) := e1
  clear e1
  go_enter Tryz.func23, Tryz.ntmps23
  go_wp2_with (go_at_call 41; fail)
  rw [← hW0]
  clear hW0
  refine (pair_at _ _ _ V1 V2 r (by exact H1.out.below HW) (by exact H2.out.below HW) E1.out).mono ?_
  rintro e w1 ⟨rfl, b⟩
  replace HW := below_step HW b
  clear b
  clear p10 p11 p12 p13 p14 p20 p21 p22 p23 p24; obtain ⟨p10, p11, p12, p13, p14⟩ := box5 Hg1.out HW; obtain ⟨p20, p21, p22, p23, p24⟩ := box5 Hg2.out HW
  go_wp2
  go_ret
  exact ⟨rfl, below_step HB0.out HW⟩
/-- SEMI's SAME. -/
theorem vsame_any (w : World) (v1 v2 : Value) (V1 V2 : Vl) (h1 : VIn w v1 V1) (h2 : VIn w v2 V2) : Calls Tryz.prog 23 #[v1, v2] w fun e w' => e = .returned (.bool (sameV V1 V2)) ∧ Below w.heap.size w w' := by
  unfold sameV
  by_cases h : errV V1 V2 = 0
  · obtain ⟨m1, m2, es⟩ := err_ok h
    refine calls_bool (same_y w v1 v2 V1 V2 h1 h2 _ h m1 m2 es rfl) ?_
    simp [h]
  · refine calls_bool (same_n w v1 v2 V1 V2 h1 h2 _ rfl (by simpa using h)) ?_
    simp [h]
end Go.Proofs.YtjdbapkmaggllaaGreatDoor
