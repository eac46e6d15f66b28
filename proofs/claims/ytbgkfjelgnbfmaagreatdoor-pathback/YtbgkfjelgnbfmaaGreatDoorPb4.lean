/- PathBack. -/
import Derived.Test.YtbgkfjelgnbfmaaGreatDoorPsm
import Derived.Test.YtbgkfjelgnbfmaaGreatDoorPop
namespace Go.Proofs.YtbgkfjelgnbfmaaGreatDoor
open Go.RowKit Fo
set_option maxRecDepth 100000
set_option linter.unusedSimpArgs false
set_option linter.unusedVariables false

namespace Fo
theorem same_norm {t : PT} (h : chk t = 0) : same (norm t) t = true := by
  refine (same_iff (norm t) t).2 ?_
  have h1 := parM_tx (norm t) (by rw [chk_norm, h])
  rw [tx_norm, parM_tx t h] at h1
  injection h1 with h1 _
  exact h1.symm
theorem box5_of {w w' : World} {g : Nat} {x0 x1 x2 x3 x4 : Value} {t : TypeId} (hg : w.heap[g]? = some (.cells #[x0, x1, x2, x3, x4] t)) (hb : Below w.heap.size w w') :
    w'.cell? ⟨g, 0, none⟩ = some x0 ∧ w'.cell? ⟨g, 1, none⟩ = some x1 ∧ w'.cell? ⟨g, 2, none⟩ = some x2 ∧ w'.cell? ⟨g, 3, none⟩ = some x3 ∧ w'.cell? ⟨g, 4, none⟩ = some x4 :=
  (box5_facts ((hb.block _ (lt_of_heap hg)).trans hg)).1
theorem tx_same {t u : PT} (h : chk t = 0) (k : chk u = 0) : decide (tx t = tx u) = same t u := by
  by_cases e : tx t = tx u
  · rw [decide_eq_true e]
    have h1 := parM_tx t h
    rw [e, parM_tx u k] at h1
    injection h1 with h1 _
    exact ((same_iff t u).2 h1.symm).symm
  · rw [decide_eq_false e]
    by_cases hs : same t u = true
    · have := (same_iff t u).1 hs
      exact absurd (by rw [← tx_norm t, this, tx_norm]) e
    · exact (Bool.eq_false_iff.2 hs).symm
end Fo
set_option maxHeartbeats 16000000 in
theorem back_any (C : BailSays) (w : World) (x y : PV) (lo : Nat) (henv : EnvP lo w) (hw : Wfp w 61 x) (hv : Wfp w 61 y) :
    Calls Tryz.prog 4 #[x.v, y.v] w fun e w' => e = .returned (.bool true) ∧ Below w.heap.size w w' := by
  have HENV : Hid (EnvP lo w) := henv
  have HW : Hid (Wfp w 61 x) := hw
  have HV : Hid (Wfp w 61 y) := hv
  obtain ⟨kind, label, a, len, cap, lo', hi'⟩ := x
  obtain ⟨kind2, label2, a2, len2, cap2, lo2, hi2⟩ := y
  clear hw hv henv
  unfold PV.v
  obtain ⟨w1, hW1⟩ : ∃ W, W = (w.alloc (.cells #[.int .i64 kind, .string label, .slice a len cap, .int .i64 lo', .int .i64 hi'] 25)).alloc (.cells #[.int .i64 kind2, .string label2, .slice a2 len2 cap2, .int .i64 lo2, .int .i64 hi2] 25) := ⟨_, rfl⟩
  have HB1 : Hid (Below w.heap.size w w1) := by show Below _ _ _; rw [hW1]; exact (below1 w _).alloc (by simp) _
  have HG1 : Hid (w1.heap[w.heap.size]? = some (.cells #[.int .i64 kind, .string label, .slice a len cap, .int .i64 lo', .int .i64 hi'] 25)) := by show w1.heap[_]? = _; rw [hW1]; exact heap_new2 w _ _
  have HH1 : Hid (w1.heap[w.heap.size + 1]? = some (.cells #[.int .i64 kind2, .string label2, .slice a2 len2 cap2, .int .i64 lo2, .int .i64 hi2] 25)) := by
    show w1.heap[_]? = _
    rw [hW1]
    have := heap_new1 (w.alloc (.cells #[.int .i64 kind, .string label, .slice a len cap, .int .i64 lo', .int .i64 hi'] 25)) (.cells #[.int .i64 kind2, .string label2, .slice a2 len2 cap2, .int .i64 lo2, .int .i64 hi2] 25)
    simpa using this
  go_enter Tryz.func4, Tryz.ntmps4
  go_wp2_with (go_at_call 14; fail)
  rw [← hW1]
  clear hW1
  refine (sma_any ⟨kind, label, a, len, cap, lo', hi'⟩ w1 (HW.out.below HB1.out)).mono ?_
  rintro e w2 ⟨⟨q, rfl, hx⟩, b⟩
  have HX : Hid (q = true → ∃ t, IsP (fun _ => True) w2 ⟨kind, label, a, len, cap, lo', hi'⟩ t) := hx
  clear hx
  have HB2 : Hid (Below w.heap.size w w2) := below_step HB1.out b
  have HG2 : Hid (w2.heap[w.heap.size]? = some (.cells #[.int .i64 kind, .string label, .slice a len cap, .int .i64 lo', .int .i64 hi'] 25)) := (b.block _ (lt_of_heap HG1.out)).trans HG1.out
  have HH2 : Hid (w2.heap[w.heap.size + 1]? = some (.cells #[.int .i64 kind2, .string label2, .slice a2 len2 cap2, .int .i64 lo2, .int .i64 hi2] 25)) := (b.block _ (lt_of_heap HH1.out)).trans HH1.out
  clear b HB1 HG1 HH1
  cases q with
  | false =>
    clear HX
    go_wp2_with (go_at_call 8; fail)
    refine (awake_any C _ lo (HENV.out.below HB2.out)).mono ?_
    rintro e wz ⟨rfl, bz⟩
    have HBZ : Hid (Below w.heap.size w wz) := below_step HB2.out bz
    clear bz
    go_wp2
    go_ret
    exact ⟨rfl, HBZ.out⟩
  | true =>
  obtain ⟨t, ht⟩ := HX.out rfl
  have HI2 : Hid (IsP (fun _ => True) w2 ⟨kind, label, a, len, cap, lo', hi'⟩ t) := ht
  clear ht HX HW
  have c0 := cell_of_row _ _ 0 _ _ _ HG2.out
  have c1 := cell_of_row _ _ 1 _ _ _ HG2.out
  have c2 := cell_of_row _ _ 2 _ _ _ HG2.out
  have c3 := cell_of_row _ _ 3 _ _ _ HG2.out
  have c4 := cell_of_row _ _ 4 _ _ _ HG2.out
  simp only [List.getElem?_toArray, List.getElem?_cons_zero, List.getElem?_cons_succ] at c0 c1 c2 c3 c4
  have d0 := cell_of_row _ _ 0 _ _ _ HH2.out
  have d1 := cell_of_row _ _ 1 _ _ _ HH2.out
  have d2 := cell_of_row _ _ 2 _ _ _ HH2.out
  have d3 := cell_of_row _ _ 3 _ _ _ HH2.out
  have d4 := cell_of_row _ _ 4 _ _ _ HH2.out
  simp only [List.getElem?_toArray, List.getElem?_cons_zero, List.getElem?_cons_succ] at d0 d1 d2 d3 d4
  go_wp2_with (go_at_call 14; fail)
  refine (sma_any ⟨kind2, label2, a2, len2, cap2, lo2, hi2⟩ w2 (HV.out.below HB2.out)).mono ?_
  rintro e w3 ⟨⟨q, rfl, hx⟩, b⟩
  have HX : Hid (q = true → ∃ t, IsP (fun _ => True) w3 ⟨kind2, label2, a2, len2, cap2, lo2, hi2⟩ t) := hx
  clear hx
  clear c0 c1 c2 c3 c4 d0 d1 d2 d3 d4
  have HB3 : Hid (Below w.heap.size w w3) := below_step HB2.out b
  have HG3 : Hid (w3.heap[w.heap.size]? = some (.cells #[.int .i64 kind, .string label, .slice a len cap, .int .i64 lo', .int .i64 hi'] 25)) := (b.block _ (lt_of_heap HG2.out)).trans HG2.out
  have HH3 : Hid (w3.heap[w.heap.size + 1]? = some (.cells #[.int .i64 kind2, .string label2, .slice a2 len2 cap2, .int .i64 lo2, .int .i64 hi2] 25)) := (b.block _ (lt_of_heap HH2.out)).trans HH2.out
  have HI3 : Hid (IsP (fun _ => True) w3 ⟨kind, label, a, len, cap, lo', hi'⟩ t) := HI2.out.bel b
  clear b HB2 HG2 HH2 HI2
  cases q with
  | false =>
    clear HX
    go_wp2_with (go_at_call 8; fail)
    refine (awake_any C _ lo (HENV.out.below HB3.out)).mono ?_
    rintro e wz ⟨rfl, bz⟩
    have HBZ : Hid (Below w.heap.size w wz) := below_step HB3.out bz
    clear bz
    go_wp2
    go_ret
    exact ⟨rfl, HBZ.out⟩
  | true =>
  obtain ⟨u, ht⟩ := HX.out rfl
  have HJ3 : Hid (IsP (fun _ => True) w3 ⟨kind2, label2, a2, len2, cap2, lo2, hi2⟩ u) := ht
  clear ht HX HV
  have c0 := cell_of_row _ _ 0 _ _ _ HG3.out
  have c1 := cell_of_row _ _ 1 _ _ _ HG3.out
  have c2 := cell_of_row _ _ 2 _ _ _ HG3.out
  have c3 := cell_of_row _ _ 3 _ _ _ HG3.out
  have c4 := cell_of_row _ _ 4 _ _ _ HG3.out
  simp only [List.getElem?_toArray, List.getElem?_cons_zero, List.getElem?_cons_succ] at c0 c1 c2 c3 c4
  have d0 := cell_of_row _ _ 0 _ _ _ HH3.out
  have d1 := cell_of_row _ _ 1 _ _ _ HH3.out
  have d2 := cell_of_row _ _ 2 _ _ _ HH3.out
  have d3 := cell_of_row _ _ 3 _ _ _ HH3.out
  have d4 := cell_of_row _ _ 4 _ _ _ HH3.out
  simp only [List.getElem?_toArray, List.getElem?_cons_zero, List.getElem?_cons_succ] at d0 d1 d2 d3 d4
  go_wp2_with (go_at_call 15; fail)
  refine (text_any t _ w3 ⟨kind, label, a, len, cap, lo', hi'⟩ HI3.out).mono ?_
  rintro e w4 ⟨rfl, b⟩
  clear c0 c1 c2 c3 c4 d0 d1 d2 d3 d4
  have HB4 : Hid (Below w.heap.size w w4) := below_step HB3.out b
  have HG4 : Hid (w4.heap[w.heap.size]? = some (.cells #[.int .i64 kind, .string label, .slice a len cap, .int .i64 lo', .int .i64 hi'] 25)) := (b.block _ (lt_of_heap HG3.out)).trans HG3.out
  have HH4 : Hid (w4.heap[w.heap.size + 1]? = some (.cells #[.int .i64 kind2, .string label2, .slice a2 len2 cap2, .int .i64 lo2, .int .i64 hi2] 25)) := (b.block _ (lt_of_heap HH3.out)).trans HH3.out
  have HI4 : Hid (IsP (fun _ => True) w4 ⟨kind, label, a, len, cap, lo', hi'⟩ t) := HI3.out.bel b
  have HJ4 : Hid (IsP (fun _ => True) w4 ⟨kind2, label2, a2, len2, cap2, lo2, hi2⟩ u) := HJ3.out.bel b
  clear b HB3 HG3 HH3 HI3 HJ3
  have c0 := cell_of_row _ _ 0 _ _ _ HG4.out
  have c1 := cell_of_row _ _ 1 _ _ _ HG4.out
  have c2 := cell_of_row _ _ 2 _ _ _ HG4.out
  have c3 := cell_of_row _ _ 3 _ _ _ HG4.out
  have c4 := cell_of_row _ _ 4 _ _ _ HG4.out
  simp only [List.getElem?_toArray, List.getElem?_cons_zero, List.getElem?_cons_succ] at c0 c1 c2 c3 c4
  have d0 := cell_of_row _ _ 0 _ _ _ HH4.out
  have d1 := cell_of_row _ _ 1 _ _ _ HH4.out
  have d2 := cell_of_row _ _ 2 _ _ _ HH4.out
  have d3 := cell_of_row _ _ 3 _ _ _ HH4.out
  have d4 := cell_of_row _ _ 4 _ _ _ HH4.out
  simp only [List.getElem?_toArray, List.getElem?_cons_zero, List.getElem?_cons_succ] at d0 d1 d2 d3 d4
  go_wp2_with (go_at_call 16; fail)
  refine (chk_any t _ w4 ⟨kind, label, a, len, cap, lo', hi'⟩ HI4.out).mono ?_
  rintro e w5 ⟨rfl, b⟩
  clear c0 c1 c2 c3 c4 d0 d1 d2 d3 d4
  have HB5 : Hid (Below w.heap.size w w5) := below_step HB4.out b
  have HG5 : Hid (w5.heap[w.heap.size]? = some (.cells #[.int .i64 kind, .string label, .slice a len cap, .int .i64 lo', .int .i64 hi'] 25)) := (b.block _ (lt_of_heap HG4.out)).trans HG4.out
  have HH5 : Hid (w5.heap[w.heap.size + 1]? = some (.cells #[.int .i64 kind2, .string label2, .slice a2 len2 cap2, .int .i64 lo2, .int .i64 hi2] 25)) := (b.block _ (lt_of_heap HH4.out)).trans HH4.out
  have HI5 : Hid (IsP (fun _ => True) w5 ⟨kind, label, a, len, cap, lo', hi'⟩ t) := HI4.out.bel b
  have HJ5 : Hid (IsP (fun _ => True) w5 ⟨kind2, label2, a2, len2, cap2, lo2, hi2⟩ u) := HJ4.out.bel b
  clear b HB4 HG4 HH4 HI4 HJ4
  have htx : txt t = if chk t = 0 then tx t else [] := rfl
  by_cases hc : chk t = 0
  case neg =>
    rw [if_neg hc] at htx
    rw [htx, show str [] = ⟨#[]⟩ from rfl]
    have hc' : (chk t != 0) = true := by simpa using hc
    generalize chk t = cc at hc' ⊢
    clear htx hc
    go_wp2_with (go_at_call 8; fail)
    refine (awake_any C _ lo (HENV.out.below HB5.out)).mono ?_
    rintro e wz ⟨rfl, bz⟩
    have HBZ : Hid (Below w.heap.size w wz) := below_step HB5.out bz
    clear bz
    go_wp2
    go_ret
    exact ⟨rfl, HBZ.out⟩
  rw [if_pos hc] at htx
  rw [htx, hc]
  have HPA : Hid (∀ v, EnvP lo v → Calls Tryz.prog 9 #[.string (str (tx t))] v fun e w' => (∃ x F, e = .returned (.tuple #[x.v, .int .i64 0]) ∧ IsP F w' x (norm t)) ∧ Below v.heap.size v w') := fun v hv => by
    have := parse_any C v (tx t) lo hv
    rwa [parM_tx t hc] at this
  clear htx
  go_wp2_with (go_at_call 9; fail)
  refine (HPA.out w5 (HENV.out.below HB5.out)).mono ?_
  rintro e w6 ⟨⟨⟨k0, k1, k2, k3, k4, k5, k6⟩, FX, rfl, hx⟩, b⟩
  have HX6 : Hid (IsP FX w6 ⟨k0, k1, k2, k3, k4, k5, k6⟩ (norm t)) := hx
  clear hx HPA
  have HB6 : Hid (Below w.heap.size w w6) := below_step HB5.out b
  have HG6 : Hid (w6.heap[w.heap.size]? = some (.cells #[.int .i64 kind, .string label, .slice a len cap, .int .i64 lo', .int .i64 hi'] 25)) := (b.block _ (lt_of_heap HG5.out)).trans HG5.out
  have HH6 : Hid (w6.heap[w.heap.size + 1]? = some (.cells #[.int .i64 kind2, .string label2, .slice a2 len2 cap2, .int .i64 lo2, .int .i64 hi2] 25)) := (b.block _ (lt_of_heap HH5.out)).trans HH5.out
  have HI6 : Hid (IsP (fun _ => True) w6 ⟨kind, label, a, len, cap, lo', hi'⟩ t) := HI5.out.bel b
  have HJ6 : Hid (IsP (fun _ => True) w6 ⟨kind2, label2, a2, len2, cap2, lo2, hi2⟩ u) := HJ5.out.bel b
  clear b HB5 HG5 HH5 HI5 HJ5
  unfold PV.v
  go_wp2
  obtain ⟨W7, hW7⟩ : ∃ W, W = w6.alloc (.cells #[.int .i64 k0, .string k1, .slice k2 k3 k4, .int .i64 k5, .int .i64 k6] 25) := ⟨_, rfl⟩
  have b7 : Below w6.heap.size w6 W7 := by rw [hW7]; exact below1 w6 _
  have HX7 : Hid (W7.heap[w6.heap.size]? = some (.cells #[.int .i64 k0, .string k1, .slice k2 k3 k4, .int .i64 k5, .int .i64 k6] 25)) := by show W7.heap[_]? = _; rw [hW7]; exact heap_new1 w6 _
  have HB7 : Hid (Below w.heap.size w W7) := below_step HB6.out b7
  have HG7 : Hid (W7.heap[w.heap.size]? = some (.cells #[.int .i64 kind, .string label, .slice a len cap, .int .i64 lo', .int .i64 hi'] 25)) := (b7.block _ (lt_of_heap HG6.out)).trans HG6.out
  have HH7 : Hid (W7.heap[w.heap.size + 1]? = some (.cells #[.int .i64 kind2, .string label2, .slice a2 len2 cap2, .int .i64 lo2, .int .i64 hi2] 25)) := (b7.block _ (lt_of_heap HH6.out)).trans HH6.out
  have HI7 : Hid (IsP (fun _ => True) W7 ⟨kind, label, a, len, cap, lo', hi'⟩ t) := HI6.out.bel b7
  have HJ7 : Hid (IsP (fun _ => True) W7 ⟨kind2, label2, a2, len2, cap2, lo2, hi2⟩ u) := HJ6.out.bel b7
  have HY7 : Hid (IsP FX W7 ⟨k0, k1, k2, k3, k4, k5, k6⟩ (norm t)) := HX6.out.bel b7
  rw [← hW7]
  clear hW7 b7 HB6 HG6 HH6 HI6 HJ6 HX6
  obtain ⟨g, hg⟩ : ∃ g, g = w6.heap.size := ⟨_, rfl⟩
  rw [← hg] at HX7 ⊢
  clear hg
  have hnb : (str (tx t)).toList.isEmpty = false := by
    rw [ByteArray.toList_eq]
    have e : (str (tx t)).data.toList = tx t := by simp [str]
    rw [e]
    cases h : tx t with
    | nil => have := okH_tx t (chk_zero hc).2.1; rw [h] at this; cases this
    | cons c s => rfl
  have HSX : Hid (∀ v, IsP FX v ⟨k0, k1, k2, k3, k4, k5, k6⟩ (norm t) → IsP (fun _ => True) v ⟨kind, label, a, len, cap, lo', hi'⟩ t → Calls Tryz.prog 17 #[PV.v ⟨k0, k1, k2, k3, k4, k5, k6⟩, PV.v ⟨kind, label, a, len, cap, lo', hi'⟩] v fun e w' => e = .returned (.bool true) ∧ Below v.heap.size v w') := fun v h1 h2 => by
    have := same_any (norm t) t (by rw [chk_norm, hc]) (fun _ => True) v _ _ (h1.mono fun _ _ => trivial) h2
    rwa [same_norm hc] at this
  have HSQ : Hid (∀ v, IsP (fun _ => True) v ⟨kind, label, a, len, cap, lo', hi'⟩ t → IsP (fun _ => True) v ⟨kind2, label2, a2, len2, cap2, lo2, hi2⟩ u → Calls Tryz.prog 17 #[PV.v ⟨kind, label, a, len, cap, lo', hi'⟩, PV.v ⟨kind2, label2, a2, len2, cap2, lo2, hi2⟩] v fun e w' => e = .returned (.bool (same t u)) ∧ Below v.heap.size v w') := fun v h1 h2 => same_any t u hc (fun _ => True) v _ _ h1 h2
  have HCQ : Hid (∀ v, IsP (fun _ => True) v ⟨kind2, label2, a2, len2, cap2, lo2, hi2⟩ u → Calls Tryz.prog 16 #[PV.v ⟨kind2, label2, a2, len2, cap2, lo2, hi2⟩] v fun e w' => e = .returned (.int .i64 (chk u)) ∧ Below v.heap.size v w') := fun v h => chk_any u _ v _ h
  have HTQ : Hid (∀ v, IsP (fun _ => True) v ⟨kind2, label2, a2, len2, cap2, lo2, hi2⟩ u → Calls Tryz.prog 15 #[PV.v ⟨kind2, label2, a2, len2, cap2, lo2, hi2⟩] v fun e w' => e = .returned (.string (str (txt u))) ∧ Below v.heap.size v w') := fun v h => text_any u _ v _ h
  by_cases hd : chk u = 0
  · have hst : ((str (tx t)).toList == (str (tx u)).toList) = same t u := (str_beq (tx t) (tx u)).trans (tx_same hc hd)
    rw [hd] at HCQ
    rw [show txt u = tx u by unfold txt; rw [if_pos hd]] at HTQ
    generalize str (tx t) = S at hnb hst ⊢
    generalize str (tx u) = T at HTQ hst
    generalize same t u = bq at HSQ hst
    have HW : Below W7.heap.size W7 W7 := below_refl W7
    obtain ⟨x0, x1, x2, x3, x4⟩ := box5_of HG7.out HW; obtain ⟨y0, y1, y2, y3, y4⟩ := box5_of HH7.out HW; obtain ⟨z0, z1, z2, z3, z4⟩ := box5_of HX7.out HW; have m0 : True := trivial
    go_region_held3 (fun w' => w'.cell? ⟨w.heap.size, 0, none⟩ = some (.int .i64 kind) ∧ w'.cell? ⟨w.heap.size, 1, none⟩ = some (.string label) ∧ w'.cell? ⟨w.heap.size, 2, none⟩ = some (.slice a len cap) ∧ w'.cell? ⟨w.heap.size, 3, none⟩ = some (.int .i64 lo') ∧ w'.cell? ⟨w.heap.size, 4, none⟩ = some (.int .i64 hi') ∧ w'.cell? ⟨w.heap.size + 1, 0, none⟩ = some (.int .i64 kind2) ∧ w'.cell? ⟨w.heap.size + 1, 1, none⟩ = some (.string label2) ∧ w'.cell? ⟨w.heap.size + 1, 2, none⟩ = some (.slice a2 len2 cap2) ∧ w'.cell? ⟨w.heap.size + 1, 3, none⟩ = some (.int .i64 lo2) ∧ w'.cell? ⟨w.heap.size + 1, 4, none⟩ = some (.int .i64 hi2) ∧ w'.cell? ⟨g, 0, none⟩ = some (.int .i64 k0) ∧ w'.cell? ⟨g, 1, none⟩ = some (.string k1) ∧ w'.cell? ⟨g, 2, none⟩ = some (.slice k2 k3 k4) ∧ w'.cell? ⟨g, 3, none⟩ = some (.int .i64 k5) ∧ w'.cell? ⟨g, 4, none⟩ = some (.int .i64 k6)) (first | exact ⟨x0, x1, x2, x3, x4, y0, y1, y2, y3, y4, z0, z1, z2, z3, z4⟩ | go_keep) (first
      | (clear m4; go_at_call 8; refine (awake_any C _ lo (HENV.out.below (below_step HB7.out (by first | exact HW | exact HW.drew)))).mono ?_; rintro e v5 ⟨rfl, b5⟩; replace HW := below_step (by first | exact HW | exact HW.drew) b5; clear b5 x0 x1 x2 x3 x4 y0 y1 y2 y3 y4 z0 z1 z2 z3 z4; obtain ⟨x0, x1, x2, x3, x4⟩ := box5_of HG7.out HW; obtain ⟨y0, y1, y2, y3, y4⟩ := box5_of HH7.out HW; obtain ⟨z0, z1, z2, z3, z4⟩ := box5_of HX7.out HW; have m5 : True := trivial)
      | (clear m3; go_at_call 17; refine (HSQ.out _ (HI7.out.bel (by first | exact HW | exact HW.drew)) (HJ7.out.bel (by first | exact HW | exact HW.drew))).mono ?_; rintro e v4 ⟨rfl, b4⟩; replace HW := below_step (by first | exact HW | exact HW.drew) b4; clear b4 x0 x1 x2 x3 x4 y0 y1 y2 y3 y4 z0 z1 z2 z3 z4; obtain ⟨x0, x1, x2, x3, x4⟩ := box5_of HG7.out HW; obtain ⟨y0, y1, y2, y3, y4⟩ := box5_of HH7.out HW; obtain ⟨z0, z1, z2, z3, z4⟩ := box5_of HX7.out HW; have m4 : True := trivial)
      | (clear m2; go_at_call 15; refine (HTQ.out _ (HJ7.out.bel (by first | exact HW | exact HW.drew))).mono ?_; rintro e v3 ⟨rfl, b3⟩; replace HW := below_step (by first | exact HW | exact HW.drew) b3; clear b3 x0 x1 x2 x3 x4 y0 y1 y2 y3 y4 z0 z1 z2 z3 z4; obtain ⟨x0, x1, x2, x3, x4⟩ := box5_of HG7.out HW; obtain ⟨y0, y1, y2, y3, y4⟩ := box5_of HH7.out HW; obtain ⟨z0, z1, z2, z3, z4⟩ := box5_of HX7.out HW; have m3 : True := trivial)
      | (clear m1; go_at_call 16; refine (HCQ.out _ (HJ7.out.bel (by first | exact HW | exact HW.drew))).mono ?_; rintro e v2 ⟨rfl, b2⟩; replace HW := below_step (by first | exact HW | exact HW.drew) b2; clear b2 x0 x1 x2 x3 x4 y0 y1 y2 y3 y4 z0 z1 z2 z3 z4; obtain ⟨x0, x1, x2, x3, x4⟩ := box5_of HG7.out HW; obtain ⟨y0, y1, y2, y3, y4⟩ := box5_of HH7.out HW; obtain ⟨z0, z1, z2, z3, z4⟩ := box5_of HX7.out HW; have m2 : True := trivial)
      | (clear m0; go_at_call 17; refine (HSX.out _ (HY7.out.bel (by first | exact HW | exact HW.drew)) (HI7.out.bel (by first | exact HW | exact HW.drew))).mono ?_; rintro e v1 ⟨rfl, b1⟩; replace HW := below_step (by first | exact HW | exact HW.drew) b1; clear b1 x0 x1 x2 x3 x4 y0 y1 y2 y3 y4 z0 z1 z2 z3 z4; obtain ⟨x0, x1, x2, x3, x4⟩ := box5_of HG7.out HW; obtain ⟨y0, y1, y2, y3, y4⟩ := box5_of HH7.out HW; obtain ⟨z0, z1, z2, z3, z4⟩ := box5_of HX7.out HW; have m1 : True := trivial)
      | (go_at_call 999; fail))
    go_wp2
    go_ret
    exact ⟨rfl, below_step HB7.out HW⟩
  · have hcu : (chk u != 0) = true := by simpa using hd
    generalize chk u = cu at HCQ hcu
    generalize str (tx t) = S at hnb ⊢
    clear hd HSQ HTQ
    have HW : Below W7.heap.size W7 W7 := below_refl W7
    obtain ⟨x0, x1, x2, x3, x4⟩ := box5_of HG7.out HW; obtain ⟨y0, y1, y2, y3, y4⟩ := box5_of HH7.out HW; obtain ⟨z0, z1, z2, z3, z4⟩ := box5_of HX7.out HW; have m0 : True := trivial
    refine wp_region_held_drew (S := (fun w' => w'.cell? ⟨w.heap.size, 0, none⟩ = some (.int .i64 kind) ∧ w'.cell? ⟨w.heap.size, 1, none⟩ = some (.string label) ∧ w'.cell? ⟨w.heap.size, 2, none⟩ = some (.slice a len cap) ∧ w'.cell? ⟨w.heap.size, 3, none⟩ = some (.int .i64 lo') ∧ w'.cell? ⟨w.heap.size, 4, none⟩ = some (.int .i64 hi') ∧ w'.cell? ⟨w.heap.size + 1, 0, none⟩ = some (.int .i64 kind2) ∧ w'.cell? ⟨w.heap.size + 1, 1, none⟩ = some (.string label2) ∧ w'.cell? ⟨w.heap.size + 1, 2, none⟩ = some (.slice a2 len2 cap2) ∧ w'.cell? ⟨w.heap.size + 1, 3, none⟩ = some (.int .i64 lo2) ∧ w'.cell? ⟨w.heap.size + 1, 4, none⟩ = some (.int .i64 hi2) ∧ w'.cell? ⟨g, 0, none⟩ = some (.int .i64 k0) ∧ w'.cell? ⟨g, 1, none⟩ = some (.string k1) ∧ w'.cell? ⟨g, 2, none⟩ = some (.slice k2 k3 k4) ∧ w'.cell? ⟨g, 3, none⟩ = some (.int .i64 k5) ∧ w'.cell? ⟨g, 4, none⟩ = some (.int .i64 k6))) (by kernel_rfl) ?_ (fun hHeld => ?_)
    · (try dsimp only); first | exact ⟨x0, x1, x2, x3, x4, y0, y1, y2, y3, y4, z0, z1, z2, z3, z4⟩ | go_keep
    refine wpAnyH_take (i := 0) (oi := { dst := some 32, op := Op.move (Operand.tmp 7), type := 26, pos := "law.go:50", after := #[], guard := none }) (v := ?vu1) rfl (by kernel_rfl) (by kernel_rfl) (by kernel_rfl) (fun _ _ _ h => h) (Or.inl ⟨by rfl, ?hyu1⟩) (by assumption) ?restu1
    case hyu1 => (intro w hSw; (try dsimp only at hSw); go_simp; (try with_reducible rfl))
    try simp only [Act.put, List.setIfInBounds_toArray, List.set_cons_zero, List.set_cons_succ]
    refine wpAnyH_take (i := 1) (oi := { dst := some 33, op := Op.binOp BinOp.eql 26 (Operand.tmp 32) (Operand.const (Value.int IntKind.i64 0)) 26, type := 4, pos := "law.go:50", after := #[{ on := 0, ground := Ground.data }], guard := none }) (v := ?vu2) rfl (by kernel_rfl) (by kernel_rfl) (by kernel_rfl) (fun _ _ _ h => h) (Or.inl ⟨by rfl, ?hyu2⟩) (by assumption) ?restu2
    case hyu2 => (intro w hSw; (try dsimp only at hSw); go_simp; (try with_reducible rfl))
    try simp only [Act.put, List.setIfInBounds_toArray, List.set_cons_zero, List.set_cons_succ]
    refine wpAnyH_take (i := 2) (oi := { dst := some 34, op := Op.move (Operand.tmp 33), type := 4, pos := "law.go:50", after := #[{ on := 1, ground := Ground.data }], guard := none }) (v := ?vu3) rfl (by kernel_rfl) (by kernel_rfl) (by kernel_rfl) (fun _ _ _ h => h) (Or.inl ⟨by rfl, ?hyu3⟩) (by assumption) ?restu3
    case hyu3 => (intro w hSw; (try dsimp only at hSw); go_simp; (try with_reducible rfl))
    try simp only [Act.put, List.setIfInBounds_toArray, List.set_cons_zero, List.set_cons_succ]
    refine wpAnyH_take (i := 3) (oi := { dst := some 35, op := Op.load 25 (Operand.tmp 6), type := 25, pos := "law.go:50", after := #[{ on := 2, ground := Ground.guard }], guard := some (2, true) }) (v := ?vu4) rfl (by kernel_rfl) (by kernel_rfl) (by kernel_rfl) (fun _ _ _ h => h) (Or.inl ⟨by rfl, ?hyu4⟩) (by assumption) ?restu4
    case hyu4 => (intro w hSw; (try dsimp only at hSw); go_simp; (try with_reducible rfl))
    try simp only [Act.put, List.setIfInBounds_toArray, List.set_cons_zero, List.set_cons_succ]
    refine wpAnyH_take (i := 4) (oi := { dst := some 36, op := Op.load 25 (Operand.tmp 2), type := 25, pos := "law.go:50", after := #[{ on := 2, ground := Ground.guard }], guard := some (2, true) }) (v := ?vu5) rfl (by kernel_rfl) (by kernel_rfl) (by kernel_rfl) (fun _ _ _ h => h) (Or.inl ⟨by rfl, ?hyu5⟩) (by assumption) ?restu5
    case hyu5 => (intro w hSw; (try dsimp only at hSw); go_simp; (try with_reducible rfl))
    try simp only [Act.put, List.setIfInBounds_toArray, List.set_cons_zero, List.set_cons_succ]
    refine wpAnyH_ready (rs := [5]) (by kernel_rfl) (by simp) ?_
    refine AllReadyH.cons (o := { dst := some 37, op := Op.call { callee := Callee.value (Operand.func 17), args := #[Operand.tmp 35, Operand.tmp 36], argTypes := #[25, 25] }, type := 4, pos := "law.go:50", after := #[{ on := 3, ground := Ground.data }, { on := 4, ground := Ground.data }, { on := 2, ground := Ground.chain }, { on := 2, ground := Ground.guard }], guard := some (2, true) }) rfl (fun K hK => ?_) AllReadyH.nil
    go_simp
    go_at_call 17
    refine (HSX.out _ (HY7.out.bel (by first | exact HW | exact HW.drew)) (HI7.out.bel (by first | exact HW | exact HW.drew))).mono ?_
    rintro e v1 ⟨rfl, b1⟩
    replace HW := below_step (by first | exact HW | exact HW.drew) b1
    clear b1 x0 x1 x2 x3 x4 y0 y1 y2 y3 y4 z0 z1 z2 z3 z4
    obtain ⟨x0, x1, x2, x3, x4⟩ := box5_of HG7.out HW
    obtain ⟨y0, y1, y2, y3, y4⟩ := box5_of HH7.out HW
    obtain ⟨z0, z1, z2, z3, z4⟩ := box5_of HX7.out HW
    have m1 : True := trivial
    refine hK.out _ _ ?_ (fun hHeldB => ?_)
    · (try dsimp only); first | exact ⟨x0, x1, x2, x3, x4, y0, y1, y2, y3, y4, z0, z1, z2, z3, z4⟩ | go_keep
    clear hK K hHeld
    have hHeld := hHeldB
    clear hHeldB
    try simp only [Act.put, List.setIfInBounds_toArray, List.set_cons_zero, List.set_cons_succ]
    refine wpAnyH_take (i := 6) (oi := { dst := some 38, op := Op.pick (Operand.tmp 34) (Operand.tmp 37) (Operand.const (Value.bool false)), type := 4, pos := "law.go:50", after := #[{ on := 2, ground := Ground.data }, { on := 5, ground := Ground.data }], guard := none }) (v := ?vu6) rfl (by kernel_rfl) (by kernel_rfl) (by kernel_rfl) (fun _ _ _ h => h) (Or.inl ⟨by rfl, ?hyu6⟩) (by assumption) ?restu6
    case hyu6 => (intro w hSw; (try dsimp only at hSw); go_simp; (try with_reducible rfl))
    try simp only [Act.put, List.setIfInBounds_toArray, List.set_cons_zero, List.set_cons_succ]
    refine wpAnyH_take (i := 7) (oi := { dst := some 39, op := Op.move (Operand.tmp 38), type := 4, pos := "law.go:50", after := #[{ on := 6, ground := Ground.data }, { on := 5, ground := Ground.chain }], guard := none }) (v := ?vu7) rfl (by kernel_rfl) (by kernel_rfl) (by kernel_rfl) (fun _ _ _ h => h) (Or.inl ⟨by rfl, ?hyu7⟩) (by assumption) ?restu7
    case hyu7 => (intro w hSw; (try dsimp only at hSw); go_simp; (try with_reducible rfl))
    try simp only [Act.put, List.setIfInBounds_toArray, List.set_cons_zero, List.set_cons_succ]
    refine wpAnyH_take (i := 8) (oi := { dst := some 40, op := Op.move (Operand.tmp 5), type := 9, pos := "law.go:50", after := #[{ on := 7, ground := Ground.guard }], guard := some (7, true) }) (v := ?vu8) rfl (by kernel_rfl) (by kernel_rfl) (by kernel_rfl) (fun _ _ _ h => h) (Or.inl ⟨by rfl, ?hyu8⟩) (by assumption) ?restu8
    case hyu8 => (intro w hSw; (try dsimp only at hSw); go_simp; (try with_reducible rfl))
    try simp only [Act.put, List.setIfInBounds_toArray, List.set_cons_zero, List.set_cons_succ]
    refine wpAnyH_take (i := 9) (oi := { dst := some 41, op := Op.binOp BinOp.neq 9 (Operand.tmp 40) (Operand.const (Value.string { data := #[] })) 9, type := 4, pos := "law.go:50", after := #[{ on := 8, ground := Ground.data }, { on := 7, ground := Ground.guard }], guard := some (7, true) }) (v := ?vu9) rfl (by kernel_rfl) (by kernel_rfl) (by kernel_rfl) (fun _ _ _ h => h) (Or.inl ⟨by rfl, ?hyu9⟩) (by assumption) ?restu9
    case hyu9 => (intro w hSw; (try dsimp only at hSw); go_simp; (try with_reducible rfl))
    try simp only [Act.put, List.setIfInBounds_toArray, List.set_cons_zero, List.set_cons_succ]
    refine wpAnyH_take (i := 10) (oi := { dst := some 42, op := Op.pick (Operand.tmp 39) (Operand.tmp 41) (Operand.const (Value.bool false)), type := 4, pos := "law.go:50", after := #[{ on := 7, ground := Ground.data }, { on := 9, ground := Ground.data }], guard := none }) (v := ?vu10) rfl (by kernel_rfl) (by kernel_rfl) (by kernel_rfl) (fun _ _ _ h => h) (Or.inl ⟨by rfl, ?hyu10⟩) (by assumption) ?restu10
    case hyu10 => (intro w hSw; (try dsimp only at hSw); go_simp; (try with_reducible rfl))
    try simp only [Act.put, List.setIfInBounds_toArray, List.set_cons_zero, List.set_cons_succ]
    refine wpAnyH_take (i := 11) (oi := { dst := some 43, op := Op.move (Operand.tmp 42), type := 4, pos := "law.go:50", after := #[{ on := 10, ground := Ground.data }, { on := 7, ground := Ground.chain }], guard := none }) (v := ?vu11) rfl (by kernel_rfl) (by kernel_rfl) (by kernel_rfl) (fun _ _ _ h => h) (Or.inl ⟨by rfl, ?hyu11⟩) (by assumption) ?restu11
    case hyu11 => (intro w hSw; (try dsimp only at hSw); go_simp; (try with_reducible rfl))
    try simp only [Act.put, List.setIfInBounds_toArray, List.set_cons_zero, List.set_cons_succ]
    refine wpAnyH_take (i := 12) (oi := { dst := some 44, op := Op.load 25 (Operand.tmp 3), type := 25, pos := "law.go:50", after := #[{ on := 11, ground := Ground.guard }], guard := some (11, true) }) (v := ?vu12) rfl (by kernel_rfl) (by kernel_rfl) (by kernel_rfl) (fun _ _ _ h => h) (Or.inl ⟨by rfl, ?hyu12⟩) (by assumption) ?restu12
    case hyu12 => (intro w hSw; (try dsimp only at hSw); go_simp; (try with_reducible rfl))
    try simp only [Act.put, List.setIfInBounds_toArray, List.set_cons_zero, List.set_cons_succ]
    refine wpAnyH_ready (rs := [13]) (by kernel_rfl) (by simp) ?_
    refine AllReadyH.cons (o := { dst := some 45, op := Op.call { callee := Callee.value (Operand.func 16), args := #[Operand.tmp 44], argTypes := #[25] }, type := 26, pos := "law.go:50", after := #[{ on := 12, ground := Ground.data }, { on := 11, ground := Ground.chain }, { on := 11, ground := Ground.guard }], guard := some (11, true) }) rfl (fun K hK => ?_) AllReadyH.nil
    go_simp
    go_at_call 16
    refine (HCQ.out _ (HJ7.out.bel (by first | exact HW | exact HW.drew))).mono ?_
    rintro e v2 ⟨rfl, b2⟩
    replace HW := below_step (by first | exact HW | exact HW.drew) b2
    clear b2 x0 x1 x2 x3 x4 y0 y1 y2 y3 y4 z0 z1 z2 z3 z4
    obtain ⟨x0, x1, x2, x3, x4⟩ := box5_of HG7.out HW
    obtain ⟨y0, y1, y2, y3, y4⟩ := box5_of HH7.out HW
    obtain ⟨z0, z1, z2, z3, z4⟩ := box5_of HX7.out HW
    have m2 : True := trivial
    refine hK.out _ _ ?_ (fun hHeldB => ?_)
    · (try dsimp only); first | exact ⟨x0, x1, x2, x3, x4, y0, y1, y2, y3, y4, z0, z1, z2, z3, z4⟩ | go_keep
    clear hK K hHeld
    have hHeld := hHeldB
    clear hHeldB
    try simp only [Act.put, List.setIfInBounds_toArray, List.set_cons_zero, List.set_cons_succ]
    refine wpAnyH_take (i := 14) (oi := { dst := some 46, op := Op.binOp BinOp.neq 26 (Operand.tmp 45) (Operand.const (Value.int IntKind.i64 0)) 26, type := 4, pos := "law.go:50", after := #[{ on := 13, ground := Ground.data }, { on := 11, ground := Ground.guard }], guard := some (11, true) }) (v := ?vu13) rfl (by kernel_rfl) (by kernel_rfl) (by kernel_rfl) (fun _ _ _ h => h) (Or.inl ⟨by rfl, ?hyu13⟩) (by assumption) ?restu13
    case hyu13 => (intro w hSw; (try dsimp only at hSw); go_simp; (try with_reducible rfl))
    try simp only [Act.put, List.setIfInBounds_toArray, List.set_cons_zero, List.set_cons_succ]
    refine wpAnyH_take (i := 15) (oi := { dst := some 47, op := Op.move (Operand.tmp 46), type := 4, pos := "law.go:50", after := #[{ on := 14, ground := Ground.data }, { on := 13, ground := Ground.chain }, { on := 11, ground := Ground.guard }], guard := some (11, true) }) (v := ?vu14) rfl (by kernel_rfl) (by kernel_rfl) (by kernel_rfl) (fun _ _ _ h => h) (Or.inl ⟨by rfl, ?hyu14⟩) (by assumption) ?restu14
    case hyu14 => (intro w hSw; (try dsimp only at hSw); go_simp; (try with_reducible rfl))
    try simp only [Act.put, List.setIfInBounds_toArray, List.set_cons_zero, List.set_cons_succ]
    refine wpAnyH_take (i := 16) (oi := { dst := some 48, op := Op.move (Operand.tmp 5), type := 9, pos := "law.go:50", after := #[{ on := 15, ground := Ground.guard }], guard := some (15, false) }) (v := undef) rfl (by kernel_rfl) (by kernel_rfl) (by kernel_rfl) (fun _ _ _ h => h) (Or.inr ⟨by rfl, rfl⟩) (by assumption) ?_
    try simp only [Act.put, List.setIfInBounds_toArray, List.set_cons_zero, List.set_cons_succ]
    refine wpAnyH_take (i := 17) (oi := { dst := some 49, op := Op.load 25 (Operand.tmp 3), type := 25, pos := "law.go:50", after := #[{ on := 15, ground := Ground.guard }], guard := some (15, false) }) (v := undef) rfl (by kernel_rfl) (by kernel_rfl) (by kernel_rfl) (fun _ _ _ h => h) (Or.inr ⟨by rfl, rfl⟩) (by assumption) ?_
    try simp only [Act.put, List.setIfInBounds_toArray, List.set_cons_zero, List.set_cons_succ]
    refine wpAnyH_take (i := 18) (oi := { dst := some 50, op := Op.call { callee := Callee.value (Operand.func 15), args := #[Operand.tmp 49], argTypes := #[25] }, type := 9, pos := "law.go:50", after := #[{ on := 17, ground := Ground.data }, { on := 15, ground := Ground.chain }, { on := 15, ground := Ground.guard }], guard := some (15, false) }) (v := undef) rfl (by kernel_rfl) (by kernel_rfl) (by kernel_rfl) (fun _ _ _ h => h) (Or.inr ⟨by rfl, rfl⟩) (by assumption) ?_
    try simp only [Act.put, List.setIfInBounds_toArray, List.set_cons_zero, List.set_cons_succ]
    refine wpAnyH_take (i := 19) (oi := { dst := some 51, op := Op.binOp BinOp.eql 9 (Operand.tmp 48) (Operand.tmp 50) 9, type := 4, pos := "law.go:50", after := #[{ on := 16, ground := Ground.data }, { on := 18, ground := Ground.data }, { on := 15, ground := Ground.guard }], guard := some (15, false) }) (v := undef) rfl (by kernel_rfl) (by kernel_rfl) (by kernel_rfl) (fun _ _ _ h => h) (Or.inr ⟨by rfl, rfl⟩) (by assumption) ?_
    try simp only [Act.put, List.setIfInBounds_toArray, List.set_cons_zero, List.set_cons_succ]
    refine wpAnyH_take (i := 20) (oi := { dst := some 52, op := Op.load 25 (Operand.tmp 2), type := 25, pos := "law.go:50", after := #[{ on := 15, ground := Ground.guard }], guard := some (15, false) }) (v := undef) rfl (by kernel_rfl) (by kernel_rfl) (by kernel_rfl) (fun _ _ _ h => h) (Or.inr ⟨by rfl, rfl⟩) (by assumption) ?_
    try simp only [Act.put, List.setIfInBounds_toArray, List.set_cons_zero, List.set_cons_succ]
    refine wpAnyH_take (i := 21) (oi := { dst := some 53, op := Op.load 25 (Operand.tmp 3), type := 25, pos := "law.go:50", after := #[{ on := 15, ground := Ground.guard }], guard := some (15, false) }) (v := undef) rfl (by kernel_rfl) (by kernel_rfl) (by kernel_rfl) (fun _ _ _ h => h) (Or.inr ⟨by rfl, rfl⟩) (by assumption) ?_
    try simp only [Act.put, List.setIfInBounds_toArray, List.set_cons_zero, List.set_cons_succ]
    refine wpAnyH_take (i := 22) (oi := { dst := some 54, op := Op.call { callee := Callee.value (Operand.func 17), args := #[Operand.tmp 52, Operand.tmp 53], argTypes := #[25, 25] }, type := 4, pos := "law.go:50", after := #[{ on := 20, ground := Ground.data }, { on := 21, ground := Ground.data }, { on := 18, ground := Ground.chain }, { on := 15, ground := Ground.guard }], guard := some (15, false) }) (v := undef) rfl (by kernel_rfl) (by kernel_rfl) (by kernel_rfl) (fun _ _ _ h => h) (Or.inr ⟨by rfl, rfl⟩) (by assumption) ?_
    try simp only [Act.put, List.setIfInBounds_toArray, List.set_cons_zero, List.set_cons_succ]
    refine wpAnyH_take (i := 23) (oi := { dst := some 55, op := Op.binOp BinOp.eql 4 (Operand.tmp 51) (Operand.tmp 54) 4, type := 4, pos := "law.go:50", after := #[{ on := 19, ground := Ground.data }, { on := 22, ground := Ground.data }, { on := 15, ground := Ground.guard }], guard := some (15, false) }) (v := undef) rfl (by kernel_rfl) (by kernel_rfl) (by kernel_rfl) (fun _ _ _ h => h) (Or.inr ⟨by rfl, rfl⟩) (by assumption) ?_
    try simp only [Act.put, List.setIfInBounds_toArray, List.set_cons_zero, List.set_cons_succ]
    refine wpAnyH_take (i := 24) (oi := { dst := some 56, op := Op.pick (Operand.tmp 47) (Operand.const (Value.bool true)) (Operand.tmp 55), type := 4, pos := "law.go:50", after := #[{ on := 15, ground := Ground.data }, { on := 23, ground := Ground.data }, { on := 11, ground := Ground.guard }], guard := some (11, true) }) (v := ?vu15) rfl (by kernel_rfl) (by kernel_rfl) (by kernel_rfl) (fun _ _ _ h => h) (Or.inl ⟨by rfl, ?hyu15⟩) (by assumption) ?restu15
    case hyu15 => (intro w hSw; (try dsimp only at hSw); go_simp; (try with_reducible rfl))
    try simp only [Act.put, List.setIfInBounds_toArray, List.set_cons_zero, List.set_cons_succ]
    refine wpAnyH_take (i := 25) (oi := { dst := some 57, op := Op.pick (Operand.tmp 43) (Operand.tmp 56) (Operand.const (Value.bool false)), type := 4, pos := "law.go:50", after := #[{ on := 11, ground := Ground.data }, { on := 24, ground := Ground.data }], guard := none }) (v := ?vu16) rfl (by kernel_rfl) (by kernel_rfl) (by kernel_rfl) (fun _ _ _ h => h) (Or.inl ⟨by rfl, ?hyu16⟩) (by assumption) ?restu16
    case hyu16 => (intro w hSw; (try dsimp only at hSw); go_simp; (try with_reducible rfl))
    try simp only [Act.put, List.setIfInBounds_toArray, List.set_cons_zero, List.set_cons_succ]
    refine wpAnyH_take (i := 26) (oi := { dst := some 58, op := Op.move (Operand.tmp 57), type := 4, pos := "law.go:50", after := #[{ on := 25, ground := Ground.data }, { on := 22, ground := Ground.chain }], guard := none }) (v := ?vu17) rfl (by kernel_rfl) (by kernel_rfl) (by kernel_rfl) (fun _ _ _ h => h) (Or.inl ⟨by rfl, ?hyu17⟩) (by assumption) ?restu17
    case hyu17 => (intro w hSw; (try dsimp only at hSw); go_simp; (try with_reducible rfl))
    try simp only [Act.put, List.setIfInBounds_toArray, List.set_cons_zero, List.set_cons_succ]
    refine wpAnyH_ready (rs := [27]) (by kernel_rfl) (by simp) ?_
    refine AllReadyH.cons (o := { dst := some 59, op := Op.call { callee := Callee.value (Operand.func 8), args := #[], argTypes := #[] }, type := 4, pos := "law.go:50", after := #[{ on := 26, ground := Ground.chain }, { on := 26, ground := Ground.guard }], guard := some (26, true) }) rfl (fun K hK => ?_) AllReadyH.nil
    go_simp
    go_at_call 8
    refine (awake_any C _ lo (HENV.out.below (below_step HB7.out (by first | exact HW | exact HW.drew)))).mono ?_
    rintro e v3 ⟨rfl, b3⟩
    replace HW := below_step (by first | exact HW | exact HW.drew) b3
    clear b3 x0 x1 x2 x3 x4 y0 y1 y2 y3 y4 z0 z1 z2 z3 z4
    obtain ⟨x0, x1, x2, x3, x4⟩ := box5_of HG7.out HW
    obtain ⟨y0, y1, y2, y3, y4⟩ := box5_of HH7.out HW
    obtain ⟨z0, z1, z2, z3, z4⟩ := box5_of HX7.out HW
    have m3 : True := trivial
    refine hK.out _ _ ?_ (fun hHeldB => ?_)
    · (try dsimp only); first | exact ⟨x0, x1, x2, x3, x4, y0, y1, y2, y3, y4, z0, z1, z2, z3, z4⟩ | go_keep
    clear hK K hHeld
    have hHeld := hHeldB
    clear hHeldB
    try simp only [Act.put, List.setIfInBounds_toArray, List.set_cons_zero, List.set_cons_succ]
    refine wpAnyH_take (i := 28) (oi := { dst := some 60, op := Op.pick (Operand.tmp 58) (Operand.tmp 59) (Operand.const (Value.bool false)), type := 4, pos := "law.go:50", after := #[{ on := 26, ground := Ground.data }, { on := 27, ground := Ground.data }], guard := none }) (v := ?vu18) rfl (by kernel_rfl) (by kernel_rfl) (by kernel_rfl) (fun _ _ _ h => h) (Or.inl ⟨by rfl, ?hyu18⟩) (by assumption) ?restu18
    case hyu18 => (intro w hSw; (try dsimp only at hSw); go_simp; (try with_reducible rfl))
    try simp only [Act.put, List.setIfInBounds_toArray, List.set_cons_zero, List.set_cons_succ]
    refine wpAnyH_take (i := 29) (oi := { dst := some 4, op := Op.assign (Operand.tmp 60), type := 4, pos := "law.go:50", after := #[{ on := 28, ground := Ground.data }, { on := 27, ground := Ground.chain }, { on := 0, ground := Ground.phase }, { on := 1, ground := Ground.phase }, { on := 2, ground := Ground.phase }, { on := 3, ground := Ground.phase }, { on := 4, ground := Ground.phase }, { on := 5, ground := Ground.phase }, { on := 6, ground := Ground.phase }, { on := 7, ground := Ground.phase }, { on := 8, ground := Ground.phase }, { on := 9, ground := Ground.phase }, { on := 10, ground := Ground.phase }, { on := 11, ground := Ground.phase }, { on := 12, ground := Ground.phase }, { on := 13, ground := Ground.phase }, { on := 14, ground := Ground.phase }, { on := 15, ground := Ground.phase }, { on := 16, ground := Ground.phase }, { on := 17, ground := Ground.phase }, { on := 18, ground := Ground.phase }, { on := 19, ground := Ground.phase }, { on := 20, ground := Ground.phase }, { on := 21, ground := Ground.phase }, { on := 22, ground := Ground.phase }, { on := 23, ground := Ground.phase }, { on := 24, ground := Ground.phase }, { on := 25, ground := Ground.phase }, { on := 26, ground := Ground.phase }, { on := 27, ground := Ground.phase }, { on := 28, ground := Ground.phase }], guard := none }) (v := ?vu19) rfl (by kernel_rfl) (by kernel_rfl) (by kernel_rfl) (fun _ _ _ h => h) (Or.inl ⟨by rfl, ?hyu19⟩) (by assumption) ?restu19
    case hyu19 => (intro w hSw; (try dsimp only at hSw); go_simp; (try with_reducible rfl))
    try simp only [Act.put, List.setIfInBounds_toArray, List.set_cons_zero, List.set_cons_succ]
    refine wpAnyH_done (by kernel_rfl) ?_ _
    go_wp2
    go_ret
    exact ⟨rfl, below_step HB7.out HW⟩
end Go.Proofs.YtbgkfjelgnbfmaaGreatDoor
