/- The document's own Has, Over; Ints and Lists. -/
import Derived.Test.YteaajhpgmndomaaLeb
namespace Go.Proofs.Yteaajhpgmndomaa
open Go.RowKit Fo
set_option maxRecDepth 100000

namespace Fo
theorem gt_ext {l m : List Int} (hl : l.length = m.length) (h : ∀ j, j < l.length → gt l j = gt m j) : l = m := by
  apply List.ext_getElem? 
  intro j
  by_cases hj : j < l.length
  · have := h j hj
    unfold gt at this
    rw [List.getD_eq_getElem?_getD, List.getD_eq_getElem?_getD, List.getElem?_eq_getElem hj, List.getElem?_eq_getElem (by omega)] at this
    rw [List.getElem?_eq_getElem hj, List.getElem?_eq_getElem (by omega)]
    exact congrArg some this
  · rw [List.getElem?_eq_none (by omega), List.getElem?_eq_none (by omega)]
theorem gs_ext {F G : List (List Int)} (hl : F.length = G.length) (h : ∀ j, j < F.length → gs F j = gs G j) : F = G := by
  apply List.ext_getElem? 
  intro j
  by_cases hj : j < F.length
  · have := h j hj
    rw [gs_at hj, gs_at (by omega)] at this
    rw [List.getElem?_eq_getElem hj, List.getElem?_eq_getElem (by omega), this]
  · rw [List.getElem?_eq_none (by omega), List.getElem?_eq_none (by omega)]
end Fo
set_option maxHeartbeats 4000000 in
theorem rhas_any (w : World) (a : Option Addr) (c : Nat) (V : Nat → Value) (F : List (List Int)) (v : Value) (s : List Int) (R : Bool) (h1 : Rd w a F.length c V) (hs : ∀ j, j < F.length → IsL w (V j) (gs F j)) (h2 : IsL w v s) (hl : ∀ j, j < F.length → (gs F j).length ≤ 1000000000) (hm : s.length ≤ 1000000000) (hR : R = true ↔ has F s) :
    Calls Try.prog 21 #[.slice a F.length c, v] w fun e w' => e = .returned (.bool R) ∧ Below w.heap.size w w' := by
  have H1 : Hid (Rd w a F.length c V) := h1
  have HS : Hid (∀ j, j < F.length → IsL w (V j) (gs F j)) := hs
  have H2 : Hid (IsL w v s) := h2
  have HL : Hid (∀ j, j < F.length → (gs F j).length ≤ 1000000000) := hl
  have HM : Hid (s.length ≤ 1000000000) := hm
  have HR : Hid (R = true ↔ has F s) := hR
  have hn := h1.1
  have hcm := h1.2.1
  obtain ⟨a2, c2, rfl, -⟩ := h2
  clear h1 hs hl hm hR
  obtain ⟨n, hN0⟩ : ∃ n, n = F.length := ⟨_, rfl⟩
  rw [← hN0] at H1 HS HL hn ⊢
  have HN : Hid (n = F.length) := hN0
  clear hN0
  go_enter Try.func21, Try.ntmps21
  go_wp2
  go_loopw [5] (fun v wr => ∃ i : Nat, i ≤ n ∧ v = .int .i64 i ∧ Hid (Below w.heap.size w wr) ∧ Hid (∀ j, j < i → ¬ sub (gs F j) s)) (fun v _ => n - (intOf v).toNat)
  case atStart => exact ⟨0, Nat.zero_le _, rfl, below_refl _, fun j hj => absurd hj (by omega)⟩
  case round =>
    obtain ⟨i, hi, rfl, HW, HI⟩ := hrel
    rename World => wr
    by_cases hlt : i < n
    · obtain ⟨ga, oa, rfl, hca⟩ := (H1.out.below HW.out).at (by omega)
      have hci := hca i hlt
      have HVi : Hid (IsL wr (V i) (gs F i)) := (HS.out i hlt).below HW.out
      have HLi : Hid ((gs F i).length ≤ 1000000000) := HL.out i hlt
      generalize hv : V i = vi at hci HVi
      have HV : Hid (V i = vi) := hv
      have j1 : (0 : Int) ≤ (i : Int) := by omega
      have j2 : (i : Int) < (n : Int) := by omega
      obtain ⟨r, hr⟩ : ∃ r, subB (gs F i) s = r := ⟨_, rfl⟩
      have HRr : Hid (subB (gs F i) s = r) := hr
      clear hca hv hr
      cases r
      · have HI' : Hid (∀ j, j < i + 1 → ¬ sub (gs F j) s) := fun j hj => by
          by_cases e : j = i
          · subst e; intro h; have := subB_iff.2 h; rw [HRr.out] at this; cases this
          · exact HI.out j (by omega)
        go_wp2_with (go_at_call 38; fail)
        refine (rsub_at _ vi _ (gs F i) s false (by exact HVi.out) (by exact H2.out.below HW.out) HLi.out HM.out HRr.out).mono ?_
        rintro e wa ⟨rfl, b⟩
        have HWa : Hid (Below w.heap.size w wa) := below_step HW.out b
        clear b hci HVi HW HI
        go_wp2
        go_roundw
        case rel => exact ⟨i + 1, by omega, by go_num, HWa, HI'⟩
        case measure => simp [intOf]; omega
      · have HE : Hid (true = R) := by
          show _ = _
          exact (HR.out.2 ⟨gs F i, gs_mem.2 ⟨i, by rw [← HN.out]; exact hlt, rfl⟩, subB_iff.1 HRr.out⟩).symm
        go_wp2_with (go_at_call 38; fail)
        refine (rsub_at _ vi _ (gs F i) s true (by exact HVi.out) (by exact H2.out.below HW.out) HLi.out HM.out HRr.out).mono ?_
        rintro e wa ⟨rfl, b⟩
        have HWa : Hid (Below w.heap.size w wa) := below_step HW.out b
        clear b hci HVi HW HI
        go_wp2
        go_ret
        exact ⟨ret_bool HE.out, HWa.out⟩
    · obtain rfl : i = n := by omega
      have HE : Hid (false = R) := by
        show _ = _
        cases h : R
        · rfl
        · obtain ⟨a, ha, hs⟩ := HR.out.1 h
          obtain ⟨j, hj, e⟩ := gs_mem.1 ha
          exact absurd (e ▸ hs) (HI.out j (by rw [HN.out]; exact hj))
      clear H1 HS HL HI
      go_wp2
      go_ret
      exact ⟨ret_bool HE.out, HW.out⟩
theorem rover_any (w : World) (a : Option Addr) (n c : Nat) (b : Int) (R : Bool) (hn : n ≤ 9223372036854775807) (hR : (decide (b < (n : Int)) || decide (5000 < n)) = R) :
    Calls Try.prog 25 #[.slice a n c, .int .i64 b] w fun e w' => e = .returned (.bool R) ∧ w' = w := by
  subst hR
  by_cases h : b < (n : Int)
  · rw [decide_eq_true h]
    go_enter Try.func25, Try.ntmps25
    go_wp2
    go_ret
    exact ⟨rfl, rfl⟩
  · rw [decide_eq_false h]
    by_cases h2 : 5000 < n
    · have h3 : (5000 : Int) < (n : Int) := by omega
      rw [decide_eq_true h2]
      go_enter Try.func25, Try.ntmps25
      go_wp2
      go_ret
      exact ⟨rfl, rfl⟩
    · have h3 : ¬ (5000 : Int) < (n : Int) := by omega
      rw [decide_eq_false h2]
      go_enter Try.func25, Try.ntmps25
      go_wp2
      go_ret
      exact ⟨rfl, rfl⟩
set_option maxHeartbeats 4000000 in
theorem rints_any (w : World) (v1 v2 : Value) (l m : List Int) (R : Bool) (h1 : IsL w v1 l) (h2 : IsL w v2 m) (hR : R = true ↔ l = m) :
    Calls Try.prog 13 #[v1, v2] w fun e w' => e = .returned (.bool R) ∧ Below w.heap.size w w' := by
  obtain ⟨a, c, rfl, h1⟩ := h1
  obtain ⟨b, d, rfl, h2⟩ := h2
  have H1 : Hid (Rd w a l.length c (ivs (gt l))) := h1
  have H2 : Hid (Rd w b m.length d (ivs (gt m))) := h2
  have HR : Hid (R = true ↔ l = m) := hR
  have hn := h1.1
  have hm := h2.1
  have hc := h1.2.1
  have hd := h2.2.1
  clear h1 h2 hR
  obtain ⟨n, hN0⟩ : ∃ n, n = l.length := ⟨_, rfl⟩
  obtain ⟨q, hM0⟩ : ∃ q, q = m.length := ⟨_, rfl⟩
  rw [← hN0] at H1 hn ⊢
  rw [← hM0] at H2 hm ⊢
  have HN : Hid (n = l.length) := hN0
  have HM : Hid (q = m.length) := hM0
  clear hN0 hM0
  by_cases hnm : n = q
  · subst hnm
    go_enter Try.func13, Try.ntmps13
    go_wp2
    go_loopw [5] (fun v wr => ∃ i : Nat, i ≤ n ∧ v = .int .i64 i ∧ Hid (Below w.heap.size w wr) ∧ Hid (∀ j, j < i → gt l j = gt m j)) (fun v _ => n - (intOf v).toNat)
    case atStart => exact ⟨0, Nat.zero_le _, rfl, below_refl _, fun j hj => absurd hj (by omega)⟩
    case round =>
      obtain ⟨i, hi, rfl, HW, HI⟩ := hrel
      rename World => wr
      by_cases hlt : i < n
      · obtain ⟨ga, oa, rfl, hca⟩ := (H1.out.below HW.out).at (by omega)
        obtain ⟨gb, ob, rfl, hcb⟩ := (H2.out.below HW.out).at (by omega)
        have hci := hca i hlt
        have hck := hcb i hlt
        unfold ivs at hci hck
        have j1 : (0 : Int) ≤ (i : Int) := by omega
        have j2 : (i : Int) < (n : Int) := by omega
        clear hca hcb H1 H2
        by_cases he : gt l i = gt m i
        · have HI' : Hid (∀ j, j < i + 1 → gt l j = gt m j) := fun j hj => by
            by_cases e : j = i
            · subst e; exact he
            · exact HI.out j (by omega)
          have hne : (gt l i != gt m i) = false := by simp [he]
          clear HR HI he
          go_wp2
          go_quiet (fail)
          go_wp2
          go_roundw
          case rel => exact ⟨i + 1, by omega, by go_num, below_drewN HW.out _, HI'⟩
          case measure => simp [intOf]; omega
        · have hne : (gt l i != gt m i) = true := by simp [he]
          have HE : Hid (false = R) := by
            show _ = _
            cases h : R
            · rfl
            · exact absurd (by rw [HR.out.1 h]) he
          clear HR HI he
          go_wp2
          go_quiet (fail)
          go_wp2
          go_ret
          exact ⟨ret_bool HE.out, below_drewN HW.out _⟩
      · obtain rfl : i = n := by omega
        have HE : Hid (true = R) := (HR.out.2 (gt_ext (by rw [← HN.out, ← HM.out]) (by rw [← HN.out]; exact HI.out))).symm
        clear H1 H2 HR HI
        go_wp2
        go_ret
        exact ⟨ret_bool HE.out, HW.out⟩
  · have hne : ((n : Int) != (q : Int)) = true := by simp; omega
    have HE : Hid (false = R) := by
      show _ = _
      cases h : R
      · rfl
      · exact absurd (by rw [HN.out, HM.out, HR.out.1 h]) hnm
    clear H1 H2 HR
    go_enter Try.func13, Try.ntmps13
    go_wp2
    go_ret
    exact ⟨ret_bool HE.out, below_refl _⟩
end Go.Proofs.Yteaajhpgmndomaa
