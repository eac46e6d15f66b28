/- The document's own Least: its walk. -/
import Derived.Test.YteaajhpgmndomaaLea
namespace Go.Proofs.Yteaajhpgmndomaa
open Go.RowKit Fo
set_option maxRecDepth 100000

/-- Whether one of those before is a part. -/
def Fo.OvSt (ov : Bool) (k : Nat) (F : List (List Int)) (X : List Int) : Prop := ov = true ↔ ∃ j, j < k ∧ sub (gs F j) X
theorem rsub_at (w : World) (v1 v2 : Value) (l m : List Int) (R : Bool) (h1 : IsL w v1 l) (h2 : IsL w v2 m) (hl : l.length ≤ 1000000000) (hm : m.length ≤ 1000000000) (hR : subB l m = R) :
    Calls Try.prog 38 #[v1, v2] w fun e w' => e = .returned (.bool R) ∧ Below w.heap.size w w' := rsub_list w v1 v2 l m R h1 h2 hl hm (by rw [← hR]; exact subB_iff)
theorem oneV (V : Nat → Value) (h : ∀ j, ∃ a n c, V j = .slice a n c) (n j : Nat) (_ : j < n) : (V j).oneCell' = true := by
  obtain ⟨a, n, c, e⟩ := h j
  rw [e]; rfl
theorem Fo.SetIn.one {w : World} {v : Value} {l : List Int} (h : SetIn w v l) : v.oneCell' = true := by
  obtain ⟨a, c, rfl, -⟩ := h
  rfl
set_option maxHeartbeats 16000000 in
theorem rleast_any (w : World) (a : Option Addr) (c : Nat) (VS : Nat → Value) (Fs : List (List Int)) (h1 : Rd w a Fs.length c VS) (hs : ∀ j, j < Fs.length → IsL w (VS j) (gs Fs j)) (hn : Fs.length ≤ 100000) (hl : ∀ j, j < Fs.length → (gs Fs j).length ≤ 100000) :
    Calls Try.prog 17 #[.slice a Fs.length c] w fun e w' => (∃ u R, e = .returned u ∧ FamIn w.heap.size w' u R ∧ FamOf Fs R ∧ R.length ≤ Fs.length) ∧ Below w.heap.size w w' := by
  have H1 : Hid (Rd w a Fs.length c VS) := h1
  have HS : Hid (∀ j, j < Fs.length → IsL w (VS j) (gs Fs j)) := hs
  have HL : Hid (∀ j, j < Fs.length → (gs Fs j).length ≤ 100000) := hl
  clear h1 hs hl
  obtain ⟨n, hN0⟩ : ∃ n, n = Fs.length := ⟨_, rfl⟩
  rw [← hN0] at H1 HS HL hn ⊢
  have HN : Hid (n = Fs.length) := hN0
  clear hN0
  go_enter Try.func17, Try.ntmps17
  go_wp2
  go_loopw [3, 4] (fun v3 v4 wr => ∃ (i m : Nat) (F : List (List Int)) (a' : Option Addr) (c' : Nat) (V : Nat → Value), i ≤ n ∧ v4 = .int .i64 i ∧ v3 = .slice a' m c' ∧ Hid (m = F.length) ∧ m ≤ i ∧ Hid (Below w.heap.size w wr) ∧ Hid (Ow 23 w.heap.size wr (.slice a' m c') m V) ∧ Hid (∀ j, j < m → SetIn wr (V j) (gs F j)) ∧ Hid (FamOf (Fs.take i) F) ∧ Hid (∀ j, j < m → (gs F j).length ≤ 100000)) (fun _ v4 _ => n - (intOf v4).toNat)
  case atStart => exact ⟨0, 0, [], none, 0, fun _ => .slice none 0 0, Nat.zero_le _, rfl, rfl, rfl, Nat.le_refl _, below_refl _, Ow.nil _ _ _ _, fun j h => absurd h (by omega), fam_nil, fun j h => absurd h (by omega)⟩
  case round =>
    obtain ⟨i, m, F, a', c', V, hi, rfl, rfl, HM, hm, HW, HO, HF, HFam, HFl⟩ := hrel
    rename World => wr
    by_cases hlt : i < n
    · obtain ⟨ga, oa, rfl, hca⟩ := (H1.out.below HW.out).at (by omega)
      have hci := hca i hlt
      have HVi : Hid (IsL wr (VS i) (gs Fs i)) := (HS.out i hlt).below HW.out
      have HLi : Hid ((gs Fs i).length ≤ 100000) := HL.out i hlt
      have j1 : (0 : Int) ≤ (i : Int) := by omega
      have j2 : (i : Int) < (n : Int) := by omega
      generalize hv : VS i = vi at hci HVi
      have HV : Hid (VS i = vi) := hv
      clear hca hv
      go_wp2_with (go_at_call 15; fail)
      refine (rsorted_list _ vi (gs Fs i) (by exact HVi.out) HLi.out).mono ?_
      rintro e w1 ⟨⟨x, X, rfl, hx, hrise, hsub, hlen⟩, b⟩
      obtain ⟨ax, cx, rfl, -⟩ := id hx
      have HXr : Hid (Rise X) := hrise
      have HXs : Hid (sub X (gs Fs i) ∧ sub (gs Fs i) X) := hsub
      have HXl : Hid (X.length ≤ 100000) := Nat.le_trans hlen HLi.out
      have HX : Hid (SetIn w1 (.slice ax X.length cx) X) := hx
      have HWb : Hid (Below wr.heap.size wr w1) := b
      have HW1 : Hid (Below w.heap.size w w1) := below_step HW.out b
      have HO1 : Hid (Ow 23 w.heap.size w1 (.slice a' m c') m V) := HO.out.below b
      have HF1 : Hid (∀ j, j < m → SetIn w1 (V j) (gs F j)) := fun j hj => (HF.out j hj).below b
      clear hx hrise hsub hlen b HO HF HV HVi HWb HW
      go_wp2
      go_loopw [6, 7, 8] (fun v6 v7 v8 wq => ∃ (k g : Nat) (ov : Bool) (G : List (List Int)) (a2 : Option Addr) (c2 : Nat) (U : Nat → Value), k ≤ m ∧ v8 = .int .i64 k ∧ v6 = .bool ov ∧ v7 = .slice a2 g c2 ∧ Hid (g = G.length) ∧ g ≤ k ∧ Hid (Below w1.heap.size w1 wq) ∧ Hid (Ow 23 w1.heap.size wq (.slice a2 g c2) g U) ∧ Hid (∀ j, j < g → SetIn w1 (U j) (gs G j)) ∧ Hid (G = rest X (F.take k)) ∧ Hid (OvSt ov k F X)) (fun _ _ v8 _ => m - (intOf v8).toNat)
      case atStart => exact ⟨0, 0, false, [], none, 0, fun _ => .slice none 0 0, Nat.zero_le _, rfl, rfl, rfl, rfl, Nat.le_refl _, below_refl _, Ow.nil _ _ _ _, fun j h => absurd h (by omega), rfl, by show _ ↔ _; simp⟩
      case round =>
        obtain ⟨k, g, ov, G, a2, c2, U, hk, rfl, rfl, rfl, HG, hg, HW2, HO2, HU, HGr, Hov⟩ := hrel
        rename World => wq
        by_cases hkm : k < m
        · obtain ⟨go, rfl, hgo, hco, hfo⟩ := HO1.out.cells (by omega)
          have hcv := hco k hkm
          have hgl : go < w1.heap.size := World.block_lt_of_cell? w1 _ hcv
          have HVk : Hid (SetIn w1 (V k) (gs F k)) := HF1.out k hkm
          have HLk : Hid ((gs F k).length ≤ 100000) := HFl.out k hkm
          have HGk : Hid (∀ r, subB X (gs F k) = r → rest X (F.take (k + 1)) = G ++ (if r then [] else [gs F k])) := fun r hr => by
            rw [rest_more (by rw [← HM.out]; exact hkm), hr, ← HGr.out]
          have Hovk : Hid (∀ r, subB (gs F k) X = r → OvSt (ov || r) (k + 1) F X) := fun r hr => by
            show _ ↔ _
            have h0 : ov = true ↔ ∃ j, j < k ∧ sub (gs F j) X := Hov.out
            rw [Bool.or_eq_true, h0, ← hr, subB_iff]
            constructor
            · rintro (⟨j, hj, h⟩ | h)
              · exact ⟨j, by omega, h⟩
              · exact ⟨k, by omega, h⟩
            · rintro ⟨j, hj, h⟩
              by_cases e : j = k
              · subst e; exact Or.inr h
              · exact Or.inl ⟨j, by omega, h⟩
          have k1 : (0 : Int) ≤ (k : Int) := by omega
          have k2 : (k : Int) < (m : Int) := by omega
          have ck := (HW2.out.cell (p := ⟨go, k, none⟩) hgl).trans hcv
          obtain ⟨r1, hr1⟩ : ∃ r, subB (gs F k) X = r := ⟨_, rfl⟩
          obtain ⟨r2, hr2⟩ : ∃ r, subB X (gs F k) = r := ⟨_, rfl⟩
          have HR1 : Hid (subB (gs F k) X = r1) := hr1
          have HR2 : Hid (subB X (gs F k) = r2) := hr2
          generalize hvk : V k = vk at HVk hcv ck
          clear hco hfo hvk hr1 hr2 HGr Hov

          cases ov
          · cases r2
            · skip
              go_wp2_with (go_at_call 38; fail)
              refine (rsub_at _ vk _ (gs F k) X r1 (by exact (HVk.out.below HW2.out).isL) (by exact (HX.out.below HW2.out).isL) (Nat.le_trans HLk.out (by decide)) (Nat.le_trans HXl.out (by decide)) HR1.out).mono ?_
              rintro e wa ⟨rfl, b⟩
              have HWa : Hid (Below w1.heap.size w1 wa) := below_step HW2.out b
              have HOa : Hid (Ow 23 w1.heap.size wa (.slice a2 g c2) g U) := HO2.out.below b
              clear b ck HO2 HW2
              have ck := (HWa.out.cell (p := ⟨go, k, none⟩) hgl).trans hcv
              go_wp2_with (go_at_call 38; fail)
              refine (rsub_at _ _ vk X (gs F k) false (by exact (HX.out.below HWa.out).isL) (by exact (HVk.out.below HWa.out).isL) (Nat.le_trans HXl.out (by decide)) (Nat.le_trans HLk.out (by decide)) HR2.out).mono ?_
              rintro e wb ⟨rfl, b⟩
              have HWb : Hid (Below w1.heap.size w1 wb) := below_step HWa.out b
              have HOb : Hid (Ow 23 w1.heap.size wb (.slice a2 g c2) g U) := HOa.out.below b
              clear b ck HOa HWa
              have ck := (HWb.out.cell (p := ⟨go, k, none⟩) hgl).trans hcv
              have Hov' : Hid (OvSt r1 (k + 1) F X) := Hovk.out r1 HR1.out
              have HGk' := HGk.out false HR2.out
              have HG2 : Hid (G ++ [gs F k] = rest X (F.take (k + 1))) := by show _ = _; rw [HGk']; simp
              have HGn : Hid (g + 1 = (G ++ [gs F k]).length) := by show _ = _; rw [List.length_append, ← HG.out]; rfl
              have HU2 : Hid (∀ j, j < g + 1 → SetIn w1 (catV U g (fun _ => vk) j) (gs (G ++ [gs F k]) j)) := fun j hj => by
                unfold catV
                by_cases h : j < g
                · rw [if_pos h, gs_app_l (by rw [← HG.out]; exact h)]; exact HU.out j h
                · rw [if_neg h, gs_app_r (by rw [← HG.out]; omega), show j - G.length = 0 by rw [← HG.out]; omega]; exact HVk.out
              obtain ⟨av, cv, rfl, -⟩ := HVk.out
              have hszb : w1.heap.size ≤ wb.heap.size := HWb.out.size
              have HSZ : Hid (w1.heap.size ≤ (wb.alloc (.cells #[.slice av (gs F k).length cv] 23)).heap.size) := by show _ ≤ _; simp; omega
              have HBn : Hid (g + 1 ≤ 1000000000) := by show _ ≤ _; omega
              clear HGk' HGk Hovk HVk HLk HR1 HR2 HU HG hcv
              go_wp2_with (at_builtin; refine wpList_app eSet rfl _ _ rfl (HOb.out.alloc _) HSZ.out (one_cell _ _ _) (fun _ _ => rfl) (g + 1) rfl HBn.out (catV U g fun _ => .slice av (gs F k).length cv) (fun _ _ => rfl) rfl rfl ?_; intro a3 c3 w3 hO3 hG3)
              have HW3 : Hid (Below w1.heap.size w1 w3) := (HWb.out.alloc hszb _).grown hG3 HSZ.out (fun k' hk' => HOb.out.row k' hk')
              have HO3 : Hid (Ow 23 w1.heap.size w3 (.slice a3 (g + 1) c3) (g + 1) (catV U g fun _ => .slice av (gs F k).length cv)) := hO3
              clear hO3 hG3 HOb HWb HSZ ck
              go_roundw
              case rel => exact ⟨k + 1, g + 1, _, G ++ [gs F k], a3, c3, _, by omega, by go_num, rfl, rfl, HGn, by omega, HW3, HO3, HU2, HG2, Hov'⟩
              case measure => simp [intOf]; omega
            · skip
              go_wp2_with (go_at_call 38; fail)
              refine (rsub_at _ vk _ (gs F k) X r1 (by exact (HVk.out.below HW2.out).isL) (by exact (HX.out.below HW2.out).isL) (Nat.le_trans HLk.out (by decide)) (Nat.le_trans HXl.out (by decide)) HR1.out).mono ?_
              rintro e wa ⟨rfl, b⟩
              have HWa : Hid (Below w1.heap.size w1 wa) := below_step HW2.out b
              have HOa : Hid (Ow 23 w1.heap.size wa (.slice a2 g c2) g U) := HO2.out.below b
              clear b ck HO2 HW2
              have ck := (HWa.out.cell (p := ⟨go, k, none⟩) hgl).trans hcv
              go_wp2_with (go_at_call 38; fail)
              refine (rsub_at _ _ vk X (gs F k) true (by exact (HX.out.below HWa.out).isL) (by exact (HVk.out.below HWa.out).isL) (Nat.le_trans HXl.out (by decide)) (Nat.le_trans HLk.out (by decide)) HR2.out).mono ?_
              rintro e wb ⟨rfl, b⟩
              have HWb : Hid (Below w1.heap.size w1 wb) := below_step HWa.out b
              have HOb : Hid (Ow 23 w1.heap.size wb (.slice a2 g c2) g U) := HOa.out.below b
              clear b ck HOa HWa
              have ck := (HWb.out.cell (p := ⟨go, k, none⟩) hgl).trans hcv
              have Hov' : Hid (OvSt r1 (k + 1) F X) := Hovk.out r1 HR1.out
              have HGk' := HGk.out true HR2.out
              have HG2 : Hid (G = rest X (F.take (k + 1))) := by show G = _; rw [HGk']; simp
              clear HGk' HGk Hovk HVk HLk HR1 HR2 ck hcv
              go_wp2
              go_roundw
              case rel => exact ⟨k + 1, g, _, G, a2, c2, U, by omega, by go_num, rfl, rfl, HG, by omega, HWb, HOb, HU, HG2, Hov'⟩
              case measure => simp [intOf]; omega
          · cases r2
            · skip
              have HWa : Hid (Below w1.heap.size w1 wq) := HW2
              have HOa : Hid (Ow 23 w1.heap.size wq (.slice a2 g c2) g U) := HO2
              clear HO2 HW2
              go_wp2_with (go_at_call 38; fail)
              refine (rsub_at _ _ vk X (gs F k) false (by exact (HX.out.below HWa.out).isL) (by exact (HVk.out.below HWa.out).isL) (Nat.le_trans HXl.out (by decide)) (Nat.le_trans HLk.out (by decide)) HR2.out).mono ?_
              rintro e wb ⟨rfl, b⟩
              have HWb : Hid (Below w1.heap.size w1 wb) := below_step HWa.out b
              have HOb : Hid (Ow 23 w1.heap.size wb (.slice a2 g c2) g U) := HOa.out.below b
              clear b ck HOa HWa
              have ck := (HWb.out.cell (p := ⟨go, k, none⟩) hgl).trans hcv
              have Hov' : Hid (OvSt true (k + 1) F X) := Hovk.out r1 HR1.out
              have HGk' := HGk.out false HR2.out
              have HG2 : Hid (G ++ [gs F k] = rest X (F.take (k + 1))) := by show _ = _; rw [HGk']; simp
              have HGn : Hid (g + 1 = (G ++ [gs F k]).length) := by show _ = _; rw [List.length_append, ← HG.out]; rfl
              have HU2 : Hid (∀ j, j < g + 1 → SetIn w1 (catV U g (fun _ => vk) j) (gs (G ++ [gs F k]) j)) := fun j hj => by
                unfold catV
                by_cases h : j < g
                · rw [if_pos h, gs_app_l (by rw [← HG.out]; exact h)]; exact HU.out j h
                · rw [if_neg h, gs_app_r (by rw [← HG.out]; omega), show j - G.length = 0 by rw [← HG.out]; omega]; exact HVk.out
              obtain ⟨av, cv, rfl, -⟩ := HVk.out
              have hszb : w1.heap.size ≤ wb.heap.size := HWb.out.size
              have HSZ : Hid (w1.heap.size ≤ (wb.alloc (.cells #[.slice av (gs F k).length cv] 23)).heap.size) := by show _ ≤ _; simp; omega
              have HBn : Hid (g + 1 ≤ 1000000000) := by show _ ≤ _; omega
              clear HGk' HGk Hovk HVk HLk HR1 HR2 HU HG hcv
              go_wp2_with (at_builtin; refine wpList_app eSet rfl _ _ rfl (HOb.out.alloc _) HSZ.out (one_cell _ _ _) (fun _ _ => rfl) (g + 1) rfl HBn.out (catV U g fun _ => .slice av (gs F k).length cv) (fun _ _ => rfl) rfl rfl ?_; intro a3 c3 w3 hO3 hG3)
              have HW3 : Hid (Below w1.heap.size w1 w3) := (HWb.out.alloc hszb _).grown hG3 HSZ.out (fun k' hk' => HOb.out.row k' hk')
              have HO3 : Hid (Ow 23 w1.heap.size w3 (.slice a3 (g + 1) c3) (g + 1) (catV U g fun _ => .slice av (gs F k).length cv)) := hO3
              clear hO3 hG3 HOb HWb HSZ ck
              go_roundw
              case rel => exact ⟨k + 1, g + 1, _, G ++ [gs F k], a3, c3, _, by omega, by go_num, rfl, rfl, HGn, by omega, HW3, HO3, HU2, HG2, Hov'⟩
              case measure => simp [intOf]; omega
            · skip
              have HWa : Hid (Below w1.heap.size w1 wq) := HW2
              have HOa : Hid (Ow 23 w1.heap.size wq (.slice a2 g c2) g U) := HO2
              clear HO2 HW2
              go_wp2_with (go_at_call 38; fail)
              refine (rsub_at _ _ vk X (gs F k) true (by exact (HX.out.below HWa.out).isL) (by exact (HVk.out.below HWa.out).isL) (Nat.le_trans HXl.out (by decide)) (Nat.le_trans HLk.out (by decide)) HR2.out).mono ?_
              rintro e wb ⟨rfl, b⟩
              have HWb : Hid (Below w1.heap.size w1 wb) := below_step HWa.out b
              have HOb : Hid (Ow 23 w1.heap.size wb (.slice a2 g c2) g U) := HOa.out.below b
              clear b ck HOa HWa
              have ck := (HWb.out.cell (p := ⟨go, k, none⟩) hgl).trans hcv
              have Hov' : Hid (OvSt true (k + 1) F X) := Hovk.out r1 HR1.out
              have HGk' := HGk.out true HR2.out
              have HG2 : Hid (G = rest X (F.take (k + 1))) := by show G = _; rw [HGk']; simp
              clear HGk' HGk Hovk HVk HLk HR1 HR2 ck hcv
              go_wp2
              go_roundw
              case rel => exact ⟨k + 1, g, _, G, a2, c2, U, by omega, by go_num, rfl, rfl, HG, by omega, HWb, HOb, HU, HG2, Hov'⟩
              case measure => simp [intOf]; omega
        · obtain rfl : k = m := by omega
          have HFq : Hid (∀ j, j < k → SetIn wq (V j) (gs F j)) := fun j hj => (HF1.out j hj).below HW2.out
          cases ov
          · have Hno : Hid (¬ ∃ j, j < F.length ∧ sub (gs F j) X) := fun h => by
              have h0 : false = true ↔ ∃ j, j < k ∧ sub (gs F j) X := Hov.out
              rw [← HM.out] at h
              cases h0.2 h
            have HGr' : Hid (G = rest X F) := by
              show G = _
              rw [HGr.out, HM.out, List.take_length]
            have HGl : Hid (∀ j, j < g → (gs G j).length ≤ 100000) := fun j hj => by
              have h1 : gs G j ∈ rest X F := by rw [← HGr'.out]; exact gs_mem.2 ⟨j, by rw [← HG.out]; exact hj, rfl⟩
              obtain ⟨q, hq, e⟩ := gs_mem.1 (List.mem_filter.1 h1).1
              rw [← e]; exact HFl.out q (by rw [HM.out]; exact hq)
            clear Hov HGr HFq
            go_wp2
            go_loopw [9] (fun v9 wz => ∃ p : Nat, p ≤ g ∧ v9 = .int .i64 p ∧ Hid (Below w1.heap.size w1 wz) ∧ Hid (Ow 23 w1.heap.size wz (.slice a2 g c2) g U) ∧ Hid (∀ j, p ≤ j → j < g → lessL X (gs G j))) (fun v9 _ => (intOf v9).toNat)
            case atStart => exact ⟨g, Nat.le_refl _, rfl, HW2, HO2, fun j h1 h2 => absurd h1 (by omega)⟩
            case round =>
              obtain ⟨p, hp, rfl, HW3, HO3, HGt⟩ := hrel
              rename World => wz
              clear HO2 HW2
              by_cases hp0 : p = 0
              · subst hp0
                have HFam2 : Hid (FamOf (Fs.take (i + 1)) (G.take 0 ++ X :: G.drop 0)) := by
                  show FamOf _ _
                  rw [take_more (by rw [← HN.out]; exact hlt), HGr'.out]
                  exact fam_put HFam.out HXr.out HXs.out Hno.out (by rw [← HGr'.out, ← HG.out]; omega) (fun j h1 h2 => by rw [← HGr'.out] at h2 ⊢; exact HGt.out j h1 (by rw [HG.out]; exact h2)) (Or.inl rfl)
                have HSZ : Hid (w1.heap.size ≤ (wz.alloc (.cells #[.slice none 0 0] 23)).heap.size) := by
                  show _ ≤ _
                  have := HW3.out.size
                  simp; omega
                have hszw : w1.heap.size ≤ wz.heap.size := HW3.out.size
                have HBn : Hid (g + 1 ≤ 1000000000) := by show _ ≤ _; omega
                clear HGt Hno HXr HXs HFam HGr'
                go_wp2_with (at_builtin; refine wpList_app eSet rfl _ _ rfl (HO3.out.alloc _) HSZ.out (one_cell _ _ _) (fun _ _ => rfl) (g + 1) rfl HBn.out (midV U g (.slice none 0 0) g) (catV_mid U g _) rfl rfl ?_; intro a3 c3 w3 hO3 hG3)
                have HB4 : Hid (Below w1.heap.size w1 w3) := (HW3.out.alloc hszw _).grown hG3 HSZ.out (fun k' hk' => HO3.out.row k' hk')
                have HO4 : Hid (Ow 23 w1.heap.size w3 (.slice a3 (g + 1) c3) (g + 1) (midV U g (.slice none 0 0) g)) := hO3
                clear hO3 hG3 HO3 HW3 HSZ
                go_loopw [10] (fun v10 wy => ∃ k2 : Nat, 0 ≤ k2 ∧ k2 ≤ g ∧ v10 = .int .i64 k2 ∧ Hid (Below w1.heap.size w1 wy) ∧ Hid (Ow 23 w1.heap.size wy (.slice a3 (g + 1) c3) (g + 1) (midV U g (.slice none 0 0) k2))) (fun v10 _ => (intOf v10).toNat)
                case atStart => exact ⟨g, hp, Nat.le_refl _, rfl, HB4, HO4⟩
                case round =>
                  obtain ⟨k2, hpk, hkg, rfl, HW5, HO5⟩ := hrel
                  rename World => wy
                  clear HB4 HO4
                  obtain ⟨g3, rfl, hg3, hc3, hf3⟩ := HO5.out.cells (by omega)
                  by_cases hkp : 0 < k2
                  · obtain ⟨q2, rfl⟩ : ∃ q2, k2 = q2 + 1 := ⟨k2 - 1, by omega⟩
                    obtain ⟨au, cu, eu, -⟩ := HU.out q2 (by omega)
                    have hmq : midV U g (.slice none 0 0) (q2 + 1) q2 = .slice au (gs G q2).length cu := by
                      unfold midV; rw [if_pos (by omega), if_pos (by omega)]; exact eu
                    have hcq := hc3 q2 (by omega)
                    rw [hmq] at hcq
                    have HMQ : Hid (∀ j, updV (midV U g (.slice none 0 0) (q2 + 1)) (q2 + 1) (.slice au (gs G q2).length cu) j = midV U g (.slice none 0 0) q2 j) := fun j => by
                      rw [← hmq]; exact midV_step U g _ (q2 + 1) j (by omega) hkg
                    have hcs := hc3 (q2 + 1) (by omega)
                    have hfs := hf3 (q2 + 1)
                    have k1 : (0 : Int) ≤ (q2 : Int) := by omega
                    have k2' : (q2 : Int) < ((g + 1 : Nat) : Int) := by omega
                    clear hc3 hf3 hmq eu
                    go_wp2
                    go_roundw
                    case rel => exact ⟨q2, by omega, by omega, by go_num, HW5.out.setCell hg3 _, (HO5.out.put (q2 + 1) _ (by omega)).congr fun j _ => HMQ.out j⟩
                    case measure => simp [intOf]
                  · obtain rfl : k2 = 0 := by omega
                    have hcs := hc3 0 (by omega)
                    have hfs := hf3 0
                    have hpG : 0 ≤ G.length := by rw [← HG.out]; exact hp
                    have HBf : Hid (Below w1.heap.size w1 (wy.setCell ⟨g3, 0, none⟩ (.slice ax X.length cx))) := HW5.out.setCell hg3 _
                    have HOf : Hid (Ow 23 w.heap.size (wy.setCell ⟨g3, 0, none⟩ (.slice ax X.length cx)) (.slice (some ⟨g3, 0, none⟩) (g + 1) c3) (g + 1) (insV U 0 (.slice ax X.length cx))) := ((HO5.out.put 0 _ (by omega)).congr fun j _ => midV_end U g _ 0 j hp _).mono HW1.out.size
                    have HFf : Hid (∀ j, j < g + 1 → SetIn (wy.setCell ⟨g3, 0, none⟩ (.slice ax X.length cx)) (insV U 0 (.slice ax X.length cx) j) (gs (G.take 0 ++ X :: G.drop 0) j)) := fun j hj => by
                      rw [ins_gs G 0 X hpG]
                      unfold insV
                      by_cases a1 : j < 0
                      · rw [if_pos a1, if_pos a1]; exact (HU.out j (by omega)).below HBf.out
                      · rw [if_neg a1, if_neg a1]
                        by_cases a2 : j = 0
                        · rw [if_pos a2, if_pos a2]; exact HX.out.below HBf.out
                        · rw [if_neg a2, if_neg a2]; exact (HU.out (j - 1) (by omega)).below HBf.out
                    have HMf : Hid (g + 1 = (G.take 0 ++ X :: G.drop 0).length) := by show _ = _; rw [ins_len G 0 X hpG, ← HG.out]
                    have HLf : Hid (∀ j, j < g + 1 → (gs (G.take 0 ++ X :: G.drop 0) j).length ≤ 100000) := fun j hj => by
                      rw [ins_gs G 0 X hpG]
                      by_cases a1 : j < 0
                      · rw [if_pos a1]; exact HGl.out j (by omega)
                      · rw [if_neg a1]
                        by_cases a2 : j = 0
                        · rw [if_pos a2]; exact HXl.out
                        · rw [if_neg a2]; exact HGl.out (j - 1) (by omega)
                    have HWf : Hid (Below w.heap.size w (wy.setCell ⟨g3, 0, none⟩ (.slice ax X.length cx))) := below_step HW1.out HBf.out
                    clear hc3 hf3 HU HX HXl HGl HO5 HW5 HW1 HF1 HO1 HG HM HFl
                    go_wp2
                    go_roundw
                    case rel => exact ⟨i + 1, g + 1, _, _, c3, _, by omega, by go_num, rfl, HMf, by omega, HWf, HOf, HFf, HFam2, HLf⟩
                    case measure => simp [intOf]; omega
              · obtain ⟨q, rfl⟩ : ∃ q, p = q + 1 := ⟨p - 1, by omega⟩
                obtain ⟨gq, rfl, hgq, hcq, hfq⟩ := HO3.out.cells (by omega)
                have hcr := hcq q (by omega)
                have HUq : Hid (SetIn w1 (U q) (gs G q)) := HU.out q (by omega)
                generalize huq : U q = uq at hcr HUq
                have HUe : Hid (U q = uq) := huq
                have j3 : (0 : Int) ≤ (q : Int) := by omega
                have j4 : (q : Int) < (g : Int) := by omega
                clear hcq hfq huq
                by_cases hles : lessL X (gs G q)
                · have HGt' : Hid (∀ j, q ≤ j → j < g → lessL X (gs G j)) := fun j h1 h2 => by
                    by_cases e : j = q
                    · subst e; exact hles
                    · exact HGt.out j (by omega) h2
                  have HLp : Hid (lessL X (gs G q)) := hles
                  clear HGt hles
                  go_wp2_with (go_at_call 39; fail)
                  refine (rless_list _ _ uq X (gs G q) true (by exact (HX.out.below HW3.out).isL) (by exact (HUq.out.below HW3.out).isL) ⟨fun _ => HLp.out, fun _ => rfl⟩).mono ?_
                  rintro e wa ⟨rfl, b⟩
                  have HWa : Hid (Below w1.heap.size w1 wa) := below_step HW3.out b
                  have HOa : Hid (Ow 23 w1.heap.size wa (.slice (some ⟨gq, 0, none⟩) g c2) g U) := HO3.out.below b
                  clear b HO3 HW3 hcr
                  go_wp2
                  go_roundw
                  case rel => exact ⟨q, by omega, by go_num, HWa, HOa, HGt'⟩
                  case measure => simp [intOf]
                · have HNl : Hid (¬ lessL X (gs G q)) := hles
                  clear hles
                  go_wp2_with (go_at_call 39; fail)
                  refine (rless_list _ _ uq X (gs G q) false (by exact (HX.out.below HW3.out).isL) (by exact (HUq.out.below HW3.out).isL) ⟨fun h => (by cases h), fun h => absurd h HNl.out⟩).mono ?_
                  rintro e wa ⟨rfl, b⟩
                  have HWa : Hid (Below w1.heap.size w1 wa) := below_step HW3.out b
                  have HOa : Hid (Ow 23 w1.heap.size wa (.slice (some ⟨gq, 0, none⟩) g c2) g U) := HO3.out.below b
                  clear b HO3 HW3 hcr
                  have HW3 : Hid (Below w1.heap.size w1 wa) := HWa
                  have HO3 : Hid (Ow 23 w1.heap.size wa (.slice (some ⟨gq, 0, none⟩) g c2) g U) := HOa
                  clear HWa HOa
                  have HFam2 : Hid (FamOf (Fs.take (i + 1)) (G.take (q + 1) ++ X :: G.drop (q + 1))) := by
                    show FamOf _ _
                    rw [take_more (by rw [← HN.out]; exact hlt), HGr'.out]
                    exact fam_put HFam.out HXr.out HXs.out Hno.out (by rw [← HGr'.out, ← HG.out]; omega) (fun j h1 h2 => by rw [← HGr'.out] at h2 ⊢; exact HGt.out j h1 (by rw [HG.out]; exact h2)) (Or.inr (by rw [← HGr'.out]; exact HNl.out))
                  have HSZ : Hid (w1.heap.size ≤ (wa.alloc (.cells #[.slice none 0 0] 23)).heap.size) := by
                    show _ ≤ _
                    have := HW3.out.size
                    simp; omega
                  have hszw : w1.heap.size ≤ wa.heap.size := HW3.out.size
                  have HBn : Hid (g + 1 ≤ 1000000000) := by show _ ≤ _; omega
                  clear HGt Hno HXr HXs HFam HGr'
                  go_wp2_with (at_builtin; refine wpList_app eSet rfl _ _ rfl (HO3.out.alloc _) HSZ.out (one_cell _ _ _) (fun _ _ => rfl) (g + 1) rfl HBn.out (midV U g (.slice none 0 0) g) (catV_mid U g _) rfl rfl ?_; intro a3 c3 w3 hO3 hG3)
                  have HB4 : Hid (Below w1.heap.size w1 w3) := (HW3.out.alloc hszw _).grown hG3 HSZ.out (fun k' hk' => HO3.out.row k' hk')
                  have HO4 : Hid (Ow 23 w1.heap.size w3 (.slice a3 (g + 1) c3) (g + 1) (midV U g (.slice none 0 0) g)) := hO3
                  clear hO3 hG3 HO3 HW3 HSZ
                  go_loopw [10] (fun v10 wy => ∃ k2 : Nat, (q + 1) ≤ k2 ∧ k2 ≤ g ∧ v10 = .int .i64 k2 ∧ Hid (Below w1.heap.size w1 wy) ∧ Hid (Ow 23 w1.heap.size wy (.slice a3 (g + 1) c3) (g + 1) (midV U g (.slice none 0 0) k2))) (fun v10 _ => (intOf v10).toNat)
                  case atStart => exact ⟨g, hp, Nat.le_refl _, rfl, HB4, HO4⟩
                  case round =>
                    obtain ⟨k2, hpk, hkg, rfl, HW5, HO5⟩ := hrel
                    rename World => wy
                    clear HB4 HO4
                    obtain ⟨g3, rfl, hg3, hc3, hf3⟩ := HO5.out.cells (by omega)
                    by_cases hkp : (q + 1) < k2
                    · obtain ⟨q2, rfl⟩ : ∃ q2, k2 = q2 + 1 := ⟨k2 - 1, by omega⟩
                      obtain ⟨au, cu, eu, -⟩ := HU.out q2 (by omega)
                      have hmq : midV U g (.slice none 0 0) (q2 + 1) q2 = .slice au (gs G q2).length cu := by
                        unfold midV; rw [if_pos (by omega), if_pos (by omega)]; exact eu
                      have hcq := hc3 q2 (by omega)
                      rw [hmq] at hcq
                      have HMQ : Hid (∀ j, updV (midV U g (.slice none 0 0) (q2 + 1)) (q2 + 1) (.slice au (gs G q2).length cu) j = midV U g (.slice none 0 0) q2 j) := fun j => by
                        rw [← hmq]; exact midV_step U g _ (q2 + 1) j (by omega) hkg
                      have hcs := hc3 (q2 + 1) (by omega)
                      have hfs := hf3 (q2 + 1)
                      have k1 : (0 : Int) ≤ (q2 : Int) := by omega
                      have k2' : (q2 : Int) < ((g + 1 : Nat) : Int) := by omega
                      clear hc3 hf3 hmq eu
                      go_wp2
                      go_roundw
                      case rel => exact ⟨q2, by omega, by omega, by go_num, HW5.out.setCell hg3 _, (HO5.out.put (q2 + 1) _ (by omega)).congr fun j _ => HMQ.out j⟩
                      case measure => simp [intOf]
                    · obtain rfl : k2 = (q + 1) := by omega
                      have hcs := hc3 (q + 1) (by omega)
                      have hfs := hf3 (q + 1)
                      have hpG : (q + 1) ≤ G.length := by rw [← HG.out]; exact hp
                      have HBf : Hid (Below w1.heap.size w1 (wy.setCell ⟨g3, (q + 1), none⟩ (.slice ax X.length cx))) := HW5.out.setCell hg3 _
                      have HOf : Hid (Ow 23 w.heap.size (wy.setCell ⟨g3, (q + 1), none⟩ (.slice ax X.length cx)) (.slice (some ⟨g3, 0, none⟩) (g + 1) c3) (g + 1) (insV U (q + 1) (.slice ax X.length cx))) := ((HO5.out.put (q + 1) _ (by omega)).congr fun j _ => midV_end U g _ (q + 1) j hp _).mono HW1.out.size
                      have HFf : Hid (∀ j, j < g + 1 → SetIn (wy.setCell ⟨g3, (q + 1), none⟩ (.slice ax X.length cx)) (insV U (q + 1) (.slice ax X.length cx) j) (gs (G.take (q + 1) ++ X :: G.drop (q + 1)) j)) := fun j hj => by
                        rw [ins_gs G (q + 1) X hpG]
                        unfold insV
                        by_cases a1 : j < (q + 1)
                        · rw [if_pos a1, if_pos a1]; exact (HU.out j (by omega)).below HBf.out
                        · rw [if_neg a1, if_neg a1]
                          by_cases a2 : j = (q + 1)
                          · rw [if_pos a2, if_pos a2]; exact HX.out.below HBf.out
                          · rw [if_neg a2, if_neg a2]; exact (HU.out (j - 1) (by omega)).below HBf.out
                      have HMf : Hid (g + 1 = (G.take (q + 1) ++ X :: G.drop (q + 1)).length) := by show _ = _; rw [ins_len G (q + 1) X hpG, ← HG.out]
                      have HLf : Hid (∀ j, j < g + 1 → (gs (G.take (q + 1) ++ X :: G.drop (q + 1)) j).length ≤ 100000) := fun j hj => by
                        rw [ins_gs G (q + 1) X hpG]
                        by_cases a1 : j < (q + 1)
                        · rw [if_pos a1]; exact HGl.out j (by omega)
                        · rw [if_neg a1]
                          by_cases a2 : j = (q + 1)
                          · rw [if_pos a2]; exact HXl.out
                          · rw [if_neg a2]; exact HGl.out (j - 1) (by omega)
                      have HWf : Hid (Below w.heap.size w (wy.setCell ⟨g3, (q + 1), none⟩ (.slice ax X.length cx))) := below_step HW1.out HBf.out
                      clear hc3 hf3 HU HX HXl HGl HO5 HW5 HW1 HF1 HO1 HG HM HFl
                      go_wp2
                      go_roundw
                      case rel => exact ⟨i + 1, g + 1, _, _, c3, _, by omega, by go_num, rfl, HMf, by omega, HWf, HOf, HFf, HFam2, HLf⟩
                      case measure => simp [intOf]; omega
          · have HFam2 : Hid (FamOf (Fs.take (i + 1)) F) := by
              show FamOf _ _
              rw [take_more (by rw [← HN.out]; exact hlt)]
              have h0 : true = true ↔ ∃ j, j < k ∧ sub (gs F j) X := Hov.out
              obtain ⟨j, hj, h⟩ := h0.1 rfl
              exact fam_over HFam.out HXs.out ⟨gs F j, gs_mem.2 ⟨j, by rw [← HM.out]; exact hj, rfl⟩, h⟩
            have HOq : Hid (Ow 23 w.heap.size wq (.slice a' k c') k V) := HO1.out.below HW2.out
            have HWq : Hid (Below w.heap.size w wq) := below_step HW1.out HW2.out
            clear Hov HGr HU HO2 HW2 HO1 HF1 HW1 HX HXs HXr HG
            go_wp2
            go_roundw
            case rel => exact ⟨i + 1, k, F, a', c', V, by omega, by go_num, rfl, HM, by omega, HWq, HOq, HFq, HFam2, HFl⟩
            case measure => simp [intOf]; omega
    · obtain rfl : i = n := by omega
      have HR : Hid (FamIn w.heap.size wr (.slice a' m c') F ∧ FamOf Fs F ∧ F.length ≤ i) := by
        refine ⟨⟨V, by rw [← HM.out]; exact HO.out, by rw [← HM.out]; exact HF.out⟩, ?_, by rw [← HM.out]; exact hm⟩
        have := HFam.out
        rwa [HN.out, List.take_length] at this
      clear H1 HS HL HN HM HO HF HFam HFl
      go_wp2
      go_ret
      exact ⟨⟨_, F, rfl, HR.out⟩, HW.out⟩
end Go.Proofs.Yteaajhpgmndomaa
