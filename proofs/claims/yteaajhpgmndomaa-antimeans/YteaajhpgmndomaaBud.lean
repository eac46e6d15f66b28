/- The walk of AntiBudget, out of what families answer. -/
import Derived.Test.YteaajhpgmndomaaFsy
import Derived.Test.YteaajhpgmndomaaAnx
namespace Go.Proofs.Yteaajhpgmndomaa
open Go.RowKit Fo
set_option maxRecDepth 100000

set_option maxHeartbeats 64000000 in
theorem budget_false {Env : World → Prop} (C : FamSays Env) (w : World) (vl vr : Value) (L R : List (List Int))  (h1 : IsLL w vl L) (h2 : IsLL w vr R)  (henv : Env w) :
    Calls Try.prog 8 #[vl, vr, .bool false] w fun e w' => e = .returned (.bool true) ∧ Below w.heap.size w w' := by
  have HA0 := h1
  have HR0 := h2
  have HE : Hid (Env w) := henv
  obtain ⟨al, cl, VL, rfl, hrl, -⟩ := h1
  obtain ⟨ar, cr, VR, rfl, hrr, -⟩ := h2
  have hl1 := hrl.1
  have hl2 := hrl.2.1
  have hr1 := hrr.1
  have hr2 := hrr.2.1
  obtain ⟨W0, hW0⟩ : ∃ W0, W0 = w.alloc (.cells #[.slice al L.length cl, .slice ar R.length cr] 22) := ⟨_, rfl⟩
  have HB : Hid (Below w.heap.size w W0) := by rw [hW0]; exact below1 w _
  have hg0 : W0.heap[w.heap.size]? = some (.cells #[.slice al L.length cl, .slice ar R.length cr] 22) := by rw [hW0]; exact heap_new1 w _
  have cS := asmall_any W0 w.heap.size 2 (fun j => if j = 0 then .slice al L.length cl else .slice ar R.length cr) (fun j => if j = 0 then L else R) (by decide)
    (fun j hj => by rw [cell_of_row W0 _ _ _ _ _ hg0]; match j, hj with | 0, _ => rfl | 1, _ => rfl)
    (fun j hj => by match j, hj with | 0, _ => exact HA0.below HB.out | 1, _ => exact HR0.below HB.out)
  have HA : Hid (IsLL W0 (.slice al L.length cl) L) := HA0.below HB.out
  have HR : Hid (IsLL W0 (.slice ar R.length cr) R) := HR0.below HB.out
  clear hrl hrr hg0 HA0 HR0 henv
  go_enter Try.func8, Try.ntmps8
  go_wp2_with (go_at_call 9; fail)
  rw [← hW0]
  clear hW0
  refine cS.mono ?_
  rintro e w' ⟨hr, hw⟩
  replace hw := hw.symm
  subst hw
  obtain ⟨q, rfl, hq⟩ := hr
  clear cS
  cases q
  · skip
    go_wp2_with (go_at_call 10; fail)
    refine (awake_of C _ (C.keep HE.out HB.out)).mono ?_
    rintro e xx ⟨rfl, b⟩
    have HBx : Hid (Below w.heap.size w xx) := below_step HB.out b
    clear b HB
    go_wp2
    go_ret
    exact ⟨rfl, HBx.out⟩
  · have HL : Hid (SmP L) := hq rfl 0 (by decide)
    have HRs : Hid (SmP R) := hq rfl 1 (by decide)
    clear hq
    by_cases hgl : GoodP L
    · have HgL : Hid (GoodP L) := hgl
      clear hgl
      by_cases hgr : GoodP R
      · have HgR : Hid (GoodP R) := hgr
        clear hgr
        go_wp2_with (go_at_call 12; fail)
        refine (agood_any _ _ L true HA.out ⟨fun _ => HgL.out, fun _ => rfl⟩).mono ?_
        rintro e w' ⟨rfl, hw⟩
        replace hw := hw.symm
        subst hw
        go_wp2_with (go_at_call 12; fail)
        refine (agood_any _ _ R true HR.out ⟨fun _ => HgR.out, fun _ => rfl⟩).mono ?_
        rintro e w' ⟨rfl, hw⟩
        replace hw := hw.symm
        subst hw
        go_wp2_with (go_at_call 11; fail)
        refine (C.of _ _ L (C.keep HE.out HB.out) HA.out (Nat.le_trans HL.out.1 (by decide)) (fun j hj => Nat.le_trans (HL.out.2 j hj) (by decide))).mono ?_
        rintro e w1 ⟨hr, b⟩
        rcases hr with ⟨-, u, F, rfl, hf, ho⟩ | ⟨hn, -⟩
        case inr => exact absurd HgL.out hn
        replace HA : Hid (IsLL w1 (.slice al L.length cl) L) := HA.out.below b
        replace HR : Hid (IsLL w1 (.slice ar R.length cr) R) := HR.out.below b
        replace HB : Hid (Below w.heap.size w w1) := below_step HB.out b
        obtain ⟨af, cf, Vf, rfl, hrest⟩ := id hf
        have HOf : Hid (FamOf L F) := ho
        have HFf : Hid (FV w1 (.agg #[.slice af F.length cf]) F) := hf
        clear hrest ho hf b
        go_upto_region 4 with fail
        obtain ⟨X7, hW⟩ : ∃ X7, X7 = w1.alloc (.cells #[.slice af F.length cf] 27) := ⟨_, rfl⟩
        rw [← hW]
        have b : Below w1.heap.size w1 X7 := by rw [hW]; exact below1 _ _
        have Hb7 : Hid (X7.heap[w1.heap.size]? = some (.cells #[.slice af F.length cf] 27)) := by show X7.heap[_]? = _; rw [hW]; exact heap_new1 _ _
        have HBx7 : Hid (w.heap.size ≤ w1.heap.size) := HB.out.size
        clear hW
        replace HA : Hid (IsLL X7 (.slice al L.length cl) L) := HA.out.below b
        replace HR : Hid (IsLL X7 (.slice ar R.length cr) R) := HR.out.below b
        replace HB : Hid (Below w.heap.size w X7) := below_step HB.out b
        replace HFf : Hid (FV X7 (.agg #[.slice af F.length cf]) F) := HFf.out.below b
        clear b
        go_wp2_with (go_at_call 11; fail)
        refine (C.of _ _ R (C.keep HE.out HB.out) HR.out (Nat.le_trans HRs.out.1 (by decide)) (fun j hj => Nat.le_trans (HRs.out.2 j hj) (by decide))).mono ?_
        rintro e w2 ⟨hr, b⟩
        rcases hr with ⟨-, u, G, rfl, hf, ho⟩ | ⟨hn, -⟩
        case inr => exact absurd HgR.out hn
        replace HA : Hid (IsLL w2 (.slice al L.length cl) L) := HA.out.below b
        replace HR : Hid (IsLL w2 (.slice ar R.length cr) R) := HR.out.below b
        replace HB : Hid (Below w.heap.size w w2) := below_step HB.out b
        replace HFf : Hid (FV w2 (.agg #[.slice af F.length cf]) F) := HFf.out.below b
        replace Hb7 : Hid (w2.heap[w1.heap.size]? = some (.cells #[.slice af F.length cf] 27)) := (b.block (w1.heap.size) (Array.getElem?_eq_some_iff.1 Hb7.out).1).trans Hb7.out
        obtain ⟨ag, cg, Vg, rfl, hrest⟩ := id hf
        have HOg : Hid (FamOf R G) := ho
        have HFg : Hid (FV w2 (.agg #[.slice ag G.length cg]) G) := hf
        clear hrest ho hf b
        go_upto_region 5 with fail
        obtain ⟨X9, hW⟩ : ∃ X9, X9 = w2.alloc (.cells #[.slice ag G.length cg] 27) := ⟨_, rfl⟩
        rw [← hW]
        have b : Below w2.heap.size w2 X9 := by rw [hW]; exact below1 _ _
        have Hb9 : Hid (X9.heap[w2.heap.size]? = some (.cells #[.slice ag G.length cg] 27)) := by show X9.heap[_]? = _; rw [hW]; exact heap_new1 _ _
        have HBx9 : Hid (w.heap.size ≤ w2.heap.size) := HB.out.size
        have dl7_9 : w1.heap.size < w2.heap.size := (Array.getElem?_eq_some_iff.1 Hb7.out).1
        clear hW
        replace HA : Hid (IsLL X9 (.slice al L.length cl) L) := HA.out.below b
        replace HR : Hid (IsLL X9 (.slice ar R.length cr) R) := HR.out.below b
        replace HB : Hid (Below w.heap.size w X9) := below_step HB.out b
        replace HFf : Hid (FV X9 (.agg #[.slice af F.length cf]) F) := HFf.out.below b
        replace HFg : Hid (FV X9 (.agg #[.slice ag G.length cg]) G) := HFg.out.below b
        replace Hb7 : Hid (X9.heap[w1.heap.size]? = some (.cells #[.slice af F.length cf] 27)) := (b.block (w1.heap.size) (Array.getElem?_eq_some_iff.1 Hb7.out).1).trans Hb7.out
        clear b
        clear HA HR
        have HFl : Hid (F.length ≤ 12) := Nat.le_trans (fam_len HOf.out) HL.out.1
        have HGl : Hid (G.length ≤ 12) := Nat.le_trans (fam_len HOg.out) HRs.out.1
        have HFG : Hid (F.length * G.length ≤ 144) := Nat.mul_le_mul HFl.out HGl.out
        obtain ⟨Pm, hP⟩ := fam_ex (F ++ G)
        obtain ⟨Tm, hT⟩ := fam_ex (unionsL F G)
        have HOp : Hid (FamOf (F ++ G) Pm) := hP
        have HOt : Hid (FamOf (unionsL F G) Tm) := hT
        have HPl : Hid (Pm.length ≤ 24) := by
          show _ ≤ _
          have h1 := fam_len hP
          rw [List.length_append] at h1
          have h2 := HFl.out
          have h3 := HGl.out
          omega
        have HTl : Hid (Tm.length ≤ 144) := by
          show _ ≤ _
          have h1 := fam_len hT
          rw [len_unions] at h1
          exact Nat.le_trans h1 HFG.out
        clear hP hT
        have HOVp : Hid (ovB Pm (5000) = false) := by
          show _ = _
          have h2 := HPl.out
          have h3 := HTl.out
          unfold ovB
          rw [decide_eq_false (by omega), decide_eq_false (by omega)]; rfl
        have hk7 : X9.cell? ⟨w1.heap.size, 0, none⟩ = some (.slice af F.length cf) := by rw [cell_of_row X9 _ _ _ _ _ Hb7.out]; rfl
        have hk9 : X9.cell? ⟨w2.heap.size, 0, none⟩ = some (.slice ag G.length cg) := by rw [cell_of_row X9 _ _ _ _ _ Hb9.out]; rfl
        go_wp2_with (go_at_call 23; fail)
        refine (C.plus _ _ _ F G Pm _ (C.keep HE.out HB.out) HFf.out HFg.out HOf.out.1 HOg.out.1 HOp.out).mono ?_
        rintro e w3 ⟨hr, b⟩
        clear hk7 hk9
        rcases hr with ⟨-, u, rfl, hf⟩ | ⟨hn, -⟩
        case inr => exfalso; revert hn; rw [show ovB Pm _ = false from HOVp.out]; decide
        replace HB : Hid (Below w.heap.size w w3) := below_step HB.out b
        replace HFf : Hid (FV w3 (.agg #[.slice af F.length cf]) F) := HFf.out.below b
        replace HFg : Hid (FV w3 (.agg #[.slice ag G.length cg]) G) := HFg.out.below b
        replace Hb7 : Hid (w3.heap[w1.heap.size]? = some (.cells #[.slice af F.length cf] 27)) := (b.block (w1.heap.size) (Array.getElem?_eq_some_iff.1 Hb7.out).1).trans Hb7.out
        replace Hb9 : Hid (w3.heap[w2.heap.size]? = some (.cells #[.slice ag G.length cg] 27)) := (b.block (w2.heap.size) (Array.getElem?_eq_some_iff.1 Hb9.out).1).trans Hb9.out
        obtain ⟨ap, cp, Vp, rfl, hrest⟩ := id hf
        have HFp : Hid (FV w3 (.agg #[.slice ap Pm.length cp]) Pm) := hf
        clear hrest hf b
        go_upto_region 8 with fail
        obtain ⟨X11, hW⟩ : ∃ X11, X11 = w3.alloc (.cells #[.slice ap Pm.length cp] 27) := ⟨_, rfl⟩
        rw [← hW]
        have b : Below w3.heap.size w3 X11 := by rw [hW]; exact below1 _ _
        have Hb11 : Hid (X11.heap[w3.heap.size]? = some (.cells #[.slice ap Pm.length cp] 27)) := by show X11.heap[_]? = _; rw [hW]; exact heap_new1 _ _
        have HBx11 : Hid (w.heap.size ≤ w3.heap.size) := HB.out.size
        have dl7_11 : w1.heap.size < w3.heap.size := (Array.getElem?_eq_some_iff.1 Hb7.out).1
        have dl9_11 : w2.heap.size < w3.heap.size := (Array.getElem?_eq_some_iff.1 Hb9.out).1
        clear hW
        replace HB : Hid (Below w.heap.size w X11) := below_step HB.out b
        replace HFf : Hid (FV X11 (.agg #[.slice af F.length cf]) F) := HFf.out.below b
        replace HFg : Hid (FV X11 (.agg #[.slice ag G.length cg]) G) := HFg.out.below b
        replace HFp : Hid (FV X11 (.agg #[.slice ap Pm.length cp]) Pm) := HFp.out.below b
        replace Hb7 : Hid (X11.heap[w1.heap.size]? = some (.cells #[.slice af F.length cf] 27)) := (b.block (w1.heap.size) (Array.getElem?_eq_some_iff.1 Hb7.out).1).trans Hb7.out
        replace Hb9 : Hid (X11.heap[w2.heap.size]? = some (.cells #[.slice ag G.length cg] 27)) := (b.block (w2.heap.size) (Array.getElem?_eq_some_iff.1 Hb9.out).1).trans Hb9.out
        clear b
        have hk11 : X11.cell? ⟨w3.heap.size, 0, none⟩ = some (.slice ap Pm.length cp) := by rw [cell_of_row X11 _ _ _ _ _ Hb11.out]; rfl
        go_wp2_with (go_at_call 16; fail)
        refine (C.len _ _ Pm ((Pm.length : Nat) : Int) (C.keep HE.out HB.out) HFp.out rfl).mono ?_
        rintro e w4 ⟨rfl, b⟩
        clear hk11
        replace HB : Hid (Below w.heap.size w w4) := below_step HB.out b
        replace HFf : Hid (FV w4 (.agg #[.slice af F.length cf]) F) := HFf.out.below b
        replace HFg : Hid (FV w4 (.agg #[.slice ag G.length cg]) G) := HFg.out.below b
        replace HFp : Hid (FV w4 (.agg #[.slice ap Pm.length cp]) Pm) := HFp.out.below b
        replace Hb7 : Hid (w4.heap[w1.heap.size]? = some (.cells #[.slice af F.length cf] 27)) := (b.block (w1.heap.size) (Array.getElem?_eq_some_iff.1 Hb7.out).1).trans Hb7.out
        replace Hb9 : Hid (w4.heap[w2.heap.size]? = some (.cells #[.slice ag G.length cg] 27)) := (b.block (w2.heap.size) (Array.getElem?_eq_some_iff.1 Hb9.out).1).trans Hb9.out
        replace Hb11 : Hid (w4.heap[w3.heap.size]? = some (.cells #[.slice ap Pm.length cp] 27)) := (b.block (w3.heap.size) (Array.getElem?_eq_some_iff.1 Hb11.out).1).trans Hb11.out
        clear b
        go_upto_region 11 with fail
        have HOVy : Hid (ovB Pm (((Pm.length : Nat) : Int)) = false) := by
          show _ = _
          have h2 := HPl.out
          have h3 := HTl.out
          unfold ovB
          rw [decide_eq_false (by omega), decide_eq_false (by omega)]; rfl
        have hk7 : w4.cell? ⟨w1.heap.size, 0, none⟩ = some (.slice af F.length cf) := by rw [cell_of_row w4 _ _ _ _ _ Hb7.out]; rfl
        have hk9 : w4.cell? ⟨w2.heap.size, 0, none⟩ = some (.slice ag G.length cg) := by rw [cell_of_row w4 _ _ _ _ _ Hb9.out]; rfl
        go_wp2_with (go_at_call 23; fail)
        refine (C.plus _ _ _ F G Pm _ (C.keep HE.out HB.out) HFf.out HFg.out HOf.out.1 HOg.out.1 HOp.out).mono ?_
        rintro e w5 ⟨hr, b⟩
        clear hk7 hk9
        rcases hr with ⟨-, u, rfl, hf⟩ | ⟨hn, -⟩
        case inr => exfalso; revert hn; rw [show ovB Pm _ = false from HOVy.out]; decide
        replace HB : Hid (Below w.heap.size w w5) := below_step HB.out b
        replace HFf : Hid (FV w5 (.agg #[.slice af F.length cf]) F) := HFf.out.below b
        replace HFg : Hid (FV w5 (.agg #[.slice ag G.length cg]) G) := HFg.out.below b
        replace HFp : Hid (FV w5 (.agg #[.slice ap Pm.length cp]) Pm) := HFp.out.below b
        replace Hb7 : Hid (w5.heap[w1.heap.size]? = some (.cells #[.slice af F.length cf] 27)) := (b.block (w1.heap.size) (Array.getElem?_eq_some_iff.1 Hb7.out).1).trans Hb7.out
        replace Hb9 : Hid (w5.heap[w2.heap.size]? = some (.cells #[.slice ag G.length cg] 27)) := (b.block (w2.heap.size) (Array.getElem?_eq_some_iff.1 Hb9.out).1).trans Hb9.out
        replace Hb11 : Hid (w5.heap[w3.heap.size]? = some (.cells #[.slice ap Pm.length cp] 27)) := (b.block (w3.heap.size) (Array.getElem?_eq_some_iff.1 Hb11.out).1).trans Hb11.out
        obtain ⟨ay, cy, Vy, rfl, hrest⟩ := id hf
        have HFy : Hid (FV w5 (.agg #[.slice ay Pm.length cy]) Pm) := hf
        clear hrest hf b
        go_upto_region 12 with fail
        obtain ⟨X14, hW⟩ : ∃ X14, X14 = w5.alloc (.cells #[.slice ay Pm.length cy] 27) := ⟨_, rfl⟩
        rw [← hW]
        have b : Below w5.heap.size w5 X14 := by rw [hW]; exact below1 _ _
        have Hb14 : Hid (X14.heap[w5.heap.size]? = some (.cells #[.slice ay Pm.length cy] 27)) := by show X14.heap[_]? = _; rw [hW]; exact heap_new1 _ _
        have HBx14 : Hid (w.heap.size ≤ w5.heap.size) := HB.out.size
        have dl7_14 : w1.heap.size < w5.heap.size := (Array.getElem?_eq_some_iff.1 Hb7.out).1
        have dl9_14 : w2.heap.size < w5.heap.size := (Array.getElem?_eq_some_iff.1 Hb9.out).1
        have dl11_14 : w3.heap.size < w5.heap.size := (Array.getElem?_eq_some_iff.1 Hb11.out).1
        clear hW
        replace HB : Hid (Below w.heap.size w X14) := below_step HB.out b
        replace HFf : Hid (FV X14 (.agg #[.slice af F.length cf]) F) := HFf.out.below b
        replace HFg : Hid (FV X14 (.agg #[.slice ag G.length cg]) G) := HFg.out.below b
        replace HFp : Hid (FV X14 (.agg #[.slice ap Pm.length cp]) Pm) := HFp.out.below b
        replace HFy : Hid (FV X14 (.agg #[.slice ay Pm.length cy]) Pm) := HFy.out.below b
        replace Hb7 : Hid (X14.heap[w1.heap.size]? = some (.cells #[.slice af F.length cf] 27)) := (b.block (w1.heap.size) (Array.getElem?_eq_some_iff.1 Hb7.out).1).trans Hb7.out
        replace Hb9 : Hid (X14.heap[w2.heap.size]? = some (.cells #[.slice ag G.length cg] 27)) := (b.block (w2.heap.size) (Array.getElem?_eq_some_iff.1 Hb9.out).1).trans Hb9.out
        replace Hb11 : Hid (X14.heap[w3.heap.size]? = some (.cells #[.slice ap Pm.length cp] 27)) := (b.block (w3.heap.size) (Array.getElem?_eq_some_iff.1 Hb11.out).1).trans Hb11.out
        clear b
        have HOVz : Hid (ovB Pm (((Pm.length : Nat) : Int) - 1) = true) := by
          show _ = _
          have h2 := HPl.out
          have h3 := HTl.out
          unfold ovB
          rw [decide_eq_true (by omega)]; rfl
        have hk7 : X14.cell? ⟨w1.heap.size, 0, none⟩ = some (.slice af F.length cf) := by rw [cell_of_row X14 _ _ _ _ _ Hb7.out]; rfl
        have hk9 : X14.cell? ⟨w2.heap.size, 0, none⟩ = some (.slice ag G.length cg) := by rw [cell_of_row X14 _ _ _ _ _ Hb9.out]; rfl
        go_wp2_with (go_at_call 23; fail)
        refine (C.plus _ _ _ F G Pm _ (C.keep HE.out HB.out) HFf.out HFg.out HOf.out.1 HOg.out.1 HOp.out).mono ?_
        rintro e w6 ⟨hr, b⟩
        clear hk7 hk9
        rcases hr with ⟨hn, -⟩ | ⟨-, u, rfl, hf⟩
        case inl => exfalso; have h2 := HPl.out; have h3 := HTl.out; revert hn; (try rw [show RowKit.wrap64 (((Pm.length : Nat) : Int) - 1) = ((Pm.length : Nat) : Int) - 1 by unfold RowKit.wrap64; omega]); rw [show ovB Pm _ = true from HOVz.out]; decide
        replace HB : Hid (Below w.heap.size w w6) := below_step HB.out b
        replace HFf : Hid (FV w6 (.agg #[.slice af F.length cf]) F) := HFf.out.below b
        replace HFg : Hid (FV w6 (.agg #[.slice ag G.length cg]) G) := HFg.out.below b
        replace HFp : Hid (FV w6 (.agg #[.slice ap Pm.length cp]) Pm) := HFp.out.below b
        replace HFy : Hid (FV w6 (.agg #[.slice ay Pm.length cy]) Pm) := HFy.out.below b
        replace Hb7 : Hid (w6.heap[w1.heap.size]? = some (.cells #[.slice af F.length cf] 27)) := (b.block (w1.heap.size) (Array.getElem?_eq_some_iff.1 Hb7.out).1).trans Hb7.out
        replace Hb9 : Hid (w6.heap[w2.heap.size]? = some (.cells #[.slice ag G.length cg] 27)) := (b.block (w2.heap.size) (Array.getElem?_eq_some_iff.1 Hb9.out).1).trans Hb9.out
        replace Hb11 : Hid (w6.heap[w3.heap.size]? = some (.cells #[.slice ap Pm.length cp] 27)) := (b.block (w3.heap.size) (Array.getElem?_eq_some_iff.1 Hb11.out).1).trans Hb11.out
        replace Hb14 : Hid (w6.heap[w5.heap.size]? = some (.cells #[.slice ay Pm.length cy] 27)) := (b.block (w5.heap.size) (Array.getElem?_eq_some_iff.1 Hb14.out).1).trans Hb14.out
        obtain ⟨az, cz, Vz, rfl, hrest⟩ := id hf
        have HFz : Hid (FV w6 (.agg #[.slice az 0 cz]) (([] : List (List Int)))) := hf
        clear hrest hf b
        go_upto_region 13 with fail
        obtain ⟨X16, hW⟩ : ∃ X16, X16 = w6.alloc (.cells #[.slice az 0 cz] 27) := ⟨_, rfl⟩
        rw [← hW]
        have b : Below w6.heap.size w6 X16 := by rw [hW]; exact below1 _ _
        have Hb16 : Hid (X16.heap[w6.heap.size]? = some (.cells #[.slice az 0 cz] 27)) := by show X16.heap[_]? = _; rw [hW]; exact heap_new1 _ _
        have HBx16 : Hid (w.heap.size ≤ w6.heap.size) := HB.out.size
        have dl7_16 : w1.heap.size < w6.heap.size := (Array.getElem?_eq_some_iff.1 Hb7.out).1
        have dl9_16 : w2.heap.size < w6.heap.size := (Array.getElem?_eq_some_iff.1 Hb9.out).1
        have dl11_16 : w3.heap.size < w6.heap.size := (Array.getElem?_eq_some_iff.1 Hb11.out).1
        have dl14_16 : w5.heap.size < w6.heap.size := (Array.getElem?_eq_some_iff.1 Hb14.out).1
        clear hW
        replace HB : Hid (Below w.heap.size w X16) := below_step HB.out b
        replace HFf : Hid (FV X16 (.agg #[.slice af F.length cf]) F) := HFf.out.below b
        replace HFg : Hid (FV X16 (.agg #[.slice ag G.length cg]) G) := HFg.out.below b
        replace HFp : Hid (FV X16 (.agg #[.slice ap Pm.length cp]) Pm) := HFp.out.below b
        replace HFy : Hid (FV X16 (.agg #[.slice ay Pm.length cy]) Pm) := HFy.out.below b
        replace HFz : Hid (FV X16 (.agg #[.slice az 0 cz]) (([] : List (List Int)))) := HFz.out.below b
        replace Hb7 : Hid (X16.heap[w1.heap.size]? = some (.cells #[.slice af F.length cf] 27)) := (b.block (w1.heap.size) (Array.getElem?_eq_some_iff.1 Hb7.out).1).trans Hb7.out
        replace Hb9 : Hid (X16.heap[w2.heap.size]? = some (.cells #[.slice ag G.length cg] 27)) := (b.block (w2.heap.size) (Array.getElem?_eq_some_iff.1 Hb9.out).1).trans Hb9.out
        replace Hb11 : Hid (X16.heap[w3.heap.size]? = some (.cells #[.slice ap Pm.length cp] 27)) := (b.block (w3.heap.size) (Array.getElem?_eq_some_iff.1 Hb11.out).1).trans Hb11.out
        replace Hb14 : Hid (X16.heap[w5.heap.size]? = some (.cells #[.slice ay Pm.length cy] 27)) := (b.block (w5.heap.size) (Array.getElem?_eq_some_iff.1 Hb14.out).1).trans Hb14.out
        clear b
        go_upto_region 16 with fail
        have hk11 : X16.cell? ⟨w3.heap.size, 0, none⟩ = some (.slice ap Pm.length cp) := by rw [cell_of_row X16 _ _ _ _ _ Hb11.out]; rfl
        have hk14 : X16.cell? ⟨w5.heap.size, 0, none⟩ = some (.slice ay Pm.length cy) := by rw [cell_of_row X16 _ _ _ _ _ Hb14.out]; rfl
        have hk16 : X16.cell? ⟨w6.heap.size, 0, none⟩ = some (.slice az 0 cz) := by rw [cell_of_row X16 _ _ _ _ _ Hb16.out]; rfl
        have m11 : w3.heap.size < X16.heap.size := World.block_lt_of_cell? X16 _ hk11
        have m14 : w5.heap.size < X16.heap.size := World.block_lt_of_cell? X16 _ hk14
        have m16 : w6.heap.size < X16.heap.size := World.block_lt_of_cell? X16 _ hk16
        have HW : Below X16.heap.size X16 X16 := below_refl _
        have HBW : Hid (Below w.heap.size w X16) := HB
        clear HB
        refine wp_region_held_drew (S := (fun w' => Below X16.heap.size X16 w')) (by kernel_rfl) ?_ (fun hHeld => ?_)
        · (try dsimp only); first | exact HW | exact HW.drew
        refine wpAnyH_take (i := 0) (oi := { dst := some 96, op := Op.move (Operand.tmp 12), type := 28, pos := "law.go:183", after := #[], guard := none }) (v := ?vu89) rfl (by kernel_rfl) (by kernel_rfl) (by kernel_rfl) (fun _ _ _ h => h) (Or.inl ⟨by rfl, ?hyu89⟩) (by assumption) ?restu89
        case hyu89 => (intro w hSw; (try dsimp only at hSw); go_simp; (try with_reducible rfl))
        try simp only [Act.put, List.setIfInBounds_toArray, List.set_cons_zero, List.set_cons_succ]
        refine wpAnyH_take (i := 1) (oi := { dst := some 97, op := Op.binOp BinOp.eql 28 (Operand.tmp 96) (Operand.const (Value.int IntKind.i64 0)) 28, type := 4, pos := "law.go:183", after := #[{ on := 0, ground := Ground.data }], guard := none }) (v := ?vu90) rfl (by kernel_rfl) (by kernel_rfl) (by kernel_rfl) (fun _ _ _ h => h) (Or.inl ⟨by rfl, ?hyu90⟩) (by assumption) ?restu90
        case hyu90 => (intro w hSw; (try dsimp only at hSw); go_simp; (try with_reducible rfl))
        try simp only [Act.put, List.setIfInBounds_toArray, List.set_cons_zero, List.set_cons_succ]
        refine wpAnyH_take (i := 2) (oi := { dst := some 98, op := Op.move (Operand.tmp 97), type := 4, pos := "law.go:183", after := #[{ on := 1, ground := Ground.data }], guard := none }) (v := ?vu91) rfl (by kernel_rfl) (by kernel_rfl) (by kernel_rfl) (fun _ _ _ h => h) (Or.inl ⟨by rfl, ?hyu91⟩) (by assumption) ?restu91
        case hyu91 => (intro w hSw; (try dsimp only at hSw); go_simp; (try with_reducible rfl))
        try simp only [Act.put, List.setIfInBounds_toArray, List.set_cons_zero, List.set_cons_succ]
        refine wpAnyH_take (i := 3) (oi := { dst := some 99, op := Op.move (Operand.tmp 15), type := 28, pos := "law.go:183", after := #[{ on := 2, ground := Ground.guard }], guard := some (2, true) }) (v := ?vu92) rfl (by kernel_rfl) (by kernel_rfl) (by kernel_rfl) (fun _ _ _ h => h) (Or.inl ⟨by rfl, ?hyu92⟩) (by assumption) ?restu92
        case hyu92 => (intro w hSw; (try dsimp only at hSw); go_simp; (try with_reducible rfl))
        try simp only [Act.put, List.setIfInBounds_toArray, List.set_cons_zero, List.set_cons_succ]
        refine wpAnyH_take (i := 4) (oi := { dst := some 100, op := Op.binOp BinOp.eql 28 (Operand.tmp 99) (Operand.const (Value.int IntKind.i64 0)) 28, type := 4, pos := "law.go:183", after := #[{ on := 3, ground := Ground.data }, { on := 2, ground := Ground.guard }], guard := some (2, true) }) (v := ?vu93) rfl (by kernel_rfl) (by kernel_rfl) (by kernel_rfl) (fun _ _ _ h => h) (Or.inl ⟨by rfl, ?hyu93⟩) (by assumption) ?restu93
        case hyu93 => (intro w hSw; (try dsimp only at hSw); go_simp; (try with_reducible rfl))
        try simp only [Act.put, List.setIfInBounds_toArray, List.set_cons_zero, List.set_cons_succ]
        refine wpAnyH_take (i := 5) (oi := { dst := some 101, op := Op.pick (Operand.tmp 98) (Operand.tmp 100) (Operand.const (Value.bool false)), type := 4, pos := "law.go:183", after := #[{ on := 2, ground := Ground.data }, { on := 4, ground := Ground.data }], guard := none }) (v := ?vu94) rfl (by kernel_rfl) (by kernel_rfl) (by kernel_rfl) (fun _ _ _ h => h) (Or.inl ⟨by rfl, ?hyu94⟩) (by assumption) ?restu94
        case hyu94 => (intro w hSw; (try dsimp only at hSw); go_simp; (try with_reducible rfl))
        try simp only [Act.put, List.setIfInBounds_toArray, List.set_cons_zero, List.set_cons_succ]
        refine wpAnyH_take (i := 6) (oi := { dst := some 102, op := Op.move (Operand.tmp 101), type := 4, pos := "law.go:183", after := #[{ on := 5, ground := Ground.data }, { on := 2, ground := Ground.chain }], guard := none }) (v := ?vu95) rfl (by kernel_rfl) (by kernel_rfl) (by kernel_rfl) (fun _ _ _ h => h) (Or.inl ⟨by rfl, ?hyu95⟩) (by assumption) ?restu95
        case hyu95 => (intro w hSw; (try dsimp only at hSw); go_simp; (try with_reducible rfl))
        try simp only [Act.put, List.setIfInBounds_toArray, List.set_cons_zero, List.set_cons_succ]
        refine wpAnyH_take (i := 7) (oi := { dst := some 103, op := Op.move (Operand.tmp 17), type := 28, pos := "law.go:183", after := #[{ on := 6, ground := Ground.guard }], guard := some (6, true) }) (v := ?vu96) rfl (by kernel_rfl) (by kernel_rfl) (by kernel_rfl) (fun _ _ _ h => h) (Or.inl ⟨by rfl, ?hyu96⟩) (by assumption) ?restu96
        case hyu96 => (intro w hSw; (try dsimp only at hSw); go_simp; (try with_reducible rfl))
        try simp only [Act.put, List.setIfInBounds_toArray, List.set_cons_zero, List.set_cons_succ]
        refine wpAnyH_take (i := 8) (oi := { dst := some 104, op := Op.binOp BinOp.eql 28 (Operand.tmp 103) (Operand.const (Value.int IntKind.i64 10)) 28, type := 4, pos := "law.go:183", after := #[{ on := 7, ground := Ground.data }, { on := 6, ground := Ground.guard }], guard := some (6, true) }) (v := ?vu97) rfl (by kernel_rfl) (by kernel_rfl) (by kernel_rfl) (fun _ _ _ h => h) (Or.inl ⟨by rfl, ?hyu97⟩) (by assumption) ?restu97
        case hyu97 => (intro w hSw; (try dsimp only at hSw); go_simp; (try with_reducible rfl))
        try simp only [Act.put, List.setIfInBounds_toArray, List.set_cons_zero, List.set_cons_succ]
        refine wpAnyH_take (i := 9) (oi := { dst := some 105, op := Op.pick (Operand.tmp 102) (Operand.tmp 104) (Operand.const (Value.bool false)), type := 4, pos := "law.go:183", after := #[{ on := 6, ground := Ground.data }, { on := 8, ground := Ground.data }], guard := none }) (v := ?vu98) rfl (by kernel_rfl) (by kernel_rfl) (by kernel_rfl) (fun _ _ _ h => h) (Or.inl ⟨by rfl, ?hyu98⟩) (by assumption) ?restu98
        case hyu98 => (intro w hSw; (try dsimp only at hSw); go_simp; (try with_reducible rfl))
        try simp only [Act.put, List.setIfInBounds_toArray, List.set_cons_zero, List.set_cons_succ]
        refine wpAnyH_take (i := 10) (oi := { dst := some 106, op := Op.move (Operand.tmp 105), type := 4, pos := "law.go:183", after := #[{ on := 9, ground := Ground.data }, { on := 6, ground := Ground.chain }], guard := none }) (v := ?vu99) rfl (by kernel_rfl) (by kernel_rfl) (by kernel_rfl) (fun _ _ _ h => h) (Or.inl ⟨by rfl, ?hyu99⟩) (by assumption) ?restu99
        case hyu99 => (intro w hSw; (try dsimp only at hSw); go_simp; (try with_reducible rfl))
        try simp only [Act.put, List.setIfInBounds_toArray, List.set_cons_zero, List.set_cons_succ]
        refine wpAnyH_take (i := 11) (oi := { dst := some 107, op := Op.load 27 (Operand.tmp 16), type := 27, pos := "law.go:183", after := #[{ on := 10, ground := Ground.guard }], guard := some (10, true) }) (v := ?vu100) rfl (by kernel_rfl) (by kernel_rfl) (by kernel_rfl) (fun _ _ _ h => h) (Or.inl ⟨by rfl, ?hyu100⟩) (by assumption) ?restu100
        case hyu100 => (intro w' hSw; (try dsimp only at hSw); have q1 := (Below.cell hSw (p := ⟨w6.heap.size, 0, none⟩) m16).trans hk16; go_simp; (try with_reducible rfl))
        try simp only [Act.put, List.setIfInBounds_toArray, List.set_cons_zero, List.set_cons_succ]
        refine wpAnyH_ready (rs := [12]) (by kernel_rfl) (by simp) ?_
        refine AllReadyH.cons (o := { dst := some 108, op := Op.call { callee := Callee.value (Operand.func 16), args := #[Operand.tmp 107], argTypes := #[27] }, type := 3, pos := "law.go:183", after := #[{ on := 11, ground := Ground.data }, { on := 10, ground := Ground.chain }, { on := 10, ground := Ground.guard }], guard := some (10, true) }) rfl (fun K hK => ?_) AllReadyH.nil
        go_simp
        go_at_call 16
        refine (C.len _ _ [] 0 (C.keep HE.out (below_step HBW.out (by first | exact HW | exact HW.drew))) (by exact HFz.out.below (by first | exact HW | exact HW.drew)) rfl).mono ?_
        rintro e z0 ⟨rfl, b⟩
        replace HW := below_step (by first | exact HW | exact HW.drew) b
        clear b
        refine hK.out _ _ ?_ (fun hHeldB => ?_)
        · (try dsimp only); exact HW
        clear hK K hHeld
        have hHeld := hHeldB
        clear hHeldB
        try simp only [Act.put, List.setIfInBounds_toArray, List.set_cons_zero, List.set_cons_succ]
        refine wpAnyH_take (i := 13) (oi := { dst := some 109, op := Op.binOp BinOp.eql 3 (Operand.tmp 108) (Operand.const (Value.int IntKind.i64 0)) 3, type := 4, pos := "law.go:183", after := #[{ on := 12, ground := Ground.data }, { on := 10, ground := Ground.guard }], guard := some (10, true) }) (v := ?vu101) rfl (by kernel_rfl) (by kernel_rfl) (by kernel_rfl) (fun _ _ _ h => h) (Or.inl ⟨by rfl, ?hyu101⟩) (by assumption) ?restu101
        case hyu101 => (intro w hSw; (try dsimp only at hSw); go_simp; (try with_reducible rfl))
        try simp only [Act.put, List.setIfInBounds_toArray, List.set_cons_zero, List.set_cons_succ]
        refine wpAnyH_take (i := 14) (oi := { dst := some 110, op := Op.pick (Operand.tmp 106) (Operand.tmp 109) (Operand.const (Value.bool false)), type := 4, pos := "law.go:183", after := #[{ on := 10, ground := Ground.data }, { on := 13, ground := Ground.data }], guard := none }) (v := ?vu102) rfl (by kernel_rfl) (by kernel_rfl) (by kernel_rfl) (fun _ _ _ h => h) (Or.inl ⟨by rfl, ?hyu102⟩) (by assumption) ?restu102
        case hyu102 => (intro w hSw; (try dsimp only at hSw); go_simp; (try with_reducible rfl))
        try simp only [Act.put, List.setIfInBounds_toArray, List.set_cons_zero, List.set_cons_succ]
        refine wpAnyH_take (i := 15) (oi := { dst := some 111, op := Op.move (Operand.tmp 110), type := 4, pos := "law.go:183", after := #[{ on := 14, ground := Ground.data }, { on := 12, ground := Ground.chain }], guard := none }) (v := ?vu103) rfl (by kernel_rfl) (by kernel_rfl) (by kernel_rfl) (fun _ _ _ h => h) (Or.inl ⟨by rfl, ?hyu103⟩) (by assumption) ?restu103
        case hyu103 => (intro w hSw; (try dsimp only at hSw); go_simp; (try with_reducible rfl))
        try simp only [Act.put, List.setIfInBounds_toArray, List.set_cons_zero, List.set_cons_succ]
        refine wpAnyH_take (i := 16) (oi := { dst := some 112, op := Op.load 27 (Operand.tmp 11), type := 27, pos := "law.go:183", after := #[{ on := 15, ground := Ground.guard }], guard := some (15, true) }) (v := ?vu104) rfl (by kernel_rfl) (by kernel_rfl) (by kernel_rfl) (fun _ _ _ h => h) (Or.inl ⟨by rfl, ?hyu104⟩) (by assumption) ?restu104
        case hyu104 => (intro w' hSw; (try dsimp only at hSw); have q1 := (Below.cell hSw (p := ⟨w3.heap.size, 0, none⟩) m11).trans hk11; go_simp; (try with_reducible rfl))
        try simp only [Act.put, List.setIfInBounds_toArray, List.set_cons_zero, List.set_cons_succ]
        refine wpAnyH_take (i := 18) (oi := { dst := some 114, op := Op.load 27 (Operand.tmp 14), type := 27, pos := "law.go:183", after := #[{ on := 15, ground := Ground.guard }], guard := some (15, true) }) (v := ?vu105) rfl (by kernel_rfl) (by kernel_rfl) (by kernel_rfl) (fun _ _ _ h => h) (Or.inl ⟨by rfl, ?hyu105⟩) (by assumption) ?restu105
        case hyu105 => (intro w' hSw; (try dsimp only at hSw); have q1 := (Below.cell hSw (p := ⟨w5.heap.size, 0, none⟩) m14).trans hk14; go_simp; (try with_reducible rfl))
        try simp only [Act.put, List.setIfInBounds_toArray, List.set_cons_zero, List.set_cons_succ]
        refine wpAnyH_ready (rs := [17]) (by kernel_rfl) (by simp) ?_
        refine AllReadyH.cons (o := { dst := some 113, op := Op.call { callee := Callee.value (Operand.func 19), args := #[Operand.tmp 112], argTypes := #[27] }, type := 22, pos := "law.go:183", after := #[{ on := 16, ground := Ground.data }, { on := 15, ground := Ground.chain }, { on := 15, ground := Ground.guard }], guard := some (15, true) }) rfl (fun K hK => ?_) AllReadyH.nil
        go_simp
        go_at_call 19
        refine (C.sets _ _ Pm (C.keep HE.out (below_step HBW.out (by first | exact HW | exact HW.drew))) (by exact HFp.out.below (by first | exact HW | exact HW.drew))).mono ?_
        rintro e z1 ⟨⟨u1, rfl, hu⟩, b⟩
        replace HW := below_step (by first | exact HW | exact HW.drew) b
        have HU1 : Hid (IsLL z1 u1 Pm) := hu
        clear hu
        clear b
        refine hK.out _ _ ?_ (fun hHeldB => ?_)
        · (try dsimp only); exact HW
        clear hK K hHeld
        have hHeld := hHeldB
        clear hHeldB
        try simp only [Act.put, List.setIfInBounds_toArray, List.set_cons_zero, List.set_cons_succ]
        refine wpAnyH_ready (rs := [19]) (by kernel_rfl) (by simp) ?_
        refine AllReadyH.cons (o := { dst := some 115, op := Op.call { callee := Callee.value (Operand.func 19), args := #[Operand.tmp 114], argTypes := #[27] }, type := 22, pos := "law.go:183", after := #[{ on := 18, ground := Ground.data }, { on := 17, ground := Ground.chain }, { on := 15, ground := Ground.guard }], guard := some (15, true) }) rfl (fun K hK => ?_) AllReadyH.nil
        go_simp
        go_at_call 19
        refine (C.sets _ _ Pm (C.keep HE.out (below_step HBW.out (by first | exact HW | exact HW.drew))) (by exact HFy.out.below (by first | exact HW | exact HW.drew))).mono ?_
        rintro e z2 ⟨⟨u2, rfl, hu⟩, b⟩
        replace HW := below_step (by first | exact HW | exact HW.drew) b
        have HU2 : Hid (IsLL z2 u2 Pm) := hu
        have HU1' : Hid (IsLL z2 u1 Pm) := by first | exact HU1.out.below b | exact (HU1.out.below (below_refl _).drew).below b
        clear hu HU1
        clear b
        refine hK.out _ _ ?_ (fun hHeldB => ?_)
        · (try dsimp only); exact HW
        clear hK K hHeld
        have hHeld := hHeldB
        clear hHeldB
        try simp only [Act.put, List.setIfInBounds_toArray, List.set_cons_zero, List.set_cons_succ]
        refine wpAnyH_ready (rs := [20]) (by kernel_rfl) (by simp) ?_
        refine AllReadyH.cons (o := { dst := some 116, op := Op.call { callee := Callee.value (Operand.func 18), args := #[Operand.tmp 113, Operand.tmp 115], argTypes := #[22, 22] }, type := 4, pos := "law.go:183", after := #[{ on := 17, ground := Ground.data }, { on := 19, ground := Ground.data }, { on := 19, ground := Ground.chain }, { on := 15, ground := Ground.guard }], guard := some (15, true) }) rfl (fun K hK => ?_) AllReadyH.nil
        go_simp
        go_at_call 18
        refine (rlists_any _ u1 u2 Pm Pm true (by first | exact HU1'.out | exact HU1'.out.below (below_refl _).drew) (by first | exact HU2.out | exact HU2.out.below (below_refl _).drew) ⟨fun _ => rfl, fun _ => rfl⟩).mono ?_
        rintro e z3 ⟨rfl, b⟩
        replace HW := below_step (by first | exact HW | exact HW.drew) b
        clear HU1' HU2
        clear b
        refine hK.out _ _ ?_ (fun hHeldB => ?_)
        · (try dsimp only); exact HW
        clear hK K hHeld
        have hHeld := hHeldB
        clear hHeldB
        try simp only [Act.put, List.setIfInBounds_toArray, List.set_cons_zero, List.set_cons_succ]
        refine wpAnyH_take (i := 21) (oi := { dst := some 117, op := Op.pick (Operand.tmp 111) (Operand.tmp 116) (Operand.const (Value.bool false)), type := 4, pos := "law.go:183", after := #[{ on := 15, ground := Ground.data }, { on := 20, ground := Ground.data }], guard := none }) (v := ?vu106) rfl (by kernel_rfl) (by kernel_rfl) (by kernel_rfl) (fun _ _ _ h => h) (Or.inl ⟨by rfl, ?hyu106⟩) (by assumption) ?restu106
        case hyu106 => (intro w hSw; (try dsimp only at hSw); go_simp; (try with_reducible rfl))
        try simp only [Act.put, List.setIfInBounds_toArray, List.set_cons_zero, List.set_cons_succ]
        refine wpAnyH_take (i := 22) (oi := { dst := some 118, op := Op.move (Operand.tmp 117), type := 4, pos := "law.go:183", after := #[{ on := 21, ground := Ground.data }, { on := 20, ground := Ground.chain }], guard := none }) (v := ?vu107) rfl (by kernel_rfl) (by kernel_rfl) (by kernel_rfl) (fun _ _ _ h => h) (Or.inl ⟨by rfl, ?hyu107⟩) (by assumption) ?restu107
        case hyu107 => (intro w hSw; (try dsimp only at hSw); go_simp; (try with_reducible rfl))
        try simp only [Act.put, List.setIfInBounds_toArray, List.set_cons_zero, List.set_cons_succ]
        refine wpAnyH_ready (rs := [23]) (by kernel_rfl) (by simp) ?_
        refine AllReadyH.cons (o := { dst := some 119, op := Op.call { callee := Callee.value (Operand.func 10), args := #[], argTypes := #[] }, type := 4, pos := "law.go:183", after := #[{ on := 22, ground := Ground.chain }, { on := 22, ground := Ground.guard }], guard := some (22, true) }) rfl (fun K hK => ?_) AllReadyH.nil
        go_simp
        go_at_call 10
        refine (awake_of C _ (C.keep HE.out (below_step HBW.out (by first | exact HW | exact HW.drew)))).mono ?_
        rintro e z4 ⟨rfl, b⟩
        replace HW := below_step (by first | exact HW | exact HW.drew) b
        clear b
        refine hK.out _ _ ?_ (fun hHeldB => ?_)
        · (try dsimp only); exact HW
        clear hK K hHeld
        have hHeld := hHeldB
        clear hHeldB
        try simp only [Act.put, List.setIfInBounds_toArray, List.set_cons_zero, List.set_cons_succ]
        refine wpAnyH_take (i := 24) (oi := { dst := some 120, op := Op.pick (Operand.tmp 118) (Operand.tmp 119) (Operand.const (Value.bool false)), type := 4, pos := "law.go:183", after := #[{ on := 22, ground := Ground.data }, { on := 23, ground := Ground.data }], guard := none }) (v := ?vu108) rfl (by kernel_rfl) (by kernel_rfl) (by kernel_rfl) (fun _ _ _ h => h) (Or.inl ⟨by rfl, ?hyu108⟩) (by assumption) ?restu108
        case hyu108 => (intro w hSw; (try dsimp only at hSw); go_simp; (try with_reducible rfl))
        try simp only [Act.put, List.setIfInBounds_toArray, List.set_cons_zero, List.set_cons_succ]
        refine wpAnyH_take (i := 25) (oi := { dst := some 6, op := Op.assign (Operand.tmp 120), type := 4, pos := "law.go:183", after := #[{ on := 24, ground := Ground.data }, { on := 23, ground := Ground.chain }, { on := 0, ground := Ground.phase }, { on := 1, ground := Ground.phase }, { on := 2, ground := Ground.phase }, { on := 3, ground := Ground.phase }, { on := 4, ground := Ground.phase }, { on := 5, ground := Ground.phase }, { on := 6, ground := Ground.phase }, { on := 7, ground := Ground.phase }, { on := 8, ground := Ground.phase }, { on := 9, ground := Ground.phase }, { on := 10, ground := Ground.phase }, { on := 11, ground := Ground.phase }, { on := 12, ground := Ground.phase }, { on := 13, ground := Ground.phase }, { on := 14, ground := Ground.phase }, { on := 15, ground := Ground.phase }, { on := 16, ground := Ground.phase }, { on := 17, ground := Ground.phase }, { on := 18, ground := Ground.phase }, { on := 19, ground := Ground.phase }, { on := 20, ground := Ground.phase }, { on := 21, ground := Ground.phase }, { on := 22, ground := Ground.phase }, { on := 23, ground := Ground.phase }, { on := 24, ground := Ground.phase }], guard := none }) (v := ?vu109) rfl (by kernel_rfl) (by kernel_rfl) (by kernel_rfl) (fun _ _ _ h => h) (Or.inl ⟨by rfl, ?hyu109⟩) (by assumption) ?restu109
        case hyu109 => (intro w hSw; (try dsimp only at hSw); go_simp; (try with_reducible rfl))
        try simp only [Act.put, List.setIfInBounds_toArray, List.set_cons_zero, List.set_cons_succ]
        refine wpAnyH_done (by kernel_rfl) ?_ _
        go_wp2
        go_ret
        exact ⟨rfl, below_step HBW.out HW⟩
      · have HgR : Hid (¬ GoodP R) := hgr
        clear hgr
        go_wp2_with (go_at_call 12; fail)
        refine (agood_any _ _ L true HA.out ⟨fun _ => HgL.out, fun _ => rfl⟩).mono ?_
        rintro e w' ⟨rfl, hw⟩
        replace hw := hw.symm
        subst hw
        go_wp2_with (go_at_call 12; fail)
        refine (agood_any _ _ R false HR.out ⟨fun h => (by cases h), fun h => absurd h HgR.out⟩).mono ?_
        rintro e w' ⟨rfl, hw⟩
        replace hw := hw.symm
        subst hw
        go_wp2_with (go_at_call 10; fail)
        refine (awake_of C _ (C.keep HE.out HB.out)).mono ?_
        rintro e xx ⟨rfl, b⟩
        have HBx : Hid (Below w.heap.size w xx) := below_step HB.out b
        clear b HB
        go_wp2
        go_ret
        exact ⟨rfl, HBx.out⟩
    · have HgL : Hid (¬ GoodP L) := hgl
      clear hgl
      go_wp2_with (go_at_call 12; fail)
      refine (agood_any _ _ L false HA.out ⟨fun h => (by cases h), fun h => absurd h HgL.out⟩).mono ?_
      rintro e w' ⟨rfl, hw⟩
      replace hw := hw.symm
      subst hw
      go_wp2_with (go_at_call 10; fail)
      refine (awake_of C _ (C.keep HE.out HB.out)).mono ?_
      rintro e xx ⟨rfl, b⟩
      have HBx : Hid (Below w.heap.size w xx) := below_step HB.out b
      clear b HB
      go_wp2
      go_ret
      exact ⟨rfl, HBx.out⟩
set_option maxHeartbeats 64000000 in
theorem budget_true {Env : World → Prop} (C : FamSays Env) (w : World) (vl vr : Value) (L R : List (List Int))  (h1 : IsLL w vl L) (h2 : IsLL w vr R)  (henv : Env w) :
    Calls Try.prog 8 #[vl, vr, .bool true] w fun e w' => e = .returned (.bool true) ∧ Below w.heap.size w w' := by
  have HA0 := h1
  have HR0 := h2
  have HE : Hid (Env w) := henv
  obtain ⟨al, cl, VL, rfl, hrl, -⟩ := h1
  obtain ⟨ar, cr, VR, rfl, hrr, -⟩ := h2
  have hl1 := hrl.1
  have hl2 := hrl.2.1
  have hr1 := hrr.1
  have hr2 := hrr.2.1
  obtain ⟨W0, hW0⟩ : ∃ W0, W0 = w.alloc (.cells #[.slice al L.length cl, .slice ar R.length cr] 22) := ⟨_, rfl⟩
  have HB : Hid (Below w.heap.size w W0) := by rw [hW0]; exact below1 w _
  have hg0 : W0.heap[w.heap.size]? = some (.cells #[.slice al L.length cl, .slice ar R.length cr] 22) := by rw [hW0]; exact heap_new1 w _
  have cS := asmall_any W0 w.heap.size 2 (fun j => if j = 0 then .slice al L.length cl else .slice ar R.length cr) (fun j => if j = 0 then L else R) (by decide)
    (fun j hj => by rw [cell_of_row W0 _ _ _ _ _ hg0]; match j, hj with | 0, _ => rfl | 1, _ => rfl)
    (fun j hj => by match j, hj with | 0, _ => exact HA0.below HB.out | 1, _ => exact HR0.below HB.out)
  have HA : Hid (IsLL W0 (.slice al L.length cl) L) := HA0.below HB.out
  have HR : Hid (IsLL W0 (.slice ar R.length cr) R) := HR0.below HB.out
  clear hrl hrr hg0 HA0 HR0 henv
  go_enter Try.func8, Try.ntmps8
  go_wp2_with (go_at_call 9; fail)
  rw [← hW0]
  clear hW0
  refine cS.mono ?_
  rintro e w' ⟨hr, hw⟩
  replace hw := hw.symm
  subst hw
  obtain ⟨q, rfl, hq⟩ := hr
  clear cS
  cases q
  · skip
    go_wp2_with (go_at_call 10; fail)
    refine (awake_of C _ (C.keep HE.out HB.out)).mono ?_
    rintro e xx ⟨rfl, b⟩
    have HBx : Hid (Below w.heap.size w xx) := below_step HB.out b
    clear b HB
    go_wp2
    go_ret
    exact ⟨rfl, HBx.out⟩
  · have HL : Hid (SmP L) := hq rfl 0 (by decide)
    have HRs : Hid (SmP R) := hq rfl 1 (by decide)
    clear hq
    by_cases hgl : GoodP L
    · have HgL : Hid (GoodP L) := hgl
      clear hgl
      by_cases hgr : GoodP R
      · have HgR : Hid (GoodP R) := hgr
        clear hgr
        go_wp2_with (go_at_call 12; fail)
        refine (agood_any _ _ L true HA.out ⟨fun _ => HgL.out, fun _ => rfl⟩).mono ?_
        rintro e w' ⟨rfl, hw⟩
        replace hw := hw.symm
        subst hw
        go_wp2_with (go_at_call 12; fail)
        refine (agood_any _ _ R true HR.out ⟨fun _ => HgR.out, fun _ => rfl⟩).mono ?_
        rintro e w' ⟨rfl, hw⟩
        replace hw := hw.symm
        subst hw
        go_wp2_with (go_at_call 11; fail)
        refine (C.of _ _ L (C.keep HE.out HB.out) HA.out (Nat.le_trans HL.out.1 (by decide)) (fun j hj => Nat.le_trans (HL.out.2 j hj) (by decide))).mono ?_
        rintro e w1 ⟨hr, b⟩
        rcases hr with ⟨-, u, F, rfl, hf, ho⟩ | ⟨hn, -⟩
        case inr => exact absurd HgL.out hn
        replace HA : Hid (IsLL w1 (.slice al L.length cl) L) := HA.out.below b
        replace HR : Hid (IsLL w1 (.slice ar R.length cr) R) := HR.out.below b
        replace HB : Hid (Below w.heap.size w w1) := below_step HB.out b
        obtain ⟨af, cf, Vf, rfl, hrest⟩ := id hf
        have HOf : Hid (FamOf L F) := ho
        have HFf : Hid (FV w1 (.agg #[.slice af F.length cf]) F) := hf
        clear hrest ho hf b
        go_upto_region 4 with fail
        obtain ⟨X7, hW⟩ : ∃ X7, X7 = w1.alloc (.cells #[.slice af F.length cf] 27) := ⟨_, rfl⟩
        rw [← hW]
        have b : Below w1.heap.size w1 X7 := by rw [hW]; exact below1 _ _
        have Hb7 : Hid (X7.heap[w1.heap.size]? = some (.cells #[.slice af F.length cf] 27)) := by show X7.heap[_]? = _; rw [hW]; exact heap_new1 _ _
        have HBx7 : Hid (w.heap.size ≤ w1.heap.size) := HB.out.size
        clear hW
        replace HA : Hid (IsLL X7 (.slice al L.length cl) L) := HA.out.below b
        replace HR : Hid (IsLL X7 (.slice ar R.length cr) R) := HR.out.below b
        replace HB : Hid (Below w.heap.size w X7) := below_step HB.out b
        replace HFf : Hid (FV X7 (.agg #[.slice af F.length cf]) F) := HFf.out.below b
        clear b
        go_wp2_with (go_at_call 11; fail)
        refine (C.of _ _ R (C.keep HE.out HB.out) HR.out (Nat.le_trans HRs.out.1 (by decide)) (fun j hj => Nat.le_trans (HRs.out.2 j hj) (by decide))).mono ?_
        rintro e w2 ⟨hr, b⟩
        rcases hr with ⟨-, u, G, rfl, hf, ho⟩ | ⟨hn, -⟩
        case inr => exact absurd HgR.out hn
        replace HA : Hid (IsLL w2 (.slice al L.length cl) L) := HA.out.below b
        replace HR : Hid (IsLL w2 (.slice ar R.length cr) R) := HR.out.below b
        replace HB : Hid (Below w.heap.size w w2) := below_step HB.out b
        replace HFf : Hid (FV w2 (.agg #[.slice af F.length cf]) F) := HFf.out.below b
        replace Hb7 : Hid (w2.heap[w1.heap.size]? = some (.cells #[.slice af F.length cf] 27)) := (b.block (w1.heap.size) (Array.getElem?_eq_some_iff.1 Hb7.out).1).trans Hb7.out
        obtain ⟨ag, cg, Vg, rfl, hrest⟩ := id hf
        have HOg : Hid (FamOf R G) := ho
        have HFg : Hid (FV w2 (.agg #[.slice ag G.length cg]) G) := hf
        clear hrest ho hf b
        go_upto_region 5 with fail
        obtain ⟨X9, hW⟩ : ∃ X9, X9 = w2.alloc (.cells #[.slice ag G.length cg] 27) := ⟨_, rfl⟩
        rw [← hW]
        have b : Below w2.heap.size w2 X9 := by rw [hW]; exact below1 _ _
        have Hb9 : Hid (X9.heap[w2.heap.size]? = some (.cells #[.slice ag G.length cg] 27)) := by show X9.heap[_]? = _; rw [hW]; exact heap_new1 _ _
        have HBx9 : Hid (w.heap.size ≤ w2.heap.size) := HB.out.size
        have dl7_9 : w1.heap.size < w2.heap.size := (Array.getElem?_eq_some_iff.1 Hb7.out).1
        clear hW
        replace HA : Hid (IsLL X9 (.slice al L.length cl) L) := HA.out.below b
        replace HR : Hid (IsLL X9 (.slice ar R.length cr) R) := HR.out.below b
        replace HB : Hid (Below w.heap.size w X9) := below_step HB.out b
        replace HFf : Hid (FV X9 (.agg #[.slice af F.length cf]) F) := HFf.out.below b
        replace HFg : Hid (FV X9 (.agg #[.slice ag G.length cg]) G) := HFg.out.below b
        replace Hb7 : Hid (X9.heap[w1.heap.size]? = some (.cells #[.slice af F.length cf] 27)) := (b.block (w1.heap.size) (Array.getElem?_eq_some_iff.1 Hb7.out).1).trans Hb7.out
        clear b
        clear HA HR
        have HFl : Hid (F.length ≤ 12) := Nat.le_trans (fam_len HOf.out) HL.out.1
        have HGl : Hid (G.length ≤ 12) := Nat.le_trans (fam_len HOg.out) HRs.out.1
        have HFG : Hid (F.length * G.length ≤ 144) := Nat.mul_le_mul HFl.out HGl.out
        obtain ⟨Pm, hP⟩ := fam_ex (F ++ G)
        obtain ⟨Tm, hT⟩ := fam_ex (unionsL F G)
        have HOp : Hid (FamOf (F ++ G) Pm) := hP
        have HOt : Hid (FamOf (unionsL F G) Tm) := hT
        have HPl : Hid (Pm.length ≤ 24) := by
          show _ ≤ _
          have h1 := fam_len hP
          rw [List.length_append] at h1
          have h2 := HFl.out
          have h3 := HGl.out
          omega
        have HTl : Hid (Tm.length ≤ 144) := by
          show _ ≤ _
          have h1 := fam_len hT
          rw [len_unions] at h1
          exact Nat.le_trans h1 HFG.out
        clear hP hT
        have HOVp : Hid (ovB Pm (5000) = false) := by
          show _ = _
          have h2 := HPl.out
          have h3 := HTl.out
          unfold ovB
          rw [decide_eq_false (by omega), decide_eq_false (by omega)]; rfl
        have hk7 : X9.cell? ⟨w1.heap.size, 0, none⟩ = some (.slice af F.length cf) := by rw [cell_of_row X9 _ _ _ _ _ Hb7.out]; rfl
        have hk9 : X9.cell? ⟨w2.heap.size, 0, none⟩ = some (.slice ag G.length cg) := by rw [cell_of_row X9 _ _ _ _ _ Hb9.out]; rfl
        go_wp2_with (go_at_call 23; fail)
        refine (C.plus _ _ _ F G Pm _ (C.keep HE.out HB.out) HFf.out HFg.out HOf.out.1 HOg.out.1 HOp.out).mono ?_
        rintro e w3 ⟨hr, b⟩
        clear hk7 hk9
        rcases hr with ⟨-, u, rfl, hf⟩ | ⟨hn, -⟩
        case inr => exfalso; revert hn; rw [show ovB Pm _ = false from HOVp.out]; decide
        replace HB : Hid (Below w.heap.size w w3) := below_step HB.out b
        replace HFf : Hid (FV w3 (.agg #[.slice af F.length cf]) F) := HFf.out.below b
        replace HFg : Hid (FV w3 (.agg #[.slice ag G.length cg]) G) := HFg.out.below b
        replace Hb7 : Hid (w3.heap[w1.heap.size]? = some (.cells #[.slice af F.length cf] 27)) := (b.block (w1.heap.size) (Array.getElem?_eq_some_iff.1 Hb7.out).1).trans Hb7.out
        replace Hb9 : Hid (w3.heap[w2.heap.size]? = some (.cells #[.slice ag G.length cg] 27)) := (b.block (w2.heap.size) (Array.getElem?_eq_some_iff.1 Hb9.out).1).trans Hb9.out
        obtain ⟨ap, cp, Vp, rfl, hrest⟩ := id hf
        have HFp : Hid (FV w3 (.agg #[.slice ap Pm.length cp]) Pm) := hf
        clear hrest hf b
        go_upto_region 8 with fail
        obtain ⟨X11, hW⟩ : ∃ X11, X11 = w3.alloc (.cells #[.slice ap Pm.length cp] 27) := ⟨_, rfl⟩
        rw [← hW]
        have b : Below w3.heap.size w3 X11 := by rw [hW]; exact below1 _ _
        have Hb11 : Hid (X11.heap[w3.heap.size]? = some (.cells #[.slice ap Pm.length cp] 27)) := by show X11.heap[_]? = _; rw [hW]; exact heap_new1 _ _
        have HBx11 : Hid (w.heap.size ≤ w3.heap.size) := HB.out.size
        have dl7_11 : w1.heap.size < w3.heap.size := (Array.getElem?_eq_some_iff.1 Hb7.out).1
        have dl9_11 : w2.heap.size < w3.heap.size := (Array.getElem?_eq_some_iff.1 Hb9.out).1
        clear hW
        replace HB : Hid (Below w.heap.size w X11) := below_step HB.out b
        replace HFf : Hid (FV X11 (.agg #[.slice af F.length cf]) F) := HFf.out.below b
        replace HFg : Hid (FV X11 (.agg #[.slice ag G.length cg]) G) := HFg.out.below b
        replace HFp : Hid (FV X11 (.agg #[.slice ap Pm.length cp]) Pm) := HFp.out.below b
        replace Hb7 : Hid (X11.heap[w1.heap.size]? = some (.cells #[.slice af F.length cf] 27)) := (b.block (w1.heap.size) (Array.getElem?_eq_some_iff.1 Hb7.out).1).trans Hb7.out
        replace Hb9 : Hid (X11.heap[w2.heap.size]? = some (.cells #[.slice ag G.length cg] 27)) := (b.block (w2.heap.size) (Array.getElem?_eq_some_iff.1 Hb9.out).1).trans Hb9.out
        clear b
        clear HFp
        have HOVt2 : Hid (ovB Tm (5000) = false) := by
          show _ = _
          have h2 := HPl.out
          have h3 := HTl.out
          unfold ovB
          rw [decide_eq_false (by omega), decide_eq_false (by omega)]; rfl
        have hk7 : X11.cell? ⟨w1.heap.size, 0, none⟩ = some (.slice af F.length cf) := by rw [cell_of_row X11 _ _ _ _ _ Hb7.out]; rfl
        have hk9 : X11.cell? ⟨w2.heap.size, 0, none⟩ = some (.slice ag G.length cg) := by rw [cell_of_row X11 _ _ _ _ _ Hb9.out]; rfl
        go_wp2_with (go_at_call 24; fail)
        refine (C.times _ _ _ F G Tm _ (C.keep HE.out HB.out) HFf.out HFg.out HOf.out.1 HOg.out.1 HOt.out (Nat.le_trans HFG.out (by decide)) (fam_sets HOf.out fun j hj => Nat.le_trans (HL.out.2 j hj) (by decide)) (fam_sets HOg.out fun j hj => Nat.le_trans (HRs.out.2 j hj) (by decide))).mono ?_
        rintro e w4 ⟨hr, b⟩
        clear hk7 hk9
        rcases hr with ⟨-, u, rfl, hf⟩ | ⟨hn, -⟩
        case inr => exfalso; revert hn; rw [show ovB Tm _ = false from HOVt2.out]; decide
        replace HB : Hid (Below w.heap.size w w4) := below_step HB.out b
        replace HFf : Hid (FV w4 (.agg #[.slice af F.length cf]) F) := HFf.out.below b
        replace HFg : Hid (FV w4 (.agg #[.slice ag G.length cg]) G) := HFg.out.below b
        replace Hb7 : Hid (w4.heap[w1.heap.size]? = some (.cells #[.slice af F.length cf] 27)) := (b.block (w1.heap.size) (Array.getElem?_eq_some_iff.1 Hb7.out).1).trans Hb7.out
        replace Hb9 : Hid (w4.heap[w2.heap.size]? = some (.cells #[.slice ag G.length cg] 27)) := (b.block (w2.heap.size) (Array.getElem?_eq_some_iff.1 Hb9.out).1).trans Hb9.out
        replace Hb11 : Hid (w4.heap[w3.heap.size]? = some (.cells #[.slice ap Pm.length cp] 27)) := (b.block (w3.heap.size) (Array.getElem?_eq_some_iff.1 Hb11.out).1).trans Hb11.out
        obtain ⟨at2, ct2, Vt2, rfl, hrest⟩ := id hf
        have HFt2 : Hid (FV w4 (.agg #[.slice at2 Tm.length ct2]) Tm) := hf
        clear hrest hf b
        have hk11 : w4.cell? ⟨w3.heap.size, 0, none⟩ = some (.slice ap Pm.length cp) := by rw [cell_of_row w4 _ _ _ _ _ Hb11.out]; rfl
        have fk11 : w4.frozen? ⟨w3.heap.size, 0, none⟩ = false := frozen_of_row w4 _ _ _ _ Hb11.out
        go_upto_region 10 with fail
        clear hk11 fk11
        obtain ⟨Y5, hW⟩ : ∃ Y5, Y5 = w4.setCell ⟨w3.heap.size, 0, none⟩ (.slice at2 Tm.length ct2) := ⟨_, rfl⟩
        rw [← hW]
        have HFf' : Hid (FV Y5 (.agg #[.slice af F.length cf]) F) := by show FV Y5 _ _; rw [hW]; exact HFf.out.put Hb11.out _
        have HFg' : Hid (FV Y5 (.agg #[.slice ag G.length cg]) G) := by show FV Y5 _ _; rw [hW]; exact HFg.out.put Hb11.out _
        have HFt2' : Hid (FV Y5 (.agg #[.slice at2 Tm.length ct2]) Tm) := by show FV Y5 _ _; rw [hW]; exact HFt2.out.put Hb11.out _
        have Hb7' : Hid (Y5.heap[w1.heap.size]? = some (.cells #[.slice af F.length cf] 27)) := by show Y5.heap[_]? = _; rw [hW]; exact (Below.heap_setCell _ ⟨w3.heap.size, 0, none⟩ _ (w1.heap.size) (by show w1.heap.size ≠ w3.heap.size; omega)).trans Hb7.out
        have Hb9' : Hid (Y5.heap[w2.heap.size]? = some (.cells #[.slice ag G.length cg] 27)) := by show Y5.heap[_]? = _; rw [hW]; exact (Below.heap_setCell _ ⟨w3.heap.size, 0, none⟩ _ (w2.heap.size) (by show w2.heap.size ≠ w3.heap.size; omega)).trans Hb9.out
        have Hb11' : Hid (Y5.heap[w3.heap.size]? = some (.cells #[.slice at2 Tm.length ct2] 27)) := by show Y5.heap[_]? = _; rw [hW]; exact Go.heap_setCell_same _ _ 0 _ _ _ Hb11.out
        have HB' : Hid (Below w.heap.size w Y5) := by show Below _ _ Y5; rw [hW]; exact HB.out.setCell (by show w.heap.size ≤ w3.heap.size; have := HBx11.out; omega) _
        clear hW HFf HFg HFt2 Hb7 Hb9 Hb11 HB
        have HFf := HFf'
        have HFg := HFg'
        have HFt2 := HFt2'
        have Hb7 := Hb7'
        have Hb9 := Hb9'
        have Hb11 := Hb11'
        have HB := HB'
        clear HFf' HFg' HFt2' Hb7' Hb9' Hb11' HB'
        have hk11 : Y5.cell? ⟨w3.heap.size, 0, none⟩ = some (.slice at2 Tm.length ct2) := by rw [cell_of_row Y5 _ _ _ _ _ Hb11.out]; rfl
        go_wp2_with (go_at_call 16; fail)
        refine (C.len _ _ Tm ((Tm.length : Nat) : Int) (C.keep HE.out HB.out) HFt2.out rfl).mono ?_
        rintro e w6 ⟨rfl, b⟩
        clear hk11
        replace HB : Hid (Below w.heap.size w w6) := below_step HB.out b
        replace HFf : Hid (FV w6 (.agg #[.slice af F.length cf]) F) := HFf.out.below b
        replace HFg : Hid (FV w6 (.agg #[.slice ag G.length cg]) G) := HFg.out.below b
        replace HFt2 : Hid (FV w6 (.agg #[.slice at2 Tm.length ct2]) Tm) := HFt2.out.below b
        replace Hb7 : Hid (w6.heap[w1.heap.size]? = some (.cells #[.slice af F.length cf] 27)) := (b.block (w1.heap.size) (Array.getElem?_eq_some_iff.1 Hb7.out).1).trans Hb7.out
        replace Hb9 : Hid (w6.heap[w2.heap.size]? = some (.cells #[.slice ag G.length cg] 27)) := (b.block (w2.heap.size) (Array.getElem?_eq_some_iff.1 Hb9.out).1).trans Hb9.out
        replace Hb11 : Hid (w6.heap[w3.heap.size]? = some (.cells #[.slice at2 Tm.length ct2] 27)) := (b.block (w3.heap.size) (Array.getElem?_eq_some_iff.1 Hb11.out).1).trans Hb11.out
        clear b
        go_upto_region 11 with fail
        have hk7 : w6.cell? ⟨w1.heap.size, 0, none⟩ = some (.slice af F.length cf) := by rw [cell_of_row w6 _ _ _ _ _ Hb7.out]; rfl
        have hk9 : w6.cell? ⟨w2.heap.size, 0, none⟩ = some (.slice ag G.length cg) := by rw [cell_of_row w6 _ _ _ _ _ Hb9.out]; rfl
        go_wp2_with (go_at_call 23; fail)
        refine (C.plus _ _ _ F G Pm _ (C.keep HE.out HB.out) HFf.out HFg.out HOf.out.1 HOg.out.1 HOp.out).mono ?_
        rintro e w7 ⟨hr, b⟩
        clear hk7 hk9
        obtain ⟨ry, Qy, u, rfl, hf⟩ : ∃ (r : Int) (Q : List (List Int)) (u : Value), e = .returned (.tuple #[u, .int .i64 r]) ∧ FV w7 u Q := by
          rcases hr with ⟨-, u, h1, h2⟩ | ⟨-, u, h1, h2⟩
          · exact ⟨_, _, _, h1, h2⟩
          · exact ⟨_, _, _, h1, h2⟩
        replace HB : Hid (Below w.heap.size w w7) := below_step HB.out b
        replace HFf : Hid (FV w7 (.agg #[.slice af F.length cf]) F) := HFf.out.below b
        replace HFg : Hid (FV w7 (.agg #[.slice ag G.length cg]) G) := HFg.out.below b
        replace HFt2 : Hid (FV w7 (.agg #[.slice at2 Tm.length ct2]) Tm) := HFt2.out.below b
        replace Hb7 : Hid (w7.heap[w1.heap.size]? = some (.cells #[.slice af F.length cf] 27)) := (b.block (w1.heap.size) (Array.getElem?_eq_some_iff.1 Hb7.out).1).trans Hb7.out
        replace Hb9 : Hid (w7.heap[w2.heap.size]? = some (.cells #[.slice ag G.length cg] 27)) := (b.block (w2.heap.size) (Array.getElem?_eq_some_iff.1 Hb9.out).1).trans Hb9.out
        replace Hb11 : Hid (w7.heap[w3.heap.size]? = some (.cells #[.slice at2 Tm.length ct2] 27)) := (b.block (w3.heap.size) (Array.getElem?_eq_some_iff.1 Hb11.out).1).trans Hb11.out
        obtain ⟨ay, cy, Vy, rfl, hrest⟩ := id hf
        have HFy : Hid (FV w7 (.agg #[.slice ay Qy.length cy]) Qy) := hf
        clear hrest hf b
        go_upto_region 12 with fail
        obtain ⟨X14, hW⟩ : ∃ X14, X14 = w7.alloc (.cells #[.slice ay Qy.length cy] 27) := ⟨_, rfl⟩
        rw [← hW]
        have b : Below w7.heap.size w7 X14 := by rw [hW]; exact below1 _ _
        have Hb14 : Hid (X14.heap[w7.heap.size]? = some (.cells #[.slice ay Qy.length cy] 27)) := by show X14.heap[_]? = _; rw [hW]; exact heap_new1 _ _
        have HBx14 : Hid (w.heap.size ≤ w7.heap.size) := HB.out.size
        have dl7_14 : w1.heap.size < w7.heap.size := (Array.getElem?_eq_some_iff.1 Hb7.out).1
        have dl9_14 : w2.heap.size < w7.heap.size := (Array.getElem?_eq_some_iff.1 Hb9.out).1
        have dl11_14 : w3.heap.size < w7.heap.size := (Array.getElem?_eq_some_iff.1 Hb11.out).1
        clear hW
        replace HB : Hid (Below w.heap.size w X14) := below_step HB.out b
        replace HFf : Hid (FV X14 (.agg #[.slice af F.length cf]) F) := HFf.out.below b
        replace HFg : Hid (FV X14 (.agg #[.slice ag G.length cg]) G) := HFg.out.below b
        replace HFt2 : Hid (FV X14 (.agg #[.slice at2 Tm.length ct2]) Tm) := HFt2.out.below b
        replace HFy : Hid (FV X14 (.agg #[.slice ay Qy.length cy]) Qy) := HFy.out.below b
        replace Hb7 : Hid (X14.heap[w1.heap.size]? = some (.cells #[.slice af F.length cf] 27)) := (b.block (w1.heap.size) (Array.getElem?_eq_some_iff.1 Hb7.out).1).trans Hb7.out
        replace Hb9 : Hid (X14.heap[w2.heap.size]? = some (.cells #[.slice ag G.length cg] 27)) := (b.block (w2.heap.size) (Array.getElem?_eq_some_iff.1 Hb9.out).1).trans Hb9.out
        replace Hb11 : Hid (X14.heap[w3.heap.size]? = some (.cells #[.slice at2 Tm.length ct2] 27)) := (b.block (w3.heap.size) (Array.getElem?_eq_some_iff.1 Hb11.out).1).trans Hb11.out
        clear b
        clear HFy
        have hk7 : X14.cell? ⟨w1.heap.size, 0, none⟩ = some (.slice af F.length cf) := by rw [cell_of_row X14 _ _ _ _ _ Hb7.out]; rfl
        have hk9 : X14.cell? ⟨w2.heap.size, 0, none⟩ = some (.slice ag G.length cg) := by rw [cell_of_row X14 _ _ _ _ _ Hb9.out]; rfl
        go_wp2_with (go_at_call 23; fail)
        refine (C.plus _ _ _ F G Pm _ (C.keep HE.out HB.out) HFf.out HFg.out HOf.out.1 HOg.out.1 HOp.out).mono ?_
        rintro e w8 ⟨hr, b⟩
        clear hk7 hk9
        obtain ⟨rz, Qz, u, rfl, hf⟩ : ∃ (r : Int) (Q : List (List Int)) (u : Value), e = .returned (.tuple #[u, .int .i64 r]) ∧ FV w8 u Q := by
          rcases hr with ⟨-, u, h1, h2⟩ | ⟨-, u, h1, h2⟩
          · exact ⟨_, _, _, h1, h2⟩
          · exact ⟨_, _, _, h1, h2⟩
        replace HB : Hid (Below w.heap.size w w8) := below_step HB.out b
        replace HFf : Hid (FV w8 (.agg #[.slice af F.length cf]) F) := HFf.out.below b
        replace HFg : Hid (FV w8 (.agg #[.slice ag G.length cg]) G) := HFg.out.below b
        replace HFt2 : Hid (FV w8 (.agg #[.slice at2 Tm.length ct2]) Tm) := HFt2.out.below b
        replace Hb7 : Hid (w8.heap[w1.heap.size]? = some (.cells #[.slice af F.length cf] 27)) := (b.block (w1.heap.size) (Array.getElem?_eq_some_iff.1 Hb7.out).1).trans Hb7.out
        replace Hb9 : Hid (w8.heap[w2.heap.size]? = some (.cells #[.slice ag G.length cg] 27)) := (b.block (w2.heap.size) (Array.getElem?_eq_some_iff.1 Hb9.out).1).trans Hb9.out
        replace Hb11 : Hid (w8.heap[w3.heap.size]? = some (.cells #[.slice at2 Tm.length ct2] 27)) := (b.block (w3.heap.size) (Array.getElem?_eq_some_iff.1 Hb11.out).1).trans Hb11.out
        replace Hb14 : Hid (w8.heap[w7.heap.size]? = some (.cells #[.slice ay Qy.length cy] 27)) := (b.block (w7.heap.size) (Array.getElem?_eq_some_iff.1 Hb14.out).1).trans Hb14.out
        obtain ⟨az, cz, Vz, rfl, hrest⟩ := id hf
        have HFz : Hid (FV w8 (.agg #[.slice az Qz.length cz]) Qz) := hf
        clear hrest hf b
        go_upto_region 13 with fail
        obtain ⟨X16, hW⟩ : ∃ X16, X16 = w8.alloc (.cells #[.slice az Qz.length cz] 27) := ⟨_, rfl⟩
        rw [← hW]
        have b : Below w8.heap.size w8 X16 := by rw [hW]; exact below1 _ _
        have Hb16 : Hid (X16.heap[w8.heap.size]? = some (.cells #[.slice az Qz.length cz] 27)) := by show X16.heap[_]? = _; rw [hW]; exact heap_new1 _ _
        have HBx16 : Hid (w.heap.size ≤ w8.heap.size) := HB.out.size
        have dl7_16 : w1.heap.size < w8.heap.size := (Array.getElem?_eq_some_iff.1 Hb7.out).1
        have dl9_16 : w2.heap.size < w8.heap.size := (Array.getElem?_eq_some_iff.1 Hb9.out).1
        have dl11_16 : w3.heap.size < w8.heap.size := (Array.getElem?_eq_some_iff.1 Hb11.out).1
        have dl14_16 : w7.heap.size < w8.heap.size := (Array.getElem?_eq_some_iff.1 Hb14.out).1
        clear hW
        replace HB : Hid (Below w.heap.size w X16) := below_step HB.out b
        replace HFf : Hid (FV X16 (.agg #[.slice af F.length cf]) F) := HFf.out.below b
        replace HFg : Hid (FV X16 (.agg #[.slice ag G.length cg]) G) := HFg.out.below b
        replace HFt2 : Hid (FV X16 (.agg #[.slice at2 Tm.length ct2]) Tm) := HFt2.out.below b
        replace HFz : Hid (FV X16 (.agg #[.slice az Qz.length cz]) Qz) := HFz.out.below b
        replace Hb7 : Hid (X16.heap[w1.heap.size]? = some (.cells #[.slice af F.length cf] 27)) := (b.block (w1.heap.size) (Array.getElem?_eq_some_iff.1 Hb7.out).1).trans Hb7.out
        replace Hb9 : Hid (X16.heap[w2.heap.size]? = some (.cells #[.slice ag G.length cg] 27)) := (b.block (w2.heap.size) (Array.getElem?_eq_some_iff.1 Hb9.out).1).trans Hb9.out
        replace Hb11 : Hid (X16.heap[w3.heap.size]? = some (.cells #[.slice at2 Tm.length ct2] 27)) := (b.block (w3.heap.size) (Array.getElem?_eq_some_iff.1 Hb11.out).1).trans Hb11.out
        replace Hb14 : Hid (X16.heap[w7.heap.size]? = some (.cells #[.slice ay Qy.length cy] 27)) := (b.block (w7.heap.size) (Array.getElem?_eq_some_iff.1 Hb14.out).1).trans Hb14.out
        clear b
        clear HFz
        have HOVv : Hid (ovB Tm (((Tm.length : Nat) : Int)) = false) := by
          show _ = _
          have h2 := HPl.out
          have h3 := HTl.out
          unfold ovB
          rw [decide_eq_false (by omega), decide_eq_false (by omega)]; rfl
        have hk7 : X16.cell? ⟨w1.heap.size, 0, none⟩ = some (.slice af F.length cf) := by rw [cell_of_row X16 _ _ _ _ _ Hb7.out]; rfl
        have hk9 : X16.cell? ⟨w2.heap.size, 0, none⟩ = some (.slice ag G.length cg) := by rw [cell_of_row X16 _ _ _ _ _ Hb9.out]; rfl
        go_wp2_with (go_at_call 24; fail)
        refine (C.times _ _ _ F G Tm _ (C.keep HE.out HB.out) HFf.out HFg.out HOf.out.1 HOg.out.1 HOt.out (Nat.le_trans HFG.out (by decide)) (fam_sets HOf.out fun j hj => Nat.le_trans (HL.out.2 j hj) (by decide)) (fam_sets HOg.out fun j hj => Nat.le_trans (HRs.out.2 j hj) (by decide))).mono ?_
        rintro e w9 ⟨hr, b⟩
        clear hk7 hk9
        rcases hr with ⟨-, u, rfl, hf⟩ | ⟨hn, -⟩
        case inr => exfalso; revert hn; rw [show ovB Tm _ = false from HOVv.out]; decide
        replace HB : Hid (Below w.heap.size w w9) := below_step HB.out b
        replace HFf : Hid (FV w9 (.agg #[.slice af F.length cf]) F) := HFf.out.below b
        replace HFg : Hid (FV w9 (.agg #[.slice ag G.length cg]) G) := HFg.out.below b
        replace HFt2 : Hid (FV w9 (.agg #[.slice at2 Tm.length ct2]) Tm) := HFt2.out.below b
        replace Hb7 : Hid (w9.heap[w1.heap.size]? = some (.cells #[.slice af F.length cf] 27)) := (b.block (w1.heap.size) (Array.getElem?_eq_some_iff.1 Hb7.out).1).trans Hb7.out
        replace Hb9 : Hid (w9.heap[w2.heap.size]? = some (.cells #[.slice ag G.length cg] 27)) := (b.block (w2.heap.size) (Array.getElem?_eq_some_iff.1 Hb9.out).1).trans Hb9.out
        replace Hb11 : Hid (w9.heap[w3.heap.size]? = some (.cells #[.slice at2 Tm.length ct2] 27)) := (b.block (w3.heap.size) (Array.getElem?_eq_some_iff.1 Hb11.out).1).trans Hb11.out
        replace Hb14 : Hid (w9.heap[w7.heap.size]? = some (.cells #[.slice ay Qy.length cy] 27)) := (b.block (w7.heap.size) (Array.getElem?_eq_some_iff.1 Hb14.out).1).trans Hb14.out
        replace Hb16 : Hid (w9.heap[w8.heap.size]? = some (.cells #[.slice az Qz.length cz] 27)) := (b.block (w8.heap.size) (Array.getElem?_eq_some_iff.1 Hb16.out).1).trans Hb16.out
        obtain ⟨av, cv, Vv, rfl, hrest⟩ := id hf
        have HFv : Hid (FV w9 (.agg #[.slice av Tm.length cv]) Tm) := hf
        clear hrest hf b
        have hk14 : w9.cell? ⟨w7.heap.size, 0, none⟩ = some (.slice ay Qy.length cy) := by rw [cell_of_row w9 _ _ _ _ _ Hb14.out]; rfl
        have fk14 : w9.frozen? ⟨w7.heap.size, 0, none⟩ = false := frozen_of_row w9 _ _ _ _ Hb14.out
        go_upto_region 15 with fail
        clear hk14 fk14
        obtain ⟨Y10, hW⟩ : ∃ Y10, Y10 = w9.setCell ⟨w7.heap.size, 0, none⟩ (.slice av Tm.length cv) := ⟨_, rfl⟩
        rw [← hW]
        have HFf' : Hid (FV Y10 (.agg #[.slice af F.length cf]) F) := by show FV Y10 _ _; rw [hW]; exact HFf.out.put Hb14.out _
        have HFg' : Hid (FV Y10 (.agg #[.slice ag G.length cg]) G) := by show FV Y10 _ _; rw [hW]; exact HFg.out.put Hb14.out _
        have HFt2' : Hid (FV Y10 (.agg #[.slice at2 Tm.length ct2]) Tm) := by show FV Y10 _ _; rw [hW]; exact HFt2.out.put Hb14.out _
        have HFv' : Hid (FV Y10 (.agg #[.slice av Tm.length cv]) Tm) := by show FV Y10 _ _; rw [hW]; exact HFv.out.put Hb14.out _
        have Hb7' : Hid (Y10.heap[w1.heap.size]? = some (.cells #[.slice af F.length cf] 27)) := by show Y10.heap[_]? = _; rw [hW]; exact (Below.heap_setCell _ ⟨w7.heap.size, 0, none⟩ _ (w1.heap.size) (by show w1.heap.size ≠ w7.heap.size; omega)).trans Hb7.out
        have Hb9' : Hid (Y10.heap[w2.heap.size]? = some (.cells #[.slice ag G.length cg] 27)) := by show Y10.heap[_]? = _; rw [hW]; exact (Below.heap_setCell _ ⟨w7.heap.size, 0, none⟩ _ (w2.heap.size) (by show w2.heap.size ≠ w7.heap.size; omega)).trans Hb9.out
        have Hb11' : Hid (Y10.heap[w3.heap.size]? = some (.cells #[.slice at2 Tm.length ct2] 27)) := by show Y10.heap[_]? = _; rw [hW]; exact (Below.heap_setCell _ ⟨w7.heap.size, 0, none⟩ _ (w3.heap.size) (by show w3.heap.size ≠ w7.heap.size; omega)).trans Hb11.out
        have Hb14' : Hid (Y10.heap[w7.heap.size]? = some (.cells #[.slice av Tm.length cv] 27)) := by show Y10.heap[_]? = _; rw [hW]; exact Go.heap_setCell_same _ _ 0 _ _ _ Hb14.out
        have Hb16' : Hid (Y10.heap[w8.heap.size]? = some (.cells #[.slice az Qz.length cz] 27)) := by show Y10.heap[_]? = _; rw [hW]; exact (Below.heap_setCell _ ⟨w7.heap.size, 0, none⟩ _ (w8.heap.size) (by show w8.heap.size ≠ w7.heap.size; omega)).trans Hb16.out
        have HB' : Hid (Below w.heap.size w Y10) := by show Below _ _ Y10; rw [hW]; exact HB.out.setCell (by show w.heap.size ≤ w7.heap.size; have := HBx14.out; omega) _
        clear hW HFf HFg HFt2 HFv Hb7 Hb9 Hb11 Hb14 Hb16 HB
        have HFf := HFf'
        have HFg := HFg'
        have HFt2 := HFt2'
        have HFv := HFv'
        have Hb7 := Hb7'
        have Hb9 := Hb9'
        have Hb11 := Hb11'
        have Hb14 := Hb14'
        have Hb16 := Hb16'
        have HB := HB'
        clear HFf' HFg' HFt2' HFv' Hb7' Hb9' Hb11' Hb14' Hb16' HB'
        have HOVu : Hid (ovB Tm (((Tm.length : Nat) : Int) - 1) = true) := by
          show _ = _
          have h2 := HPl.out
          have h3 := HTl.out
          unfold ovB
          rw [decide_eq_true (by omega)]; rfl
        have hk7 : Y10.cell? ⟨w1.heap.size, 0, none⟩ = some (.slice af F.length cf) := by rw [cell_of_row Y10 _ _ _ _ _ Hb7.out]; rfl
        have hk9 : Y10.cell? ⟨w2.heap.size, 0, none⟩ = some (.slice ag G.length cg) := by rw [cell_of_row Y10 _ _ _ _ _ Hb9.out]; rfl
        go_wp2_with (go_at_call 24; fail)
        refine (C.times _ _ _ F G Tm _ (C.keep HE.out HB.out) HFf.out HFg.out HOf.out.1 HOg.out.1 HOt.out (Nat.le_trans HFG.out (by decide)) (fam_sets HOf.out fun j hj => Nat.le_trans (HL.out.2 j hj) (by decide)) (fam_sets HOg.out fun j hj => Nat.le_trans (HRs.out.2 j hj) (by decide))).mono ?_
        rintro e w11 ⟨hr, b⟩
        clear hk7 hk9
        rcases hr with ⟨hn, -⟩ | ⟨-, u, rfl, hf⟩
        case inl => exfalso; have h2 := HPl.out; have h3 := HTl.out; revert hn; (try rw [show RowKit.wrap64 (((Tm.length : Nat) : Int) - 1) = ((Tm.length : Nat) : Int) - 1 by unfold RowKit.wrap64; omega]); rw [show ovB Tm _ = true from HOVu.out]; decide
        replace HB : Hid (Below w.heap.size w w11) := below_step HB.out b
        replace HFf : Hid (FV w11 (.agg #[.slice af F.length cf]) F) := HFf.out.below b
        replace HFg : Hid (FV w11 (.agg #[.slice ag G.length cg]) G) := HFg.out.below b
        replace HFt2 : Hid (FV w11 (.agg #[.slice at2 Tm.length ct2]) Tm) := HFt2.out.below b
        replace HFv : Hid (FV w11 (.agg #[.slice av Tm.length cv]) Tm) := HFv.out.below b
        replace Hb7 : Hid (w11.heap[w1.heap.size]? = some (.cells #[.slice af F.length cf] 27)) := (b.block (w1.heap.size) (Array.getElem?_eq_some_iff.1 Hb7.out).1).trans Hb7.out
        replace Hb9 : Hid (w11.heap[w2.heap.size]? = some (.cells #[.slice ag G.length cg] 27)) := (b.block (w2.heap.size) (Array.getElem?_eq_some_iff.1 Hb9.out).1).trans Hb9.out
        replace Hb11 : Hid (w11.heap[w3.heap.size]? = some (.cells #[.slice at2 Tm.length ct2] 27)) := (b.block (w3.heap.size) (Array.getElem?_eq_some_iff.1 Hb11.out).1).trans Hb11.out
        replace Hb14 : Hid (w11.heap[w7.heap.size]? = some (.cells #[.slice av Tm.length cv] 27)) := (b.block (w7.heap.size) (Array.getElem?_eq_some_iff.1 Hb14.out).1).trans Hb14.out
        replace Hb16 : Hid (w11.heap[w8.heap.size]? = some (.cells #[.slice az Qz.length cz] 27)) := (b.block (w8.heap.size) (Array.getElem?_eq_some_iff.1 Hb16.out).1).trans Hb16.out
        obtain ⟨au, cu, Vu, rfl, hrest⟩ := id hf
        have HFu : Hid (FV w11 (.agg #[.slice au 0 cu]) (([] : List (List Int)))) := hf
        clear hrest hf b
        have hk16 : w11.cell? ⟨w8.heap.size, 0, none⟩ = some (.slice az Qz.length cz) := by rw [cell_of_row w11 _ _ _ _ _ Hb16.out]; rfl
        have fk16 : w11.frozen? ⟨w8.heap.size, 0, none⟩ = false := frozen_of_row w11 _ _ _ _ Hb16.out
        go_upto_region 16 with fail
        clear hk16 fk16
        obtain ⟨Y12, hW⟩ : ∃ Y12, Y12 = w11.setCell ⟨w8.heap.size, 0, none⟩ (.slice au 0 cu) := ⟨_, rfl⟩
        rw [← hW]
        have HFf' : Hid (FV Y12 (.agg #[.slice af F.length cf]) F) := by show FV Y12 _ _; rw [hW]; exact HFf.out.put Hb16.out _
        have HFg' : Hid (FV Y12 (.agg #[.slice ag G.length cg]) G) := by show FV Y12 _ _; rw [hW]; exact HFg.out.put Hb16.out _
        have HFt2' : Hid (FV Y12 (.agg #[.slice at2 Tm.length ct2]) Tm) := by show FV Y12 _ _; rw [hW]; exact HFt2.out.put Hb16.out _
        have HFv' : Hid (FV Y12 (.agg #[.slice av Tm.length cv]) Tm) := by show FV Y12 _ _; rw [hW]; exact HFv.out.put Hb16.out _
        have HFu' : Hid (FV Y12 (.agg #[.slice au 0 cu]) (([] : List (List Int)))) := by show FV Y12 _ _; rw [hW]; exact HFu.out.put Hb16.out _
        have Hb7' : Hid (Y12.heap[w1.heap.size]? = some (.cells #[.slice af F.length cf] 27)) := by show Y12.heap[_]? = _; rw [hW]; exact (Below.heap_setCell _ ⟨w8.heap.size, 0, none⟩ _ (w1.heap.size) (by show w1.heap.size ≠ w8.heap.size; omega)).trans Hb7.out
        have Hb9' : Hid (Y12.heap[w2.heap.size]? = some (.cells #[.slice ag G.length cg] 27)) := by show Y12.heap[_]? = _; rw [hW]; exact (Below.heap_setCell _ ⟨w8.heap.size, 0, none⟩ _ (w2.heap.size) (by show w2.heap.size ≠ w8.heap.size; omega)).trans Hb9.out
        have Hb11' : Hid (Y12.heap[w3.heap.size]? = some (.cells #[.slice at2 Tm.length ct2] 27)) := by show Y12.heap[_]? = _; rw [hW]; exact (Below.heap_setCell _ ⟨w8.heap.size, 0, none⟩ _ (w3.heap.size) (by show w3.heap.size ≠ w8.heap.size; omega)).trans Hb11.out
        have Hb14' : Hid (Y12.heap[w7.heap.size]? = some (.cells #[.slice av Tm.length cv] 27)) := by show Y12.heap[_]? = _; rw [hW]; exact (Below.heap_setCell _ ⟨w8.heap.size, 0, none⟩ _ (w7.heap.size) (by show w7.heap.size ≠ w8.heap.size; omega)).trans Hb14.out
        have Hb16' : Hid (Y12.heap[w8.heap.size]? = some (.cells #[.slice au 0 cu] 27)) := by show Y12.heap[_]? = _; rw [hW]; exact Go.heap_setCell_same _ _ 0 _ _ _ Hb16.out
        have HB' : Hid (Below w.heap.size w Y12) := by show Below _ _ Y12; rw [hW]; exact HB.out.setCell (by show w.heap.size ≤ w8.heap.size; have := HBx16.out; omega) _
        clear hW HFf HFg HFt2 HFv HFu Hb7 Hb9 Hb11 Hb14 Hb16 HB
        have HFf := HFf'
        have HFg := HFg'
        have HFt2 := HFt2'
        have HFv := HFv'
        have HFu := HFu'
        have Hb7 := Hb7'
        have Hb9 := Hb9'
        have Hb11 := Hb11'
        have Hb14 := Hb14'
        have Hb16 := Hb16'
        have HB := HB'
        clear HFf' HFg' HFt2' HFv' HFu' Hb7' Hb9' Hb11' Hb14' Hb16' HB'
        have hk11 : Y12.cell? ⟨w3.heap.size, 0, none⟩ = some (.slice at2 Tm.length ct2) := by rw [cell_of_row Y12 _ _ _ _ _ Hb11.out]; rfl
        have hk14 : Y12.cell? ⟨w7.heap.size, 0, none⟩ = some (.slice av Tm.length cv) := by rw [cell_of_row Y12 _ _ _ _ _ Hb14.out]; rfl
        have hk16 : Y12.cell? ⟨w8.heap.size, 0, none⟩ = some (.slice au 0 cu) := by rw [cell_of_row Y12 _ _ _ _ _ Hb16.out]; rfl
        have m11 : w3.heap.size < Y12.heap.size := World.block_lt_of_cell? Y12 _ hk11
        have m14 : w7.heap.size < Y12.heap.size := World.block_lt_of_cell? Y12 _ hk14
        have m16 : w8.heap.size < Y12.heap.size := World.block_lt_of_cell? Y12 _ hk16
        have HW : Below Y12.heap.size Y12 Y12 := below_refl _
        have HBW : Hid (Below w.heap.size w Y12) := HB
        clear HB
        refine wp_region_held_drew (S := (fun w' => Below Y12.heap.size Y12 w')) (by kernel_rfl) ?_ (fun hHeld => ?_)
        · (try dsimp only); first | exact HW | exact HW.drew
        refine wpAnyH_take (i := 0) (oi := { dst := some 96, op := Op.move (Operand.tmp 12), type := 28, pos := "law.go:183", after := #[], guard := none }) (v := ?vu110) rfl (by kernel_rfl) (by kernel_rfl) (by kernel_rfl) (fun _ _ _ h => h) (Or.inl ⟨by rfl, ?hyu110⟩) (by assumption) ?restu110
        case hyu110 => (intro w hSw; (try dsimp only at hSw); go_simp; (try with_reducible rfl))
        try simp only [Act.put, List.setIfInBounds_toArray, List.set_cons_zero, List.set_cons_succ]
        refine wpAnyH_take (i := 1) (oi := { dst := some 97, op := Op.binOp BinOp.eql 28 (Operand.tmp 96) (Operand.const (Value.int IntKind.i64 0)) 28, type := 4, pos := "law.go:183", after := #[{ on := 0, ground := Ground.data }], guard := none }) (v := ?vu111) rfl (by kernel_rfl) (by kernel_rfl) (by kernel_rfl) (fun _ _ _ h => h) (Or.inl ⟨by rfl, ?hyu111⟩) (by assumption) ?restu111
        case hyu111 => (intro w hSw; (try dsimp only at hSw); go_simp; (try with_reducible rfl))
        try simp only [Act.put, List.setIfInBounds_toArray, List.set_cons_zero, List.set_cons_succ]
        refine wpAnyH_take (i := 2) (oi := { dst := some 98, op := Op.move (Operand.tmp 97), type := 4, pos := "law.go:183", after := #[{ on := 1, ground := Ground.data }], guard := none }) (v := ?vu112) rfl (by kernel_rfl) (by kernel_rfl) (by kernel_rfl) (fun _ _ _ h => h) (Or.inl ⟨by rfl, ?hyu112⟩) (by assumption) ?restu112
        case hyu112 => (intro w hSw; (try dsimp only at hSw); go_simp; (try with_reducible rfl))
        try simp only [Act.put, List.setIfInBounds_toArray, List.set_cons_zero, List.set_cons_succ]
        refine wpAnyH_take (i := 3) (oi := { dst := some 99, op := Op.move (Operand.tmp 15), type := 28, pos := "law.go:183", after := #[{ on := 2, ground := Ground.guard }], guard := some (2, true) }) (v := ?vu113) rfl (by kernel_rfl) (by kernel_rfl) (by kernel_rfl) (fun _ _ _ h => h) (Or.inl ⟨by rfl, ?hyu113⟩) (by assumption) ?restu113
        case hyu113 => (intro w hSw; (try dsimp only at hSw); go_simp; (try with_reducible rfl))
        try simp only [Act.put, List.setIfInBounds_toArray, List.set_cons_zero, List.set_cons_succ]
        refine wpAnyH_take (i := 4) (oi := { dst := some 100, op := Op.binOp BinOp.eql 28 (Operand.tmp 99) (Operand.const (Value.int IntKind.i64 0)) 28, type := 4, pos := "law.go:183", after := #[{ on := 3, ground := Ground.data }, { on := 2, ground := Ground.guard }], guard := some (2, true) }) (v := ?vu114) rfl (by kernel_rfl) (by kernel_rfl) (by kernel_rfl) (fun _ _ _ h => h) (Or.inl ⟨by rfl, ?hyu114⟩) (by assumption) ?restu114
        case hyu114 => (intro w hSw; (try dsimp only at hSw); go_simp; (try with_reducible rfl))
        try simp only [Act.put, List.setIfInBounds_toArray, List.set_cons_zero, List.set_cons_succ]
        refine wpAnyH_take (i := 5) (oi := { dst := some 101, op := Op.pick (Operand.tmp 98) (Operand.tmp 100) (Operand.const (Value.bool false)), type := 4, pos := "law.go:183", after := #[{ on := 2, ground := Ground.data }, { on := 4, ground := Ground.data }], guard := none }) (v := ?vu115) rfl (by kernel_rfl) (by kernel_rfl) (by kernel_rfl) (fun _ _ _ h => h) (Or.inl ⟨by rfl, ?hyu115⟩) (by assumption) ?restu115
        case hyu115 => (intro w hSw; (try dsimp only at hSw); go_simp; (try with_reducible rfl))
        try simp only [Act.put, List.setIfInBounds_toArray, List.set_cons_zero, List.set_cons_succ]
        refine wpAnyH_take (i := 6) (oi := { dst := some 102, op := Op.move (Operand.tmp 101), type := 4, pos := "law.go:183", after := #[{ on := 5, ground := Ground.data }, { on := 2, ground := Ground.chain }], guard := none }) (v := ?vu116) rfl (by kernel_rfl) (by kernel_rfl) (by kernel_rfl) (fun _ _ _ h => h) (Or.inl ⟨by rfl, ?hyu116⟩) (by assumption) ?restu116
        case hyu116 => (intro w hSw; (try dsimp only at hSw); go_simp; (try with_reducible rfl))
        try simp only [Act.put, List.setIfInBounds_toArray, List.set_cons_zero, List.set_cons_succ]
        refine wpAnyH_take (i := 7) (oi := { dst := some 103, op := Op.move (Operand.tmp 17), type := 28, pos := "law.go:183", after := #[{ on := 6, ground := Ground.guard }], guard := some (6, true) }) (v := ?vu117) rfl (by kernel_rfl) (by kernel_rfl) (by kernel_rfl) (fun _ _ _ h => h) (Or.inl ⟨by rfl, ?hyu117⟩) (by assumption) ?restu117
        case hyu117 => (intro w hSw; (try dsimp only at hSw); go_simp; (try with_reducible rfl))
        try simp only [Act.put, List.setIfInBounds_toArray, List.set_cons_zero, List.set_cons_succ]
        refine wpAnyH_take (i := 8) (oi := { dst := some 104, op := Op.binOp BinOp.eql 28 (Operand.tmp 103) (Operand.const (Value.int IntKind.i64 10)) 28, type := 4, pos := "law.go:183", after := #[{ on := 7, ground := Ground.data }, { on := 6, ground := Ground.guard }], guard := some (6, true) }) (v := ?vu118) rfl (by kernel_rfl) (by kernel_rfl) (by kernel_rfl) (fun _ _ _ h => h) (Or.inl ⟨by rfl, ?hyu118⟩) (by assumption) ?restu118
        case hyu118 => (intro w hSw; (try dsimp only at hSw); go_simp; (try with_reducible rfl))
        try simp only [Act.put, List.setIfInBounds_toArray, List.set_cons_zero, List.set_cons_succ]
        refine wpAnyH_take (i := 9) (oi := { dst := some 105, op := Op.pick (Operand.tmp 102) (Operand.tmp 104) (Operand.const (Value.bool false)), type := 4, pos := "law.go:183", after := #[{ on := 6, ground := Ground.data }, { on := 8, ground := Ground.data }], guard := none }) (v := ?vu119) rfl (by kernel_rfl) (by kernel_rfl) (by kernel_rfl) (fun _ _ _ h => h) (Or.inl ⟨by rfl, ?hyu119⟩) (by assumption) ?restu119
        case hyu119 => (intro w hSw; (try dsimp only at hSw); go_simp; (try with_reducible rfl))
        try simp only [Act.put, List.setIfInBounds_toArray, List.set_cons_zero, List.set_cons_succ]
        refine wpAnyH_take (i := 10) (oi := { dst := some 106, op := Op.move (Operand.tmp 105), type := 4, pos := "law.go:183", after := #[{ on := 9, ground := Ground.data }, { on := 6, ground := Ground.chain }], guard := none }) (v := ?vu120) rfl (by kernel_rfl) (by kernel_rfl) (by kernel_rfl) (fun _ _ _ h => h) (Or.inl ⟨by rfl, ?hyu120⟩) (by assumption) ?restu120
        case hyu120 => (intro w hSw; (try dsimp only at hSw); go_simp; (try with_reducible rfl))
        try simp only [Act.put, List.setIfInBounds_toArray, List.set_cons_zero, List.set_cons_succ]
        refine wpAnyH_take (i := 11) (oi := { dst := some 107, op := Op.load 27 (Operand.tmp 16), type := 27, pos := "law.go:183", after := #[{ on := 10, ground := Ground.guard }], guard := some (10, true) }) (v := ?vu121) rfl (by kernel_rfl) (by kernel_rfl) (by kernel_rfl) (fun _ _ _ h => h) (Or.inl ⟨by rfl, ?hyu121⟩) (by assumption) ?restu121
        case hyu121 => (intro w' hSw; (try dsimp only at hSw); have q1 := (Below.cell hSw (p := ⟨w8.heap.size, 0, none⟩) m16).trans hk16; go_simp; (try with_reducible rfl))
        try simp only [Act.put, List.setIfInBounds_toArray, List.set_cons_zero, List.set_cons_succ]
        refine wpAnyH_ready (rs := [12]) (by kernel_rfl) (by simp) ?_
        refine AllReadyH.cons (o := { dst := some 108, op := Op.call { callee := Callee.value (Operand.func 16), args := #[Operand.tmp 107], argTypes := #[27] }, type := 3, pos := "law.go:183", after := #[{ on := 11, ground := Ground.data }, { on := 10, ground := Ground.chain }, { on := 10, ground := Ground.guard }], guard := some (10, true) }) rfl (fun K hK => ?_) AllReadyH.nil
        go_simp
        go_at_call 16
        refine (C.len _ _ [] 0 (C.keep HE.out (below_step HBW.out (by first | exact HW | exact HW.drew))) (by exact HFu.out.below (by first | exact HW | exact HW.drew)) rfl).mono ?_
        rintro e z0 ⟨rfl, b⟩
        replace HW := below_step (by first | exact HW | exact HW.drew) b
        clear b
        refine hK.out _ _ ?_ (fun hHeldB => ?_)
        · (try dsimp only); exact HW
        clear hK K hHeld
        have hHeld := hHeldB
        clear hHeldB
        try simp only [Act.put, List.setIfInBounds_toArray, List.set_cons_zero, List.set_cons_succ]
        refine wpAnyH_take (i := 13) (oi := { dst := some 109, op := Op.binOp BinOp.eql 3 (Operand.tmp 108) (Operand.const (Value.int IntKind.i64 0)) 3, type := 4, pos := "law.go:183", after := #[{ on := 12, ground := Ground.data }, { on := 10, ground := Ground.guard }], guard := some (10, true) }) (v := ?vu122) rfl (by kernel_rfl) (by kernel_rfl) (by kernel_rfl) (fun _ _ _ h => h) (Or.inl ⟨by rfl, ?hyu122⟩) (by assumption) ?restu122
        case hyu122 => (intro w hSw; (try dsimp only at hSw); go_simp; (try with_reducible rfl))
        try simp only [Act.put, List.setIfInBounds_toArray, List.set_cons_zero, List.set_cons_succ]
        refine wpAnyH_take (i := 14) (oi := { dst := some 110, op := Op.pick (Operand.tmp 106) (Operand.tmp 109) (Operand.const (Value.bool false)), type := 4, pos := "law.go:183", after := #[{ on := 10, ground := Ground.data }, { on := 13, ground := Ground.data }], guard := none }) (v := ?vu123) rfl (by kernel_rfl) (by kernel_rfl) (by kernel_rfl) (fun _ _ _ h => h) (Or.inl ⟨by rfl, ?hyu123⟩) (by assumption) ?restu123
        case hyu123 => (intro w hSw; (try dsimp only at hSw); go_simp; (try with_reducible rfl))
        try simp only [Act.put, List.setIfInBounds_toArray, List.set_cons_zero, List.set_cons_succ]
        refine wpAnyH_take (i := 15) (oi := { dst := some 111, op := Op.move (Operand.tmp 110), type := 4, pos := "law.go:183", after := #[{ on := 14, ground := Ground.data }, { on := 12, ground := Ground.chain }], guard := none }) (v := ?vu124) rfl (by kernel_rfl) (by kernel_rfl) (by kernel_rfl) (fun _ _ _ h => h) (Or.inl ⟨by rfl, ?hyu124⟩) (by assumption) ?restu124
        case hyu124 => (intro w hSw; (try dsimp only at hSw); go_simp; (try with_reducible rfl))
        try simp only [Act.put, List.setIfInBounds_toArray, List.set_cons_zero, List.set_cons_succ]
        refine wpAnyH_take (i := 16) (oi := { dst := some 112, op := Op.load 27 (Operand.tmp 11), type := 27, pos := "law.go:183", after := #[{ on := 15, ground := Ground.guard }], guard := some (15, true) }) (v := ?vu125) rfl (by kernel_rfl) (by kernel_rfl) (by kernel_rfl) (fun _ _ _ h => h) (Or.inl ⟨by rfl, ?hyu125⟩) (by assumption) ?restu125
        case hyu125 => (intro w' hSw; (try dsimp only at hSw); have q1 := (Below.cell hSw (p := ⟨w3.heap.size, 0, none⟩) m11).trans hk11; go_simp; (try with_reducible rfl))
        try simp only [Act.put, List.setIfInBounds_toArray, List.set_cons_zero, List.set_cons_succ]
        refine wpAnyH_take (i := 18) (oi := { dst := some 114, op := Op.load 27 (Operand.tmp 14), type := 27, pos := "law.go:183", after := #[{ on := 15, ground := Ground.guard }], guard := some (15, true) }) (v := ?vu126) rfl (by kernel_rfl) (by kernel_rfl) (by kernel_rfl) (fun _ _ _ h => h) (Or.inl ⟨by rfl, ?hyu126⟩) (by assumption) ?restu126
        case hyu126 => (intro w' hSw; (try dsimp only at hSw); have q1 := (Below.cell hSw (p := ⟨w7.heap.size, 0, none⟩) m14).trans hk14; go_simp; (try with_reducible rfl))
        try simp only [Act.put, List.setIfInBounds_toArray, List.set_cons_zero, List.set_cons_succ]
        refine wpAnyH_ready (rs := [17]) (by kernel_rfl) (by simp) ?_
        refine AllReadyH.cons (o := { dst := some 113, op := Op.call { callee := Callee.value (Operand.func 19), args := #[Operand.tmp 112], argTypes := #[27] }, type := 22, pos := "law.go:183", after := #[{ on := 16, ground := Ground.data }, { on := 15, ground := Ground.chain }, { on := 15, ground := Ground.guard }], guard := some (15, true) }) rfl (fun K hK => ?_) AllReadyH.nil
        go_simp
        go_at_call 19
        refine (C.sets _ _ Tm (C.keep HE.out (below_step HBW.out (by first | exact HW | exact HW.drew))) (by exact HFt2.out.below (by first | exact HW | exact HW.drew))).mono ?_
        rintro e z1 ⟨⟨u1, rfl, hu⟩, b⟩
        replace HW := below_step (by first | exact HW | exact HW.drew) b
        have HU1 : Hid (IsLL z1 u1 Tm) := hu
        clear hu
        clear b
        refine hK.out _ _ ?_ (fun hHeldB => ?_)
        · (try dsimp only); exact HW
        clear hK K hHeld
        have hHeld := hHeldB
        clear hHeldB
        try simp only [Act.put, List.setIfInBounds_toArray, List.set_cons_zero, List.set_cons_succ]
        refine wpAnyH_ready (rs := [19]) (by kernel_rfl) (by simp) ?_
        refine AllReadyH.cons (o := { dst := some 115, op := Op.call { callee := Callee.value (Operand.func 19), args := #[Operand.tmp 114], argTypes := #[27] }, type := 22, pos := "law.go:183", after := #[{ on := 18, ground := Ground.data }, { on := 17, ground := Ground.chain }, { on := 15, ground := Ground.guard }], guard := some (15, true) }) rfl (fun K hK => ?_) AllReadyH.nil
        go_simp
        go_at_call 19
        refine (C.sets _ _ Tm (C.keep HE.out (below_step HBW.out (by first | exact HW | exact HW.drew))) (by exact HFv.out.below (by first | exact HW | exact HW.drew))).mono ?_
        rintro e z2 ⟨⟨u2, rfl, hu⟩, b⟩
        replace HW := below_step (by first | exact HW | exact HW.drew) b
        have HU2 : Hid (IsLL z2 u2 Tm) := hu
        have HU1' : Hid (IsLL z2 u1 Tm) := by first | exact HU1.out.below b | exact (HU1.out.below (below_refl _).drew).below b
        clear hu HU1
        clear b
        refine hK.out _ _ ?_ (fun hHeldB => ?_)
        · (try dsimp only); exact HW
        clear hK K hHeld
        have hHeld := hHeldB
        clear hHeldB
        try simp only [Act.put, List.setIfInBounds_toArray, List.set_cons_zero, List.set_cons_succ]
        refine wpAnyH_ready (rs := [20]) (by kernel_rfl) (by simp) ?_
        refine AllReadyH.cons (o := { dst := some 116, op := Op.call { callee := Callee.value (Operand.func 18), args := #[Operand.tmp 113, Operand.tmp 115], argTypes := #[22, 22] }, type := 4, pos := "law.go:183", after := #[{ on := 17, ground := Ground.data }, { on := 19, ground := Ground.data }, { on := 19, ground := Ground.chain }, { on := 15, ground := Ground.guard }], guard := some (15, true) }) rfl (fun K hK => ?_) AllReadyH.nil
        go_simp
        go_at_call 18
        refine (rlists_any _ u1 u2 Tm Tm true (by first | exact HU1'.out | exact HU1'.out.below (below_refl _).drew) (by first | exact HU2.out | exact HU2.out.below (below_refl _).drew) ⟨fun _ => rfl, fun _ => rfl⟩).mono ?_
        rintro e z3 ⟨rfl, b⟩
        replace HW := below_step (by first | exact HW | exact HW.drew) b
        clear HU1' HU2
        clear b
        refine hK.out _ _ ?_ (fun hHeldB => ?_)
        · (try dsimp only); exact HW
        clear hK K hHeld
        have hHeld := hHeldB
        clear hHeldB
        try simp only [Act.put, List.setIfInBounds_toArray, List.set_cons_zero, List.set_cons_succ]
        refine wpAnyH_take (i := 21) (oi := { dst := some 117, op := Op.pick (Operand.tmp 111) (Operand.tmp 116) (Operand.const (Value.bool false)), type := 4, pos := "law.go:183", after := #[{ on := 15, ground := Ground.data }, { on := 20, ground := Ground.data }], guard := none }) (v := ?vu127) rfl (by kernel_rfl) (by kernel_rfl) (by kernel_rfl) (fun _ _ _ h => h) (Or.inl ⟨by rfl, ?hyu127⟩) (by assumption) ?restu127
        case hyu127 => (intro w hSw; (try dsimp only at hSw); go_simp; (try with_reducible rfl))
        try simp only [Act.put, List.setIfInBounds_toArray, List.set_cons_zero, List.set_cons_succ]
        refine wpAnyH_take (i := 22) (oi := { dst := some 118, op := Op.move (Operand.tmp 117), type := 4, pos := "law.go:183", after := #[{ on := 21, ground := Ground.data }, { on := 20, ground := Ground.chain }], guard := none }) (v := ?vu128) rfl (by kernel_rfl) (by kernel_rfl) (by kernel_rfl) (fun _ _ _ h => h) (Or.inl ⟨by rfl, ?hyu128⟩) (by assumption) ?restu128
        case hyu128 => (intro w hSw; (try dsimp only at hSw); go_simp; (try with_reducible rfl))
        try simp only [Act.put, List.setIfInBounds_toArray, List.set_cons_zero, List.set_cons_succ]
        refine wpAnyH_ready (rs := [23]) (by kernel_rfl) (by simp) ?_
        refine AllReadyH.cons (o := { dst := some 119, op := Op.call { callee := Callee.value (Operand.func 10), args := #[], argTypes := #[] }, type := 4, pos := "law.go:183", after := #[{ on := 22, ground := Ground.chain }, { on := 22, ground := Ground.guard }], guard := some (22, true) }) rfl (fun K hK => ?_) AllReadyH.nil
        go_simp
        go_at_call 10
        refine (awake_of C _ (C.keep HE.out (below_step HBW.out (by first | exact HW | exact HW.drew)))).mono ?_
        rintro e z4 ⟨rfl, b⟩
        replace HW := below_step (by first | exact HW | exact HW.drew) b
        clear b
        refine hK.out _ _ ?_ (fun hHeldB => ?_)
        · (try dsimp only); exact HW
        clear hK K hHeld
        have hHeld := hHeldB
        clear hHeldB
        try simp only [Act.put, List.setIfInBounds_toArray, List.set_cons_zero, List.set_cons_succ]
        refine wpAnyH_take (i := 24) (oi := { dst := some 120, op := Op.pick (Operand.tmp 118) (Operand.tmp 119) (Operand.const (Value.bool false)), type := 4, pos := "law.go:183", after := #[{ on := 22, ground := Ground.data }, { on := 23, ground := Ground.data }], guard := none }) (v := ?vu129) rfl (by kernel_rfl) (by kernel_rfl) (by kernel_rfl) (fun _ _ _ h => h) (Or.inl ⟨by rfl, ?hyu129⟩) (by assumption) ?restu129
        case hyu129 => (intro w hSw; (try dsimp only at hSw); go_simp; (try with_reducible rfl))
        try simp only [Act.put, List.setIfInBounds_toArray, List.set_cons_zero, List.set_cons_succ]
        refine wpAnyH_take (i := 25) (oi := { dst := some 6, op := Op.assign (Operand.tmp 120), type := 4, pos := "law.go:183", after := #[{ on := 24, ground := Ground.data }, { on := 23, ground := Ground.chain }, { on := 0, ground := Ground.phase }, { on := 1, ground := Ground.phase }, { on := 2, ground := Ground.phase }, { on := 3, ground := Ground.phase }, { on := 4, ground := Ground.phase }, { on := 5, ground := Ground.phase }, { on := 6, ground := Ground.phase }, { on := 7, ground := Ground.phase }, { on := 8, ground := Ground.phase }, { on := 9, ground := Ground.phase }, { on := 10, ground := Ground.phase }, { on := 11, ground := Ground.phase }, { on := 12, ground := Ground.phase }, { on := 13, ground := Ground.phase }, { on := 14, ground := Ground.phase }, { on := 15, ground := Ground.phase }, { on := 16, ground := Ground.phase }, { on := 17, ground := Ground.phase }, { on := 18, ground := Ground.phase }, { on := 19, ground := Ground.phase }, { on := 20, ground := Ground.phase }, { on := 21, ground := Ground.phase }, { on := 22, ground := Ground.phase }, { on := 23, ground := Ground.phase }, { on := 24, ground := Ground.phase }], guard := none }) (v := ?vu130) rfl (by kernel_rfl) (by kernel_rfl) (by kernel_rfl) (fun _ _ _ h => h) (Or.inl ⟨by rfl, ?hyu130⟩) (by assumption) ?restu130
        case hyu130 => (intro w hSw; (try dsimp only at hSw); go_simp; (try with_reducible rfl))
        try simp only [Act.put, List.setIfInBounds_toArray, List.set_cons_zero, List.set_cons_succ]
        refine wpAnyH_done (by kernel_rfl) ?_ _
        go_wp2
        go_ret
        exact ⟨rfl, below_step HBW.out HW⟩
      · have HgR : Hid (¬ GoodP R) := hgr
        clear hgr
        go_wp2_with (go_at_call 12; fail)
        refine (agood_any _ _ L true HA.out ⟨fun _ => HgL.out, fun _ => rfl⟩).mono ?_
        rintro e w' ⟨rfl, hw⟩
        replace hw := hw.symm
        subst hw
        go_wp2_with (go_at_call 12; fail)
        refine (agood_any _ _ R false HR.out ⟨fun h => (by cases h), fun h => absurd h HgR.out⟩).mono ?_
        rintro e w' ⟨rfl, hw⟩
        replace hw := hw.symm
        subst hw
        go_wp2_with (go_at_call 10; fail)
        refine (awake_of C _ (C.keep HE.out HB.out)).mono ?_
        rintro e xx ⟨rfl, b⟩
        have HBx : Hid (Below w.heap.size w xx) := below_step HB.out b
        clear b HB
        go_wp2
        go_ret
        exact ⟨rfl, HBx.out⟩
    · have HgL : Hid (¬ GoodP L) := hgl
      clear hgl
      go_wp2_with (go_at_call 12; fail)
      refine (agood_any _ _ L false HA.out ⟨fun h => (by cases h), fun h => absurd h HgL.out⟩).mono ?_
      rintro e w' ⟨rfl, hw⟩
      replace hw := hw.symm
      subst hw
      go_wp2_with (go_at_call 10; fail)
      refine (awake_of C _ (C.keep HE.out HB.out)).mono ?_
      rintro e xx ⟨rfl, b⟩
      have HBx : Hid (Below w.heap.size w xx) := below_step HB.out b
      clear b HB
      go_wp2
      go_ret
      exact ⟨rfl, HBx.out⟩
end Go.Proofs.Yteaajhpgmndomaa
