/- The walk of AntiMeans, out of what families answer. -/
import Derived.Test.YteaajhpgmndomaaFsy
import Derived.Test.YteaajhpgmndomaaAnx
namespace Go.Proofs.Yteaajhpgmndomaa
open Go.RowKit Fo
set_option maxRecDepth 100000

set_option maxHeartbeats 32000000 in
theorem means_core {Env : World → Prop} (C : FamSays Env) (w : World) (vl vr vs : Value) (L R : List (List Int)) (S : List Int) (h1 : IsLL w vl L) (h2 : IsLL w vr R) (h3 : IsL w vs S) (henv : Env w) :
    Calls Try.prog 6 #[vl, vr, vs] w fun e w' => e = .returned (.bool true) ∧ Below w.heap.size w w' := by
  have HA0 := h1
  have HR0 := h2
  have HS0 := h3
  have HE : Hid (Env w) := henv
  obtain ⟨al, cl, VL, rfl, hrl, -⟩ := h1
  obtain ⟨ar, cr, VR, rfl, hrr, -⟩ := h2
  obtain ⟨az, cs, rfl, hrs⟩ := h3
  have hl1 := hrl.1
  have hl2 := hrl.2.1
  have hr1 := hrr.1
  have hr2 := hrr.2.1
  have hs1 := hrs.1
  have hs2 := hrs.2.1
  obtain ⟨W0, hW0⟩ : ∃ W0, W0 = w.alloc (.cells #[.slice al L.length cl, .slice ar R.length cr] 22) := ⟨_, rfl⟩
  have HB : Hid (Below w.heap.size w W0) := by rw [hW0]; exact below1 w _
  have hg0 : W0.heap[w.heap.size]? = some (.cells #[.slice al L.length cl, .slice ar R.length cr] 22) := by rw [hW0]; exact heap_new1 w _
  have cS := asmall_any W0 w.heap.size 2 (fun j => if j = 0 then .slice al L.length cl else .slice ar R.length cr) (fun j => if j = 0 then L else R) (by decide)
    (fun j hj => by rw [cell_of_row W0 _ _ _ _ _ hg0]; match j, hj with | 0, _ => rfl | 1, _ => rfl)
    (fun j hj => by match j, hj with | 0, _ => exact HA0.below HB.out | 1, _ => exact HR0.below HB.out)
  have HA : Hid (IsLL W0 (.slice al L.length cl) L) := HA0.below HB.out
  have HR : Hid (IsLL W0 (.slice ar R.length cr) R) := HR0.below HB.out
  have HS : Hid (IsL W0 (.slice az S.length cs) S) := HS0.below HB.out
  clear hrl hrr hrs hg0 HA0 HR0 HS0 henv
  go_enter Try.func6, Try.ntmps6
  go_wp2_with (go_at_call 9; fail)
  rw [← hW0]
  clear hW0
  refine cS.mono ?_
  rintro e w' ⟨hr, hw⟩
  replace hw := hw.symm
  subst hw
  obtain ⟨q, rfl, hq⟩ := hr
  clear cS
  cases q
  · skip
    go_wp2_with (go_at_call 10; fail)
    refine (awake_of C _ (C.keep HE.out HB.out)).mono ?_
    rintro e xx ⟨rfl, b⟩
    have HBx : Hid (Below w.heap.size w xx) := below_step HB.out b
    clear b HB
    go_wp2
    go_ret
    exact ⟨rfl, HBx.out⟩
  · have HL : Hid (SmP L) := hq rfl 0 (by decide)
    have HRs : Hid (SmP R) := hq rfl 1 (by decide)
    clear hq
    by_cases hgl : GoodP L
    · by_cases hgr : GoodP R
      · by_cases hS : S.length ≤ 50
        · have hS' : ¬ (50 : Int) < (S.length : Int) := by omega
          have HgL : Hid (GoodP L) := hgl
          have HgR : Hid (GoodP R) := hgr
          clear hgl hgr
          go_wp2_with (go_at_call 12; fail)
          refine (agood_any _ _ L true HA.out ⟨fun _ => HgL.out, fun _ => rfl⟩).mono ?_
          rintro e w' ⟨rfl, hw⟩
          replace hw := hw.symm
          subst hw
          go_wp2_with (go_at_call 12; fail)
          refine (agood_any _ _ R true HR.out ⟨fun _ => HgR.out, fun _ => rfl⟩).mono ?_
          rintro e w' ⟨rfl, hw⟩
          replace hw := hw.symm
          subst hw
          go_wp2_with (go_at_call 11; fail)
          refine (C.of _ _ L (C.keep HE.out HB.out) HA.out (Nat.le_trans HL.out.1 (by decide)) (fun j hj => Nat.le_trans (HL.out.2 j hj) (by decide))).mono ?_
          rintro e w1 ⟨hr, b⟩
          rcases hr with ⟨-, u, F, rfl, hf, ho⟩ | ⟨hn, -⟩
          case inr => exact absurd HgL.out hn
          have HA' : Hid (IsLL w1 (.slice al L.length cl) L) := HA.out.below b
          have HR' : Hid (IsLL w1 (.slice ar R.length cr) R) := HR.out.below b
          have HS' : Hid (IsL w1 (.slice az S.length cs) S) := HS.out.below b
          have HB' : Hid (Below w.heap.size w w1) := below_step HB.out b
          clear HA HR HS HB b
          have HA := HA'
          have HR := HR'
          have HS := HS'
          have HB := HB'
          clear HA' HR' HS' HB'
          obtain ⟨af, cf, Vf, rfl, hrest⟩ := id hf
          have HOf : Hid (FamOf L F) := ho
          have HFf : Hid (FV w1 (.agg #[.slice af F.length cf]) F) := hf
          clear hrest ho hf
          go_wp2_with (go_at_call 11; fail)
          obtain ⟨W1, hW1⟩ : ∃ W1, W1 = w1.alloc (.cells #[.slice af F.length cf] 27) := ⟨_, rfl⟩
          rw [← hW1]
          have b : Below w1.heap.size w1 W1 := by rw [hW1]; exact below1 _ _
          have Hg1 : Hid (W1.heap[w1.heap.size]? = some (.cells #[.slice af F.length cf] 27)) := by show W1.heap[_]? = _; rw [hW1]; exact heap_new1 _ _
          have HFf' : Hid (FV W1 (.agg #[.slice af F.length cf]) F) := HFf.out.below b
          clear HFf hW1
          have HFf := HFf'
          clear HFf'
          have HA' : Hid (IsLL W1 (.slice al L.length cl) L) := HA.out.below b
          have HR' : Hid (IsLL W1 (.slice ar R.length cr) R) := HR.out.below b
          have HS' : Hid (IsL W1 (.slice az S.length cs) S) := HS.out.below b
          have HB' : Hid (Below w.heap.size w W1) := below_step HB.out b
          clear HA HR HS HB b
          have HA := HA'
          have HR := HR'
          have HS := HS'
          have HB := HB'
          clear HA' HR' HS' HB'
          refine (C.of _ _ R (C.keep HE.out HB.out) HR.out (Nat.le_trans HRs.out.1 (by decide)) (fun j hj => Nat.le_trans (HRs.out.2 j hj) (by decide))).mono ?_
          rintro e w2 ⟨hr, b⟩
          rcases hr with ⟨-, u, G, rfl, hf, ho⟩ | ⟨hn, -⟩
          case inr => exact absurd HgR.out hn
          have Hg1' : Hid (w2.heap[w1.heap.size]? = some _) := (b.block w1.heap.size (Array.getElem?_eq_some_iff.1 Hg1.out).1).trans Hg1.out
          have HFf' : Hid (FV w2 (.agg #[.slice af F.length cf]) F) := HFf.out.below b
          clear HFf Hg1
          have HFf := HFf'
          have Hg1 := Hg1'
          clear HFf' Hg1'
          have HA' : Hid (IsLL w2 (.slice al L.length cl) L) := HA.out.below b
          have HR' : Hid (IsLL w2 (.slice ar R.length cr) R) := HR.out.below b
          have HS' : Hid (IsL w2 (.slice az S.length cs) S) := HS.out.below b
          have HB' : Hid (Below w.heap.size w w2) := below_step HB.out b
          clear HA HR HS HB b
          have HA := HA'
          have HR := HR'
          have HS := HS'
          have HB := HB'
          clear HA' HR' HS' HB'
          obtain ⟨ag, cg, Vg, rfl, hrest⟩ := id hf
          have HOg : Hid (FamOf R G) := ho
          have HGg : Hid (FV w2 (.agg #[.slice ag G.length cg]) G) := hf
          clear hrest ho hf
          obtain ⟨hc1, -⟩ : w2.cell? ⟨w1.heap.size, 0, none⟩ = some (.slice af F.length cf) ∧ True := ⟨by rw [cell_of_row w2 _ _ _ _ _ Hg1.out]; rfl, trivial⟩
          have hlt1 : w1.heap.size < w2.heap.size := World.block_lt_of_cell? w2 _ hc1
          go_wp2_with (go_at_call 23; fail)
          obtain ⟨W2, hW2⟩ : ∃ W2, W2 = w2.alloc (.cells #[.slice ag G.length cg] 27) := ⟨_, rfl⟩
          rw [← hW2]
          have b : Below w2.heap.size w2 W2 := by rw [hW2]; exact below1 _ _
          have Hg2 : Hid (W2.heap[w2.heap.size]? = some (.cells #[.slice ag G.length cg] 27)) := by show W2.heap[_]? = _; rw [hW2]; exact heap_new1 _ _
          clear hW2 hc1
          have HFl : Hid (F.length ≤ 12) := Nat.le_trans (fam_len HOf.out) HL.out.1
          have HGl : Hid (G.length ≤ 12) := Nat.le_trans (fam_len HOg.out) HRs.out.1
          have HGg' : Hid (FV W2 (.agg #[.slice ag G.length cg]) G) := HGg.out.below b
          have HFf' : Hid (FV W2 (.agg #[.slice af F.length cf]) F) := HFf.out.below b
          have Hg1' : Hid (W2.heap[w1.heap.size]? = some _) := (b.block w1.heap.size (Array.getElem?_eq_some_iff.1 Hg1.out).1).trans Hg1.out
          clear HGg HFf Hg1
          have HGg := HGg'
          have HFf := HFf'
          have Hg1 := Hg1'
          clear HGg' HFf' Hg1'
          have HA' : Hid (IsLL W2 (.slice al L.length cl) L) := HA.out.below b
          have HR' : Hid (IsLL W2 (.slice ar R.length cr) R) := HR.out.below b
          have HS' : Hid (IsL W2 (.slice az S.length cs) S) := HS.out.below b
          have HB' : Hid (Below w.heap.size w W2) := below_step HB.out b
          clear HA HR HS HB b
          have HA := HA'
          have HR := HR'
          have HS := HS'
          have HB := HB'
          clear HA' HR' HS' HB'
          obtain ⟨Pm, hP⟩ := fam_ex (F ++ G)
          have HOp : Hid (FamOf (F ++ G) Pm) := hP
          have HPo : Hid (ovB Pm 5000 = false) := by
            show _ = _
            have h1 := fam_len hP
            rw [List.length_append] at h1
            have h2 := HFl.out
            have h3 := HGl.out
            unfold ovB
            rw [decide_eq_false (by omega), decide_eq_false (by omega)]; rfl
          clear hP
          refine (C.plus _ _ _ F G Pm 5000 (C.keep HE.out HB.out) HFf.out HGg.out HOf.out.1 HOg.out.1 HOp.out).mono ?_
          rintro e w3 ⟨hr, b⟩
          rcases hr with ⟨-, u, rfl, hf⟩ | ⟨hn, -⟩
          case inr => rw [HPo.out] at hn; cases hn
          have HFf' : Hid (FV w3 (.agg #[.slice af F.length cf]) F) := HFf.out.below b
          clear HFf
          have HFf := HFf'
          clear HFf'
          have HGg' : Hid (FV w3 (.agg #[.slice ag G.length cg]) G) := HGg.out.below b
          clear HGg
          have HGg := HGg'
          clear HGg'
          have Hg1' : Hid (w3.heap[w1.heap.size]? = some _) := (b.block (w1.heap.size) (Array.getElem?_eq_some_iff.1 Hg1.out).1).trans Hg1.out
          clear Hg1
          have Hg1 := Hg1'
          clear Hg1'
          have Hg2' : Hid (w3.heap[w2.heap.size]? = some _) := (b.block (w2.heap.size) (Array.getElem?_eq_some_iff.1 Hg2.out).1).trans Hg2.out
          clear Hg2
          have Hg2 := Hg2'
          clear Hg2'
          have HA' : Hid (IsLL w3 (.slice al L.length cl) L) := HA.out.below b
          have HR' : Hid (IsLL w3 (.slice ar R.length cr) R) := HR.out.below b
          have HS' : Hid (IsL w3 (.slice az S.length cs) S) := HS.out.below b
          have HB' : Hid (Below w.heap.size w w3) := below_step HB.out b
          clear HA HR HS HB b
          have HA := HA'
          have HR := HR'
          have HS := HS'
          have HB := HB'
          clear HA' HR' HS' HB'
          obtain ⟨ap, cp, Vp, rfl, hrest⟩ := id hf
          have HPp : Hid (FV w3 (.agg #[.slice ap Pm.length cp]) Pm) := hf
          clear hrest hf HPo
          have hc1 : w3.cell? ⟨w1.heap.size, 0, none⟩ = some (.slice af F.length cf) := by rw [cell_of_row w3 _ _ _ _ _ Hg1.out]; rfl
          have hc2 : w3.cell? ⟨w2.heap.size, 0, none⟩ = some (.slice ag G.length cg) := by rw [cell_of_row w3 _ _ _ _ _ Hg2.out]; rfl
          have hlt1 : w1.heap.size < w3.heap.size := World.block_lt_of_cell? w3 _ hc1
          have hlt2 : w2.heap.size < w3.heap.size := World.block_lt_of_cell? w3 _ hc2
          go_wp2_with (go_at_call 24; fail)
          obtain ⟨W3, hW3⟩ : ∃ W3, W3 = w3.alloc (.cells #[.slice ap Pm.length cp] 27) := ⟨_, rfl⟩
          rw [← hW3]
          have b : Below w3.heap.size w3 W3 := by rw [hW3]; exact below1 _ _
          have Hg3 : Hid (W3.heap[w3.heap.size]? = some (.cells #[.slice ap Pm.length cp] 27)) := by show W3.heap[_]? = _; rw [hW3]; exact heap_new1 _ _
          clear hW3 hc1 hc2 hlt1 hlt2
          have HFf' : Hid (FV W3 (.agg #[.slice af F.length cf]) F) := HFf.out.below b
          clear HFf
          have HFf := HFf'
          clear HFf'
          have HGg' : Hid (FV W3 (.agg #[.slice ag G.length cg]) G) := HGg.out.below b
          clear HGg
          have HGg := HGg'
          clear HGg'
          have Hg1' : Hid (W3.heap[w1.heap.size]? = some _) := (b.block (w1.heap.size) (Array.getElem?_eq_some_iff.1 Hg1.out).1).trans Hg1.out
          clear Hg1
          have Hg1 := Hg1'
          clear Hg1'
          have Hg2' : Hid (W3.heap[w2.heap.size]? = some _) := (b.block (w2.heap.size) (Array.getElem?_eq_some_iff.1 Hg2.out).1).trans Hg2.out
          clear Hg2
          have Hg2 := Hg2'
          clear Hg2'
          have HPp' : Hid (FV W3 (.agg #[.slice ap Pm.length cp]) Pm) := HPp.out.below b
          clear HPp
          have HPp := HPp'
          clear HPp'
          have HA' : Hid (IsLL W3 (.slice al L.length cl) L) := HA.out.below b
          have HR' : Hid (IsLL W3 (.slice ar R.length cr) R) := HR.out.below b
          have HS' : Hid (IsL W3 (.slice az S.length cs) S) := HS.out.below b
          have HB' : Hid (Below w.heap.size w W3) := below_step HB.out b
          clear HA HR HS HB b
          have HA := HA'
          have HR := HR'
          have HS := HS'
          have HB := HB'
          clear HA' HR' HS' HB'
          obtain ⟨Tm, hT⟩ := fam_ex (unionsL F G)
          have HOt : Hid (FamOf (unionsL F G) Tm) := hT
          have HFG : Hid (F.length * G.length ≤ 144) := Nat.mul_le_mul HFl.out HGl.out
          have HTo : Hid (ovB Tm 5000 = false) := by
            show _ = _
            have h1 := fam_len hT
            rw [len_unions] at h1
            have h2 := HFG.out
            unfold ovB
            rw [decide_eq_false (by omega), decide_eq_false (by omega)]; rfl
          clear hT
          refine (C.times _ _ _ F G Tm 5000 (C.keep HE.out HB.out) HFf.out HGg.out HOf.out.1 HOg.out.1 HOt.out (Nat.le_trans HFG.out (by decide)) (fam_sets HOf.out fun j hj => Nat.le_trans (HL.out.2 j hj) (by decide)) (fam_sets HOg.out fun j hj => Nat.le_trans (HRs.out.2 j hj) (by decide))).mono ?_
          rintro e w4 ⟨hr, b⟩
          rcases hr with ⟨-, u, rfl, hf⟩ | ⟨hn, -⟩
          case inr => rw [HTo.out] at hn; cases hn
          have HFf' : Hid (FV w4 (.agg #[.slice af F.length cf]) F) := HFf.out.below b
          clear HFf
          have HFf := HFf'
          clear HFf'
          have HGg' : Hid (FV w4 (.agg #[.slice ag G.length cg]) G) := HGg.out.below b
          clear HGg
          have HGg := HGg'
          clear HGg'
          have Hg1' : Hid (w4.heap[w1.heap.size]? = some _) := (b.block (w1.heap.size) (Array.getElem?_eq_some_iff.1 Hg1.out).1).trans Hg1.out
          clear Hg1
          have Hg1 := Hg1'
          clear Hg1'
          have Hg2' : Hid (w4.heap[w2.heap.size]? = some _) := (b.block (w2.heap.size) (Array.getElem?_eq_some_iff.1 Hg2.out).1).trans Hg2.out
          clear Hg2
          have Hg2 := Hg2'
          clear Hg2'
          have HPp' : Hid (FV w4 (.agg #[.slice ap Pm.length cp]) Pm) := HPp.out.below b
          clear HPp
          have HPp := HPp'
          clear HPp'
          have Hg3' : Hid (w4.heap[w3.heap.size]? = some _) := (b.block (w3.heap.size) (Array.getElem?_eq_some_iff.1 Hg3.out).1).trans Hg3.out
          clear Hg3
          have Hg3 := Hg3'
          clear Hg3'
          have HA' : Hid (IsLL w4 (.slice al L.length cl) L) := HA.out.below b
          have HR' : Hid (IsLL w4 (.slice ar R.length cr) R) := HR.out.below b
          have HS' : Hid (IsL w4 (.slice az S.length cs) S) := HS.out.below b
          have HB' : Hid (Below w.heap.size w w4) := below_step HB.out b
          clear HA HR HS HB b
          have HA := HA'
          have HR := HR'
          have HS := HS'
          have HB := HB'
          clear HA' HR' HS' HB'
          obtain ⟨at', ct, Vt, rfl, hrest⟩ := id hf
          have HTt : Hid (FV w4 (.agg #[.slice at' Tm.length ct]) Tm) := hf
          clear hrest hf HTo
          go_wp2
          go_upto_region 7 with fail
          obtain ⟨W4, hW4⟩ : ∃ W4, W4 = w4.alloc (.cells #[.slice at' Tm.length ct] 27) := ⟨_, rfl⟩
          rw [← hW4]
          have b : Below w4.heap.size w4 W4 := by rw [hW4]; exact below1 _ _
          have Hg4 : Hid (W4.heap[w4.heap.size]? = some (.cells #[.slice at' Tm.length ct] 27)) := by show W4.heap[_]? = _; rw [hW4]; exact heap_new1 _ _
          clear hW4
          have HFf' : Hid (FV W4 (.agg #[.slice af F.length cf]) F) := HFf.out.below b
          clear HFf
          have HFf := HFf'
          clear HFf'
          have HGg' : Hid (FV W4 (.agg #[.slice ag G.length cg]) G) := HGg.out.below b
          clear HGg
          have HGg := HGg'
          clear HGg'
          have Hg1' : Hid (W4.heap[w1.heap.size]? = some _) := (b.block (w1.heap.size) (Array.getElem?_eq_some_iff.1 Hg1.out).1).trans Hg1.out
          clear Hg1
          have Hg1 := Hg1'
          clear Hg1'
          have Hg2' : Hid (W4.heap[w2.heap.size]? = some _) := (b.block (w2.heap.size) (Array.getElem?_eq_some_iff.1 Hg2.out).1).trans Hg2.out
          clear Hg2
          have Hg2 := Hg2'
          clear Hg2'
          have HPp' : Hid (FV W4 (.agg #[.slice ap Pm.length cp]) Pm) := HPp.out.below b
          clear HPp
          have HPp := HPp'
          clear HPp'
          have Hg3' : Hid (W4.heap[w3.heap.size]? = some _) := (b.block (w3.heap.size) (Array.getElem?_eq_some_iff.1 Hg3.out).1).trans Hg3.out
          clear Hg3
          have Hg3 := Hg3'
          clear Hg3'
          have HTt' : Hid (FV W4 (.agg #[.slice at' Tm.length ct]) Tm) := HTt.out.below b
          clear HTt
          have HTt := HTt'
          clear HTt'
          have HA' : Hid (IsLL W4 (.slice al L.length cl) L) := HA.out.below b
          have HR' : Hid (IsLL W4 (.slice ar R.length cr) R) := HR.out.below b
          have HS' : Hid (IsL W4 (.slice az S.length cs) S) := HS.out.below b
          have HB' : Hid (Below w.heap.size w W4) := below_step HB.out b
          clear HA HR HS HB b
          have HA := HA'
          have HR := HR'
          have HS := HS'
          have HB := HB'
          clear HA' HR' HS' HB'
          obtain ⟨r1, hr1⟩ : ∃ r : Bool, r = true ↔ Fo.has F S := by classical exact ⟨decide (Fo.has F S), by simp⟩
          obtain ⟨r2, hr2⟩ : ∃ r : Bool, r = true ↔ Fo.has G S := by classical exact ⟨decide (Fo.has G S), by simp⟩
          have HR1 : Hid (Dc r1 (Fo.has F S)) := hr1
          have HR2 : Hid (Dc r2 (Fo.has G S)) := hr2
          have HRp : Hid (Dc (r1 || r2) (Fo.has Pm S)) := by
            show _ ↔ _
            rw [HOp.out.2 S, has_app, Bool.or_eq_true, hr1, hr2]
          have HRt : Hid (Dc (r1 && r2) (Fo.has Tm S)) := by
            show _ ↔ _
            rw [HOt.out.2 S, has_unions, Bool.and_eq_true, hr1, hr2]
          have HSl : Hid (S.length ≤ 1000000) := Nat.le_trans hS (by decide)
          have hk1 : W4.cell? ⟨w1.heap.size, 0, none⟩ = some (.slice af F.length cf) := by rw [cell_of_row W4 _ _ _ _ _ Hg1.out]; rfl
          have hk2 : W4.cell? ⟨w2.heap.size, 0, none⟩ = some (.slice ag G.length cg) := by rw [cell_of_row W4 _ _ _ _ _ Hg2.out]; rfl
          have hk3 : W4.cell? ⟨w3.heap.size, 0, none⟩ = some (.slice ap Pm.length cp) := by rw [cell_of_row W4 _ _ _ _ _ Hg3.out]; rfl
          have hk4 : W4.cell? ⟨w4.heap.size, 0, none⟩ = some (.slice at' Tm.length ct) := by rw [cell_of_row W4 _ _ _ _ _ Hg4.out]; rfl
          have m1 : w1.heap.size < W4.heap.size := World.block_lt_of_cell? W4 _ hk1
          have m2 : w2.heap.size < W4.heap.size := World.block_lt_of_cell? W4 _ hk2
          have m3 : w3.heap.size < W4.heap.size := World.block_lt_of_cell? W4 _ hk3
          have m4 : w4.heap.size < W4.heap.size := World.block_lt_of_cell? W4 _ hk4
          have HW : Below W4.heap.size W4 W4 := below_refl _
          have HBW : Hid (Below w.heap.size w W4) := HB
          clear hr1 hr2 HB hS hS' hlt1
          cases r1
          · skip
            refine wp_region_held_drew (S := (fun w' => Below W4.heap.size W4 w')) (by kernel_rfl) ?_ (fun hHeld => ?_)
            · (try dsimp only); first | exact HW | exact HW.drew
            refine wpAnyH_take (i := 0) (oi := { dst := some 58, op := Op.move (Operand.tmp 8), type := 28, pos := "law.go:143", after := #[], guard := none }) (v := ?vu1) rfl (by kernel_rfl) (by kernel_rfl) (by kernel_rfl) (fun _ _ _ h => h) (Or.inl ⟨by rfl, ?hyu1⟩) (by assumption) ?restu1
            case hyu1 => (intro w hSw; (try dsimp only at hSw); go_simp; (try with_reducible rfl))
            try simp only [Act.put, List.setIfInBounds_toArray, List.set_cons_zero, List.set_cons_succ]
            refine wpAnyH_take (i := 1) (oi := { dst := some 59, op := Op.binOp BinOp.eql 28 (Operand.tmp 58) (Operand.const (Value.int IntKind.i64 0)) 28, type := 4, pos := "law.go:143", after := #[{ on := 0, ground := Ground.data }], guard := none }) (v := ?vu2) rfl (by kernel_rfl) (by kernel_rfl) (by kernel_rfl) (fun _ _ _ h => h) (Or.inl ⟨by rfl, ?hyu2⟩) (by assumption) ?restu2
            case hyu2 => (intro w hSw; (try dsimp only at hSw); go_simp; (try with_reducible rfl))
            try simp only [Act.put, List.setIfInBounds_toArray, List.set_cons_zero, List.set_cons_succ]
            refine wpAnyH_take (i := 2) (oi := { dst := some 60, op := Op.move (Operand.tmp 59), type := 4, pos := "law.go:143", after := #[{ on := 1, ground := Ground.data }], guard := none }) (v := ?vu3) rfl (by kernel_rfl) (by kernel_rfl) (by kernel_rfl) (fun _ _ _ h => h) (Or.inl ⟨by rfl, ?hyu3⟩) (by assumption) ?restu3
            case hyu3 => (intro w hSw; (try dsimp only at hSw); go_simp; (try with_reducible rfl))
            try simp only [Act.put, List.setIfInBounds_toArray, List.set_cons_zero, List.set_cons_succ]
            refine wpAnyH_take (i := 3) (oi := { dst := some 61, op := Op.move (Operand.tmp 10), type := 28, pos := "law.go:143", after := #[{ on := 2, ground := Ground.guard }], guard := some (2, true) }) (v := ?vu4) rfl (by kernel_rfl) (by kernel_rfl) (by kernel_rfl) (fun _ _ _ h => h) (Or.inl ⟨by rfl, ?hyu4⟩) (by assumption) ?restu4
            case hyu4 => (intro w hSw; (try dsimp only at hSw); go_simp; (try with_reducible rfl))
            try simp only [Act.put, List.setIfInBounds_toArray, List.set_cons_zero, List.set_cons_succ]
            refine wpAnyH_take (i := 4) (oi := { dst := some 62, op := Op.binOp BinOp.eql 28 (Operand.tmp 61) (Operand.const (Value.int IntKind.i64 0)) 28, type := 4, pos := "law.go:143", after := #[{ on := 3, ground := Ground.data }, { on := 2, ground := Ground.guard }], guard := some (2, true) }) (v := ?vu5) rfl (by kernel_rfl) (by kernel_rfl) (by kernel_rfl) (fun _ _ _ h => h) (Or.inl ⟨by rfl, ?hyu5⟩) (by assumption) ?restu5
            case hyu5 => (intro w hSw; (try dsimp only at hSw); go_simp; (try with_reducible rfl))
            try simp only [Act.put, List.setIfInBounds_toArray, List.set_cons_zero, List.set_cons_succ]
            refine wpAnyH_take (i := 5) (oi := { dst := some 63, op := Op.pick (Operand.tmp 60) (Operand.tmp 62) (Operand.const (Value.bool false)), type := 4, pos := "law.go:143", after := #[{ on := 2, ground := Ground.data }, { on := 4, ground := Ground.data }], guard := none }) (v := ?vu6) rfl (by kernel_rfl) (by kernel_rfl) (by kernel_rfl) (fun _ _ _ h => h) (Or.inl ⟨by rfl, ?hyu6⟩) (by assumption) ?restu6
            case hyu6 => (intro w hSw; (try dsimp only at hSw); go_simp; (try with_reducible rfl))
            try simp only [Act.put, List.setIfInBounds_toArray, List.set_cons_zero, List.set_cons_succ]
            refine wpAnyH_take (i := 6) (oi := { dst := some 64, op := Op.move (Operand.tmp 63), type := 4, pos := "law.go:143", after := #[{ on := 5, ground := Ground.data }, { on := 2, ground := Ground.chain }], guard := none }) (v := ?vu7) rfl (by kernel_rfl) (by kernel_rfl) (by kernel_rfl) (fun _ _ _ h => h) (Or.inl ⟨by rfl, ?hyu7⟩) (by assumption) ?restu7
            case hyu7 => (intro w hSw; (try dsimp only at hSw); go_simp; (try with_reducible rfl))
            try simp only [Act.put, List.setIfInBounds_toArray, List.set_cons_zero, List.set_cons_succ]
            refine wpAnyH_take (i := 7) (oi := { dst := some 65, op := Op.move (Operand.tmp 12), type := 28, pos := "law.go:143", after := #[{ on := 6, ground := Ground.guard }], guard := some (6, true) }) (v := ?vu8) rfl (by kernel_rfl) (by kernel_rfl) (by kernel_rfl) (fun _ _ _ h => h) (Or.inl ⟨by rfl, ?hyu8⟩) (by assumption) ?restu8
            case hyu8 => (intro w hSw; (try dsimp only at hSw); go_simp; (try with_reducible rfl))
            try simp only [Act.put, List.setIfInBounds_toArray, List.set_cons_zero, List.set_cons_succ]
            refine wpAnyH_take (i := 8) (oi := { dst := some 66, op := Op.binOp BinOp.eql 28 (Operand.tmp 65) (Operand.const (Value.int IntKind.i64 0)) 28, type := 4, pos := "law.go:143", after := #[{ on := 7, ground := Ground.data }, { on := 6, ground := Ground.guard }], guard := some (6, true) }) (v := ?vu9) rfl (by kernel_rfl) (by kernel_rfl) (by kernel_rfl) (fun _ _ _ h => h) (Or.inl ⟨by rfl, ?hyu9⟩) (by assumption) ?restu9
            case hyu9 => (intro w hSw; (try dsimp only at hSw); go_simp; (try with_reducible rfl))
            try simp only [Act.put, List.setIfInBounds_toArray, List.set_cons_zero, List.set_cons_succ]
            refine wpAnyH_take (i := 9) (oi := { dst := some 67, op := Op.pick (Operand.tmp 64) (Operand.tmp 66) (Operand.const (Value.bool false)), type := 4, pos := "law.go:143", after := #[{ on := 6, ground := Ground.data }, { on := 8, ground := Ground.data }], guard := none }) (v := ?vu10) rfl (by kernel_rfl) (by kernel_rfl) (by kernel_rfl) (fun _ _ _ h => h) (Or.inl ⟨by rfl, ?hyu10⟩) (by assumption) ?restu10
            case hyu10 => (intro w hSw; (try dsimp only at hSw); go_simp; (try with_reducible rfl))
            try simp only [Act.put, List.setIfInBounds_toArray, List.set_cons_zero, List.set_cons_succ]
            refine wpAnyH_take (i := 10) (oi := { dst := some 68, op := Op.move (Operand.tmp 67), type := 4, pos := "law.go:143", after := #[{ on := 9, ground := Ground.data }, { on := 6, ground := Ground.chain }], guard := none }) (v := ?vu11) rfl (by kernel_rfl) (by kernel_rfl) (by kernel_rfl) (fun _ _ _ h => h) (Or.inl ⟨by rfl, ?hyu11⟩) (by assumption) ?restu11
            case hyu11 => (intro w hSw; (try dsimp only at hSw); go_simp; (try with_reducible rfl))
            try simp only [Act.put, List.setIfInBounds_toArray, List.set_cons_zero, List.set_cons_succ]
            refine wpAnyH_take (i := 11) (oi := { dst := some 69, op := Op.move (Operand.tmp 14), type := 28, pos := "law.go:143", after := #[{ on := 10, ground := Ground.guard }], guard := some (10, true) }) (v := ?vu12) rfl (by kernel_rfl) (by kernel_rfl) (by kernel_rfl) (fun _ _ _ h => h) (Or.inl ⟨by rfl, ?hyu12⟩) (by assumption) ?restu12
            case hyu12 => (intro w hSw; (try dsimp only at hSw); go_simp; (try with_reducible rfl))
            try simp only [Act.put, List.setIfInBounds_toArray, List.set_cons_zero, List.set_cons_succ]
            refine wpAnyH_take (i := 12) (oi := { dst := some 70, op := Op.binOp BinOp.eql 28 (Operand.tmp 69) (Operand.const (Value.int IntKind.i64 0)) 28, type := 4, pos := "law.go:143", after := #[{ on := 11, ground := Ground.data }, { on := 10, ground := Ground.guard }], guard := some (10, true) }) (v := ?vu13) rfl (by kernel_rfl) (by kernel_rfl) (by kernel_rfl) (fun _ _ _ h => h) (Or.inl ⟨by rfl, ?hyu13⟩) (by assumption) ?restu13
            case hyu13 => (intro w hSw; (try dsimp only at hSw); go_simp; (try with_reducible rfl))
            try simp only [Act.put, List.setIfInBounds_toArray, List.set_cons_zero, List.set_cons_succ]
            refine wpAnyH_take (i := 13) (oi := { dst := some 71, op := Op.pick (Operand.tmp 68) (Operand.tmp 70) (Operand.const (Value.bool false)), type := 4, pos := "law.go:143", after := #[{ on := 10, ground := Ground.data }, { on := 12, ground := Ground.data }], guard := none }) (v := ?vu14) rfl (by kernel_rfl) (by kernel_rfl) (by kernel_rfl) (fun _ _ _ h => h) (Or.inl ⟨by rfl, ?hyu14⟩) (by assumption) ?restu14
            case hyu14 => (intro w hSw; (try dsimp only at hSw); go_simp; (try with_reducible rfl))
            try simp only [Act.put, List.setIfInBounds_toArray, List.set_cons_zero, List.set_cons_succ]
            refine wpAnyH_take (i := 14) (oi := { dst := some 72, op := Op.move (Operand.tmp 71), type := 4, pos := "law.go:143", after := #[{ on := 13, ground := Ground.data }, { on := 10, ground := Ground.chain }], guard := none }) (v := ?vu15) rfl (by kernel_rfl) (by kernel_rfl) (by kernel_rfl) (fun _ _ _ h => h) (Or.inl ⟨by rfl, ?hyu15⟩) (by assumption) ?restu15
            case hyu15 => (intro w hSw; (try dsimp only at hSw); go_simp; (try with_reducible rfl))
            try simp only [Act.put, List.setIfInBounds_toArray, List.set_cons_zero, List.set_cons_succ]
            refine wpAnyH_take (i := 15) (oi := { dst := some 73, op := Op.load 27 (Operand.tmp 11), type := 27, pos := "law.go:143", after := #[{ on := 14, ground := Ground.guard }], guard := some (14, true) }) (v := ?vu16) rfl (by kernel_rfl) (by kernel_rfl) (by kernel_rfl) (fun _ _ _ h => h) (Or.inl ⟨by rfl, ?hyu16⟩) (by assumption) ?restu16
            case hyu16 => (intro w hSw; (try dsimp only at hSw); have q1 := (Below.cell hSw (p := ⟨w3.heap.size, 0, none⟩) m3).trans hk3; go_simp; (try with_reducible rfl))
            try simp only [Act.put, List.setIfInBounds_toArray, List.set_cons_zero, List.set_cons_succ]
            refine wpAnyH_take (i := 16) (oi := { dst := some 74, op := Op.move (Operand.tmp 2), type := 23, pos := "law.go:143", after := #[{ on := 14, ground := Ground.guard }], guard := some (14, true) }) (v := ?vu17) rfl (by kernel_rfl) (by kernel_rfl) (by kernel_rfl) (fun _ _ _ h => h) (Or.inl ⟨by rfl, ?hyu17⟩) (by assumption) ?restu17
            case hyu17 => (intro w hSw; (try dsimp only at hSw); go_simp; (try with_reducible rfl))
            try simp only [Act.put, List.setIfInBounds_toArray, List.set_cons_zero, List.set_cons_succ]
            refine wpAnyH_take (i := 18) (oi := { dst := some 76, op := Op.load 27 (Operand.tmp 7), type := 27, pos := "law.go:143", after := #[{ on := 14, ground := Ground.guard }], guard := some (14, true) }) (v := ?vu18) rfl (by kernel_rfl) (by kernel_rfl) (by kernel_rfl) (fun _ _ _ h => h) (Or.inl ⟨by rfl, ?hyu18⟩) (by assumption) ?restu18
            case hyu18 => (intro w hSw; (try dsimp only at hSw); have q1 := (Below.cell hSw (p := ⟨w1.heap.size, 0, none⟩) m1).trans hk1; go_simp; (try with_reducible rfl))
            try simp only [Act.put, List.setIfInBounds_toArray, List.set_cons_zero, List.set_cons_succ]
            refine wpAnyH_take (i := 19) (oi := { dst := some 77, op := Op.move (Operand.tmp 2), type := 23, pos := "law.go:143", after := #[{ on := 14, ground := Ground.guard }], guard := some (14, true) }) (v := ?vu19) rfl (by kernel_rfl) (by kernel_rfl) (by kernel_rfl) (fun _ _ _ h => h) (Or.inl ⟨by rfl, ?hyu19⟩) (by assumption) ?restu19
            case hyu19 => (intro w hSw; (try dsimp only at hSw); go_simp; (try with_reducible rfl))
            try simp only [Act.put, List.setIfInBounds_toArray, List.set_cons_zero, List.set_cons_succ]
            refine wpAnyH_ready (rs := [17]) (by kernel_rfl) (by simp) ?_
            refine AllReadyH.cons (o := { dst := some 75, op := Op.call { callee := Callee.value (Operand.func 20), args := #[Operand.tmp 73, Operand.tmp 74], argTypes := #[27, 23] }, type := 4, pos := "law.go:143", after := #[{ on := 15, ground := Ground.data }, { on := 16, ground := Ground.data }, { on := 14, ground := Ground.chain }, { on := 14, ground := Ground.guard }], guard := some (14, true) }) rfl (fun K hK => ?_) AllReadyH.nil
            go_simp
            go_at_call 20
            refine (C.has _ _ _ Pm S r2 (C.keep HE.out (below_step HBW.out (by first | exact HW | exact HW.drew))) (by exact HPp.out.below (by first | exact HW | exact HW.drew)) (by exact HS.out.below (by first | exact HW | exact HW.drew)) HSl.out HRp.out).mono ?_
            rintro e z0 ⟨rfl, b⟩
            replace HW := below_step (by first | exact HW | exact HW.drew) b
            clear b
            refine hK.out _ _ ?_ (fun hHeldB => ?_)
            · (try dsimp only); exact HW
            clear hK K hHeld
            have hHeld := hHeldB
            clear hHeldB
            try simp only [Act.put, List.setIfInBounds_toArray, List.set_cons_zero, List.set_cons_succ]
            refine wpAnyH_ready (rs := [20]) (by kernel_rfl) (by simp) ?_
            refine AllReadyH.cons (o := { dst := some 78, op := Op.call { callee := Callee.value (Operand.func 20), args := #[Operand.tmp 76, Operand.tmp 77], argTypes := #[27, 23] }, type := 4, pos := "law.go:143", after := #[{ on := 18, ground := Ground.data }, { on := 19, ground := Ground.data }, { on := 17, ground := Ground.chain }, { on := 14, ground := Ground.guard }], guard := some (14, true) }) rfl (fun K hK => ?_) AllReadyH.nil
            go_simp
            go_at_call 20
            refine (C.has _ _ _ F S false (C.keep HE.out (below_step HBW.out (by first | exact HW | exact HW.drew))) (by exact HFf.out.below (by first | exact HW | exact HW.drew)) (by exact HS.out.below (by first | exact HW | exact HW.drew)) HSl.out HR1.out).mono ?_
            rintro e z1 ⟨rfl, b⟩
            replace HW := below_step (by first | exact HW | exact HW.drew) b
            clear b
            refine hK.out _ _ ?_ (fun hHeldB => ?_)
            · (try dsimp only); exact HW
            clear hK K hHeld
            have hHeld := hHeldB
            clear hHeldB
            try simp only [Act.put, List.setIfInBounds_toArray, List.set_cons_zero, List.set_cons_succ]
            refine wpAnyH_take (i := 21) (oi := { dst := some 79, op := Op.move (Operand.tmp 78), type := 4, pos := "law.go:143", after := #[{ on := 20, ground := Ground.data }, { on := 20, ground := Ground.chain }, { on := 14, ground := Ground.guard }], guard := some (14, true) }) (v := ?vu20) rfl (by kernel_rfl) (by kernel_rfl) (by kernel_rfl) (fun _ _ _ h => h) (Or.inl ⟨by rfl, ?hyu20⟩) (by assumption) ?restu20
            case hyu20 => (intro w hSw; (try dsimp only at hSw); go_simp; (try with_reducible rfl))
            try simp only [Act.put, List.setIfInBounds_toArray, List.set_cons_zero, List.set_cons_succ]
            refine wpAnyH_take (i := 22) (oi := { dst := some 80, op := Op.load 27 (Operand.tmp 9), type := 27, pos := "law.go:143", after := #[{ on := 21, ground := Ground.guard }], guard := some (21, false) }) (v := ?vu21) rfl (by kernel_rfl) (by kernel_rfl) (by kernel_rfl) (fun _ _ _ h => h) (Or.inl ⟨by rfl, ?hyu21⟩) (by assumption) ?restu21
            case hyu21 => (intro w hSw; (try dsimp only at hSw); have q1 := (Below.cell hSw (p := ⟨w2.heap.size, 0, none⟩) m2).trans hk2; go_simp; (try with_reducible rfl))
            try simp only [Act.put, List.setIfInBounds_toArray, List.set_cons_zero, List.set_cons_succ]
            refine wpAnyH_take (i := 23) (oi := { dst := some 81, op := Op.move (Operand.tmp 2), type := 23, pos := "law.go:143", after := #[{ on := 21, ground := Ground.guard }], guard := some (21, false) }) (v := ?vu22) rfl (by kernel_rfl) (by kernel_rfl) (by kernel_rfl) (fun _ _ _ h => h) (Or.inl ⟨by rfl, ?hyu22⟩) (by assumption) ?restu22
            case hyu22 => (intro w hSw; (try dsimp only at hSw); go_simp; (try with_reducible rfl))
            try simp only [Act.put, List.setIfInBounds_toArray, List.set_cons_zero, List.set_cons_succ]
            refine wpAnyH_ready (rs := [24]) (by kernel_rfl) (by simp) ?_
            refine AllReadyH.cons (o := { dst := some 82, op := Op.call { callee := Callee.value (Operand.func 20), args := #[Operand.tmp 80, Operand.tmp 81], argTypes := #[27, 23] }, type := 4, pos := "law.go:143", after := #[{ on := 22, ground := Ground.data }, { on := 23, ground := Ground.data }, { on := 21, ground := Ground.chain }, { on := 21, ground := Ground.guard }], guard := some (21, false) }) rfl (fun K hK => ?_) AllReadyH.nil
            go_simp
            go_at_call 20
            refine (C.has _ _ _ G S r2 (C.keep HE.out (below_step HBW.out (by first | exact HW | exact HW.drew))) (by exact HGg.out.below (by first | exact HW | exact HW.drew)) (by exact HS.out.below (by first | exact HW | exact HW.drew)) HSl.out HR2.out).mono ?_
            rintro e z2 ⟨rfl, b⟩
            replace HW := below_step (by first | exact HW | exact HW.drew) b
            clear b
            refine hK.out _ _ ?_ (fun hHeldB => ?_)
            · (try dsimp only); exact HW
            clear hK K hHeld
            have hHeld := hHeldB
            clear hHeldB
            try simp only [Act.put, List.setIfInBounds_toArray, List.set_cons_zero, List.set_cons_succ]
            refine wpAnyH_take (i := 25) (oi := { dst := some 83, op := Op.pick (Operand.tmp 79) (Operand.const (Value.bool true)) (Operand.tmp 82), type := 4, pos := "law.go:143", after := #[{ on := 21, ground := Ground.data }, { on := 24, ground := Ground.data }, { on := 14, ground := Ground.guard }], guard := some (14, true) }) (v := ?vu23) rfl (by kernel_rfl) (by kernel_rfl) (by kernel_rfl) (fun _ _ _ h => h) (Or.inl ⟨by rfl, ?hyu23⟩) (by assumption) ?restu23
            case hyu23 => (intro w hSw; (try dsimp only at hSw); go_simp; (try with_reducible rfl))
            try simp only [Act.put, List.setIfInBounds_toArray, List.set_cons_zero, List.set_cons_succ]
            refine wpAnyH_take (i := 26) (oi := { dst := some 84, op := Op.binOp BinOp.eql 4 (Operand.tmp 75) (Operand.tmp 83) 4, type := 4, pos := "law.go:143", after := #[{ on := 17, ground := Ground.data }, { on := 25, ground := Ground.data }, { on := 14, ground := Ground.guard }], guard := some (14, true) }) (v := ?vu24) rfl (by kernel_rfl) (by kernel_rfl) (by kernel_rfl) (fun _ _ _ h => h) (Or.inl ⟨by rfl, ?hyu24⟩) (by assumption) ?restu24
            case hyu24 => (intro w hSw; (try dsimp only at hSw); go_simp; (try with_reducible rfl))
            try simp only [Act.put, List.setIfInBounds_toArray, List.set_cons_zero, List.set_cons_succ]
            refine wpAnyH_take (i := 27) (oi := { dst := some 85, op := Op.pick (Operand.tmp 72) (Operand.tmp 84) (Operand.const (Value.bool false)), type := 4, pos := "law.go:143", after := #[{ on := 14, ground := Ground.data }, { on := 26, ground := Ground.data }], guard := none }) (v := ?vu25) rfl (by kernel_rfl) (by kernel_rfl) (by kernel_rfl) (fun _ _ _ h => h) (Or.inl ⟨by rfl, ?hyu25⟩) (by assumption) ?restu25
            case hyu25 => (intro w hSw; (try dsimp only at hSw); go_simp; (try with_reducible rfl))
            try simp only [Act.put, List.setIfInBounds_toArray, List.set_cons_zero, List.set_cons_succ]
            refine wpAnyH_take (i := 28) (oi := { dst := some 86, op := Op.move (Operand.tmp 85), type := 4, pos := "law.go:143", after := #[{ on := 27, ground := Ground.data }, { on := 24, ground := Ground.chain }], guard := none }) (v := ?vu26) rfl (by kernel_rfl) (by kernel_rfl) (by kernel_rfl) (fun _ _ _ h => h) (Or.inl ⟨by rfl, ?hyu26⟩) (by assumption) ?restu26
            case hyu26 => (intro w hSw; (try dsimp only at hSw); go_simp; (try with_reducible rfl))
            try simp only [Act.put, List.setIfInBounds_toArray, List.set_cons_zero, List.set_cons_succ]
            refine wpAnyH_take (i := 29) (oi := { dst := some 87, op := Op.load 27 (Operand.tmp 13), type := 27, pos := "law.go:143", after := #[{ on := 28, ground := Ground.guard }], guard := some (28, true) }) (v := ?vu27) rfl (by kernel_rfl) (by kernel_rfl) (by kernel_rfl) (fun _ _ _ h => h) (Or.inl ⟨by rfl, ?hyu27⟩) (by assumption) ?restu27
            case hyu27 => (intro w hSw; (try dsimp only at hSw); have q1 := (Below.cell hSw (p := ⟨w4.heap.size, 0, none⟩) m4).trans hk4; go_simp; (try with_reducible rfl))
            try simp only [Act.put, List.setIfInBounds_toArray, List.set_cons_zero, List.set_cons_succ]
            refine wpAnyH_take (i := 30) (oi := { dst := some 88, op := Op.move (Operand.tmp 2), type := 23, pos := "law.go:143", after := #[{ on := 28, ground := Ground.guard }], guard := some (28, true) }) (v := ?vu28) rfl (by kernel_rfl) (by kernel_rfl) (by kernel_rfl) (fun _ _ _ h => h) (Or.inl ⟨by rfl, ?hyu28⟩) (by assumption) ?restu28
            case hyu28 => (intro w hSw; (try dsimp only at hSw); go_simp; (try with_reducible rfl))
            try simp only [Act.put, List.setIfInBounds_toArray, List.set_cons_zero, List.set_cons_succ]
            refine wpAnyH_take (i := 32) (oi := { dst := some 90, op := Op.load 27 (Operand.tmp 7), type := 27, pos := "law.go:143", after := #[{ on := 28, ground := Ground.guard }], guard := some (28, true) }) (v := ?vu29) rfl (by kernel_rfl) (by kernel_rfl) (by kernel_rfl) (fun _ _ _ h => h) (Or.inl ⟨by rfl, ?hyu29⟩) (by assumption) ?restu29
            case hyu29 => (intro w hSw; (try dsimp only at hSw); have q1 := (Below.cell hSw (p := ⟨w1.heap.size, 0, none⟩) m1).trans hk1; go_simp; (try with_reducible rfl))
            try simp only [Act.put, List.setIfInBounds_toArray, List.set_cons_zero, List.set_cons_succ]
            refine wpAnyH_take (i := 33) (oi := { dst := some 91, op := Op.move (Operand.tmp 2), type := 23, pos := "law.go:143", after := #[{ on := 28, ground := Ground.guard }], guard := some (28, true) }) (v := ?vu30) rfl (by kernel_rfl) (by kernel_rfl) (by kernel_rfl) (fun _ _ _ h => h) (Or.inl ⟨by rfl, ?hyu30⟩) (by assumption) ?restu30
            case hyu30 => (intro w hSw; (try dsimp only at hSw); go_simp; (try with_reducible rfl))
            try simp only [Act.put, List.setIfInBounds_toArray, List.set_cons_zero, List.set_cons_succ]
            refine wpAnyH_ready (rs := [31]) (by kernel_rfl) (by simp) ?_
            refine AllReadyH.cons (o := { dst := some 89, op := Op.call { callee := Callee.value (Operand.func 20), args := #[Operand.tmp 87, Operand.tmp 88], argTypes := #[27, 23] }, type := 4, pos := "law.go:143", after := #[{ on := 29, ground := Ground.data }, { on := 30, ground := Ground.data }, { on := 28, ground := Ground.chain }, { on := 28, ground := Ground.guard }], guard := some (28, true) }) rfl (fun K hK => ?_) AllReadyH.nil
            go_simp
            go_at_call 20
            refine (C.has _ _ _ Tm S false (C.keep HE.out (below_step HBW.out (by first | exact HW | exact HW.drew))) (by exact HTt.out.below (by first | exact HW | exact HW.drew)) (by exact HS.out.below (by first | exact HW | exact HW.drew)) HSl.out HRt.out).mono ?_
            rintro e z3 ⟨rfl, b⟩
            replace HW := below_step (by first | exact HW | exact HW.drew) b
            clear b
            refine hK.out _ _ ?_ (fun hHeldB => ?_)
            · (try dsimp only); exact HW
            clear hK K hHeld
            have hHeld := hHeldB
            clear hHeldB
            try simp only [Act.put, List.setIfInBounds_toArray, List.set_cons_zero, List.set_cons_succ]
            refine wpAnyH_ready (rs := [34]) (by kernel_rfl) (by simp) ?_
            refine AllReadyH.cons (o := { dst := some 92, op := Op.call { callee := Callee.value (Operand.func 20), args := #[Operand.tmp 90, Operand.tmp 91], argTypes := #[27, 23] }, type := 4, pos := "law.go:143", after := #[{ on := 32, ground := Ground.data }, { on := 33, ground := Ground.data }, { on := 31, ground := Ground.chain }, { on := 28, ground := Ground.guard }], guard := some (28, true) }) rfl (fun K hK => ?_) AllReadyH.nil
            go_simp
            go_at_call 20
            refine (C.has _ _ _ F S false (C.keep HE.out (below_step HBW.out (by first | exact HW | exact HW.drew))) (by exact HFf.out.below (by first | exact HW | exact HW.drew)) (by exact HS.out.below (by first | exact HW | exact HW.drew)) HSl.out HR1.out).mono ?_
            rintro e z4 ⟨rfl, b⟩
            replace HW := below_step (by first | exact HW | exact HW.drew) b
            clear b
            refine hK.out _ _ ?_ (fun hHeldB => ?_)
            · (try dsimp only); exact HW
            clear hK K hHeld
            have hHeld := hHeldB
            clear hHeldB
            try simp only [Act.put, List.setIfInBounds_toArray, List.set_cons_zero, List.set_cons_succ]
            refine wpAnyH_take (i := 35) (oi := { dst := some 93, op := Op.move (Operand.tmp 92), type := 4, pos := "law.go:143", after := #[{ on := 34, ground := Ground.data }, { on := 34, ground := Ground.chain }, { on := 28, ground := Ground.guard }], guard := some (28, true) }) (v := ?vu31) rfl (by kernel_rfl) (by kernel_rfl) (by kernel_rfl) (fun _ _ _ h => h) (Or.inl ⟨by rfl, ?hyu31⟩) (by assumption) ?restu31
            case hyu31 => (intro w hSw; (try dsimp only at hSw); go_simp; (try with_reducible rfl))
            try simp only [Act.put, List.setIfInBounds_toArray, List.set_cons_zero, List.set_cons_succ]
            refine wpAnyH_take (i := 36) (oi := { dst := some 94, op := Op.load 27 (Operand.tmp 9), type := 27, pos := "law.go:143", after := #[{ on := 35, ground := Ground.guard }], guard := some (35, true) }) (v := undef) rfl (by kernel_rfl) (by kernel_rfl) (by kernel_rfl) (fun _ _ _ h => h) (Or.inr ⟨by rfl, rfl⟩) (by assumption) ?_
            try simp only [Act.put, List.setIfInBounds_toArray, List.set_cons_zero, List.set_cons_succ]
            refine wpAnyH_take (i := 37) (oi := { dst := some 95, op := Op.move (Operand.tmp 2), type := 23, pos := "law.go:143", after := #[{ on := 35, ground := Ground.guard }], guard := some (35, true) }) (v := undef) rfl (by kernel_rfl) (by kernel_rfl) (by kernel_rfl) (fun _ _ _ h => h) (Or.inr ⟨by rfl, rfl⟩) (by assumption) ?_
            try simp only [Act.put, List.setIfInBounds_toArray, List.set_cons_zero, List.set_cons_succ]
            refine wpAnyH_take (i := 38) (oi := { dst := some 96, op := Op.call { callee := Callee.value (Operand.func 20), args := #[Operand.tmp 94, Operand.tmp 95], argTypes := #[27, 23] }, type := 4, pos := "law.go:143", after := #[{ on := 36, ground := Ground.data }, { on := 37, ground := Ground.data }, { on := 35, ground := Ground.chain }, { on := 35, ground := Ground.guard }], guard := some (35, true) }) (v := undef) rfl (by kernel_rfl) (by kernel_rfl) (by kernel_rfl) (fun _ _ _ h => h) (Or.inr ⟨by rfl, rfl⟩) (by assumption) ?_
            try simp only [Act.put, List.setIfInBounds_toArray, List.set_cons_zero, List.set_cons_succ]
            refine wpAnyH_take (i := 39) (oi := { dst := some 97, op := Op.pick (Operand.tmp 93) (Operand.tmp 96) (Operand.const (Value.bool false)), type := 4, pos := "law.go:143", after := #[{ on := 35, ground := Ground.data }, { on := 38, ground := Ground.data }, { on := 28, ground := Ground.guard }], guard := some (28, true) }) (v := ?vu32) rfl (by kernel_rfl) (by kernel_rfl) (by kernel_rfl) (fun _ _ _ h => h) (Or.inl ⟨by rfl, ?hyu32⟩) (by assumption) ?restu32
            case hyu32 => (intro w hSw; (try dsimp only at hSw); go_simp; (try with_reducible rfl))
            try simp only [Act.put, List.setIfInBounds_toArray, List.set_cons_zero, List.set_cons_succ]
            refine wpAnyH_take (i := 40) (oi := { dst := some 98, op := Op.binOp BinOp.eql 4 (Operand.tmp 89) (Operand.tmp 97) 4, type := 4, pos := "law.go:143", after := #[{ on := 31, ground := Ground.data }, { on := 39, ground := Ground.data }, { on := 28, ground := Ground.guard }], guard := some (28, true) }) (v := ?vu33) rfl (by kernel_rfl) (by kernel_rfl) (by kernel_rfl) (fun _ _ _ h => h) (Or.inl ⟨by rfl, ?hyu33⟩) (by assumption) ?restu33
            case hyu33 => (intro w hSw; (try dsimp only at hSw); go_simp; (try with_reducible rfl))
            try simp only [Act.put, List.setIfInBounds_toArray, List.set_cons_zero, List.set_cons_succ]
            refine wpAnyH_take (i := 41) (oi := { dst := some 99, op := Op.pick (Operand.tmp 86) (Operand.tmp 98) (Operand.const (Value.bool false)), type := 4, pos := "law.go:143", after := #[{ on := 28, ground := Ground.data }, { on := 40, ground := Ground.data }], guard := none }) (v := ?vu34) rfl (by kernel_rfl) (by kernel_rfl) (by kernel_rfl) (fun _ _ _ h => h) (Or.inl ⟨by rfl, ?hyu34⟩) (by assumption) ?restu34
            case hyu34 => (intro w hSw; (try dsimp only at hSw); go_simp; (try with_reducible rfl))
            try simp only [Act.put, List.setIfInBounds_toArray, List.set_cons_zero, List.set_cons_succ]
            refine wpAnyH_take (i := 42) (oi := { dst := some 100, op := Op.move (Operand.tmp 99), type := 4, pos := "law.go:143", after := #[{ on := 41, ground := Ground.data }, { on := 38, ground := Ground.chain }], guard := none }) (v := ?vu35) rfl (by kernel_rfl) (by kernel_rfl) (by kernel_rfl) (fun _ _ _ h => h) (Or.inl ⟨by rfl, ?hyu35⟩) (by assumption) ?restu35
            case hyu35 => (intro w hSw; (try dsimp only at hSw); go_simp; (try with_reducible rfl))
            try simp only [Act.put, List.setIfInBounds_toArray, List.set_cons_zero, List.set_cons_succ]
            refine wpAnyH_take (i := 44) (oi := { dst := some 102, op := Op.move (Operand.tmp 2), type := 23, pos := "law.go:143", after := #[{ on := 42, ground := Ground.guard }], guard := some (42, true) }) (v := ?vu36) rfl (by kernel_rfl) (by kernel_rfl) (by kernel_rfl) (fun _ _ _ h => h) (Or.inl ⟨by rfl, ?hyu36⟩) (by assumption) ?restu36
            case hyu36 => (intro w hSw; (try dsimp only at hSw); go_simp; (try with_reducible rfl))
            try simp only [Act.put, List.setIfInBounds_toArray, List.set_cons_zero, List.set_cons_succ]
            refine wpAnyH_ready (rs := [43]) (by kernel_rfl) (by simp) ?_
            refine AllReadyH.cons (o := { dst := some 101, op := Op.call { callee := Callee.value (Operand.func 29), args := #[], argTypes := #[] }, type := 27, pos := "law.go:143", after := #[{ on := 42, ground := Ground.chain }, { on := 42, ground := Ground.guard }], guard := some (42, true) }) rfl (fun K hK => ?_) AllReadyH.nil
            go_simp
            go_at_call 29
            refine (C.one _ (C.keep HE.out (below_step HBW.out (by first | exact HW | exact HW.drew)))).mono ?_
            rintro e z5 ⟨⟨u1, rfl, hu⟩, b⟩
            replace HW := below_step (by first | exact HW | exact HW.drew) b
            have HU : Hid (FV _ u1 [[]]) := hu
            clear hu
            clear b
            refine hK.out _ _ ?_ (fun hHeldB => ?_)
            · (try dsimp only); exact HW
            clear hK K hHeld
            have hHeld := hHeldB
            clear hHeldB
            try simp only [Act.put, List.setIfInBounds_toArray, List.set_cons_zero, List.set_cons_succ]
            refine wpAnyH_ready (rs := [45]) (by kernel_rfl) (by simp) ?_
            refine AllReadyH.cons (o := { dst := some 103, op := Op.call { callee := Callee.value (Operand.func 20), args := #[Operand.tmp 101, Operand.tmp 102], argTypes := #[27, 23] }, type := 4, pos := "law.go:143", after := #[{ on := 43, ground := Ground.data }, { on := 44, ground := Ground.data }, { on := 43, ground := Ground.chain }, { on := 42, ground := Ground.guard }], guard := some (42, true) }) rfl (fun K hK => ?_) AllReadyH.nil
            go_simp
            go_at_call 20
            refine (C.has _ _ _ [[]] S true (C.keep HE.out (below_step HBW.out (by first | exact HW | exact HW.drew))) (by first | exact HU.out | exact HU.out.below (below_refl _).drew) (by exact HS.out.below (by first | exact HW | exact HW.drew)) HSl.out ⟨fun _ => has_one S, fun _ => rfl⟩).mono ?_
            rintro e z6 ⟨rfl, b⟩
            replace HW := below_step (by first | exact HW | exact HW.drew) b
            clear HU
            clear b
            refine hK.out _ _ ?_ (fun hHeldB => ?_)
            · (try dsimp only); exact HW
            clear hK K hHeld
            have hHeld := hHeldB
            clear hHeldB
            try simp only [Act.put, List.setIfInBounds_toArray, List.set_cons_zero, List.set_cons_succ]
            refine wpAnyH_take (i := 46) (oi := { dst := some 104, op := Op.pick (Operand.tmp 100) (Operand.tmp 103) (Operand.const (Value.bool false)), type := 4, pos := "law.go:143", after := #[{ on := 42, ground := Ground.data }, { on := 45, ground := Ground.data }], guard := none }) (v := ?vu37) rfl (by kernel_rfl) (by kernel_rfl) (by kernel_rfl) (fun _ _ _ h => h) (Or.inl ⟨by rfl, ?hyu37⟩) (by assumption) ?restu37
            case hyu37 => (intro w hSw; (try dsimp only at hSw); go_simp; (try with_reducible rfl))
            try simp only [Act.put, List.setIfInBounds_toArray, List.set_cons_zero, List.set_cons_succ]
            refine wpAnyH_take (i := 47) (oi := { dst := some 105, op := Op.move (Operand.tmp 104), type := 4, pos := "law.go:143", after := #[{ on := 46, ground := Ground.data }, { on := 45, ground := Ground.chain }], guard := none }) (v := ?vu38) rfl (by kernel_rfl) (by kernel_rfl) (by kernel_rfl) (fun _ _ _ h => h) (Or.inl ⟨by rfl, ?hyu38⟩) (by assumption) ?restu38
            case hyu38 => (intro w hSw; (try dsimp only at hSw); go_simp; (try with_reducible rfl))
            try simp only [Act.put, List.setIfInBounds_toArray, List.set_cons_zero, List.set_cons_succ]
            refine wpAnyH_take (i := 49) (oi := { dst := some 107, op := Op.move (Operand.tmp 2), type := 23, pos := "law.go:143", after := #[{ on := 47, ground := Ground.guard }], guard := some (47, true) }) (v := ?vu39) rfl (by kernel_rfl) (by kernel_rfl) (by kernel_rfl) (fun _ _ _ h => h) (Or.inl ⟨by rfl, ?hyu39⟩) (by assumption) ?restu39
            case hyu39 => (intro w hSw; (try dsimp only at hSw); go_simp; (try with_reducible rfl))
            try simp only [Act.put, List.setIfInBounds_toArray, List.set_cons_zero, List.set_cons_succ]
            refine wpAnyH_ready (rs := [48]) (by kernel_rfl) (by simp) ?_
            refine AllReadyH.cons (o := { dst := some 106, op := Op.call { callee := Callee.value (Operand.func 30), args := #[], argTypes := #[] }, type := 27, pos := "law.go:143", after := #[{ on := 47, ground := Ground.chain }, { on := 47, ground := Ground.guard }], guard := some (47, true) }) rfl (fun K hK => ?_) AllReadyH.nil
            go_simp
            go_at_call 30
            refine (C.zero _ (C.keep HE.out (below_step HBW.out (by first | exact HW | exact HW.drew)))).mono ?_
            rintro e z7 ⟨⟨u2, rfl, hu⟩, b⟩
            replace HW := below_step (by first | exact HW | exact HW.drew) b
            have HU : Hid (FV _ u2 []) := hu
            clear hu
            clear b
            refine hK.out _ _ ?_ (fun hHeldB => ?_)
            · (try dsimp only); exact HW
            clear hK K hHeld
            have hHeld := hHeldB
            clear hHeldB
            try simp only [Act.put, List.setIfInBounds_toArray, List.set_cons_zero, List.set_cons_succ]
            refine wpAnyH_ready (rs := [50]) (by kernel_rfl) (by simp) ?_
            refine AllReadyH.cons (o := { dst := some 108, op := Op.call { callee := Callee.value (Operand.func 20), args := #[Operand.tmp 106, Operand.tmp 107], argTypes := #[27, 23] }, type := 4, pos := "law.go:143", after := #[{ on := 48, ground := Ground.data }, { on := 49, ground := Ground.data }, { on := 48, ground := Ground.chain }, { on := 47, ground := Ground.guard }], guard := some (47, true) }) rfl (fun K hK => ?_) AllReadyH.nil
            go_simp
            go_at_call 20
            refine (C.has _ _ _ [] S false (C.keep HE.out (below_step HBW.out (by first | exact HW | exact HW.drew))) (by first | exact HU.out | exact HU.out.below (below_refl _).drew) (by exact HS.out.below (by first | exact HW | exact HW.drew)) HSl.out ⟨fun h => (by cases h), fun h => absurd h (has_nil S)⟩).mono ?_
            rintro e z8 ⟨rfl, b⟩
            replace HW := below_step (by first | exact HW | exact HW.drew) b
            clear HU
            clear b
            refine hK.out _ _ ?_ (fun hHeldB => ?_)
            · (try dsimp only); exact HW
            clear hK K hHeld
            have hHeld := hHeldB
            clear hHeldB
            try simp only [Act.put, List.setIfInBounds_toArray, List.set_cons_zero, List.set_cons_succ]
            refine wpAnyH_take (i := 51) (oi := { dst := some 109, op := Op.unOp UnOp.not 4 (Operand.tmp 108), type := 4, pos := "law.go:143", after := #[{ on := 50, ground := Ground.data }, { on := 47, ground := Ground.guard }], guard := some (47, true) }) (v := ?vu40) rfl (by kernel_rfl) (by kernel_rfl) (by kernel_rfl) (fun _ _ _ h => h) (Or.inl ⟨by rfl, ?hyu40⟩) (by assumption) ?restu40
            case hyu40 => (intro w hSw; (try dsimp only at hSw); go_simp; (try with_reducible rfl))
            try simp only [Act.put, List.setIfInBounds_toArray, List.set_cons_zero, List.set_cons_succ]
            refine wpAnyH_take (i := 52) (oi := { dst := some 110, op := Op.pick (Operand.tmp 105) (Operand.tmp 109) (Operand.const (Value.bool false)), type := 4, pos := "law.go:143", after := #[{ on := 47, ground := Ground.data }, { on := 51, ground := Ground.data }], guard := none }) (v := ?vu41) rfl (by kernel_rfl) (by kernel_rfl) (by kernel_rfl) (fun _ _ _ h => h) (Or.inl ⟨by rfl, ?hyu41⟩) (by assumption) ?restu41
            case hyu41 => (intro w hSw; (try dsimp only at hSw); go_simp; (try with_reducible rfl))
            try simp only [Act.put, List.setIfInBounds_toArray, List.set_cons_zero, List.set_cons_succ]
            refine wpAnyH_take (i := 53) (oi := { dst := some 111, op := Op.move (Operand.tmp 110), type := 4, pos := "law.go:143", after := #[{ on := 52, ground := Ground.data }, { on := 50, ground := Ground.chain }], guard := none }) (v := ?vu42) rfl (by kernel_rfl) (by kernel_rfl) (by kernel_rfl) (fun _ _ _ h => h) (Or.inl ⟨by rfl, ?hyu42⟩) (by assumption) ?restu42
            case hyu42 => (intro w hSw; (try dsimp only at hSw); go_simp; (try with_reducible rfl))
            try simp only [Act.put, List.setIfInBounds_toArray, List.set_cons_zero, List.set_cons_succ]
            refine wpAnyH_ready (rs := [54]) (by kernel_rfl) (by simp) ?_
            refine AllReadyH.cons (o := { dst := some 112, op := Op.call { callee := Callee.value (Operand.func 10), args := #[], argTypes := #[] }, type := 4, pos := "law.go:143", after := #[{ on := 53, ground := Ground.chain }, { on := 53, ground := Ground.guard }], guard := some (53, true) }) rfl (fun K hK => ?_) AllReadyH.nil
            go_simp
            go_at_call 10
            refine (awake_of C _ (C.keep HE.out (below_step HBW.out (by first | exact HW | exact HW.drew)))).mono ?_
            rintro e z9 ⟨rfl, b⟩
            replace HW := below_step (by first | exact HW | exact HW.drew) b
            clear b
            refine hK.out _ _ ?_ (fun hHeldB => ?_)
            · (try dsimp only); exact HW
            clear hK K hHeld
            have hHeld := hHeldB
            clear hHeldB
            try simp only [Act.put, List.setIfInBounds_toArray, List.set_cons_zero, List.set_cons_succ]
            refine wpAnyH_take (i := 55) (oi := { dst := some 113, op := Op.pick (Operand.tmp 111) (Operand.tmp 112) (Operand.const (Value.bool false)), type := 4, pos := "law.go:143", after := #[{ on := 53, ground := Ground.data }, { on := 54, ground := Ground.data }], guard := none }) (v := ?vu43) rfl (by kernel_rfl) (by kernel_rfl) (by kernel_rfl) (fun _ _ _ h => h) (Or.inl ⟨by rfl, ?hyu43⟩) (by assumption) ?restu43
            case hyu43 => (intro w hSw; (try dsimp only at hSw); go_simp; (try with_reducible rfl))
            try simp only [Act.put, List.setIfInBounds_toArray, List.set_cons_zero, List.set_cons_succ]
            refine wpAnyH_take (i := 56) (oi := { dst := some 6, op := Op.assign (Operand.tmp 113), type := 4, pos := "law.go:143", after := #[{ on := 55, ground := Ground.data }, { on := 54, ground := Ground.chain }, { on := 0, ground := Ground.phase }, { on := 1, ground := Ground.phase }, { on := 2, ground := Ground.phase }, { on := 3, ground := Ground.phase }, { on := 4, ground := Ground.phase }, { on := 5, ground := Ground.phase }, { on := 6, ground := Ground.phase }, { on := 7, ground := Ground.phase }, { on := 8, ground := Ground.phase }, { on := 9, ground := Ground.phase }, { on := 10, ground := Ground.phase }, { on := 11, ground := Ground.phase }, { on := 12, ground := Ground.phase }, { on := 13, ground := Ground.phase }, { on := 14, ground := Ground.phase }, { on := 15, ground := Ground.phase }, { on := 16, ground := Ground.phase }, { on := 17, ground := Ground.phase }, { on := 18, ground := Ground.phase }, { on := 19, ground := Ground.phase }, { on := 20, ground := Ground.phase }, { on := 21, ground := Ground.phase }, { on := 22, ground := Ground.phase }, { on := 23, ground := Ground.phase }, { on := 24, ground := Ground.phase }, { on := 25, ground := Ground.phase }, { on := 26, ground := Ground.phase }, { on := 27, ground := Ground.phase }, { on := 28, ground := Ground.phase }, { on := 29, ground := Ground.phase }, { on := 30, ground := Ground.phase }, { on := 31, ground := Ground.phase }, { on := 32, ground := Ground.phase }, { on := 33, ground := Ground.phase }, { on := 34, ground := Ground.phase }, { on := 35, ground := Ground.phase }, { on := 36, ground := Ground.phase }, { on := 37, ground := Ground.phase }, { on := 38, ground := Ground.phase }, { on := 39, ground := Ground.phase }, { on := 40, ground := Ground.phase }, { on := 41, ground := Ground.phase }, { on := 42, ground := Ground.phase }, { on := 43, ground := Ground.phase }, { on := 44, ground := Ground.phase }, { on := 45, ground := Ground.phase }, { on := 46, ground := Ground.phase }, { on := 47, ground := Ground.phase }, { on := 48, ground := Ground.phase }, { on := 49, ground := Ground.phase }, { on := 50, ground := Ground.phase }, { on := 51, ground := Ground.phase }, { on := 52, ground := Ground.phase }, { on := 53, ground := Ground.phase }, { on := 54, ground := Ground.phase }, { on := 55, ground := Ground.phase }], guard := none }) (v := ?vu44) rfl (by kernel_rfl) (by kernel_rfl) (by kernel_rfl) (fun _ _ _ h => h) (Or.inl ⟨by rfl, ?hyu44⟩) (by assumption) ?restu44
            case hyu44 => (intro w hSw; (try dsimp only at hSw); go_simp; (try with_reducible rfl))
            try simp only [Act.put, List.setIfInBounds_toArray, List.set_cons_zero, List.set_cons_succ]
            refine wpAnyH_done (by kernel_rfl) ?_ _
            go_wp2
            go_ret
            exact ⟨rfl, below_step HBW.out HW⟩
          · skip
            refine wp_region_held_drew (S := (fun w' => Below W4.heap.size W4 w')) (by kernel_rfl) ?_ (fun hHeld => ?_)
            · (try dsimp only); first | exact HW | exact HW.drew
            refine wpAnyH_take (i := 0) (oi := { dst := some 58, op := Op.move (Operand.tmp 8), type := 28, pos := "law.go:143", after := #[], guard := none }) (v := ?vu45) rfl (by kernel_rfl) (by kernel_rfl) (by kernel_rfl) (fun _ _ _ h => h) (Or.inl ⟨by rfl, ?hyu45⟩) (by assumption) ?restu45
            case hyu45 => (intro w hSw; (try dsimp only at hSw); go_simp; (try with_reducible rfl))
            try simp only [Act.put, List.setIfInBounds_toArray, List.set_cons_zero, List.set_cons_succ]
            refine wpAnyH_take (i := 1) (oi := { dst := some 59, op := Op.binOp BinOp.eql 28 (Operand.tmp 58) (Operand.const (Value.int IntKind.i64 0)) 28, type := 4, pos := "law.go:143", after := #[{ on := 0, ground := Ground.data }], guard := none }) (v := ?vu46) rfl (by kernel_rfl) (by kernel_rfl) (by kernel_rfl) (fun _ _ _ h => h) (Or.inl ⟨by rfl, ?hyu46⟩) (by assumption) ?restu46
            case hyu46 => (intro w hSw; (try dsimp only at hSw); go_simp; (try with_reducible rfl))
            try simp only [Act.put, List.setIfInBounds_toArray, List.set_cons_zero, List.set_cons_succ]
            refine wpAnyH_take (i := 2) (oi := { dst := some 60, op := Op.move (Operand.tmp 59), type := 4, pos := "law.go:143", after := #[{ on := 1, ground := Ground.data }], guard := none }) (v := ?vu47) rfl (by kernel_rfl) (by kernel_rfl) (by kernel_rfl) (fun _ _ _ h => h) (Or.inl ⟨by rfl, ?hyu47⟩) (by assumption) ?restu47
            case hyu47 => (intro w hSw; (try dsimp only at hSw); go_simp; (try with_reducible rfl))
            try simp only [Act.put, List.setIfInBounds_toArray, List.set_cons_zero, List.set_cons_succ]
            refine wpAnyH_take (i := 3) (oi := { dst := some 61, op := Op.move (Operand.tmp 10), type := 28, pos := "law.go:143", after := #[{ on := 2, ground := Ground.guard }], guard := some (2, true) }) (v := ?vu48) rfl (by kernel_rfl) (by kernel_rfl) (by kernel_rfl) (fun _ _ _ h => h) (Or.inl ⟨by rfl, ?hyu48⟩) (by assumption) ?restu48
            case hyu48 => (intro w hSw; (try dsimp only at hSw); go_simp; (try with_reducible rfl))
            try simp only [Act.put, List.setIfInBounds_toArray, List.set_cons_zero, List.set_cons_succ]
            refine wpAnyH_take (i := 4) (oi := { dst := some 62, op := Op.binOp BinOp.eql 28 (Operand.tmp 61) (Operand.const (Value.int IntKind.i64 0)) 28, type := 4, pos := "law.go:143", after := #[{ on := 3, ground := Ground.data }, { on := 2, ground := Ground.guard }], guard := some (2, true) }) (v := ?vu49) rfl (by kernel_rfl) (by kernel_rfl) (by kernel_rfl) (fun _ _ _ h => h) (Or.inl ⟨by rfl, ?hyu49⟩) (by assumption) ?restu49
            case hyu49 => (intro w hSw; (try dsimp only at hSw); go_simp; (try with_reducible rfl))
            try simp only [Act.put, List.setIfInBounds_toArray, List.set_cons_zero, List.set_cons_succ]
            refine wpAnyH_take (i := 5) (oi := { dst := some 63, op := Op.pick (Operand.tmp 60) (Operand.tmp 62) (Operand.const (Value.bool false)), type := 4, pos := "law.go:143", after := #[{ on := 2, ground := Ground.data }, { on := 4, ground := Ground.data }], guard := none }) (v := ?vu50) rfl (by kernel_rfl) (by kernel_rfl) (by kernel_rfl) (fun _ _ _ h => h) (Or.inl ⟨by rfl, ?hyu50⟩) (by assumption) ?restu50
            case hyu50 => (intro w hSw; (try dsimp only at hSw); go_simp; (try with_reducible rfl))
            try simp only [Act.put, List.setIfInBounds_toArray, List.set_cons_zero, List.set_cons_succ]
            refine wpAnyH_take (i := 6) (oi := { dst := some 64, op := Op.move (Operand.tmp 63), type := 4, pos := "law.go:143", after := #[{ on := 5, ground := Ground.data }, { on := 2, ground := Ground.chain }], guard := none }) (v := ?vu51) rfl (by kernel_rfl) (by kernel_rfl) (by kernel_rfl) (fun _ _ _ h => h) (Or.inl ⟨by rfl, ?hyu51⟩) (by assumption) ?restu51
            case hyu51 => (intro w hSw; (try dsimp only at hSw); go_simp; (try with_reducible rfl))
            try simp only [Act.put, List.setIfInBounds_toArray, List.set_cons_zero, List.set_cons_succ]
            refine wpAnyH_take (i := 7) (oi := { dst := some 65, op := Op.move (Operand.tmp 12), type := 28, pos := "law.go:143", after := #[{ on := 6, ground := Ground.guard }], guard := some (6, true) }) (v := ?vu52) rfl (by kernel_rfl) (by kernel_rfl) (by kernel_rfl) (fun _ _ _ h => h) (Or.inl ⟨by rfl, ?hyu52⟩) (by assumption) ?restu52
            case hyu52 => (intro w hSw; (try dsimp only at hSw); go_simp; (try with_reducible rfl))
            try simp only [Act.put, List.setIfInBounds_toArray, List.set_cons_zero, List.set_cons_succ]
            refine wpAnyH_take (i := 8) (oi := { dst := some 66, op := Op.binOp BinOp.eql 28 (Operand.tmp 65) (Operand.const (Value.int IntKind.i64 0)) 28, type := 4, pos := "law.go:143", after := #[{ on := 7, ground := Ground.data }, { on := 6, ground := Ground.guard }], guard := some (6, true) }) (v := ?vu53) rfl (by kernel_rfl) (by kernel_rfl) (by kernel_rfl) (fun _ _ _ h => h) (Or.inl ⟨by rfl, ?hyu53⟩) (by assumption) ?restu53
            case hyu53 => (intro w hSw; (try dsimp only at hSw); go_simp; (try with_reducible rfl))
            try simp only [Act.put, List.setIfInBounds_toArray, List.set_cons_zero, List.set_cons_succ]
            refine wpAnyH_take (i := 9) (oi := { dst := some 67, op := Op.pick (Operand.tmp 64) (Operand.tmp 66) (Operand.const (Value.bool false)), type := 4, pos := "law.go:143", after := #[{ on := 6, ground := Ground.data }, { on := 8, ground := Ground.data }], guard := none }) (v := ?vu54) rfl (by kernel_rfl) (by kernel_rfl) (by kernel_rfl) (fun _ _ _ h => h) (Or.inl ⟨by rfl, ?hyu54⟩) (by assumption) ?restu54
            case hyu54 => (intro w hSw; (try dsimp only at hSw); go_simp; (try with_reducible rfl))
            try simp only [Act.put, List.setIfInBounds_toArray, List.set_cons_zero, List.set_cons_succ]
            refine wpAnyH_take (i := 10) (oi := { dst := some 68, op := Op.move (Operand.tmp 67), type := 4, pos := "law.go:143", after := #[{ on := 9, ground := Ground.data }, { on := 6, ground := Ground.chain }], guard := none }) (v := ?vu55) rfl (by kernel_rfl) (by kernel_rfl) (by kernel_rfl) (fun _ _ _ h => h) (Or.inl ⟨by rfl, ?hyu55⟩) (by assumption) ?restu55
            case hyu55 => (intro w hSw; (try dsimp only at hSw); go_simp; (try with_reducible rfl))
            try simp only [Act.put, List.setIfInBounds_toArray, List.set_cons_zero, List.set_cons_succ]
            refine wpAnyH_take (i := 11) (oi := { dst := some 69, op := Op.move (Operand.tmp 14), type := 28, pos := "law.go:143", after := #[{ on := 10, ground := Ground.guard }], guard := some (10, true) }) (v := ?vu56) rfl (by kernel_rfl) (by kernel_rfl) (by kernel_rfl) (fun _ _ _ h => h) (Or.inl ⟨by rfl, ?hyu56⟩) (by assumption) ?restu56
            case hyu56 => (intro w hSw; (try dsimp only at hSw); go_simp; (try with_reducible rfl))
            try simp only [Act.put, List.setIfInBounds_toArray, List.set_cons_zero, List.set_cons_succ]
            refine wpAnyH_take (i := 12) (oi := { dst := some 70, op := Op.binOp BinOp.eql 28 (Operand.tmp 69) (Operand.const (Value.int IntKind.i64 0)) 28, type := 4, pos := "law.go:143", after := #[{ on := 11, ground := Ground.data }, { on := 10, ground := Ground.guard }], guard := some (10, true) }) (v := ?vu57) rfl (by kernel_rfl) (by kernel_rfl) (by kernel_rfl) (fun _ _ _ h => h) (Or.inl ⟨by rfl, ?hyu57⟩) (by assumption) ?restu57
            case hyu57 => (intro w hSw; (try dsimp only at hSw); go_simp; (try with_reducible rfl))
            try simp only [Act.put, List.setIfInBounds_toArray, List.set_cons_zero, List.set_cons_succ]
            refine wpAnyH_take (i := 13) (oi := { dst := some 71, op := Op.pick (Operand.tmp 68) (Operand.tmp 70) (Operand.const (Value.bool false)), type := 4, pos := "law.go:143", after := #[{ on := 10, ground := Ground.data }, { on := 12, ground := Ground.data }], guard := none }) (v := ?vu58) rfl (by kernel_rfl) (by kernel_rfl) (by kernel_rfl) (fun _ _ _ h => h) (Or.inl ⟨by rfl, ?hyu58⟩) (by assumption) ?restu58
            case hyu58 => (intro w hSw; (try dsimp only at hSw); go_simp; (try with_reducible rfl))
            try simp only [Act.put, List.setIfInBounds_toArray, List.set_cons_zero, List.set_cons_succ]
            refine wpAnyH_take (i := 14) (oi := { dst := some 72, op := Op.move (Operand.tmp 71), type := 4, pos := "law.go:143", after := #[{ on := 13, ground := Ground.data }, { on := 10, ground := Ground.chain }], guard := none }) (v := ?vu59) rfl (by kernel_rfl) (by kernel_rfl) (by kernel_rfl) (fun _ _ _ h => h) (Or.inl ⟨by rfl, ?hyu59⟩) (by assumption) ?restu59
            case hyu59 => (intro w hSw; (try dsimp only at hSw); go_simp; (try with_reducible rfl))
            try simp only [Act.put, List.setIfInBounds_toArray, List.set_cons_zero, List.set_cons_succ]
            refine wpAnyH_take (i := 15) (oi := { dst := some 73, op := Op.load 27 (Operand.tmp 11), type := 27, pos := "law.go:143", after := #[{ on := 14, ground := Ground.guard }], guard := some (14, true) }) (v := ?vu60) rfl (by kernel_rfl) (by kernel_rfl) (by kernel_rfl) (fun _ _ _ h => h) (Or.inl ⟨by rfl, ?hyu60⟩) (by assumption) ?restu60
            case hyu60 => (intro w hSw; (try dsimp only at hSw); have q1 := (Below.cell hSw (p := ⟨w3.heap.size, 0, none⟩) m3).trans hk3; go_simp; (try with_reducible rfl))
            try simp only [Act.put, List.setIfInBounds_toArray, List.set_cons_zero, List.set_cons_succ]
            refine wpAnyH_take (i := 16) (oi := { dst := some 74, op := Op.move (Operand.tmp 2), type := 23, pos := "law.go:143", after := #[{ on := 14, ground := Ground.guard }], guard := some (14, true) }) (v := ?vu61) rfl (by kernel_rfl) (by kernel_rfl) (by kernel_rfl) (fun _ _ _ h => h) (Or.inl ⟨by rfl, ?hyu61⟩) (by assumption) ?restu61
            case hyu61 => (intro w hSw; (try dsimp only at hSw); go_simp; (try with_reducible rfl))
            try simp only [Act.put, List.setIfInBounds_toArray, List.set_cons_zero, List.set_cons_succ]
            refine wpAnyH_take (i := 18) (oi := { dst := some 76, op := Op.load 27 (Operand.tmp 7), type := 27, pos := "law.go:143", after := #[{ on := 14, ground := Ground.guard }], guard := some (14, true) }) (v := ?vu62) rfl (by kernel_rfl) (by kernel_rfl) (by kernel_rfl) (fun _ _ _ h => h) (Or.inl ⟨by rfl, ?hyu62⟩) (by assumption) ?restu62
            case hyu62 => (intro w hSw; (try dsimp only at hSw); have q1 := (Below.cell hSw (p := ⟨w1.heap.size, 0, none⟩) m1).trans hk1; go_simp; (try with_reducible rfl))
            try simp only [Act.put, List.setIfInBounds_toArray, List.set_cons_zero, List.set_cons_succ]
            refine wpAnyH_take (i := 19) (oi := { dst := some 77, op := Op.move (Operand.tmp 2), type := 23, pos := "law.go:143", after := #[{ on := 14, ground := Ground.guard }], guard := some (14, true) }) (v := ?vu63) rfl (by kernel_rfl) (by kernel_rfl) (by kernel_rfl) (fun _ _ _ h => h) (Or.inl ⟨by rfl, ?hyu63⟩) (by assumption) ?restu63
            case hyu63 => (intro w hSw; (try dsimp only at hSw); go_simp; (try with_reducible rfl))
            try simp only [Act.put, List.setIfInBounds_toArray, List.set_cons_zero, List.set_cons_succ]
            refine wpAnyH_ready (rs := [17]) (by kernel_rfl) (by simp) ?_
            refine AllReadyH.cons (o := { dst := some 75, op := Op.call { callee := Callee.value (Operand.func 20), args := #[Operand.tmp 73, Operand.tmp 74], argTypes := #[27, 23] }, type := 4, pos := "law.go:143", after := #[{ on := 15, ground := Ground.data }, { on := 16, ground := Ground.data }, { on := 14, ground := Ground.chain }, { on := 14, ground := Ground.guard }], guard := some (14, true) }) rfl (fun K hK => ?_) AllReadyH.nil
            go_simp
            go_at_call 20
            refine (C.has _ _ _ Pm S true (C.keep HE.out (below_step HBW.out (by first | exact HW | exact HW.drew))) (by exact HPp.out.below (by first | exact HW | exact HW.drew)) (by exact HS.out.below (by first | exact HW | exact HW.drew)) HSl.out HRp.out).mono ?_
            rintro e z0 ⟨rfl, b⟩
            replace HW := below_step (by first | exact HW | exact HW.drew) b
            clear b
            refine hK.out _ _ ?_ (fun hHeldB => ?_)
            · (try dsimp only); exact HW
            clear hK K hHeld
            have hHeld := hHeldB
            clear hHeldB
            try simp only [Act.put, List.setIfInBounds_toArray, List.set_cons_zero, List.set_cons_succ]
            refine wpAnyH_ready (rs := [20]) (by kernel_rfl) (by simp) ?_
            refine AllReadyH.cons (o := { dst := some 78, op := Op.call { callee := Callee.value (Operand.func 20), args := #[Operand.tmp 76, Operand.tmp 77], argTypes := #[27, 23] }, type := 4, pos := "law.go:143", after := #[{ on := 18, ground := Ground.data }, { on := 19, ground := Ground.data }, { on := 17, ground := Ground.chain }, { on := 14, ground := Ground.guard }], guard := some (14, true) }) rfl (fun K hK => ?_) AllReadyH.nil
            go_simp
            go_at_call 20
            refine (C.has _ _ _ F S true (C.keep HE.out (below_step HBW.out (by first | exact HW | exact HW.drew))) (by exact HFf.out.below (by first | exact HW | exact HW.drew)) (by exact HS.out.below (by first | exact HW | exact HW.drew)) HSl.out HR1.out).mono ?_
            rintro e z1 ⟨rfl, b⟩
            replace HW := below_step (by first | exact HW | exact HW.drew) b
            clear b
            refine hK.out _ _ ?_ (fun hHeldB => ?_)
            · (try dsimp only); exact HW
            clear hK K hHeld
            have hHeld := hHeldB
            clear hHeldB
            try simp only [Act.put, List.setIfInBounds_toArray, List.set_cons_zero, List.set_cons_succ]
            refine wpAnyH_take (i := 21) (oi := { dst := some 79, op := Op.move (Operand.tmp 78), type := 4, pos := "law.go:143", after := #[{ on := 20, ground := Ground.data }, { on := 20, ground := Ground.chain }, { on := 14, ground := Ground.guard }], guard := some (14, true) }) (v := ?vu64) rfl (by kernel_rfl) (by kernel_rfl) (by kernel_rfl) (fun _ _ _ h => h) (Or.inl ⟨by rfl, ?hyu64⟩) (by assumption) ?restu64
            case hyu64 => (intro w hSw; (try dsimp only at hSw); go_simp; (try with_reducible rfl))
            try simp only [Act.put, List.setIfInBounds_toArray, List.set_cons_zero, List.set_cons_succ]
            refine wpAnyH_take (i := 22) (oi := { dst := some 80, op := Op.load 27 (Operand.tmp 9), type := 27, pos := "law.go:143", after := #[{ on := 21, ground := Ground.guard }], guard := some (21, false) }) (v := undef) rfl (by kernel_rfl) (by kernel_rfl) (by kernel_rfl) (fun _ _ _ h => h) (Or.inr ⟨by rfl, rfl⟩) (by assumption) ?_
            try simp only [Act.put, List.setIfInBounds_toArray, List.set_cons_zero, List.set_cons_succ]
            refine wpAnyH_take (i := 23) (oi := { dst := some 81, op := Op.move (Operand.tmp 2), type := 23, pos := "law.go:143", after := #[{ on := 21, ground := Ground.guard }], guard := some (21, false) }) (v := undef) rfl (by kernel_rfl) (by kernel_rfl) (by kernel_rfl) (fun _ _ _ h => h) (Or.inr ⟨by rfl, rfl⟩) (by assumption) ?_
            try simp only [Act.put, List.setIfInBounds_toArray, List.set_cons_zero, List.set_cons_succ]
            refine wpAnyH_take (i := 24) (oi := { dst := some 82, op := Op.call { callee := Callee.value (Operand.func 20), args := #[Operand.tmp 80, Operand.tmp 81], argTypes := #[27, 23] }, type := 4, pos := "law.go:143", after := #[{ on := 22, ground := Ground.data }, { on := 23, ground := Ground.data }, { on := 21, ground := Ground.chain }, { on := 21, ground := Ground.guard }], guard := some (21, false) }) (v := undef) rfl (by kernel_rfl) (by kernel_rfl) (by kernel_rfl) (fun _ _ _ h => h) (Or.inr ⟨by rfl, rfl⟩) (by assumption) ?_
            try simp only [Act.put, List.setIfInBounds_toArray, List.set_cons_zero, List.set_cons_succ]
            refine wpAnyH_take (i := 25) (oi := { dst := some 83, op := Op.pick (Operand.tmp 79) (Operand.const (Value.bool true)) (Operand.tmp 82), type := 4, pos := "law.go:143", after := #[{ on := 21, ground := Ground.data }, { on := 24, ground := Ground.data }, { on := 14, ground := Ground.guard }], guard := some (14, true) }) (v := ?vu65) rfl (by kernel_rfl) (by kernel_rfl) (by kernel_rfl) (fun _ _ _ h => h) (Or.inl ⟨by rfl, ?hyu65⟩) (by assumption) ?restu65
            case hyu65 => (intro w hSw; (try dsimp only at hSw); go_simp; (try with_reducible rfl))
            try simp only [Act.put, List.setIfInBounds_toArray, List.set_cons_zero, List.set_cons_succ]
            refine wpAnyH_take (i := 26) (oi := { dst := some 84, op := Op.binOp BinOp.eql 4 (Operand.tmp 75) (Operand.tmp 83) 4, type := 4, pos := "law.go:143", after := #[{ on := 17, ground := Ground.data }, { on := 25, ground := Ground.data }, { on := 14, ground := Ground.guard }], guard := some (14, true) }) (v := ?vu66) rfl (by kernel_rfl) (by kernel_rfl) (by kernel_rfl) (fun _ _ _ h => h) (Or.inl ⟨by rfl, ?hyu66⟩) (by assumption) ?restu66
            case hyu66 => (intro w hSw; (try dsimp only at hSw); go_simp; (try with_reducible rfl))
            try simp only [Act.put, List.setIfInBounds_toArray, List.set_cons_zero, List.set_cons_succ]
            refine wpAnyH_take (i := 27) (oi := { dst := some 85, op := Op.pick (Operand.tmp 72) (Operand.tmp 84) (Operand.const (Value.bool false)), type := 4, pos := "law.go:143", after := #[{ on := 14, ground := Ground.data }, { on := 26, ground := Ground.data }], guard := none }) (v := ?vu67) rfl (by kernel_rfl) (by kernel_rfl) (by kernel_rfl) (fun _ _ _ h => h) (Or.inl ⟨by rfl, ?hyu67⟩) (by assumption) ?restu67
            case hyu67 => (intro w hSw; (try dsimp only at hSw); go_simp; (try with_reducible rfl))
            try simp only [Act.put, List.setIfInBounds_toArray, List.set_cons_zero, List.set_cons_succ]
            refine wpAnyH_take (i := 28) (oi := { dst := some 86, op := Op.move (Operand.tmp 85), type := 4, pos := "law.go:143", after := #[{ on := 27, ground := Ground.data }, { on := 24, ground := Ground.chain }], guard := none }) (v := ?vu68) rfl (by kernel_rfl) (by kernel_rfl) (by kernel_rfl) (fun _ _ _ h => h) (Or.inl ⟨by rfl, ?hyu68⟩) (by assumption) ?restu68
            case hyu68 => (intro w hSw; (try dsimp only at hSw); go_simp; (try with_reducible rfl))
            try simp only [Act.put, List.setIfInBounds_toArray, List.set_cons_zero, List.set_cons_succ]
            refine wpAnyH_take (i := 29) (oi := { dst := some 87, op := Op.load 27 (Operand.tmp 13), type := 27, pos := "law.go:143", after := #[{ on := 28, ground := Ground.guard }], guard := some (28, true) }) (v := ?vu69) rfl (by kernel_rfl) (by kernel_rfl) (by kernel_rfl) (fun _ _ _ h => h) (Or.inl ⟨by rfl, ?hyu69⟩) (by assumption) ?restu69
            case hyu69 => (intro w hSw; (try dsimp only at hSw); have q1 := (Below.cell hSw (p := ⟨w4.heap.size, 0, none⟩) m4).trans hk4; go_simp; (try with_reducible rfl))
            try simp only [Act.put, List.setIfInBounds_toArray, List.set_cons_zero, List.set_cons_succ]
            refine wpAnyH_take (i := 30) (oi := { dst := some 88, op := Op.move (Operand.tmp 2), type := 23, pos := "law.go:143", after := #[{ on := 28, ground := Ground.guard }], guard := some (28, true) }) (v := ?vu70) rfl (by kernel_rfl) (by kernel_rfl) (by kernel_rfl) (fun _ _ _ h => h) (Or.inl ⟨by rfl, ?hyu70⟩) (by assumption) ?restu70
            case hyu70 => (intro w hSw; (try dsimp only at hSw); go_simp; (try with_reducible rfl))
            try simp only [Act.put, List.setIfInBounds_toArray, List.set_cons_zero, List.set_cons_succ]
            refine wpAnyH_take (i := 32) (oi := { dst := some 90, op := Op.load 27 (Operand.tmp 7), type := 27, pos := "law.go:143", after := #[{ on := 28, ground := Ground.guard }], guard := some (28, true) }) (v := ?vu71) rfl (by kernel_rfl) (by kernel_rfl) (by kernel_rfl) (fun _ _ _ h => h) (Or.inl ⟨by rfl, ?hyu71⟩) (by assumption) ?restu71
            case hyu71 => (intro w hSw; (try dsimp only at hSw); have q1 := (Below.cell hSw (p := ⟨w1.heap.size, 0, none⟩) m1).trans hk1; go_simp; (try with_reducible rfl))
            try simp only [Act.put, List.setIfInBounds_toArray, List.set_cons_zero, List.set_cons_succ]
            refine wpAnyH_take (i := 33) (oi := { dst := some 91, op := Op.move (Operand.tmp 2), type := 23, pos := "law.go:143", after := #[{ on := 28, ground := Ground.guard }], guard := some (28, true) }) (v := ?vu72) rfl (by kernel_rfl) (by kernel_rfl) (by kernel_rfl) (fun _ _ _ h => h) (Or.inl ⟨by rfl, ?hyu72⟩) (by assumption) ?restu72
            case hyu72 => (intro w hSw; (try dsimp only at hSw); go_simp; (try with_reducible rfl))
            try simp only [Act.put, List.setIfInBounds_toArray, List.set_cons_zero, List.set_cons_succ]
            refine wpAnyH_ready (rs := [31]) (by kernel_rfl) (by simp) ?_
            refine AllReadyH.cons (o := { dst := some 89, op := Op.call { callee := Callee.value (Operand.func 20), args := #[Operand.tmp 87, Operand.tmp 88], argTypes := #[27, 23] }, type := 4, pos := "law.go:143", after := #[{ on := 29, ground := Ground.data }, { on := 30, ground := Ground.data }, { on := 28, ground := Ground.chain }, { on := 28, ground := Ground.guard }], guard := some (28, true) }) rfl (fun K hK => ?_) AllReadyH.nil
            go_simp
            go_at_call 20
            refine (C.has _ _ _ Tm S r2 (C.keep HE.out (below_step HBW.out (by first | exact HW | exact HW.drew))) (by exact HTt.out.below (by first | exact HW | exact HW.drew)) (by exact HS.out.below (by first | exact HW | exact HW.drew)) HSl.out HRt.out).mono ?_
            rintro e z2 ⟨rfl, b⟩
            replace HW := below_step (by first | exact HW | exact HW.drew) b
            clear b
            refine hK.out _ _ ?_ (fun hHeldB => ?_)
            · (try dsimp only); exact HW
            clear hK K hHeld
            have hHeld := hHeldB
            clear hHeldB
            try simp only [Act.put, List.setIfInBounds_toArray, List.set_cons_zero, List.set_cons_succ]
            refine wpAnyH_ready (rs := [34]) (by kernel_rfl) (by simp) ?_
            refine AllReadyH.cons (o := { dst := some 92, op := Op.call { callee := Callee.value (Operand.func 20), args := #[Operand.tmp 90, Operand.tmp 91], argTypes := #[27, 23] }, type := 4, pos := "law.go:143", after := #[{ on := 32, ground := Ground.data }, { on := 33, ground := Ground.data }, { on := 31, ground := Ground.chain }, { on := 28, ground := Ground.guard }], guard := some (28, true) }) rfl (fun K hK => ?_) AllReadyH.nil
            go_simp
            go_at_call 20
            refine (C.has _ _ _ F S true (C.keep HE.out (below_step HBW.out (by first | exact HW | exact HW.drew))) (by exact HFf.out.below (by first | exact HW | exact HW.drew)) (by exact HS.out.below (by first | exact HW | exact HW.drew)) HSl.out HR1.out).mono ?_
            rintro e z3 ⟨rfl, b⟩
            replace HW := below_step (by first | exact HW | exact HW.drew) b
            clear b
            refine hK.out _ _ ?_ (fun hHeldB => ?_)
            · (try dsimp only); exact HW
            clear hK K hHeld
            have hHeld := hHeldB
            clear hHeldB
            try simp only [Act.put, List.setIfInBounds_toArray, List.set_cons_zero, List.set_cons_succ]
            refine wpAnyH_take (i := 35) (oi := { dst := some 93, op := Op.move (Operand.tmp 92), type := 4, pos := "law.go:143", after := #[{ on := 34, ground := Ground.data }, { on := 34, ground := Ground.chain }, { on := 28, ground := Ground.guard }], guard := some (28, true) }) (v := ?vu73) rfl (by kernel_rfl) (by kernel_rfl) (by kernel_rfl) (fun _ _ _ h => h) (Or.inl ⟨by rfl, ?hyu73⟩) (by assumption) ?restu73
            case hyu73 => (intro w hSw; (try dsimp only at hSw); go_simp; (try with_reducible rfl))
            try simp only [Act.put, List.setIfInBounds_toArray, List.set_cons_zero, List.set_cons_succ]
            refine wpAnyH_take (i := 36) (oi := { dst := some 94, op := Op.load 27 (Operand.tmp 9), type := 27, pos := "law.go:143", after := #[{ on := 35, ground := Ground.guard }], guard := some (35, true) }) (v := ?vu74) rfl (by kernel_rfl) (by kernel_rfl) (by kernel_rfl) (fun _ _ _ h => h) (Or.inl ⟨by rfl, ?hyu74⟩) (by assumption) ?restu74
            case hyu74 => (intro w hSw; (try dsimp only at hSw); have q1 := (Below.cell hSw (p := ⟨w2.heap.size, 0, none⟩) m2).trans hk2; go_simp; (try with_reducible rfl))
            try simp only [Act.put, List.setIfInBounds_toArray, List.set_cons_zero, List.set_cons_succ]
            refine wpAnyH_take (i := 37) (oi := { dst := some 95, op := Op.move (Operand.tmp 2), type := 23, pos := "law.go:143", after := #[{ on := 35, ground := Ground.guard }], guard := some (35, true) }) (v := ?vu75) rfl (by kernel_rfl) (by kernel_rfl) (by kernel_rfl) (fun _ _ _ h => h) (Or.inl ⟨by rfl, ?hyu75⟩) (by assumption) ?restu75
            case hyu75 => (intro w hSw; (try dsimp only at hSw); go_simp; (try with_reducible rfl))
            try simp only [Act.put, List.setIfInBounds_toArray, List.set_cons_zero, List.set_cons_succ]
            refine wpAnyH_ready (rs := [38]) (by kernel_rfl) (by simp) ?_
            refine AllReadyH.cons (o := { dst := some 96, op := Op.call { callee := Callee.value (Operand.func 20), args := #[Operand.tmp 94, Operand.tmp 95], argTypes := #[27, 23] }, type := 4, pos := "law.go:143", after := #[{ on := 36, ground := Ground.data }, { on := 37, ground := Ground.data }, { on := 35, ground := Ground.chain }, { on := 35, ground := Ground.guard }], guard := some (35, true) }) rfl (fun K hK => ?_) AllReadyH.nil
            go_simp
            go_at_call 20
            refine (C.has _ _ _ G S r2 (C.keep HE.out (below_step HBW.out (by first | exact HW | exact HW.drew))) (by exact HGg.out.below (by first | exact HW | exact HW.drew)) (by exact HS.out.below (by first | exact HW | exact HW.drew)) HSl.out HR2.out).mono ?_
            rintro e z4 ⟨rfl, b⟩
            replace HW := below_step (by first | exact HW | exact HW.drew) b
            clear b
            refine hK.out _ _ ?_ (fun hHeldB => ?_)
            · (try dsimp only); exact HW
            clear hK K hHeld
            have hHeld := hHeldB
            clear hHeldB
            try simp only [Act.put, List.setIfInBounds_toArray, List.set_cons_zero, List.set_cons_succ]
            refine wpAnyH_take (i := 39) (oi := { dst := some 97, op := Op.pick (Operand.tmp 93) (Operand.tmp 96) (Operand.const (Value.bool false)), type := 4, pos := "law.go:143", after := #[{ on := 35, ground := Ground.data }, { on := 38, ground := Ground.data }, { on := 28, ground := Ground.guard }], guard := some (28, true) }) (v := ?vu76) rfl (by kernel_rfl) (by kernel_rfl) (by kernel_rfl) (fun _ _ _ h => h) (Or.inl ⟨by rfl, ?hyu76⟩) (by assumption) ?restu76
            case hyu76 => (intro w hSw; (try dsimp only at hSw); go_simp; (try with_reducible rfl))
            try simp only [Act.put, List.setIfInBounds_toArray, List.set_cons_zero, List.set_cons_succ]
            refine wpAnyH_take (i := 40) (oi := { dst := some 98, op := Op.binOp BinOp.eql 4 (Operand.tmp 89) (Operand.tmp 97) 4, type := 4, pos := "law.go:143", after := #[{ on := 31, ground := Ground.data }, { on := 39, ground := Ground.data }, { on := 28, ground := Ground.guard }], guard := some (28, true) }) (v := ?vu77) rfl (by kernel_rfl) (by kernel_rfl) (by kernel_rfl) (fun _ _ _ h => h) (Or.inl ⟨by rfl, ?hyu77⟩) (by assumption) ?restu77
            case hyu77 => (intro w hSw; (try dsimp only at hSw); go_simp; (try with_reducible rfl))
            try simp only [Act.put, List.setIfInBounds_toArray, List.set_cons_zero, List.set_cons_succ]
            refine wpAnyH_take (i := 41) (oi := { dst := some 99, op := Op.pick (Operand.tmp 86) (Operand.tmp 98) (Operand.const (Value.bool false)), type := 4, pos := "law.go:143", after := #[{ on := 28, ground := Ground.data }, { on := 40, ground := Ground.data }], guard := none }) (v := ?vu78) rfl (by kernel_rfl) (by kernel_rfl) (by kernel_rfl) (fun _ _ _ h => h) (Or.inl ⟨by rfl, ?hyu78⟩) (by assumption) ?restu78
            case hyu78 => (intro w hSw; (try dsimp only at hSw); go_simp; (try with_reducible rfl))
            try simp only [Act.put, List.setIfInBounds_toArray, List.set_cons_zero, List.set_cons_succ]
            refine wpAnyH_take (i := 42) (oi := { dst := some 100, op := Op.move (Operand.tmp 99), type := 4, pos := "law.go:143", after := #[{ on := 41, ground := Ground.data }, { on := 38, ground := Ground.chain }], guard := none }) (v := ?vu79) rfl (by kernel_rfl) (by kernel_rfl) (by kernel_rfl) (fun _ _ _ h => h) (Or.inl ⟨by rfl, ?hyu79⟩) (by assumption) ?restu79
            case hyu79 => (intro w hSw; (try dsimp only at hSw); go_simp; (try with_reducible rfl))
            try simp only [Act.put, List.setIfInBounds_toArray, List.set_cons_zero, List.set_cons_succ]
            refine wpAnyH_take (i := 44) (oi := { dst := some 102, op := Op.move (Operand.tmp 2), type := 23, pos := "law.go:143", after := #[{ on := 42, ground := Ground.guard }], guard := some (42, true) }) (v := ?vu80) rfl (by kernel_rfl) (by kernel_rfl) (by kernel_rfl) (fun _ _ _ h => h) (Or.inl ⟨by rfl, ?hyu80⟩) (by assumption) ?restu80
            case hyu80 => (intro w hSw; (try dsimp only at hSw); go_simp; (try with_reducible rfl))
            try simp only [Act.put, List.setIfInBounds_toArray, List.set_cons_zero, List.set_cons_succ]
            refine wpAnyH_ready (rs := [43]) (by kernel_rfl) (by simp) ?_
            refine AllReadyH.cons (o := { dst := some 101, op := Op.call { callee := Callee.value (Operand.func 29), args := #[], argTypes := #[] }, type := 27, pos := "law.go:143", after := #[{ on := 42, ground := Ground.chain }, { on := 42, ground := Ground.guard }], guard := some (42, true) }) rfl (fun K hK => ?_) AllReadyH.nil
            go_simp
            go_at_call 29
            refine (C.one _ (C.keep HE.out (below_step HBW.out (by first | exact HW | exact HW.drew)))).mono ?_
            rintro e z5 ⟨⟨u1, rfl, hu⟩, b⟩
            replace HW := below_step (by first | exact HW | exact HW.drew) b
            have HU : Hid (FV _ u1 [[]]) := hu
            clear hu
            clear b
            refine hK.out _ _ ?_ (fun hHeldB => ?_)
            · (try dsimp only); exact HW
            clear hK K hHeld
            have hHeld := hHeldB
            clear hHeldB
            try simp only [Act.put, List.setIfInBounds_toArray, List.set_cons_zero, List.set_cons_succ]
            refine wpAnyH_ready (rs := [45]) (by kernel_rfl) (by simp) ?_
            refine AllReadyH.cons (o := { dst := some 103, op := Op.call { callee := Callee.value (Operand.func 20), args := #[Operand.tmp 101, Operand.tmp 102], argTypes := #[27, 23] }, type := 4, pos := "law.go:143", after := #[{ on := 43, ground := Ground.data }, { on := 44, ground := Ground.data }, { on := 43, ground := Ground.chain }, { on := 42, ground := Ground.guard }], guard := some (42, true) }) rfl (fun K hK => ?_) AllReadyH.nil
            go_simp
            go_at_call 20
            refine (C.has _ _ _ [[]] S true (C.keep HE.out (below_step HBW.out (by first | exact HW | exact HW.drew))) (by first | exact HU.out | exact HU.out.below (below_refl _).drew) (by exact HS.out.below (by first | exact HW | exact HW.drew)) HSl.out ⟨fun _ => has_one S, fun _ => rfl⟩).mono ?_
            rintro e z6 ⟨rfl, b⟩
            replace HW := below_step (by first | exact HW | exact HW.drew) b
            clear HU
            clear b
            refine hK.out _ _ ?_ (fun hHeldB => ?_)
            · (try dsimp only); exact HW
            clear hK K hHeld
            have hHeld := hHeldB
            clear hHeldB
            try simp only [Act.put, List.setIfInBounds_toArray, List.set_cons_zero, List.set_cons_succ]
            refine wpAnyH_take (i := 46) (oi := { dst := some 104, op := Op.pick (Operand.tmp 100) (Operand.tmp 103) (Operand.const (Value.bool false)), type := 4, pos := "law.go:143", after := #[{ on := 42, ground := Ground.data }, { on := 45, ground := Ground.data }], guard := none }) (v := ?vu81) rfl (by kernel_rfl) (by kernel_rfl) (by kernel_rfl) (fun _ _ _ h => h) (Or.inl ⟨by rfl, ?hyu81⟩) (by assumption) ?restu81
            case hyu81 => (intro w hSw; (try dsimp only at hSw); go_simp; (try with_reducible rfl))
            try simp only [Act.put, List.setIfInBounds_toArray, List.set_cons_zero, List.set_cons_succ]
            refine wpAnyH_take (i := 47) (oi := { dst := some 105, op := Op.move (Operand.tmp 104), type := 4, pos := "law.go:143", after := #[{ on := 46, ground := Ground.data }, { on := 45, ground := Ground.chain }], guard := none }) (v := ?vu82) rfl (by kernel_rfl) (by kernel_rfl) (by kernel_rfl) (fun _ _ _ h => h) (Or.inl ⟨by rfl, ?hyu82⟩) (by assumption) ?restu82
            case hyu82 => (intro w hSw; (try dsimp only at hSw); go_simp; (try with_reducible rfl))
            try simp only [Act.put, List.setIfInBounds_toArray, List.set_cons_zero, List.set_cons_succ]
            refine wpAnyH_take (i := 49) (oi := { dst := some 107, op := Op.move (Operand.tmp 2), type := 23, pos := "law.go:143", after := #[{ on := 47, ground := Ground.guard }], guard := some (47, true) }) (v := ?vu83) rfl (by kernel_rfl) (by kernel_rfl) (by kernel_rfl) (fun _ _ _ h => h) (Or.inl ⟨by rfl, ?hyu83⟩) (by assumption) ?restu83
            case hyu83 => (intro w hSw; (try dsimp only at hSw); go_simp; (try with_reducible rfl))
            try simp only [Act.put, List.setIfInBounds_toArray, List.set_cons_zero, List.set_cons_succ]
            refine wpAnyH_ready (rs := [48]) (by kernel_rfl) (by simp) ?_
            refine AllReadyH.cons (o := { dst := some 106, op := Op.call { callee := Callee.value (Operand.func 30), args := #[], argTypes := #[] }, type := 27, pos := "law.go:143", after := #[{ on := 47, ground := Ground.chain }, { on := 47, ground := Ground.guard }], guard := some (47, true) }) rfl (fun K hK => ?_) AllReadyH.nil
            go_simp
            go_at_call 30
            refine (C.zero _ (C.keep HE.out (below_step HBW.out (by first | exact HW | exact HW.drew)))).mono ?_
            rintro e z7 ⟨⟨u2, rfl, hu⟩, b⟩
            replace HW := below_step (by first | exact HW | exact HW.drew) b
            have HU : Hid (FV _ u2 []) := hu
            clear hu
            clear b
            refine hK.out _ _ ?_ (fun hHeldB => ?_)
            · (try dsimp only); exact HW
            clear hK K hHeld
            have hHeld := hHeldB
            clear hHeldB
            try simp only [Act.put, List.setIfInBounds_toArray, List.set_cons_zero, List.set_cons_succ]
            refine wpAnyH_ready (rs := [50]) (by kernel_rfl) (by simp) ?_
            refine AllReadyH.cons (o := { dst := some 108, op := Op.call { callee := Callee.value (Operand.func 20), args := #[Operand.tmp 106, Operand.tmp 107], argTypes := #[27, 23] }, type := 4, pos := "law.go:143", after := #[{ on := 48, ground := Ground.data }, { on := 49, ground := Ground.data }, { on := 48, ground := Ground.chain }, { on := 47, ground := Ground.guard }], guard := some (47, true) }) rfl (fun K hK => ?_) AllReadyH.nil
            go_simp
            go_at_call 20
            refine (C.has _ _ _ [] S false (C.keep HE.out (below_step HBW.out (by first | exact HW | exact HW.drew))) (by first | exact HU.out | exact HU.out.below (below_refl _).drew) (by exact HS.out.below (by first | exact HW | exact HW.drew)) HSl.out ⟨fun h => (by cases h), fun h => absurd h (has_nil S)⟩).mono ?_
            rintro e z8 ⟨rfl, b⟩
            replace HW := below_step (by first | exact HW | exact HW.drew) b
            clear HU
            clear b
            refine hK.out _ _ ?_ (fun hHeldB => ?_)
            · (try dsimp only); exact HW
            clear hK K hHeld
            have hHeld := hHeldB
            clear hHeldB
            try simp only [Act.put, List.setIfInBounds_toArray, List.set_cons_zero, List.set_cons_succ]
            refine wpAnyH_take (i := 51) (oi := { dst := some 109, op := Op.unOp UnOp.not 4 (Operand.tmp 108), type := 4, pos := "law.go:143", after := #[{ on := 50, ground := Ground.data }, { on := 47, ground := Ground.guard }], guard := some (47, true) }) (v := ?vu84) rfl (by kernel_rfl) (by kernel_rfl) (by kernel_rfl) (fun _ _ _ h => h) (Or.inl ⟨by rfl, ?hyu84⟩) (by assumption) ?restu84
            case hyu84 => (intro w hSw; (try dsimp only at hSw); go_simp; (try with_reducible rfl))
            try simp only [Act.put, List.setIfInBounds_toArray, List.set_cons_zero, List.set_cons_succ]
            refine wpAnyH_take (i := 52) (oi := { dst := some 110, op := Op.pick (Operand.tmp 105) (Operand.tmp 109) (Operand.const (Value.bool false)), type := 4, pos := "law.go:143", after := #[{ on := 47, ground := Ground.data }, { on := 51, ground := Ground.data }], guard := none }) (v := ?vu85) rfl (by kernel_rfl) (by kernel_rfl) (by kernel_rfl) (fun _ _ _ h => h) (Or.inl ⟨by rfl, ?hyu85⟩) (by assumption) ?restu85
            case hyu85 => (intro w hSw; (try dsimp only at hSw); go_simp; (try with_reducible rfl))
            try simp only [Act.put, List.setIfInBounds_toArray, List.set_cons_zero, List.set_cons_succ]
            refine wpAnyH_take (i := 53) (oi := { dst := some 111, op := Op.move (Operand.tmp 110), type := 4, pos := "law.go:143", after := #[{ on := 52, ground := Ground.data }, { on := 50, ground := Ground.chain }], guard := none }) (v := ?vu86) rfl (by kernel_rfl) (by kernel_rfl) (by kernel_rfl) (fun _ _ _ h => h) (Or.inl ⟨by rfl, ?hyu86⟩) (by assumption) ?restu86
            case hyu86 => (intro w hSw; (try dsimp only at hSw); go_simp; (try with_reducible rfl))
            try simp only [Act.put, List.setIfInBounds_toArray, List.set_cons_zero, List.set_cons_succ]
            refine wpAnyH_ready (rs := [54]) (by kernel_rfl) (by simp) ?_
            refine AllReadyH.cons (o := { dst := some 112, op := Op.call { callee := Callee.value (Operand.func 10), args := #[], argTypes := #[] }, type := 4, pos := "law.go:143", after := #[{ on := 53, ground := Ground.chain }, { on := 53, ground := Ground.guard }], guard := some (53, true) }) rfl (fun K hK => ?_) AllReadyH.nil
            go_simp
            go_at_call 10
            refine (awake_of C _ (C.keep HE.out (below_step HBW.out (by first | exact HW | exact HW.drew)))).mono ?_
            rintro e z9 ⟨rfl, b⟩
            replace HW := below_step (by first | exact HW | exact HW.drew) b
            clear b
            refine hK.out _ _ ?_ (fun hHeldB => ?_)
            · (try dsimp only); exact HW
            clear hK K hHeld
            have hHeld := hHeldB
            clear hHeldB
            try simp only [Act.put, List.setIfInBounds_toArray, List.set_cons_zero, List.set_cons_succ]
            refine wpAnyH_take (i := 55) (oi := { dst := some 113, op := Op.pick (Operand.tmp 111) (Operand.tmp 112) (Operand.const (Value.bool false)), type := 4, pos := "law.go:143", after := #[{ on := 53, ground := Ground.data }, { on := 54, ground := Ground.data }], guard := none }) (v := ?vu87) rfl (by kernel_rfl) (by kernel_rfl) (by kernel_rfl) (fun _ _ _ h => h) (Or.inl ⟨by rfl, ?hyu87⟩) (by assumption) ?restu87
            case hyu87 => (intro w hSw; (try dsimp only at hSw); go_simp; (try with_reducible rfl))
            try simp only [Act.put, List.setIfInBounds_toArray, List.set_cons_zero, List.set_cons_succ]
            refine wpAnyH_take (i := 56) (oi := { dst := some 6, op := Op.assign (Operand.tmp 113), type := 4, pos := "law.go:143", after := #[{ on := 55, ground := Ground.data }, { on := 54, ground := Ground.chain }, { on := 0, ground := Ground.phase }, { on := 1, ground := Ground.phase }, { on := 2, ground := Ground.phase }, { on := 3, ground := Ground.phase }, { on := 4, ground := Ground.phase }, { on := 5, ground := Ground.phase }, { on := 6, ground := Ground.phase }, { on := 7, ground := Ground.phase }, { on := 8, ground := Ground.phase }, { on := 9, ground := Ground.phase }, { on := 10, ground := Ground.phase }, { on := 11, ground := Ground.phase }, { on := 12, ground := Ground.phase }, { on := 13, ground := Ground.phase }, { on := 14, ground := Ground.phase }, { on := 15, ground := Ground.phase }, { on := 16, ground := Ground.phase }, { on := 17, ground := Ground.phase }, { on := 18, ground := Ground.phase }, { on := 19, ground := Ground.phase }, { on := 20, ground := Ground.phase }, { on := 21, ground := Ground.phase }, { on := 22, ground := Ground.phase }, { on := 23, ground := Ground.phase }, { on := 24, ground := Ground.phase }, { on := 25, ground := Ground.phase }, { on := 26, ground := Ground.phase }, { on := 27, ground := Ground.phase }, { on := 28, ground := Ground.phase }, { on := 29, ground := Ground.phase }, { on := 30, ground := Ground.phase }, { on := 31, ground := Ground.phase }, { on := 32, ground := Ground.phase }, { on := 33, ground := Ground.phase }, { on := 34, ground := Ground.phase }, { on := 35, ground := Ground.phase }, { on := 36, ground := Ground.phase }, { on := 37, ground := Ground.phase }, { on := 38, ground := Ground.phase }, { on := 39, ground := Ground.phase }, { on := 40, ground := Ground.phase }, { on := 41, ground := Ground.phase }, { on := 42, ground := Ground.phase }, { on := 43, ground := Ground.phase }, { on := 44, ground := Ground.phase }, { on := 45, ground := Ground.phase }, { on := 46, ground := Ground.phase }, { on := 47, ground := Ground.phase }, { on := 48, ground := Ground.phase }, { on := 49, ground := Ground.phase }, { on := 50, ground := Ground.phase }, { on := 51, ground := Ground.phase }, { on := 52, ground := Ground.phase }, { on := 53, ground := Ground.phase }, { on := 54, ground := Ground.phase }, { on := 55, ground := Ground.phase }], guard := none }) (v := ?vu88) rfl (by kernel_rfl) (by kernel_rfl) (by kernel_rfl) (fun _ _ _ h => h) (Or.inl ⟨by rfl, ?hyu88⟩) (by assumption) ?restu88
            case hyu88 => (intro w hSw; (try dsimp only at hSw); go_simp; (try with_reducible rfl))
            try simp only [Act.put, List.setIfInBounds_toArray, List.set_cons_zero, List.set_cons_succ]
            refine wpAnyH_done (by kernel_rfl) ?_ _
            go_wp2
            go_ret
            exact ⟨rfl, below_step HBW.out HW⟩
        · have hS' : (50 : Int) < (S.length : Int) := by omega
          have HgL : Hid (GoodP L) := hgl
          have HgR : Hid (GoodP R) := hgr
          clear hgl hgr
          go_wp2_with (go_at_call 12; fail)
          refine (agood_any _ _ L true HA.out ⟨fun _ => HgL.out, fun _ => rfl⟩).mono ?_
          rintro e w' ⟨rfl, hw⟩
          replace hw := hw.symm
          subst hw
          go_wp2_with (go_at_call 12; fail)
          refine (agood_any _ _ R true HR.out ⟨fun _ => HgR.out, fun _ => rfl⟩).mono ?_
          rintro e w' ⟨rfl, hw⟩
          replace hw := hw.symm
          subst hw
          go_wp2_with (go_at_call 10; fail)
          refine (awake_of C _ (C.keep HE.out HB.out)).mono ?_
          rintro e xx ⟨rfl, b⟩
          have HBx : Hid (Below w.heap.size w xx) := below_step HB.out b
          clear b HB
          go_wp2
          go_ret
          exact ⟨rfl, HBx.out⟩
      · have HgL : Hid (GoodP L) := hgl
        have HgR : Hid (¬ GoodP R) := hgr
        clear hgl hgr
        go_wp2_with (go_at_call 12; fail)
        refine (agood_any _ _ L true HA.out ⟨fun _ => HgL.out, fun _ => rfl⟩).mono ?_
        rintro e w' ⟨rfl, hw⟩
        replace hw := hw.symm
        subst hw
        go_wp2_with (go_at_call 12; fail)
        refine (agood_any _ _ R false HR.out ⟨fun h => (by cases h), fun h => absurd h HgR.out⟩).mono ?_
        rintro e w' ⟨rfl, hw⟩
        replace hw := hw.symm
        subst hw
        go_wp2_with (go_at_call 10; fail)
        refine (awake_of C _ (C.keep HE.out HB.out)).mono ?_
        rintro e xx ⟨rfl, b⟩
        have HBx : Hid (Below w.heap.size w xx) := below_step HB.out b
        clear b HB
        go_wp2
        go_ret
        exact ⟨rfl, HBx.out⟩
    · have HgL : Hid (¬ GoodP L) := hgl
      clear hgl
      go_wp2_with (go_at_call 12; fail)
      refine (agood_any _ _ L false HA.out ⟨fun h => (by cases h), fun h => absurd h HgL.out⟩).mono ?_
      rintro e w' ⟨rfl, hw⟩
      replace hw := hw.symm
      subst hw
      go_wp2_with (go_at_call 10; fail)
      refine (awake_of C _ (C.keep HE.out HB.out)).mono ?_
      rintro e xx ⟨rfl, b⟩
      have HBx : Hid (Below w.heap.size w xx) := below_step HB.out b
      clear b HB
      go_wp2
      go_ret
      exact ⟨rfl, HBx.out⟩
end Go.Proofs.Yteaajhpgmndomaa
