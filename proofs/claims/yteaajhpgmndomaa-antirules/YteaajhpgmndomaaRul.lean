/- The walk of AntiRules, out of what families answer. -/
import Derived.Test.YteaajhpgmndomaaRlf
namespace Go.Proofs.Yteaajhpgmndomaa
open Go.RowKit Fo
set_option maxRecDepth 100000
set_option linter.unusedSimpArgs false

set_option maxHeartbeats 64000000 in
theorem rules_core {Env : World → Prop} (C : FamSays Env) (w : World) (vl vr vz : Value) (L R Z : List (List Int)) (h1 : IsLL w vl L) (h2 : IsLL w vr R) (h3 : IsLL w vz Z) (henv : Env w) :
    Calls Try.prog 4 #[vl, vr, vz] w fun e w' => e = .returned (.bool true) ∧ Below w.heap.size w w' := by
  have HA0 := h1
  have HR0 := h2
  have HZ0 := h3
  have HE : Hid (Env w) := henv
  obtain ⟨al, cl, VL, rfl, hrl, -⟩ := h1
  obtain ⟨ar, cr, VR, rfl, hrr, -⟩ := h2
  obtain ⟨az, cz, VZ, rfl, hrz, -⟩ := h3
  have hl1 := hrl.1
  have hl2 := hrl.2.1
  have hr1 := hrr.1
  have hr2 := hrr.2.1
  have hz1 := hrz.1
  have hz2 := hrz.2.1
  obtain ⟨W0, hW0⟩ : ∃ W0, W0 = w.alloc (.cells #[.slice al L.length cl, .slice ar R.length cr, .slice az Z.length cz] 22) := ⟨_, rfl⟩
  have HB : Hid (Below w.heap.size w W0) := by rw [hW0]; exact below1 w _
  have hg0 : W0.heap[w.heap.size]? = some (.cells #[.slice al L.length cl, .slice ar R.length cr, .slice az Z.length cz] 22) := by rw [hW0]; exact heap_new1 w _
  have cS := asmall_any W0 w.heap.size 3 (fun j => if j = 0 then .slice al L.length cl else if j = 1 then .slice ar R.length cr else .slice az Z.length cz) (fun j => if j = 0 then L else if j = 1 then R else Z) (by decide)
    (fun j hj => by rw [cell_of_row W0 _ _ _ _ _ hg0]; match j, hj with | 0, _ => rfl | 1, _ => rfl | 2, _ => rfl)
    (fun j hj => by match j, hj with | 0, _ => exact HA0.below HB.out | 1, _ => exact HR0.below HB.out | 2, _ => exact HZ0.below HB.out)
  have HA : Hid (IsLL W0 (.slice al L.length cl) L) := HA0.below HB.out
  have HR : Hid (IsLL W0 (.slice ar R.length cr) R) := HR0.below HB.out
  have HZ : Hid (IsLL W0 (.slice az Z.length cz) Z) := HZ0.below HB.out
  clear hrl hrr hrz hg0 HA0 HR0 HZ0 henv
  go_enter Try.func4, Try.ntmps4
  go_wp2_with (go_at_call 9; fail)
  rw [← hW0]
  clear hW0
  refine cS.mono ?_
  rintro e w' ⟨hr, hw⟩
  replace hw := hw.symm
  subst hw
  obtain ⟨q, rfl, hq⟩ := hr
  clear cS
  cases q
  · skip
    go_wp2_with (go_at_call 10; fail)
    refine (awake_of C _ (C.keep HE.out HB.out)).mono ?_
    rintro e xx ⟨rfl, b⟩
    have HBx : Hid (Below w.heap.size w xx) := below_step HB.out b
    clear b HB
    go_wp2
    go_ret
    exact ⟨rfl, HBx.out⟩
  · have HL : Hid (SmP L) := hq rfl 0 (by decide)
    have HRs : Hid (SmP R) := hq rfl 1 (by decide)
    have HZs : Hid (SmP Z) := hq rfl 2 (by decide)
    clear hq
    by_cases hgL : GoodP L
    case neg =>
      have HgL : Hid (¬ GoodP L) := hgL
      clear hgL
      go_wp2_with (go_at_call 12; fail)
      refine (agood_any _ _ L false HA.out ⟨fun h => (by cases h), fun h => absurd h HgL.out⟩).mono ?_
      rintro e w' ⟨rfl, hw⟩
      replace hw := hw.symm
      subst hw
      go_wp2_with (go_at_call 10; fail)
      refine (awake_of C _ (C.keep HE.out HB.out)).mono ?_
      rintro e xx ⟨rfl, b⟩
      have HBx : Hid (Below w.heap.size w xx) := below_step HB.out b
      clear b HB
      go_wp2
      go_ret
      exact ⟨rfl, HBx.out⟩
    have HgL : Hid (GoodP L) := hgL
    clear hgL
    by_cases hgR : GoodP R
    case neg =>
      have HgR : Hid (¬ GoodP R) := hgR
      clear hgR
      go_wp2_with (go_at_call 12; fail)
      refine (agood_any _ _ L true HA.out ⟨fun _ => HgL.out, fun _ => rfl⟩).mono ?_
      rintro e w' ⟨rfl, hw⟩
      replace hw := hw.symm
      subst hw
      go_wp2_with (go_at_call 12; fail)
      refine (agood_any _ _ R false HR.out ⟨fun h => (by cases h), fun h => absurd h HgR.out⟩).mono ?_
      rintro e w' ⟨rfl, hw⟩
      replace hw := hw.symm
      subst hw
      go_wp2_with (go_at_call 10; fail)
      refine (awake_of C _ (C.keep HE.out HB.out)).mono ?_
      rintro e xx ⟨rfl, b⟩
      have HBx : Hid (Below w.heap.size w xx) := below_step HB.out b
      clear b HB
      go_wp2
      go_ret
      exact ⟨rfl, HBx.out⟩
    have HgR : Hid (GoodP R) := hgR
    clear hgR
    by_cases hgZ : GoodP Z
    case neg =>
      have HgZ : Hid (¬ GoodP Z) := hgZ
      clear hgZ
      go_wp2_with (go_at_call 12; fail)
      refine (agood_any _ _ L true HA.out ⟨fun _ => HgL.out, fun _ => rfl⟩).mono ?_
      rintro e w' ⟨rfl, hw⟩
      replace hw := hw.symm
      subst hw
      go_wp2_with (go_at_call 12; fail)
      refine (agood_any _ _ R true HR.out ⟨fun _ => HgR.out, fun _ => rfl⟩).mono ?_
      rintro e w' ⟨rfl, hw⟩
      replace hw := hw.symm
      subst hw
      go_wp2_with (go_at_call 12; fail)
      refine (agood_any _ _ Z false HZ.out ⟨fun h => (by cases h), fun h => absurd h HgZ.out⟩).mono ?_
      rintro e w' ⟨rfl, hw⟩
      replace hw := hw.symm
      subst hw
      go_wp2_with (go_at_call 10; fail)
      refine (awake_of C _ (C.keep HE.out HB.out)).mono ?_
      rintro e xx ⟨rfl, b⟩
      have HBx : Hid (Below w.heap.size w xx) := below_step HB.out b
      clear b HB
      go_wp2
      go_ret
      exact ⟨rfl, HBx.out⟩
    have HgZ : Hid (GoodP Z) := hgZ
    clear hgZ
    by_cases hnL : (6 : Int) < (L.length : Int)
    case pos =>
      go_wp2_with (go_at_call 12; fail)
      refine (agood_any _ _ L true HA.out ⟨fun _ => HgL.out, fun _ => rfl⟩).mono ?_
      rintro e w' ⟨rfl, hw⟩
      replace hw := hw.symm
      subst hw
      go_wp2_with (go_at_call 12; fail)
      refine (agood_any _ _ R true HR.out ⟨fun _ => HgR.out, fun _ => rfl⟩).mono ?_
      rintro e w' ⟨rfl, hw⟩
      replace hw := hw.symm
      subst hw
      go_wp2_with (go_at_call 12; fail)
      refine (agood_any _ _ Z true HZ.out ⟨fun _ => HgZ.out, fun _ => rfl⟩).mono ?_
      rintro e w' ⟨rfl, hw⟩
      replace hw := hw.symm
      subst hw
      go_wp2_with (go_at_call 10; fail)
      refine (awake_of C _ (C.keep HE.out HB.out)).mono ?_
      rintro e xx ⟨rfl, b⟩
      have HBx : Hid (Below w.heap.size w xx) := below_step HB.out b
      clear b HB
      go_wp2
      go_ret
      exact ⟨rfl, HBx.out⟩
    by_cases hnR : (6 : Int) < (R.length : Int)
    case pos =>
      go_wp2_with (go_at_call 12; fail)
      refine (agood_any _ _ L true HA.out ⟨fun _ => HgL.out, fun _ => rfl⟩).mono ?_
      rintro e w' ⟨rfl, hw⟩
      replace hw := hw.symm
      subst hw
      go_wp2_with (go_at_call 12; fail)
      refine (agood_any _ _ R true HR.out ⟨fun _ => HgR.out, fun _ => rfl⟩).mono ?_
      rintro e w' ⟨rfl, hw⟩
      replace hw := hw.symm
      subst hw
      go_wp2_with (go_at_call 12; fail)
      refine (agood_any _ _ Z true HZ.out ⟨fun _ => HgZ.out, fun _ => rfl⟩).mono ?_
      rintro e w' ⟨rfl, hw⟩
      replace hw := hw.symm
      subst hw
      go_wp2_with (go_at_call 10; fail)
      refine (awake_of C _ (C.keep HE.out HB.out)).mono ?_
      rintro e xx ⟨rfl, b⟩
      have HBx : Hid (Below w.heap.size w xx) := below_step HB.out b
      clear b HB
      go_wp2
      go_ret
      exact ⟨rfl, HBx.out⟩
    by_cases hnZ : (6 : Int) < (Z.length : Int)
    case pos =>
      go_wp2_with (go_at_call 12; fail)
      refine (agood_any _ _ L true HA.out ⟨fun _ => HgL.out, fun _ => rfl⟩).mono ?_
      rintro e w' ⟨rfl, hw⟩
      replace hw := hw.symm
      subst hw
      go_wp2_with (go_at_call 12; fail)
      refine (agood_any _ _ R true HR.out ⟨fun _ => HgR.out, fun _ => rfl⟩).mono ?_
      rintro e w' ⟨rfl, hw⟩
      replace hw := hw.symm
      subst hw
      go_wp2_with (go_at_call 12; fail)
      refine (agood_any _ _ Z true HZ.out ⟨fun _ => HgZ.out, fun _ => rfl⟩).mono ?_
      rintro e w' ⟨rfl, hw⟩
      replace hw := hw.symm
      subst hw
      go_wp2_with (go_at_call 10; fail)
      refine (awake_of C _ (C.keep HE.out HB.out)).mono ?_
      rintro e xx ⟨rfl, b⟩
      have HBx : Hid (Below w.heap.size w xx) := below_step HB.out b
      clear b HB
      go_wp2
      go_ret
      exact ⟨rfl, HBx.out⟩
    go_wp2_with (go_at_call 12; fail)
    refine (agood_any _ _ L true HA.out ⟨fun _ => HgL.out, fun _ => rfl⟩).mono ?_
    rintro e w' ⟨rfl, hw⟩
    replace hw := hw.symm
    subst hw
    go_wp2_with (go_at_call 12; fail)
    refine (agood_any _ _ R true HR.out ⟨fun _ => HgR.out, fun _ => rfl⟩).mono ?_
    rintro e w' ⟨rfl, hw⟩
    replace hw := hw.symm
    subst hw
    go_wp2_with (go_at_call 12; fail)
    refine (agood_any _ _ Z true HZ.out ⟨fun _ => HgZ.out, fun _ => rfl⟩).mono ?_
    rintro e w' ⟨rfl, hw⟩
    replace hw := hw.symm
    subst hw
    go_wp2_with (go_at_call 11; fail)
    refine (C.of _ _ L (C.keep HE.out HB.out) HA.out (Nat.le_trans HL.out.1 (by decide)) (fun j hj => Nat.le_trans (HL.out.2 j hj) (by decide))).mono ?_
    rintro e w1 ⟨hr, b⟩
    rcases hr with ⟨-, u, F, rfl, hf, ho⟩ | ⟨hn, -⟩
    case inr => exact absurd HgL.out hn
    replace HA : Hid (IsLL w1 (.slice al L.length cl) L) := HA.out.below b
    replace HR : Hid (IsLL w1 (.slice ar R.length cr) R) := HR.out.below b
    replace HZ : Hid (IsLL w1 (.slice az Z.length cz) Z) := HZ.out.below b
    replace HB : Hid (Below w.heap.size w w1) := below_step HB.out b
    obtain ⟨af, cf, Vf, rfl, hrest⟩ := id hf
    have HOf : Hid (FamOf L F) := ho
    have HFf : Hid (FV w1 (.agg #[.slice af F.length cf]) F) := hf
    clear hrest ho hf b
    go_upto_region 4 with fail
    obtain ⟨X7, hW⟩ : ∃ X7, X7 = w1.alloc (.cells #[.slice af F.length cf] 27) := ⟨_, rfl⟩
    rw [← hW]
    have b : Below w1.heap.size w1 X7 := by rw [hW]; exact below1 _ _
    have Hb7 : Hid (X7.heap[w1.heap.size]? = some (.cells #[.slice af F.length cf] 27)) := by show X7.heap[_]? = _; rw [hW]; exact heap_new1 _ _
    have HBx7 : Hid (w.heap.size ≤ w1.heap.size) := HB.out.size
    clear hW
    replace HA : Hid (IsLL X7 (.slice al L.length cl) L) := HA.out.below b
    replace HR : Hid (IsLL X7 (.slice ar R.length cr) R) := HR.out.below b
    replace HZ : Hid (IsLL X7 (.slice az Z.length cz) Z) := HZ.out.below b
    replace HB : Hid (Below w.heap.size w X7) := below_step HB.out b
    replace HFf : Hid (FV X7 (.agg #[.slice af F.length cf]) F) := HFf.out.below b
    clear b
    go_wp2_with (go_at_call 11; fail)
    refine (C.of _ _ R (C.keep HE.out HB.out) HR.out (Nat.le_trans HRs.out.1 (by decide)) (fun j hj => Nat.le_trans (HRs.out.2 j hj) (by decide))).mono ?_
    rintro e w2 ⟨hr, b⟩
    rcases hr with ⟨-, u, G, rfl, hf, ho⟩ | ⟨hn, -⟩
    case inr => exact absurd HgR.out hn
    replace HA : Hid (IsLL w2 (.slice al L.length cl) L) := HA.out.below b
    replace HR : Hid (IsLL w2 (.slice ar R.length cr) R) := HR.out.below b
    replace HZ : Hid (IsLL w2 (.slice az Z.length cz) Z) := HZ.out.below b
    replace HB : Hid (Below w.heap.size w w2) := below_step HB.out b
    replace HFf : Hid (FV w2 (.agg #[.slice af F.length cf]) F) := HFf.out.below b
    replace Hb7 : Hid (w2.heap[w1.heap.size]? = some (.cells #[.slice af F.length cf] 27)) := (b.block (w1.heap.size) (Array.getElem?_eq_some_iff.1 Hb7.out).1).trans Hb7.out
    obtain ⟨ag, cg, Vg, rfl, hrest⟩ := id hf
    have HOg : Hid (FamOf R G) := ho
    have HFg : Hid (FV w2 (.agg #[.slice ag G.length cg]) G) := hf
    clear hrest ho hf b
    go_upto_region 5 with fail
    obtain ⟨X9, hW⟩ : ∃ X9, X9 = w2.alloc (.cells #[.slice ag G.length cg] 27) := ⟨_, rfl⟩
    rw [← hW]
    have b : Below w2.heap.size w2 X9 := by rw [hW]; exact below1 _ _
    have Hb9 : Hid (X9.heap[w2.heap.size]? = some (.cells #[.slice ag G.length cg] 27)) := by show X9.heap[_]? = _; rw [hW]; exact heap_new1 _ _
    have HBx9 : Hid (w.heap.size ≤ w2.heap.size) := HB.out.size
    have dl7_9 : w1.heap.size < w2.heap.size := (Array.getElem?_eq_some_iff.1 Hb7.out).1
    clear hW
    replace HA : Hid (IsLL X9 (.slice al L.length cl) L) := HA.out.below b
    replace HR : Hid (IsLL X9 (.slice ar R.length cr) R) := HR.out.below b
    replace HZ : Hid (IsLL X9 (.slice az Z.length cz) Z) := HZ.out.below b
    replace HB : Hid (Below w.heap.size w X9) := below_step HB.out b
    replace HFf : Hid (FV X9 (.agg #[.slice af F.length cf]) F) := HFf.out.below b
    replace HFg : Hid (FV X9 (.agg #[.slice ag G.length cg]) G) := HFg.out.below b
    replace Hb7 : Hid (X9.heap[w1.heap.size]? = some (.cells #[.slice af F.length cf] 27)) := (b.block (w1.heap.size) (Array.getElem?_eq_some_iff.1 Hb7.out).1).trans Hb7.out
    clear b
    go_wp2_with (go_at_call 11; fail)
    refine (C.of _ _ Z (C.keep HE.out HB.out) HZ.out (Nat.le_trans HZs.out.1 (by decide)) (fun j hj => Nat.le_trans (HZs.out.2 j hj) (by decide))).mono ?_
    rintro e w3 ⟨hr, b⟩
    rcases hr with ⟨-, u, J, rfl, hf, ho⟩ | ⟨hn, -⟩
    case inr => exact absurd HgZ.out hn
    replace HA : Hid (IsLL w3 (.slice al L.length cl) L) := HA.out.below b
    replace HR : Hid (IsLL w3 (.slice ar R.length cr) R) := HR.out.below b
    replace HZ : Hid (IsLL w3 (.slice az Z.length cz) Z) := HZ.out.below b
    replace HB : Hid (Below w.heap.size w w3) := below_step HB.out b
    replace HFf : Hid (FV w3 (.agg #[.slice af F.length cf]) F) := HFf.out.below b
    replace HFg : Hid (FV w3 (.agg #[.slice ag G.length cg]) G) := HFg.out.below b
    replace Hb7 : Hid (w3.heap[w1.heap.size]? = some (.cells #[.slice af F.length cf] 27)) := (b.block (w1.heap.size) (Array.getElem?_eq_some_iff.1 Hb7.out).1).trans Hb7.out
    replace Hb9 : Hid (w3.heap[w2.heap.size]? = some (.cells #[.slice ag G.length cg] 27)) := (b.block (w2.heap.size) (Array.getElem?_eq_some_iff.1 Hb9.out).1).trans Hb9.out
    obtain ⟨ak, ck, Vk, rfl, hrest⟩ := id hf
    have HOk : Hid (FamOf Z J) := ho
    have HFk : Hid (FV w3 (.agg #[.slice ak J.length ck]) J) := hf
    clear hrest ho hf b
    go_upto_region 11 with fail
    obtain ⟨X11, hW⟩ : ∃ X11, X11 = w3.alloc (.cells #[.slice ak J.length ck] 27) := ⟨_, rfl⟩
    rw [← hW]
    have b : Below w3.heap.size w3 X11 := by rw [hW]; exact below1 _ _
    have Hb11 : Hid (X11.heap[w3.heap.size]? = some (.cells #[.slice ak J.length ck] 27)) := by show X11.heap[_]? = _; rw [hW]; exact heap_new1 _ _
    have HBx11 : Hid (w.heap.size ≤ w3.heap.size) := HB.out.size
    have dl7_11 : w1.heap.size < w3.heap.size := (Array.getElem?_eq_some_iff.1 Hb7.out).1
    have dl9_11 : w2.heap.size < w3.heap.size := (Array.getElem?_eq_some_iff.1 Hb9.out).1
    clear hW
    replace HA : Hid (IsLL X11 (.slice al L.length cl) L) := HA.out.below b
    replace HR : Hid (IsLL X11 (.slice ar R.length cr) R) := HR.out.below b
    replace HZ : Hid (IsLL X11 (.slice az Z.length cz) Z) := HZ.out.below b
    replace HB : Hid (Below w.heap.size w X11) := below_step HB.out b
    replace HFf : Hid (FV X11 (.agg #[.slice af F.length cf]) F) := HFf.out.below b
    replace HFg : Hid (FV X11 (.agg #[.slice ag G.length cg]) G) := HFg.out.below b
    replace HFk : Hid (FV X11 (.agg #[.slice ak J.length ck]) J) := HFk.out.below b
    replace Hb7 : Hid (X11.heap[w1.heap.size]? = some (.cells #[.slice af F.length cf] 27)) := (b.block (w1.heap.size) (Array.getElem?_eq_some_iff.1 Hb7.out).1).trans Hb7.out
    replace Hb9 : Hid (X11.heap[w2.heap.size]? = some (.cells #[.slice ag G.length cg] 27)) := (b.block (w2.heap.size) (Array.getElem?_eq_some_iff.1 Hb9.out).1).trans Hb9.out
    clear b
    have HPf : Hid (FP X11 (.agg #[.slice af F.length cf]) (fun s => has F s) 6 12) := ⟨F, HFf.out, HOf.out.1, fun _ => Iff.rfl, Nat.le_trans (fam_len HOf.out) (by omega), fam_sets HOf.out HL.out.2⟩
    have HPg : Hid (FP X11 (.agg #[.slice ag G.length cg]) (fun s => has G s) 6 12) := ⟨G, HFg.out, HOg.out.1, fun _ => Iff.rfl, Nat.le_trans (fam_len HOg.out) (by omega), fam_sets HOg.out HRs.out.2⟩
    have HPk : Hid (FP X11 (.agg #[.slice ak J.length ck]) (fun s => has J s) 6 12) := ⟨J, HFk.out, HOk.out.1, fun _ => Iff.rfl, Nat.le_trans (fam_len HOk.out) (by omega), fam_sets HOk.out HZs.out.2⟩
    have HEX : Hid (Env X11) := C.keep HE.out HB.out
    clear HFf HFg HFk HOf HOg HOk HA HR HZ HL HRs HZs HgL HgR HgZ HE
    have HW0 : Below X11.heap.size X11 X11 := below_refl _
    as_aux_lemma =>
      refine wp_region_held_drew (S := (fun w' => Below X11.heap.size X11 w')) (by kernel_rfl) ?_ (fun hHeld => ?_)
      · (try dsimp only); first | exact HW0 | exact HW0.drew
      refine wpAnyH_take (i := 0) (oi := { dst := some 79, op := Op.move (Operand.tmp 15), type := 45, pos := "law.go:98", after := #[], guard := none }) (v := ?vu254) rfl (by kernel_rfl) (by kernel_rfl) (by kernel_rfl) (fun _ _ _ h => h) (Or.inl ⟨by rfl, ?hyu254⟩) (by assumption) ?restu254
      case hyu254 => (intro w hSw; (try dsimp only at hSw); go_simp; (try with_reducible rfl))
      try simp only [Act.put, List.setIfInBounds_toArray, List.set_cons_zero, List.set_cons_succ]
      refine wpAnyH_take (i := 1) (oi := { dst := some 80, op := Op.move (Operand.tmp 13), type := 44, pos := "law.go:98", after := #[], guard := none }) (v := ?vu255) rfl (by kernel_rfl) (by kernel_rfl) (by kernel_rfl) (fun _ _ _ h => h) (Or.inl ⟨by rfl, ?hyu255⟩) (by assumption) ?restu255
      case hyu255 => (intro w hSw; (try dsimp only at hSw); go_simp; (try with_reducible rfl))
      try simp only [Act.put, List.setIfInBounds_toArray, List.set_cons_zero, List.set_cons_succ]
      refine wpAnyH_take (i := 2) (oi := { dst := some 81, op := Op.load 27 (Operand.tmp 7), type := 27, pos := "law.go:98", after := #[], guard := none }) (v := ?vu256) rfl (by kernel_rfl) (by kernel_rfl) (by kernel_rfl) (fun _ _ _ h => h) (Or.inl ⟨by rfl, ?hyu256⟩) (by assumption) ?restu256
      case hyu256 => (intro w hSw; (try dsimp only at hSw); have q1 := (box1_facts ((hSw.block _ (Array.getElem?_eq_some_iff.1 Hb7.out).1).trans Hb7.out)).1; go_simp; (try with_reducible rfl))
      try simp only [Act.put, List.setIfInBounds_toArray, List.set_cons_zero, List.set_cons_succ]
      refine wpAnyH_take (i := 3) (oi := { dst := some 82, op := Op.load 27 (Operand.tmp 9), type := 27, pos := "law.go:98", after := #[], guard := none }) (v := ?vu257) rfl (by kernel_rfl) (by kernel_rfl) (by kernel_rfl) (fun _ _ _ h => h) (Or.inl ⟨by rfl, ?hyu257⟩) (by assumption) ?restu257
      case hyu257 => (intro w hSw; (try dsimp only at hSw); have q1 := (box1_facts ((hSw.block _ (Array.getElem?_eq_some_iff.1 Hb9.out).1).trans Hb9.out)).1; go_simp; (try with_reducible rfl))
      try simp only [Act.put, List.setIfInBounds_toArray, List.set_cons_zero, List.set_cons_succ]
      refine wpAnyH_take (i := 5) (oi := { dst := some 84, op := Op.move (Operand.tmp 13), type := 44, pos := "law.go:98", after := #[], guard := none }) (v := ?vu258) rfl (by kernel_rfl) (by kernel_rfl) (by kernel_rfl) (fun _ _ _ h => h) (Or.inl ⟨by rfl, ?hyu258⟩) (by assumption) ?restu258
      case hyu258 => (intro w hSw; (try dsimp only at hSw); go_simp; (try with_reducible rfl))
      try simp only [Act.put, List.setIfInBounds_toArray, List.set_cons_zero, List.set_cons_succ]
      refine wpAnyH_take (i := 6) (oi := { dst := some 85, op := Op.load 27 (Operand.tmp 9), type := 27, pos := "law.go:98", after := #[], guard := none }) (v := ?vu259) rfl (by kernel_rfl) (by kernel_rfl) (by kernel_rfl) (fun _ _ _ h => h) (Or.inl ⟨by rfl, ?hyu259⟩) (by assumption) ?restu259
      case hyu259 => (intro w hSw; (try dsimp only at hSw); have q1 := (box1_facts ((hSw.block _ (Array.getElem?_eq_some_iff.1 Hb9.out).1).trans Hb9.out)).1; go_simp; (try with_reducible rfl))
      try simp only [Act.put, List.setIfInBounds_toArray, List.set_cons_zero, List.set_cons_succ]
      refine wpAnyH_take (i := 7) (oi := { dst := some 86, op := Op.load 27 (Operand.tmp 7), type := 27, pos := "law.go:98", after := #[], guard := none }) (v := ?vu260) rfl (by kernel_rfl) (by kernel_rfl) (by kernel_rfl) (fun _ _ _ h => h) (Or.inl ⟨by rfl, ?hyu260⟩) (by assumption) ?restu260
      case hyu260 => (intro w hSw; (try dsimp only at hSw); have q1 := (box1_facts ((hSw.block _ (Array.getElem?_eq_some_iff.1 Hb7.out).1).trans Hb7.out)).1; go_simp; (try with_reducible rfl))
      try simp only [Act.put, List.setIfInBounds_toArray, List.set_cons_zero, List.set_cons_succ]
      refine wpAnyH_ready (rs := [4]) (by kernel_rfl) (by simp) ?_
      refine AllReadyH.cons (o := { dst := some 83, op := Op.call { callee := Callee.value (Operand.tmp 80), args := #[Operand.tmp 81, Operand.tmp 82], argTypes := #[27, 27] }, type := 27, pos := "law.go:98", after := #[{ on := 1, ground := Ground.data }, { on := 2, ground := Ground.data }, { on := 3, ground := Ground.data }], guard := none }) rfl (fun K hK => ?_) AllReadyH.nil
      go_simp
      go_at_call 26
      refine (rplus_any C _ _ _ (fun s => has F s) (fun s => has G s) 6 12 6 12 (C.keep HEX.out (by first | exact HW0 | exact HW0.drew)) (HPf.out.below (by first | exact HW0 | exact HW0.drew)) (HPg.out.below (by first | exact HW0 | exact HW0.drew)) (by decide)).mono ?_
      rintro e pz1 ⟨⟨py1, rfl, hy⟩, b⟩
      have Hpy1 : Hid (FP pz1 py1 (fun s => (fun s => has F s) s ∨ (fun s => has G s) s) (6 + 6) (max 12 12)) := hy
      replace HW0 := below_step (by first | exact HW0 | exact HW0.drew) b
      clear b hy
      refine hK.out _ _ ?_ (fun hHeldB => ?_)
      · (try dsimp only); exact HW0
      clear hK K hHeld
      have hHeld := hHeldB
      clear hHeldB
      try simp only [Act.put, List.setIfInBounds_toArray, List.set_cons_zero, List.set_cons_succ]
      refine wpAnyH_ready (rs := [8]) (by kernel_rfl) (by simp) ?_
      refine AllReadyH.cons (o := { dst := some 87, op := Op.call { callee := Callee.value (Operand.tmp 84), args := #[Operand.tmp 85, Operand.tmp 86], argTypes := #[27, 27] }, type := 27, pos := "law.go:98", after := #[{ on := 5, ground := Ground.data }, { on := 6, ground := Ground.data }, { on := 7, ground := Ground.data }, { on := 4, ground := Ground.chain }], guard := none }) rfl (fun K hK => ?_) AllReadyH.nil
      go_simp
      go_at_call 26
      refine (rplus_any C _ _ _ (fun s => has G s) (fun s => has F s) 6 12 6 12 (C.keep HEX.out (by first | exact HW0 | exact HW0.drew)) (HPg.out.below (by first | exact HW0 | exact HW0.drew)) (HPf.out.below (by first | exact HW0 | exact HW0.drew)) (by decide)).mono ?_
      rintro e pz2 ⟨⟨py2, rfl, hy⟩, b⟩
      replace Hpy1 : Hid (FP pz2 py1 (fun s => (fun s => has F s) s ∨ (fun s => has G s) s) (6 + 6) (max 12 12)) := Hpy1.out.below b
      have Hpy2 : Hid (FP pz2 py2 (fun s => (fun s => has G s) s ∨ (fun s => has F s) s) (6 + 6) (max 12 12)) := hy
      replace HW0 := below_step (by first | exact HW0 | exact HW0.drew) b
      clear b hy
      refine hK.out _ _ ?_ (fun hHeldB => ?_)
      · (try dsimp only); exact HW0
      clear hK K hHeld
      have hHeld := hHeldB
      clear hHeldB
      try simp only [Act.put, List.setIfInBounds_toArray, List.set_cons_zero, List.set_cons_succ]
      as_aux_lemma =>
        refine wpAnyH_ready (rs := [9]) (by kernel_rfl) (by simp) ?_
        refine AllReadyH.cons (o := { dst := some 88, op := Op.call { callee := Callee.value (Operand.tmp 79), args := #[Operand.tmp 83, Operand.tmp 87], argTypes := #[27, 27] }, type := 4, pos := "law.go:98", after := #[{ on := 0, ground := Ground.data }, { on := 4, ground := Ground.data }, { on := 8, ground := Ground.data }, { on := 8, ground := Ground.chain }], guard := none }) rfl (fun K hK => ?_) AllReadyH.nil
        go_simp
        go_at_call 28
        refine (rsame_any C _ _ _ (fun s => (fun s => has F s) s ∨ (fun s => has G s) s) (fun s => (fun s => has G s) s ∨ (fun s => has F s) s) (6 + 6) (max 12 12) (6 + 6) (max 12 12) (C.keep HEX.out (by first | exact HW0 | exact HW0.drew)) Hpy1.out Hpy2.out (fun s => by by_cases h1 : has F s <;> by_cases h2 : has G s <;> by_cases h3 : has J s <;> simp [h1, h2, h3])).mono ?_
        rintro e pz3 ⟨rfl, b⟩
        replace HW0 := below_step (by first | exact HW0 | exact HW0.drew) b
        clear b
        refine hK.out _ _ ?_ (fun hHeldB => ?_)
        · (try dsimp only); exact HW0
        clear hK K hHeld
        have hHeld := hHeldB
        clear hHeldB
        try simp only [Act.put, List.setIfInBounds_toArray, List.set_cons_zero, List.set_cons_succ]
        refine wpAnyH_take (i := 10) (oi := { dst := some 89, op := Op.move (Operand.tmp 88), type := 4, pos := "law.go:98", after := #[{ on := 9, ground := Ground.data }, { on := 9, ground := Ground.chain }], guard := none }) (v := ?vu261) rfl (by kernel_rfl) (by kernel_rfl) (by kernel_rfl) (fun _ _ _ h => h) (Or.inl ⟨by rfl, ?hyu261⟩) (by assumption) ?restu261
        case hyu261 => (intro w hSw; (try dsimp only at hSw); go_simp; (try with_reducible rfl))
        try simp only [Act.put, List.setIfInBounds_toArray, List.set_cons_zero, List.set_cons_succ]
        refine wpAnyH_take (i := 11) (oi := { dst := some 90, op := Op.move (Operand.tmp 15), type := 45, pos := "law.go:98", after := #[{ on := 10, ground := Ground.guard }], guard := some (10, true) }) (v := ?vu262) rfl (by kernel_rfl) (by kernel_rfl) (by kernel_rfl) (fun _ _ _ h => h) (Or.inl ⟨by rfl, ?hyu262⟩) (by assumption) ?restu262
        case hyu262 => (intro w hSw; (try dsimp only at hSw); go_simp; (try with_reducible rfl))
        try simp only [Act.put, List.setIfInBounds_toArray, List.set_cons_zero, List.set_cons_succ]
        refine wpAnyH_take (i := 12) (oi := { dst := some 91, op := Op.move (Operand.tmp 14), type := 44, pos := "law.go:98", after := #[{ on := 10, ground := Ground.guard }], guard := some (10, true) }) (v := ?vu263) rfl (by kernel_rfl) (by kernel_rfl) (by kernel_rfl) (fun _ _ _ h => h) (Or.inl ⟨by rfl, ?hyu263⟩) (by assumption) ?restu263
        case hyu263 => (intro w hSw; (try dsimp only at hSw); go_simp; (try with_reducible rfl))
        try simp only [Act.put, List.setIfInBounds_toArray, List.set_cons_zero, List.set_cons_succ]
        refine wpAnyH_take (i := 13) (oi := { dst := some 92, op := Op.load 27 (Operand.tmp 7), type := 27, pos := "law.go:98", after := #[{ on := 10, ground := Ground.guard }], guard := some (10, true) }) (v := ?vu264) rfl (by kernel_rfl) (by kernel_rfl) (by kernel_rfl) (fun _ _ _ h => h) (Or.inl ⟨by rfl, ?hyu264⟩) (by assumption) ?restu264
        case hyu264 => (intro w hSw; (try dsimp only at hSw); have q1 := (box1_facts ((hSw.block _ (Array.getElem?_eq_some_iff.1 Hb7.out).1).trans Hb7.out)).1; go_simp; (try with_reducible rfl))
        try simp only [Act.put, List.setIfInBounds_toArray, List.set_cons_zero, List.set_cons_succ]
        refine wpAnyH_take (i := 14) (oi := { dst := some 93, op := Op.load 27 (Operand.tmp 9), type := 27, pos := "law.go:98", after := #[{ on := 10, ground := Ground.guard }], guard := some (10, true) }) (v := ?vu265) rfl (by kernel_rfl) (by kernel_rfl) (by kernel_rfl) (fun _ _ _ h => h) (Or.inl ⟨by rfl, ?hyu265⟩) (by assumption) ?restu265
        case hyu265 => (intro w hSw; (try dsimp only at hSw); have q1 := (box1_facts ((hSw.block _ (Array.getElem?_eq_some_iff.1 Hb9.out).1).trans Hb9.out)).1; go_simp; (try with_reducible rfl))
        try simp only [Act.put, List.setIfInBounds_toArray, List.set_cons_zero, List.set_cons_succ]
        refine wpAnyH_take (i := 16) (oi := { dst := some 95, op := Op.move (Operand.tmp 14), type := 44, pos := "law.go:98", after := #[{ on := 10, ground := Ground.guard }], guard := some (10, true) }) (v := ?vu266) rfl (by kernel_rfl) (by kernel_rfl) (by kernel_rfl) (fun _ _ _ h => h) (Or.inl ⟨by rfl, ?hyu266⟩) (by assumption) ?restu266
        case hyu266 => (intro w hSw; (try dsimp only at hSw); go_simp; (try with_reducible rfl))
        try simp only [Act.put, List.setIfInBounds_toArray, List.set_cons_zero, List.set_cons_succ]
        refine wpAnyH_take (i := 17) (oi := { dst := some 96, op := Op.load 27 (Operand.tmp 9), type := 27, pos := "law.go:98", after := #[{ on := 10, ground := Ground.guard }], guard := some (10, true) }) (v := ?vu267) rfl (by kernel_rfl) (by kernel_rfl) (by kernel_rfl) (fun _ _ _ h => h) (Or.inl ⟨by rfl, ?hyu267⟩) (by assumption) ?restu267
        case hyu267 => (intro w hSw; (try dsimp only at hSw); have q1 := (box1_facts ((hSw.block _ (Array.getElem?_eq_some_iff.1 Hb9.out).1).trans Hb9.out)).1; go_simp; (try with_reducible rfl))
        try simp only [Act.put, List.setIfInBounds_toArray, List.set_cons_zero, List.set_cons_succ]
        refine wpAnyH_take (i := 18) (oi := { dst := some 97, op := Op.load 27 (Operand.tmp 7), type := 27, pos := "law.go:98", after := #[{ on := 10, ground := Ground.guard }], guard := some (10, true) }) (v := ?vu268) rfl (by kernel_rfl) (by kernel_rfl) (by kernel_rfl) (fun _ _ _ h => h) (Or.inl ⟨by rfl, ?hyu268⟩) (by assumption) ?restu268
        case hyu268 => (intro w hSw; (try dsimp only at hSw); have q1 := (box1_facts ((hSw.block _ (Array.getElem?_eq_some_iff.1 Hb7.out).1).trans Hb7.out)).1; go_simp; (try with_reducible rfl))
        try simp only [Act.put, List.setIfInBounds_toArray, List.set_cons_zero, List.set_cons_succ]
        refine wpAnyH_ready (rs := [15]) (by kernel_rfl) (by simp) ?_
        refine AllReadyH.cons (o := { dst := some 94, op := Op.call { callee := Callee.value (Operand.tmp 91), args := #[Operand.tmp 92, Operand.tmp 93], argTypes := #[27, 27] }, type := 27, pos := "law.go:98", after := #[{ on := 12, ground := Ground.data }, { on := 13, ground := Ground.data }, { on := 14, ground := Ground.data }, { on := 10, ground := Ground.chain }, { on := 10, ground := Ground.guard }], guard := some (10, true) }) rfl (fun K hK => ?_) AllReadyH.nil
        go_simp
        go_at_call 27
        refine (rtimes_any C _ _ _ (fun s => has F s) (fun s => has G s) 6 12 6 12 (C.keep HEX.out (by first | exact HW0 | exact HW0.drew)) (HPf.out.below (by first | exact HW0 | exact HW0.drew)) (HPg.out.below (by first | exact HW0 | exact HW0.drew)) (by decide) (by decide) (by decide)).mono ?_
        rintro e pz4 ⟨⟨py4, rfl, hy⟩, b⟩
        have Hpy4 : Hid (FP pz4 py4 (fun s => (fun s => has F s) s ∧ (fun s => has G s) s) (6 * 6) (12 + 12)) := hy
        replace HW0 := below_step (by first | exact HW0 | exact HW0.drew) b
        clear b hy
        refine hK.out _ _ ?_ (fun hHeldB => ?_)
        · (try dsimp only); exact HW0
        clear hK K hHeld
        have hHeld := hHeldB
        clear hHeldB
        try simp only [Act.put, List.setIfInBounds_toArray, List.set_cons_zero, List.set_cons_succ]
        as_aux_lemma =>
          refine wpAnyH_ready (rs := [19]) (by kernel_rfl) (by simp) ?_
          refine AllReadyH.cons (o := { dst := some 98, op := Op.call { callee := Callee.value (Operand.tmp 95), args := #[Operand.tmp 96, Operand.tmp 97], argTypes := #[27, 27] }, type := 27, pos := "law.go:98", after := #[{ on := 16, ground := Ground.data }, { on := 17, ground := Ground.data }, { on := 18, ground := Ground.data }, { on := 15, ground := Ground.chain }, { on := 10, ground := Ground.guard }], guard := some (10, true) }) rfl (fun K hK => ?_) AllReadyH.nil
          go_simp
          go_at_call 27
          refine (rtimes_any C _ _ _ (fun s => has G s) (fun s => has F s) 6 12 6 12 (C.keep HEX.out (by first | exact HW0 | exact HW0.drew)) (HPg.out.below (by first | exact HW0 | exact HW0.drew)) (HPf.out.below (by first | exact HW0 | exact HW0.drew)) (by decide) (by decide) (by decide)).mono ?_
          rintro e pz5 ⟨⟨py5, rfl, hy⟩, b⟩
          replace Hpy4 : Hid (FP pz5 py4 (fun s => (fun s => has F s) s ∧ (fun s => has G s) s) (6 * 6) (12 + 12)) := Hpy4.out.below b
          have Hpy5 : Hid (FP pz5 py5 (fun s => (fun s => has G s) s ∧ (fun s => has F s) s) (6 * 6) (12 + 12)) := hy
          replace HW0 := below_step (by first | exact HW0 | exact HW0.drew) b
          clear b hy
          refine hK.out _ _ ?_ (fun hHeldB => ?_)
          · (try dsimp only); exact HW0
          clear hK K hHeld
          have hHeld := hHeldB
          clear hHeldB
          try simp only [Act.put, List.setIfInBounds_toArray, List.set_cons_zero, List.set_cons_succ]
          refine wpAnyH_ready (rs := [20]) (by kernel_rfl) (by simp) ?_
          refine AllReadyH.cons (o := { dst := some 99, op := Op.call { callee := Callee.value (Operand.tmp 90), args := #[Operand.tmp 94, Operand.tmp 98], argTypes := #[27, 27] }, type := 4, pos := "law.go:98", after := #[{ on := 11, ground := Ground.data }, { on := 15, ground := Ground.data }, { on := 19, ground := Ground.data }, { on := 19, ground := Ground.chain }, { on := 10, ground := Ground.guard }], guard := some (10, true) }) rfl (fun K hK => ?_) AllReadyH.nil
          go_simp
          go_at_call 28
          refine (rsame_any C _ _ _ (fun s => (fun s => has F s) s ∧ (fun s => has G s) s) (fun s => (fun s => has G s) s ∧ (fun s => has F s) s) (6 * 6) (12 + 12) (6 * 6) (12 + 12) (C.keep HEX.out (by first | exact HW0 | exact HW0.drew)) Hpy4.out Hpy5.out (fun s => by by_cases h1 : has F s <;> by_cases h2 : has G s <;> by_cases h3 : has J s <;> simp [h1, h2, h3])).mono ?_
          rintro e pz6 ⟨rfl, b⟩
          replace HW0 := below_step (by first | exact HW0 | exact HW0.drew) b
          clear b
          refine hK.out _ _ ?_ (fun hHeldB => ?_)
          · (try dsimp only); exact HW0
          clear hK K hHeld
          have hHeld := hHeldB
          clear hHeldB
          try simp only [Act.put, List.setIfInBounds_toArray, List.set_cons_zero, List.set_cons_succ]
          as_aux_lemma =>
            refine wpAnyH_take (i := 21) (oi := { dst := some 100, op := Op.pick (Operand.tmp 89) (Operand.tmp 99) (Operand.const (Value.bool false)), type := 4, pos := "law.go:98", after := #[{ on := 10, ground := Ground.data }, { on := 20, ground := Ground.data }], guard := none }) (v := ?vu269) rfl (by kernel_rfl) (by kernel_rfl) (by kernel_rfl) (fun _ _ _ h => h) (Or.inl ⟨by rfl, ?hyu269⟩) (by assumption) ?restu269
            case hyu269 => (intro w hSw; (try dsimp only at hSw); go_simp; (try with_reducible rfl))
            try simp only [Act.put, List.setIfInBounds_toArray, List.set_cons_zero, List.set_cons_succ]
            refine wpAnyH_take (i := 22) (oi := { dst := some 101, op := Op.move (Operand.tmp 100), type := 4, pos := "law.go:98", after := #[{ on := 21, ground := Ground.data }, { on := 20, ground := Ground.chain }], guard := none }) (v := ?vu270) rfl (by kernel_rfl) (by kernel_rfl) (by kernel_rfl) (fun _ _ _ h => h) (Or.inl ⟨by rfl, ?hyu270⟩) (by assumption) ?restu270
            case hyu270 => (intro w hSw; (try dsimp only at hSw); go_simp; (try with_reducible rfl))
            try simp only [Act.put, List.setIfInBounds_toArray, List.set_cons_zero, List.set_cons_succ]
            refine wpAnyH_take (i := 23) (oi := { dst := some 102, op := Op.move (Operand.tmp 15), type := 45, pos := "law.go:98", after := #[{ on := 22, ground := Ground.guard }], guard := some (22, true) }) (v := ?vu271) rfl (by kernel_rfl) (by kernel_rfl) (by kernel_rfl) (fun _ _ _ h => h) (Or.inl ⟨by rfl, ?hyu271⟩) (by assumption) ?restu271
            case hyu271 => (intro w hSw; (try dsimp only at hSw); go_simp; (try with_reducible rfl))
            try simp only [Act.put, List.setIfInBounds_toArray, List.set_cons_zero, List.set_cons_succ]
            refine wpAnyH_take (i := 24) (oi := { dst := some 103, op := Op.move (Operand.tmp 13), type := 44, pos := "law.go:98", after := #[{ on := 22, ground := Ground.guard }], guard := some (22, true) }) (v := ?vu272) rfl (by kernel_rfl) (by kernel_rfl) (by kernel_rfl) (fun _ _ _ h => h) (Or.inl ⟨by rfl, ?hyu272⟩) (by assumption) ?restu272
            case hyu272 => (intro w hSw; (try dsimp only at hSw); go_simp; (try with_reducible rfl))
            try simp only [Act.put, List.setIfInBounds_toArray, List.set_cons_zero, List.set_cons_succ]
            refine wpAnyH_take (i := 25) (oi := { dst := some 104, op := Op.load 27 (Operand.tmp 7), type := 27, pos := "law.go:98", after := #[{ on := 22, ground := Ground.guard }], guard := some (22, true) }) (v := ?vu273) rfl (by kernel_rfl) (by kernel_rfl) (by kernel_rfl) (fun _ _ _ h => h) (Or.inl ⟨by rfl, ?hyu273⟩) (by assumption) ?restu273
            case hyu273 => (intro w hSw; (try dsimp only at hSw); have q1 := (box1_facts ((hSw.block _ (Array.getElem?_eq_some_iff.1 Hb7.out).1).trans Hb7.out)).1; go_simp; (try with_reducible rfl))
            try simp only [Act.put, List.setIfInBounds_toArray, List.set_cons_zero, List.set_cons_succ]
            refine wpAnyH_take (i := 26) (oi := { dst := some 105, op := Op.move (Operand.tmp 13), type := 44, pos := "law.go:98", after := #[{ on := 22, ground := Ground.guard }], guard := some (22, true) }) (v := ?vu274) rfl (by kernel_rfl) (by kernel_rfl) (by kernel_rfl) (fun _ _ _ h => h) (Or.inl ⟨by rfl, ?hyu274⟩) (by assumption) ?restu274
            case hyu274 => (intro w hSw; (try dsimp only at hSw); go_simp; (try with_reducible rfl))
            try simp only [Act.put, List.setIfInBounds_toArray, List.set_cons_zero, List.set_cons_succ]
            refine wpAnyH_take (i := 27) (oi := { dst := some 106, op := Op.load 27 (Operand.tmp 9), type := 27, pos := "law.go:98", after := #[{ on := 22, ground := Ground.guard }], guard := some (22, true) }) (v := ?vu275) rfl (by kernel_rfl) (by kernel_rfl) (by kernel_rfl) (fun _ _ _ h => h) (Or.inl ⟨by rfl, ?hyu275⟩) (by assumption) ?restu275
            case hyu275 => (intro w hSw; (try dsimp only at hSw); have q1 := (box1_facts ((hSw.block _ (Array.getElem?_eq_some_iff.1 Hb9.out).1).trans Hb9.out)).1; go_simp; (try with_reducible rfl))
            try simp only [Act.put, List.setIfInBounds_toArray, List.set_cons_zero, List.set_cons_succ]
            refine wpAnyH_take (i := 28) (oi := { dst := some 107, op := Op.load 27 (Operand.tmp 11), type := 27, pos := "law.go:98", after := #[{ on := 22, ground := Ground.guard }], guard := some (22, true) }) (v := ?vu276) rfl (by kernel_rfl) (by kernel_rfl) (by kernel_rfl) (fun _ _ _ h => h) (Or.inl ⟨by rfl, ?hyu276⟩) (by assumption) ?restu276
            case hyu276 => (intro w hSw; (try dsimp only at hSw); have q1 := (box1_facts ((hSw.block _ (Array.getElem?_eq_some_iff.1 Hb11.out).1).trans Hb11.out)).1; go_simp; (try with_reducible rfl))
            try simp only [Act.put, List.setIfInBounds_toArray, List.set_cons_zero, List.set_cons_succ]
            refine wpAnyH_take (i := 31) (oi := { dst := some 110, op := Op.move (Operand.tmp 13), type := 44, pos := "law.go:98", after := #[{ on := 22, ground := Ground.guard }], guard := some (22, true) }) (v := ?vu277) rfl (by kernel_rfl) (by kernel_rfl) (by kernel_rfl) (fun _ _ _ h => h) (Or.inl ⟨by rfl, ?hyu277⟩) (by assumption) ?restu277
            case hyu277 => (intro w hSw; (try dsimp only at hSw); go_simp; (try with_reducible rfl))
            try simp only [Act.put, List.setIfInBounds_toArray, List.set_cons_zero, List.set_cons_succ]
            refine wpAnyH_take (i := 32) (oi := { dst := some 111, op := Op.move (Operand.tmp 13), type := 44, pos := "law.go:98", after := #[{ on := 22, ground := Ground.guard }], guard := some (22, true) }) (v := ?vu278) rfl (by kernel_rfl) (by kernel_rfl) (by kernel_rfl) (fun _ _ _ h => h) (Or.inl ⟨by rfl, ?hyu278⟩) (by assumption) ?restu278
            case hyu278 => (intro w hSw; (try dsimp only at hSw); go_simp; (try with_reducible rfl))
            try simp only [Act.put, List.setIfInBounds_toArray, List.set_cons_zero, List.set_cons_succ]
            refine wpAnyH_take (i := 33) (oi := { dst := some 112, op := Op.load 27 (Operand.tmp 7), type := 27, pos := "law.go:98", after := #[{ on := 22, ground := Ground.guard }], guard := some (22, true) }) (v := ?vu279) rfl (by kernel_rfl) (by kernel_rfl) (by kernel_rfl) (fun _ _ _ h => h) (Or.inl ⟨by rfl, ?hyu279⟩) (by assumption) ?restu279
            case hyu279 => (intro w hSw; (try dsimp only at hSw); have q1 := (box1_facts ((hSw.block _ (Array.getElem?_eq_some_iff.1 Hb7.out).1).trans Hb7.out)).1; go_simp; (try with_reducible rfl))
            try simp only [Act.put, List.setIfInBounds_toArray, List.set_cons_zero, List.set_cons_succ]
            refine wpAnyH_take (i := 34) (oi := { dst := some 113, op := Op.load 27 (Operand.tmp 9), type := 27, pos := "law.go:98", after := #[{ on := 22, ground := Ground.guard }], guard := some (22, true) }) (v := ?vu280) rfl (by kernel_rfl) (by kernel_rfl) (by kernel_rfl) (fun _ _ _ h => h) (Or.inl ⟨by rfl, ?hyu280⟩) (by assumption) ?restu280
            case hyu280 => (intro w hSw; (try dsimp only at hSw); have q1 := (box1_facts ((hSw.block _ (Array.getElem?_eq_some_iff.1 Hb9.out).1).trans Hb9.out)).1; go_simp; (try with_reducible rfl))
            try simp only [Act.put, List.setIfInBounds_toArray, List.set_cons_zero, List.set_cons_succ]
            refine wpAnyH_take (i := 36) (oi := { dst := some 115, op := Op.load 27 (Operand.tmp 11), type := 27, pos := "law.go:98", after := #[{ on := 22, ground := Ground.guard }], guard := some (22, true) }) (v := ?vu281) rfl (by kernel_rfl) (by kernel_rfl) (by kernel_rfl) (fun _ _ _ h => h) (Or.inl ⟨by rfl, ?hyu281⟩) (by assumption) ?restu281
            case hyu281 => (intro w hSw; (try dsimp only at hSw); have q1 := (box1_facts ((hSw.block _ (Array.getElem?_eq_some_iff.1 Hb11.out).1).trans Hb11.out)).1; go_simp; (try with_reducible rfl))
            try simp only [Act.put, List.setIfInBounds_toArray, List.set_cons_zero, List.set_cons_succ]
            refine wpAnyH_ready (rs := [29]) (by kernel_rfl) (by simp) ?_
            refine AllReadyH.cons (o := { dst := some 108, op := Op.call { callee := Callee.value (Operand.tmp 105), args := #[Operand.tmp 106, Operand.tmp 107], argTypes := #[27, 27] }, type := 27, pos := "law.go:98", after := #[{ on := 26, ground := Ground.data }, { on := 27, ground := Ground.data }, { on := 28, ground := Ground.data }, { on := 22, ground := Ground.chain }, { on := 22, ground := Ground.guard }], guard := some (22, true) }) rfl (fun K hK => ?_) AllReadyH.nil
            go_simp
            go_at_call 26
            refine (rplus_any C _ _ _ (fun s => has G s) (fun s => has J s) 6 12 6 12 (C.keep HEX.out (by first | exact HW0 | exact HW0.drew)) (HPg.out.below (by first | exact HW0 | exact HW0.drew)) (HPk.out.below (by first | exact HW0 | exact HW0.drew)) (by decide)).mono ?_
            rintro e pz7 ⟨⟨py7, rfl, hy⟩, b⟩
            have Hpy7 : Hid (FP pz7 py7 (fun s => (fun s => has G s) s ∨ (fun s => has J s) s) (6 + 6) (max 12 12)) := hy
            replace HW0 := below_step (by first | exact HW0 | exact HW0.drew) b
            clear b hy
            refine hK.out _ _ ?_ (fun hHeldB => ?_)
            · (try dsimp only); exact HW0
            clear hK K hHeld
            have hHeld := hHeldB
            clear hHeldB
            try simp only [Act.put, List.setIfInBounds_toArray, List.set_cons_zero, List.set_cons_succ]
            refine wpAnyH_ready (rs := [30]) (by kernel_rfl) (by simp) ?_
            refine AllReadyH.cons (o := { dst := some 109, op := Op.call { callee := Callee.value (Operand.tmp 103), args := #[Operand.tmp 104, Operand.tmp 108], argTypes := #[27, 27] }, type := 27, pos := "law.go:98", after := #[{ on := 24, ground := Ground.data }, { on := 25, ground := Ground.data }, { on := 29, ground := Ground.data }, { on := 29, ground := Ground.chain }, { on := 22, ground := Ground.guard }], guard := some (22, true) }) rfl (fun K hK => ?_) AllReadyH.nil
            go_simp
            go_at_call 26
            refine (rplus_any C _ _ _ (fun s => has F s) (fun s => (fun s => has G s) s ∨ (fun s => has J s) s) 6 12 (6 + 6) (max 12 12) (C.keep HEX.out (by first | exact HW0 | exact HW0.drew)) (HPf.out.below (by first | exact HW0 | exact HW0.drew)) Hpy7.out (by decide)).mono ?_
            rintro e pz8 ⟨⟨py8, rfl, hy⟩, b⟩
            have Hpy8 : Hid (FP pz8 py8 (fun s => (fun s => has F s) s ∨ (fun s => (fun s => has G s) s ∨ (fun s => has J s) s) s) (6 + (6 + 6)) (max 12 (max 12 12))) := hy
            replace HW0 := below_step (by first | exact HW0 | exact HW0.drew) b
            clear b hy
            refine hK.out _ _ ?_ (fun hHeldB => ?_)
            · (try dsimp only); exact HW0
            clear hK K hHeld
            have hHeld := hHeldB
            clear hHeldB
            try simp only [Act.put, List.setIfInBounds_toArray, List.set_cons_zero, List.set_cons_succ]
            as_aux_lemma =>
              refine wpAnyH_ready (rs := [35]) (by kernel_rfl) (by simp) ?_
              refine AllReadyH.cons (o := { dst := some 114, op := Op.call { callee := Callee.value (Operand.tmp 111), args := #[Operand.tmp 112, Operand.tmp 113], argTypes := #[27, 27] }, type := 27, pos := "law.go:98", after := #[{ on := 32, ground := Ground.data }, { on := 33, ground := Ground.data }, { on := 34, ground := Ground.data }, { on := 30, ground := Ground.chain }, { on := 22, ground := Ground.guard }], guard := some (22, true) }) rfl (fun K hK => ?_) AllReadyH.nil
              go_simp
              go_at_call 26
              refine (rplus_any C _ _ _ (fun s => has F s) (fun s => has G s) 6 12 6 12 (C.keep HEX.out (by first | exact HW0 | exact HW0.drew)) (HPf.out.below (by first | exact HW0 | exact HW0.drew)) (HPg.out.below (by first | exact HW0 | exact HW0.drew)) (by decide)).mono ?_
              rintro e pz9 ⟨⟨py9, rfl, hy⟩, b⟩
              replace Hpy8 : Hid (FP pz9 py8 (fun s => (fun s => has F s) s ∨ (fun s => (fun s => has G s) s ∨ (fun s => has J s) s) s) (6 + (6 + 6)) (max 12 (max 12 12))) := Hpy8.out.below b
              have Hpy9 : Hid (FP pz9 py9 (fun s => (fun s => has F s) s ∨ (fun s => has G s) s) (6 + 6) (max 12 12)) := hy
              replace HW0 := below_step (by first | exact HW0 | exact HW0.drew) b
              clear b hy
              refine hK.out _ _ ?_ (fun hHeldB => ?_)
              · (try dsimp only); exact HW0
              clear hK K hHeld
              have hHeld := hHeldB
              clear hHeldB
              try simp only [Act.put, List.setIfInBounds_toArray, List.set_cons_zero, List.set_cons_succ]
              refine wpAnyH_ready (rs := [37]) (by kernel_rfl) (by simp) ?_
              refine AllReadyH.cons (o := { dst := some 116, op := Op.call { callee := Callee.value (Operand.tmp 110), args := #[Operand.tmp 114, Operand.tmp 115], argTypes := #[27, 27] }, type := 27, pos := "law.go:98", after := #[{ on := 31, ground := Ground.data }, { on := 35, ground := Ground.data }, { on := 36, ground := Ground.data }, { on := 35, ground := Ground.chain }, { on := 22, ground := Ground.guard }], guard := some (22, true) }) rfl (fun K hK => ?_) AllReadyH.nil
              go_simp
              go_at_call 26
              refine (rplus_any C _ _ _ (fun s => (fun s => has F s) s ∨ (fun s => has G s) s) (fun s => has J s) (6 + 6) (max 12 12) 6 12 (C.keep HEX.out (by first | exact HW0 | exact HW0.drew)) Hpy9.out (HPk.out.below (by first | exact HW0 | exact HW0.drew)) (by decide)).mono ?_
              rintro e pz10 ⟨⟨py10, rfl, hy⟩, b⟩
              replace Hpy8 : Hid (FP pz10 py8 (fun s => (fun s => has F s) s ∨ (fun s => (fun s => has G s) s ∨ (fun s => has J s) s) s) (6 + (6 + 6)) (max 12 (max 12 12))) := Hpy8.out.below b
              have Hpy10 : Hid (FP pz10 py10 (fun s => (fun s => (fun s => has F s) s ∨ (fun s => has G s) s) s ∨ (fun s => has J s) s) ((6 + 6) + 6) (max (max 12 12) 12)) := hy
              replace HW0 := below_step (by first | exact HW0 | exact HW0.drew) b
              clear b hy
              refine hK.out _ _ ?_ (fun hHeldB => ?_)
              · (try dsimp only); exact HW0
              clear hK K hHeld
              have hHeld := hHeldB
              clear hHeldB
              try simp only [Act.put, List.setIfInBounds_toArray, List.set_cons_zero, List.set_cons_succ]
              as_aux_lemma =>
                refine wpAnyH_ready (rs := [38]) (by kernel_rfl) (by simp) ?_
                refine AllReadyH.cons (o := { dst := some 117, op := Op.call { callee := Callee.value (Operand.tmp 102), args := #[Operand.tmp 109, Operand.tmp 116], argTypes := #[27, 27] }, type := 4, pos := "law.go:98", after := #[{ on := 23, ground := Ground.data }, { on := 30, ground := Ground.data }, { on := 37, ground := Ground.data }, { on := 37, ground := Ground.chain }, { on := 22, ground := Ground.guard }], guard := some (22, true) }) rfl (fun K hK => ?_) AllReadyH.nil
                go_simp
                go_at_call 28
                refine (rsame_any C _ _ _ (fun s => (fun s => has F s) s ∨ (fun s => (fun s => has G s) s ∨ (fun s => has J s) s) s) (fun s => (fun s => (fun s => has F s) s ∨ (fun s => has G s) s) s ∨ (fun s => has J s) s) (6 + (6 + 6)) (max 12 (max 12 12)) ((6 + 6) + 6) (max (max 12 12) 12) (C.keep HEX.out (by first | exact HW0 | exact HW0.drew)) Hpy8.out Hpy10.out (fun s => by by_cases h1 : has F s <;> by_cases h2 : has G s <;> by_cases h3 : has J s <;> simp [h1, h2, h3])).mono ?_
                rintro e pz11 ⟨rfl, b⟩
                replace HW0 := below_step (by first | exact HW0 | exact HW0.drew) b
                clear b
                refine hK.out _ _ ?_ (fun hHeldB => ?_)
                · (try dsimp only); exact HW0
                clear hK K hHeld
                have hHeld := hHeldB
                clear hHeldB
                try simp only [Act.put, List.setIfInBounds_toArray, List.set_cons_zero, List.set_cons_succ]
                refine wpAnyH_take (i := 39) (oi := { dst := some 118, op := Op.pick (Operand.tmp 101) (Operand.tmp 117) (Operand.const (Value.bool false)), type := 4, pos := "law.go:98", after := #[{ on := 22, ground := Ground.data }, { on := 38, ground := Ground.data }], guard := none }) (v := ?vu282) rfl (by kernel_rfl) (by kernel_rfl) (by kernel_rfl) (fun _ _ _ h => h) (Or.inl ⟨by rfl, ?hyu282⟩) (by assumption) ?restu282
                case hyu282 => (intro w hSw; (try dsimp only at hSw); go_simp; (try with_reducible rfl))
                try simp only [Act.put, List.setIfInBounds_toArray, List.set_cons_zero, List.set_cons_succ]
                refine wpAnyH_take (i := 40) (oi := { dst := some 119, op := Op.move (Operand.tmp 118), type := 4, pos := "law.go:98", after := #[{ on := 39, ground := Ground.data }, { on := 38, ground := Ground.chain }], guard := none }) (v := ?vu283) rfl (by kernel_rfl) (by kernel_rfl) (by kernel_rfl) (fun _ _ _ h => h) (Or.inl ⟨by rfl, ?hyu283⟩) (by assumption) ?restu283
                case hyu283 => (intro w hSw; (try dsimp only at hSw); go_simp; (try with_reducible rfl))
                try simp only [Act.put, List.setIfInBounds_toArray, List.set_cons_zero, List.set_cons_succ]
                refine wpAnyH_take (i := 41) (oi := { dst := some 120, op := Op.move (Operand.tmp 15), type := 45, pos := "law.go:98", after := #[{ on := 40, ground := Ground.guard }], guard := some (40, true) }) (v := ?vu284) rfl (by kernel_rfl) (by kernel_rfl) (by kernel_rfl) (fun _ _ _ h => h) (Or.inl ⟨by rfl, ?hyu284⟩) (by assumption) ?restu284
                case hyu284 => (intro w hSw; (try dsimp only at hSw); go_simp; (try with_reducible rfl))
                try simp only [Act.put, List.setIfInBounds_toArray, List.set_cons_zero, List.set_cons_succ]
                refine wpAnyH_take (i := 42) (oi := { dst := some 121, op := Op.move (Operand.tmp 14), type := 44, pos := "law.go:98", after := #[{ on := 40, ground := Ground.guard }], guard := some (40, true) }) (v := ?vu285) rfl (by kernel_rfl) (by kernel_rfl) (by kernel_rfl) (fun _ _ _ h => h) (Or.inl ⟨by rfl, ?hyu285⟩) (by assumption) ?restu285
                case hyu285 => (intro w hSw; (try dsimp only at hSw); go_simp; (try with_reducible rfl))
                try simp only [Act.put, List.setIfInBounds_toArray, List.set_cons_zero, List.set_cons_succ]
                refine wpAnyH_take (i := 43) (oi := { dst := some 122, op := Op.load 27 (Operand.tmp 7), type := 27, pos := "law.go:98", after := #[{ on := 40, ground := Ground.guard }], guard := some (40, true) }) (v := ?vu286) rfl (by kernel_rfl) (by kernel_rfl) (by kernel_rfl) (fun _ _ _ h => h) (Or.inl ⟨by rfl, ?hyu286⟩) (by assumption) ?restu286
                case hyu286 => (intro w hSw; (try dsimp only at hSw); have q1 := (box1_facts ((hSw.block _ (Array.getElem?_eq_some_iff.1 Hb7.out).1).trans Hb7.out)).1; go_simp; (try with_reducible rfl))
                try simp only [Act.put, List.setIfInBounds_toArray, List.set_cons_zero, List.set_cons_succ]
                refine wpAnyH_take (i := 44) (oi := { dst := some 123, op := Op.move (Operand.tmp 14), type := 44, pos := "law.go:98", after := #[{ on := 40, ground := Ground.guard }], guard := some (40, true) }) (v := ?vu287) rfl (by kernel_rfl) (by kernel_rfl) (by kernel_rfl) (fun _ _ _ h => h) (Or.inl ⟨by rfl, ?hyu287⟩) (by assumption) ?restu287
                case hyu287 => (intro w hSw; (try dsimp only at hSw); go_simp; (try with_reducible rfl))
                try simp only [Act.put, List.setIfInBounds_toArray, List.set_cons_zero, List.set_cons_succ]
                refine wpAnyH_take (i := 45) (oi := { dst := some 124, op := Op.load 27 (Operand.tmp 9), type := 27, pos := "law.go:98", after := #[{ on := 40, ground := Ground.guard }], guard := some (40, true) }) (v := ?vu288) rfl (by kernel_rfl) (by kernel_rfl) (by kernel_rfl) (fun _ _ _ h => h) (Or.inl ⟨by rfl, ?hyu288⟩) (by assumption) ?restu288
                case hyu288 => (intro w hSw; (try dsimp only at hSw); have q1 := (box1_facts ((hSw.block _ (Array.getElem?_eq_some_iff.1 Hb9.out).1).trans Hb9.out)).1; go_simp; (try with_reducible rfl))
                try simp only [Act.put, List.setIfInBounds_toArray, List.set_cons_zero, List.set_cons_succ]
                refine wpAnyH_take (i := 46) (oi := { dst := some 125, op := Op.load 27 (Operand.tmp 11), type := 27, pos := "law.go:98", after := #[{ on := 40, ground := Ground.guard }], guard := some (40, true) }) (v := ?vu289) rfl (by kernel_rfl) (by kernel_rfl) (by kernel_rfl) (fun _ _ _ h => h) (Or.inl ⟨by rfl, ?hyu289⟩) (by assumption) ?restu289
                case hyu289 => (intro w hSw; (try dsimp only at hSw); have q1 := (box1_facts ((hSw.block _ (Array.getElem?_eq_some_iff.1 Hb11.out).1).trans Hb11.out)).1; go_simp; (try with_reducible rfl))
                try simp only [Act.put, List.setIfInBounds_toArray, List.set_cons_zero, List.set_cons_succ]
                refine wpAnyH_take (i := 49) (oi := { dst := some 128, op := Op.move (Operand.tmp 14), type := 44, pos := "law.go:98", after := #[{ on := 40, ground := Ground.guard }], guard := some (40, true) }) (v := ?vu290) rfl (by kernel_rfl) (by kernel_rfl) (by kernel_rfl) (fun _ _ _ h => h) (Or.inl ⟨by rfl, ?hyu290⟩) (by assumption) ?restu290
                case hyu290 => (intro w hSw; (try dsimp only at hSw); go_simp; (try with_reducible rfl))
                try simp only [Act.put, List.setIfInBounds_toArray, List.set_cons_zero, List.set_cons_succ]
                refine wpAnyH_take (i := 50) (oi := { dst := some 129, op := Op.move (Operand.tmp 14), type := 44, pos := "law.go:98", after := #[{ on := 40, ground := Ground.guard }], guard := some (40, true) }) (v := ?vu291) rfl (by kernel_rfl) (by kernel_rfl) (by kernel_rfl) (fun _ _ _ h => h) (Or.inl ⟨by rfl, ?hyu291⟩) (by assumption) ?restu291
                case hyu291 => (intro w hSw; (try dsimp only at hSw); go_simp; (try with_reducible rfl))
                try simp only [Act.put, List.setIfInBounds_toArray, List.set_cons_zero, List.set_cons_succ]
                refine wpAnyH_take (i := 51) (oi := { dst := some 130, op := Op.load 27 (Operand.tmp 7), type := 27, pos := "law.go:98", after := #[{ on := 40, ground := Ground.guard }], guard := some (40, true) }) (v := ?vu292) rfl (by kernel_rfl) (by kernel_rfl) (by kernel_rfl) (fun _ _ _ h => h) (Or.inl ⟨by rfl, ?hyu292⟩) (by assumption) ?restu292
                case hyu292 => (intro w hSw; (try dsimp only at hSw); have q1 := (box1_facts ((hSw.block _ (Array.getElem?_eq_some_iff.1 Hb7.out).1).trans Hb7.out)).1; go_simp; (try with_reducible rfl))
                try simp only [Act.put, List.setIfInBounds_toArray, List.set_cons_zero, List.set_cons_succ]
                refine wpAnyH_take (i := 52) (oi := { dst := some 131, op := Op.load 27 (Operand.tmp 9), type := 27, pos := "law.go:98", after := #[{ on := 40, ground := Ground.guard }], guard := some (40, true) }) (v := ?vu293) rfl (by kernel_rfl) (by kernel_rfl) (by kernel_rfl) (fun _ _ _ h => h) (Or.inl ⟨by rfl, ?hyu293⟩) (by assumption) ?restu293
                case hyu293 => (intro w hSw; (try dsimp only at hSw); have q1 := (box1_facts ((hSw.block _ (Array.getElem?_eq_some_iff.1 Hb9.out).1).trans Hb9.out)).1; go_simp; (try with_reducible rfl))
                try simp only [Act.put, List.setIfInBounds_toArray, List.set_cons_zero, List.set_cons_succ]
                refine wpAnyH_take (i := 54) (oi := { dst := some 133, op := Op.load 27 (Operand.tmp 11), type := 27, pos := "law.go:98", after := #[{ on := 40, ground := Ground.guard }], guard := some (40, true) }) (v := ?vu294) rfl (by kernel_rfl) (by kernel_rfl) (by kernel_rfl) (fun _ _ _ h => h) (Or.inl ⟨by rfl, ?hyu294⟩) (by assumption) ?restu294
                case hyu294 => (intro w hSw; (try dsimp only at hSw); have q1 := (box1_facts ((hSw.block _ (Array.getElem?_eq_some_iff.1 Hb11.out).1).trans Hb11.out)).1; go_simp; (try with_reducible rfl))
                try simp only [Act.put, List.setIfInBounds_toArray, List.set_cons_zero, List.set_cons_succ]
                refine wpAnyH_ready (rs := [47]) (by kernel_rfl) (by simp) ?_
                refine AllReadyH.cons (o := { dst := some 126, op := Op.call { callee := Callee.value (Operand.tmp 123), args := #[Operand.tmp 124, Operand.tmp 125], argTypes := #[27, 27] }, type := 27, pos := "law.go:98", after := #[{ on := 44, ground := Ground.data }, { on := 45, ground := Ground.data }, { on := 46, ground := Ground.data }, { on := 40, ground := Ground.chain }, { on := 40, ground := Ground.guard }], guard := some (40, true) }) rfl (fun K hK => ?_) AllReadyH.nil
                go_simp
                go_at_call 27
                refine (rtimes_any C _ _ _ (fun s => has G s) (fun s => has J s) 6 12 6 12 (C.keep HEX.out (by first | exact HW0 | exact HW0.drew)) (HPg.out.below (by first | exact HW0 | exact HW0.drew)) (HPk.out.below (by first | exact HW0 | exact HW0.drew)) (by decide) (by decide) (by decide)).mono ?_
                rintro e pz12 ⟨⟨py12, rfl, hy⟩, b⟩
                have Hpy12 : Hid (FP pz12 py12 (fun s => (fun s => has G s) s ∧ (fun s => has J s) s) (6 * 6) (12 + 12)) := hy
                replace HW0 := below_step (by first | exact HW0 | exact HW0.drew) b
                clear b hy
                refine hK.out _ _ ?_ (fun hHeldB => ?_)
                · (try dsimp only); exact HW0
                clear hK K hHeld
                have hHeld := hHeldB
                clear hHeldB
                try simp only [Act.put, List.setIfInBounds_toArray, List.set_cons_zero, List.set_cons_succ]
                as_aux_lemma =>
                  refine wpAnyH_ready (rs := [48]) (by kernel_rfl) (by simp) ?_
                  refine AllReadyH.cons (o := { dst := some 127, op := Op.call { callee := Callee.value (Operand.tmp 121), args := #[Operand.tmp 122, Operand.tmp 126], argTypes := #[27, 27] }, type := 27, pos := "law.go:98", after := #[{ on := 42, ground := Ground.data }, { on := 43, ground := Ground.data }, { on := 47, ground := Ground.data }, { on := 47, ground := Ground.chain }, { on := 40, ground := Ground.guard }], guard := some (40, true) }) rfl (fun K hK => ?_) AllReadyH.nil
                  go_simp
                  go_at_call 27
                  refine (rtimes_any C _ _ _ (fun s => has F s) (fun s => (fun s => has G s) s ∧ (fun s => has J s) s) 6 12 (6 * 6) (12 + 12) (C.keep HEX.out (by first | exact HW0 | exact HW0.drew)) (HPf.out.below (by first | exact HW0 | exact HW0.drew)) Hpy12.out (by decide) (by decide) (by decide)).mono ?_
                  rintro e pz13 ⟨⟨py13, rfl, hy⟩, b⟩
                  have Hpy13 : Hid (FP pz13 py13 (fun s => (fun s => has F s) s ∧ (fun s => (fun s => has G s) s ∧ (fun s => has J s) s) s) (6 * (6 * 6)) (12 + (12 + 12))) := hy
                  replace HW0 := below_step (by first | exact HW0 | exact HW0.drew) b
                  clear b hy
                  refine hK.out _ _ ?_ (fun hHeldB => ?_)
                  · (try dsimp only); exact HW0
                  clear hK K hHeld
                  have hHeld := hHeldB
                  clear hHeldB
                  try simp only [Act.put, List.setIfInBounds_toArray, List.set_cons_zero, List.set_cons_succ]
                  refine wpAnyH_ready (rs := [53]) (by kernel_rfl) (by simp) ?_
                  refine AllReadyH.cons (o := { dst := some 132, op := Op.call { callee := Callee.value (Operand.tmp 129), args := #[Operand.tmp 130, Operand.tmp 131], argTypes := #[27, 27] }, type := 27, pos := "law.go:98", after := #[{ on := 50, ground := Ground.data }, { on := 51, ground := Ground.data }, { on := 52, ground := Ground.data }, { on := 48, ground := Ground.chain }, { on := 40, ground := Ground.guard }], guard := some (40, true) }) rfl (fun K hK => ?_) AllReadyH.nil
                  go_simp
                  go_at_call 27
                  refine (rtimes_any C _ _ _ (fun s => has F s) (fun s => has G s) 6 12 6 12 (C.keep HEX.out (by first | exact HW0 | exact HW0.drew)) (HPf.out.below (by first | exact HW0 | exact HW0.drew)) (HPg.out.below (by first | exact HW0 | exact HW0.drew)) (by decide) (by decide) (by decide)).mono ?_
                  rintro e pz14 ⟨⟨py14, rfl, hy⟩, b⟩
                  replace Hpy13 : Hid (FP pz14 py13 (fun s => (fun s => has F s) s ∧ (fun s => (fun s => has G s) s ∧ (fun s => has J s) s) s) (6 * (6 * 6)) (12 + (12 + 12))) := Hpy13.out.below b
                  have Hpy14 : Hid (FP pz14 py14 (fun s => (fun s => has F s) s ∧ (fun s => has G s) s) (6 * 6) (12 + 12)) := hy
                  replace HW0 := below_step (by first | exact HW0 | exact HW0.drew) b
                  clear b hy
                  refine hK.out _ _ ?_ (fun hHeldB => ?_)
                  · (try dsimp only); exact HW0
                  clear hK K hHeld
                  have hHeld := hHeldB
                  clear hHeldB
                  try simp only [Act.put, List.setIfInBounds_toArray, List.set_cons_zero, List.set_cons_succ]
                  as_aux_lemma =>
                    refine wpAnyH_ready (rs := [55]) (by kernel_rfl) (by simp) ?_
                    refine AllReadyH.cons (o := { dst := some 134, op := Op.call { callee := Callee.value (Operand.tmp 128), args := #[Operand.tmp 132, Operand.tmp 133], argTypes := #[27, 27] }, type := 27, pos := "law.go:98", after := #[{ on := 49, ground := Ground.data }, { on := 53, ground := Ground.data }, { on := 54, ground := Ground.data }, { on := 53, ground := Ground.chain }, { on := 40, ground := Ground.guard }], guard := some (40, true) }) rfl (fun K hK => ?_) AllReadyH.nil
                    go_simp
                    go_at_call 27
                    refine (rtimes_any C _ _ _ (fun s => (fun s => has F s) s ∧ (fun s => has G s) s) (fun s => has J s) (6 * 6) (12 + 12) 6 12 (C.keep HEX.out (by first | exact HW0 | exact HW0.drew)) Hpy14.out (HPk.out.below (by first | exact HW0 | exact HW0.drew)) (by decide) (by decide) (by decide)).mono ?_
                    rintro e pz15 ⟨⟨py15, rfl, hy⟩, b⟩
                    replace Hpy13 : Hid (FP pz15 py13 (fun s => (fun s => has F s) s ∧ (fun s => (fun s => has G s) s ∧ (fun s => has J s) s) s) (6 * (6 * 6)) (12 + (12 + 12))) := Hpy13.out.below b
                    have Hpy15 : Hid (FP pz15 py15 (fun s => (fun s => (fun s => has F s) s ∧ (fun s => has G s) s) s ∧ (fun s => has J s) s) ((6 * 6) * 6) ((12 + 12) + 12)) := hy
                    replace HW0 := below_step (by first | exact HW0 | exact HW0.drew) b
                    clear b hy
                    refine hK.out _ _ ?_ (fun hHeldB => ?_)
                    · (try dsimp only); exact HW0
                    clear hK K hHeld
                    have hHeld := hHeldB
                    clear hHeldB
                    try simp only [Act.put, List.setIfInBounds_toArray, List.set_cons_zero, List.set_cons_succ]
                    refine wpAnyH_ready (rs := [56]) (by kernel_rfl) (by simp) ?_
                    refine AllReadyH.cons (o := { dst := some 135, op := Op.call { callee := Callee.value (Operand.tmp 120), args := #[Operand.tmp 127, Operand.tmp 134], argTypes := #[27, 27] }, type := 4, pos := "law.go:98", after := #[{ on := 41, ground := Ground.data }, { on := 48, ground := Ground.data }, { on := 55, ground := Ground.data }, { on := 55, ground := Ground.chain }, { on := 40, ground := Ground.guard }], guard := some (40, true) }) rfl (fun K hK => ?_) AllReadyH.nil
                    go_simp
                    go_at_call 28
                    refine (rsame_any C _ _ _ (fun s => (fun s => has F s) s ∧ (fun s => (fun s => has G s) s ∧ (fun s => has J s) s) s) (fun s => (fun s => (fun s => has F s) s ∧ (fun s => has G s) s) s ∧ (fun s => has J s) s) (6 * (6 * 6)) (12 + (12 + 12)) ((6 * 6) * 6) ((12 + 12) + 12) (C.keep HEX.out (by first | exact HW0 | exact HW0.drew)) Hpy13.out Hpy15.out (fun s => by by_cases h1 : has F s <;> by_cases h2 : has G s <;> by_cases h3 : has J s <;> simp [h1, h2, h3])).mono ?_
                    rintro e pz16 ⟨rfl, b⟩
                    replace HW0 := below_step (by first | exact HW0 | exact HW0.drew) b
                    clear b
                    refine hK.out _ _ ?_ (fun hHeldB => ?_)
                    · (try dsimp only); exact HW0
                    clear hK K hHeld
                    have hHeld := hHeldB
                    clear hHeldB
                    try simp only [Act.put, List.setIfInBounds_toArray, List.set_cons_zero, List.set_cons_succ]
                    as_aux_lemma =>
                      refine wpAnyH_take (i := 57) (oi := { dst := some 136, op := Op.pick (Operand.tmp 119) (Operand.tmp 135) (Operand.const (Value.bool false)), type := 4, pos := "law.go:98", after := #[{ on := 40, ground := Ground.data }, { on := 56, ground := Ground.data }], guard := none }) (v := ?vu295) rfl (by kernel_rfl) (by kernel_rfl) (by kernel_rfl) (fun _ _ _ h => h) (Or.inl ⟨by rfl, ?hyu295⟩) (by assumption) ?restu295
                      case hyu295 => (intro w hSw; (try dsimp only at hSw); go_simp; (try with_reducible rfl))
                      try simp only [Act.put, List.setIfInBounds_toArray, List.set_cons_zero, List.set_cons_succ]
                      refine wpAnyH_take (i := 58) (oi := { dst := some 137, op := Op.move (Operand.tmp 136), type := 4, pos := "law.go:98", after := #[{ on := 57, ground := Ground.data }, { on := 56, ground := Ground.chain }], guard := none }) (v := ?vu296) rfl (by kernel_rfl) (by kernel_rfl) (by kernel_rfl) (fun _ _ _ h => h) (Or.inl ⟨by rfl, ?hyu296⟩) (by assumption) ?restu296
                      case hyu296 => (intro w hSw; (try dsimp only at hSw); go_simp; (try with_reducible rfl))
                      try simp only [Act.put, List.setIfInBounds_toArray, List.set_cons_zero, List.set_cons_succ]
                      refine wpAnyH_take (i := 59) (oi := { dst := some 138, op := Op.move (Operand.tmp 15), type := 45, pos := "law.go:98", after := #[{ on := 58, ground := Ground.guard }], guard := some (58, true) }) (v := ?vu297) rfl (by kernel_rfl) (by kernel_rfl) (by kernel_rfl) (fun _ _ _ h => h) (Or.inl ⟨by rfl, ?hyu297⟩) (by assumption) ?restu297
                      case hyu297 => (intro w hSw; (try dsimp only at hSw); go_simp; (try with_reducible rfl))
                      try simp only [Act.put, List.setIfInBounds_toArray, List.set_cons_zero, List.set_cons_succ]
                      refine wpAnyH_take (i := 60) (oi := { dst := some 139, op := Op.move (Operand.tmp 14), type := 44, pos := "law.go:98", after := #[{ on := 58, ground := Ground.guard }], guard := some (58, true) }) (v := ?vu298) rfl (by kernel_rfl) (by kernel_rfl) (by kernel_rfl) (fun _ _ _ h => h) (Or.inl ⟨by rfl, ?hyu298⟩) (by assumption) ?restu298
                      case hyu298 => (intro w hSw; (try dsimp only at hSw); go_simp; (try with_reducible rfl))
                      try simp only [Act.put, List.setIfInBounds_toArray, List.set_cons_zero, List.set_cons_succ]
                      refine wpAnyH_take (i := 61) (oi := { dst := some 140, op := Op.load 27 (Operand.tmp 7), type := 27, pos := "law.go:98", after := #[{ on := 58, ground := Ground.guard }], guard := some (58, true) }) (v := ?vu299) rfl (by kernel_rfl) (by kernel_rfl) (by kernel_rfl) (fun _ _ _ h => h) (Or.inl ⟨by rfl, ?hyu299⟩) (by assumption) ?restu299
                      case hyu299 => (intro w hSw; (try dsimp only at hSw); have q1 := (box1_facts ((hSw.block _ (Array.getElem?_eq_some_iff.1 Hb7.out).1).trans Hb7.out)).1; go_simp; (try with_reducible rfl))
                      try simp only [Act.put, List.setIfInBounds_toArray, List.set_cons_zero, List.set_cons_succ]
                      refine wpAnyH_take (i := 62) (oi := { dst := some 141, op := Op.move (Operand.tmp 13), type := 44, pos := "law.go:98", after := #[{ on := 58, ground := Ground.guard }], guard := some (58, true) }) (v := ?vu300) rfl (by kernel_rfl) (by kernel_rfl) (by kernel_rfl) (fun _ _ _ h => h) (Or.inl ⟨by rfl, ?hyu300⟩) (by assumption) ?restu300
                      case hyu300 => (intro w hSw; (try dsimp only at hSw); go_simp; (try with_reducible rfl))
                      try simp only [Act.put, List.setIfInBounds_toArray, List.set_cons_zero, List.set_cons_succ]
                      refine wpAnyH_take (i := 63) (oi := { dst := some 142, op := Op.load 27 (Operand.tmp 9), type := 27, pos := "law.go:98", after := #[{ on := 58, ground := Ground.guard }], guard := some (58, true) }) (v := ?vu301) rfl (by kernel_rfl) (by kernel_rfl) (by kernel_rfl) (fun _ _ _ h => h) (Or.inl ⟨by rfl, ?hyu301⟩) (by assumption) ?restu301
                      case hyu301 => (intro w hSw; (try dsimp only at hSw); have q1 := (box1_facts ((hSw.block _ (Array.getElem?_eq_some_iff.1 Hb9.out).1).trans Hb9.out)).1; go_simp; (try with_reducible rfl))
                      try simp only [Act.put, List.setIfInBounds_toArray, List.set_cons_zero, List.set_cons_succ]
                      refine wpAnyH_take (i := 64) (oi := { dst := some 143, op := Op.load 27 (Operand.tmp 11), type := 27, pos := "law.go:98", after := #[{ on := 58, ground := Ground.guard }], guard := some (58, true) }) (v := ?vu302) rfl (by kernel_rfl) (by kernel_rfl) (by kernel_rfl) (fun _ _ _ h => h) (Or.inl ⟨by rfl, ?hyu302⟩) (by assumption) ?restu302
                      case hyu302 => (intro w hSw; (try dsimp only at hSw); have q1 := (box1_facts ((hSw.block _ (Array.getElem?_eq_some_iff.1 Hb11.out).1).trans Hb11.out)).1; go_simp; (try with_reducible rfl))
                      try simp only [Act.put, List.setIfInBounds_toArray, List.set_cons_zero, List.set_cons_succ]
                      refine wpAnyH_take (i := 67) (oi := { dst := some 146, op := Op.move (Operand.tmp 13), type := 44, pos := "law.go:98", after := #[{ on := 58, ground := Ground.guard }], guard := some (58, true) }) (v := ?vu303) rfl (by kernel_rfl) (by kernel_rfl) (by kernel_rfl) (fun _ _ _ h => h) (Or.inl ⟨by rfl, ?hyu303⟩) (by assumption) ?restu303
                      case hyu303 => (intro w hSw; (try dsimp only at hSw); go_simp; (try with_reducible rfl))
                      try simp only [Act.put, List.setIfInBounds_toArray, List.set_cons_zero, List.set_cons_succ]
                      refine wpAnyH_take (i := 68) (oi := { dst := some 147, op := Op.move (Operand.tmp 14), type := 44, pos := "law.go:98", after := #[{ on := 58, ground := Ground.guard }], guard := some (58, true) }) (v := ?vu304) rfl (by kernel_rfl) (by kernel_rfl) (by kernel_rfl) (fun _ _ _ h => h) (Or.inl ⟨by rfl, ?hyu304⟩) (by assumption) ?restu304
                      case hyu304 => (intro w hSw; (try dsimp only at hSw); go_simp; (try with_reducible rfl))
                      try simp only [Act.put, List.setIfInBounds_toArray, List.set_cons_zero, List.set_cons_succ]
                      refine wpAnyH_take (i := 69) (oi := { dst := some 148, op := Op.load 27 (Operand.tmp 7), type := 27, pos := "law.go:98", after := #[{ on := 58, ground := Ground.guard }], guard := some (58, true) }) (v := ?vu305) rfl (by kernel_rfl) (by kernel_rfl) (by kernel_rfl) (fun _ _ _ h => h) (Or.inl ⟨by rfl, ?hyu305⟩) (by assumption) ?restu305
                      case hyu305 => (intro w hSw; (try dsimp only at hSw); have q1 := (box1_facts ((hSw.block _ (Array.getElem?_eq_some_iff.1 Hb7.out).1).trans Hb7.out)).1; go_simp; (try with_reducible rfl))
                      try simp only [Act.put, List.setIfInBounds_toArray, List.set_cons_zero, List.set_cons_succ]
                      refine wpAnyH_take (i := 70) (oi := { dst := some 149, op := Op.load 27 (Operand.tmp 9), type := 27, pos := "law.go:98", after := #[{ on := 58, ground := Ground.guard }], guard := some (58, true) }) (v := ?vu306) rfl (by kernel_rfl) (by kernel_rfl) (by kernel_rfl) (fun _ _ _ h => h) (Or.inl ⟨by rfl, ?hyu306⟩) (by assumption) ?restu306
                      case hyu306 => (intro w hSw; (try dsimp only at hSw); have q1 := (box1_facts ((hSw.block _ (Array.getElem?_eq_some_iff.1 Hb9.out).1).trans Hb9.out)).1; go_simp; (try with_reducible rfl))
                      try simp only [Act.put, List.setIfInBounds_toArray, List.set_cons_zero, List.set_cons_succ]
                      refine wpAnyH_take (i := 72) (oi := { dst := some 151, op := Op.move (Operand.tmp 14), type := 44, pos := "law.go:98", after := #[{ on := 58, ground := Ground.guard }], guard := some (58, true) }) (v := ?vu307) rfl (by kernel_rfl) (by kernel_rfl) (by kernel_rfl) (fun _ _ _ h => h) (Or.inl ⟨by rfl, ?hyu307⟩) (by assumption) ?restu307
                      case hyu307 => (intro w hSw; (try dsimp only at hSw); go_simp; (try with_reducible rfl))
                      try simp only [Act.put, List.setIfInBounds_toArray, List.set_cons_zero, List.set_cons_succ]
                      refine wpAnyH_take (i := 73) (oi := { dst := some 152, op := Op.load 27 (Operand.tmp 7), type := 27, pos := "law.go:98", after := #[{ on := 58, ground := Ground.guard }], guard := some (58, true) }) (v := ?vu308) rfl (by kernel_rfl) (by kernel_rfl) (by kernel_rfl) (fun _ _ _ h => h) (Or.inl ⟨by rfl, ?hyu308⟩) (by assumption) ?restu308
                      case hyu308 => (intro w hSw; (try dsimp only at hSw); have q1 := (box1_facts ((hSw.block _ (Array.getElem?_eq_some_iff.1 Hb7.out).1).trans Hb7.out)).1; go_simp; (try with_reducible rfl))
                      try simp only [Act.put, List.setIfInBounds_toArray, List.set_cons_zero, List.set_cons_succ]
                      refine wpAnyH_take (i := 74) (oi := { dst := some 153, op := Op.load 27 (Operand.tmp 11), type := 27, pos := "law.go:98", after := #[{ on := 58, ground := Ground.guard }], guard := some (58, true) }) (v := ?vu309) rfl (by kernel_rfl) (by kernel_rfl) (by kernel_rfl) (fun _ _ _ h => h) (Or.inl ⟨by rfl, ?hyu309⟩) (by assumption) ?restu309
                      case hyu309 => (intro w hSw; (try dsimp only at hSw); have q1 := (box1_facts ((hSw.block _ (Array.getElem?_eq_some_iff.1 Hb11.out).1).trans Hb11.out)).1; go_simp; (try with_reducible rfl))
                      try simp only [Act.put, List.setIfInBounds_toArray, List.set_cons_zero, List.set_cons_succ]
                      refine wpAnyH_ready (rs := [65]) (by kernel_rfl) (by simp) ?_
                      refine AllReadyH.cons (o := { dst := some 144, op := Op.call { callee := Callee.value (Operand.tmp 141), args := #[Operand.tmp 142, Operand.tmp 143], argTypes := #[27, 27] }, type := 27, pos := "law.go:98", after := #[{ on := 62, ground := Ground.data }, { on := 63, ground := Ground.data }, { on := 64, ground := Ground.data }, { on := 58, ground := Ground.chain }, { on := 58, ground := Ground.guard }], guard := some (58, true) }) rfl (fun K hK => ?_) AllReadyH.nil
                      go_simp
                      go_at_call 26
                      refine (rplus_any C _ _ _ (fun s => has G s) (fun s => has J s) 6 12 6 12 (C.keep HEX.out (by first | exact HW0 | exact HW0.drew)) (HPg.out.below (by first | exact HW0 | exact HW0.drew)) (HPk.out.below (by first | exact HW0 | exact HW0.drew)) (by decide)).mono ?_
                      rintro e pz17 ⟨⟨py17, rfl, hy⟩, b⟩
                      have Hpy17 : Hid (FP pz17 py17 (fun s => (fun s => has G s) s ∨ (fun s => has J s) s) (6 + 6) (max 12 12)) := hy
                      replace HW0 := below_step (by first | exact HW0 | exact HW0.drew) b
                      clear b hy
                      refine hK.out _ _ ?_ (fun hHeldB => ?_)
                      · (try dsimp only); exact HW0
                      clear hK K hHeld
                      have hHeld := hHeldB
                      clear hHeldB
                      try simp only [Act.put, List.setIfInBounds_toArray, List.set_cons_zero, List.set_cons_succ]
                      refine wpAnyH_ready (rs := [66]) (by kernel_rfl) (by simp) ?_
                      refine AllReadyH.cons (o := { dst := some 145, op := Op.call { callee := Callee.value (Operand.tmp 139), args := #[Operand.tmp 140, Operand.tmp 144], argTypes := #[27, 27] }, type := 27, pos := "law.go:98", after := #[{ on := 60, ground := Ground.data }, { on := 61, ground := Ground.data }, { on := 65, ground := Ground.data }, { on := 65, ground := Ground.chain }, { on := 58, ground := Ground.guard }], guard := some (58, true) }) rfl (fun K hK => ?_) AllReadyH.nil
                      go_simp
                      go_at_call 27
                      refine (rtimes_any C _ _ _ (fun s => has F s) (fun s => (fun s => has G s) s ∨ (fun s => has J s) s) 6 12 (6 + 6) (max 12 12) (C.keep HEX.out (by first | exact HW0 | exact HW0.drew)) (HPf.out.below (by first | exact HW0 | exact HW0.drew)) Hpy17.out (by decide) (by decide) (by decide)).mono ?_
                      rintro e pz18 ⟨⟨py18, rfl, hy⟩, b⟩
                      have Hpy18 : Hid (FP pz18 py18 (fun s => (fun s => has F s) s ∧ (fun s => (fun s => has G s) s ∨ (fun s => has J s) s) s) (6 * (6 + 6)) (12 + (max 12 12))) := hy
                      replace HW0 := below_step (by first | exact HW0 | exact HW0.drew) b
                      clear b hy
                      refine hK.out _ _ ?_ (fun hHeldB => ?_)
                      · (try dsimp only); exact HW0
                      clear hK K hHeld
                      have hHeld := hHeldB
                      clear hHeldB
                      try simp only [Act.put, List.setIfInBounds_toArray, List.set_cons_zero, List.set_cons_succ]
                      as_aux_lemma =>
                        refine wpAnyH_ready (rs := [71]) (by kernel_rfl) (by simp) ?_
                        refine AllReadyH.cons (o := { dst := some 150, op := Op.call { callee := Callee.value (Operand.tmp 147), args := #[Operand.tmp 148, Operand.tmp 149], argTypes := #[27, 27] }, type := 27, pos := "law.go:98", after := #[{ on := 68, ground := Ground.data }, { on := 69, ground := Ground.data }, { on := 70, ground := Ground.data }, { on := 66, ground := Ground.chain }, { on := 58, ground := Ground.guard }], guard := some (58, true) }) rfl (fun K hK => ?_) AllReadyH.nil
                        go_simp
                        go_at_call 27
                        refine (rtimes_any C _ _ _ (fun s => has F s) (fun s => has G s) 6 12 6 12 (C.keep HEX.out (by first | exact HW0 | exact HW0.drew)) (HPf.out.below (by first | exact HW0 | exact HW0.drew)) (HPg.out.below (by first | exact HW0 | exact HW0.drew)) (by decide) (by decide) (by decide)).mono ?_
                        rintro e pz19 ⟨⟨py19, rfl, hy⟩, b⟩
                        replace Hpy18 : Hid (FP pz19 py18 (fun s => (fun s => has F s) s ∧ (fun s => (fun s => has G s) s ∨ (fun s => has J s) s) s) (6 * (6 + 6)) (12 + (max 12 12))) := Hpy18.out.below b
                        have Hpy19 : Hid (FP pz19 py19 (fun s => (fun s => has F s) s ∧ (fun s => has G s) s) (6 * 6) (12 + 12)) := hy
                        replace HW0 := below_step (by first | exact HW0 | exact HW0.drew) b
                        clear b hy
                        refine hK.out _ _ ?_ (fun hHeldB => ?_)
                        · (try dsimp only); exact HW0
                        clear hK K hHeld
                        have hHeld := hHeldB
                        clear hHeldB
                        try simp only [Act.put, List.setIfInBounds_toArray, List.set_cons_zero, List.set_cons_succ]
                        refine wpAnyH_ready (rs := [75]) (by kernel_rfl) (by simp) ?_
                        refine AllReadyH.cons (o := { dst := some 154, op := Op.call { callee := Callee.value (Operand.tmp 151), args := #[Operand.tmp 152, Operand.tmp 153], argTypes := #[27, 27] }, type := 27, pos := "law.go:98", after := #[{ on := 72, ground := Ground.data }, { on := 73, ground := Ground.data }, { on := 74, ground := Ground.data }, { on := 71, ground := Ground.chain }, { on := 58, ground := Ground.guard }], guard := some (58, true) }) rfl (fun K hK => ?_) AllReadyH.nil
                        go_simp
                        go_at_call 27
                        refine (rtimes_any C _ _ _ (fun s => has F s) (fun s => has J s) 6 12 6 12 (C.keep HEX.out (by first | exact HW0 | exact HW0.drew)) (HPf.out.below (by first | exact HW0 | exact HW0.drew)) (HPk.out.below (by first | exact HW0 | exact HW0.drew)) (by decide) (by decide) (by decide)).mono ?_
                        rintro e pz20 ⟨⟨py20, rfl, hy⟩, b⟩
                        replace Hpy18 : Hid (FP pz20 py18 (fun s => (fun s => has F s) s ∧ (fun s => (fun s => has G s) s ∨ (fun s => has J s) s) s) (6 * (6 + 6)) (12 + (max 12 12))) := Hpy18.out.below b
                        replace Hpy19 : Hid (FP pz20 py19 (fun s => (fun s => has F s) s ∧ (fun s => has G s) s) (6 * 6) (12 + 12)) := Hpy19.out.below b
                        have Hpy20 : Hid (FP pz20 py20 (fun s => (fun s => has F s) s ∧ (fun s => has J s) s) (6 * 6) (12 + 12)) := hy
                        replace HW0 := below_step (by first | exact HW0 | exact HW0.drew) b
                        clear b hy
                        refine hK.out _ _ ?_ (fun hHeldB => ?_)
                        · (try dsimp only); exact HW0
                        clear hK K hHeld
                        have hHeld := hHeldB
                        clear hHeldB
                        try simp only [Act.put, List.setIfInBounds_toArray, List.set_cons_zero, List.set_cons_succ]
                        as_aux_lemma =>
                          refine wpAnyH_ready (rs := [76]) (by kernel_rfl) (by simp) ?_
                          refine AllReadyH.cons (o := { dst := some 155, op := Op.call { callee := Callee.value (Operand.tmp 146), args := #[Operand.tmp 150, Operand.tmp 154], argTypes := #[27, 27] }, type := 27, pos := "law.go:98", after := #[{ on := 67, ground := Ground.data }, { on := 71, ground := Ground.data }, { on := 75, ground := Ground.data }, { on := 75, ground := Ground.chain }, { on := 58, ground := Ground.guard }], guard := some (58, true) }) rfl (fun K hK => ?_) AllReadyH.nil
                          go_simp
                          go_at_call 26
                          refine (rplus_any C _ _ _ (fun s => (fun s => has F s) s ∧ (fun s => has G s) s) (fun s => (fun s => has F s) s ∧ (fun s => has J s) s) (6 * 6) (12 + 12) (6 * 6) (12 + 12) (C.keep HEX.out (by first | exact HW0 | exact HW0.drew)) Hpy19.out Hpy20.out (by decide)).mono ?_
                          rintro e pz21 ⟨⟨py21, rfl, hy⟩, b⟩
                          replace Hpy18 : Hid (FP pz21 py18 (fun s => (fun s => has F s) s ∧ (fun s => (fun s => has G s) s ∨ (fun s => has J s) s) s) (6 * (6 + 6)) (12 + (max 12 12))) := Hpy18.out.below b
                          have Hpy21 : Hid (FP pz21 py21 (fun s => (fun s => (fun s => has F s) s ∧ (fun s => has G s) s) s ∨ (fun s => (fun s => has F s) s ∧ (fun s => has J s) s) s) ((6 * 6) + (6 * 6)) (max (12 + 12) (12 + 12))) := hy
                          replace HW0 := below_step (by first | exact HW0 | exact HW0.drew) b
                          clear b hy
                          refine hK.out _ _ ?_ (fun hHeldB => ?_)
                          · (try dsimp only); exact HW0
                          clear hK K hHeld
                          have hHeld := hHeldB
                          clear hHeldB
                          try simp only [Act.put, List.setIfInBounds_toArray, List.set_cons_zero, List.set_cons_succ]
                          refine wpAnyH_ready (rs := [77]) (by kernel_rfl) (by simp) ?_
                          refine AllReadyH.cons (o := { dst := some 156, op := Op.call { callee := Callee.value (Operand.tmp 138), args := #[Operand.tmp 145, Operand.tmp 155], argTypes := #[27, 27] }, type := 4, pos := "law.go:98", after := #[{ on := 59, ground := Ground.data }, { on := 66, ground := Ground.data }, { on := 76, ground := Ground.data }, { on := 76, ground := Ground.chain }, { on := 58, ground := Ground.guard }], guard := some (58, true) }) rfl (fun K hK => ?_) AllReadyH.nil
                          go_simp
                          go_at_call 28
                          refine (rsame_any C _ _ _ (fun s => (fun s => has F s) s ∧ (fun s => (fun s => has G s) s ∨ (fun s => has J s) s) s) (fun s => (fun s => (fun s => has F s) s ∧ (fun s => has G s) s) s ∨ (fun s => (fun s => has F s) s ∧ (fun s => has J s) s) s) (6 * (6 + 6)) (12 + (max 12 12)) ((6 * 6) + (6 * 6)) (max (12 + 12) (12 + 12)) (C.keep HEX.out (by first | exact HW0 | exact HW0.drew)) Hpy18.out Hpy21.out (fun s => by by_cases h1 : has F s <;> by_cases h2 : has G s <;> by_cases h3 : has J s <;> simp [h1, h2, h3])).mono ?_
                          rintro e pz22 ⟨rfl, b⟩
                          replace HW0 := below_step (by first | exact HW0 | exact HW0.drew) b
                          clear b
                          refine hK.out _ _ ?_ (fun hHeldB => ?_)
                          · (try dsimp only); exact HW0
                          clear hK K hHeld
                          have hHeld := hHeldB
                          clear hHeldB
                          try simp only [Act.put, List.setIfInBounds_toArray, List.set_cons_zero, List.set_cons_succ]
                          refine wpAnyH_take (i := 78) (oi := { dst := some 157, op := Op.pick (Operand.tmp 137) (Operand.tmp 156) (Operand.const (Value.bool false)), type := 4, pos := "law.go:98", after := #[{ on := 58, ground := Ground.data }, { on := 77, ground := Ground.data }], guard := none }) (v := ?vu310) rfl (by kernel_rfl) (by kernel_rfl) (by kernel_rfl) (fun _ _ _ h => h) (Or.inl ⟨by rfl, ?hyu310⟩) (by assumption) ?restu310
                          case hyu310 => (intro w hSw; (try dsimp only at hSw); go_simp; (try with_reducible rfl))
                          try simp only [Act.put, List.setIfInBounds_toArray, List.set_cons_zero, List.set_cons_succ]
                          refine wpAnyH_take (i := 79) (oi := { dst := some 16, op := Op.assign (Operand.tmp 157), type := 4, pos := "law.go:98", after := ([{ on := 78, ground := Ground.data }, { on := 77, ground := Ground.chain }, { on := 0, ground := Ground.phase }, { on := 1, ground := Ground.phase }, { on := 2, ground := Ground.phase }, { on := 3, ground := Ground.phase }, { on := 4, ground := Ground.phase }, { on := 5, ground := Ground.phase }, { on := 6, ground := Ground.phase }, { on := 7, ground := Ground.phase }, { on := 8, ground := Ground.phase }, { on := 9, ground := Ground.phase }, { on := 10, ground := Ground.phase }, { on := 11, ground := Ground.phase }, { on := 12, ground := Ground.phase }, { on := 13, ground := Ground.phase }, { on := 14, ground := Ground.phase }, { on := 15, ground := Ground.phase }, { on := 16, ground := Ground.phase }, { on := 17, ground := Ground.phase }, { on := 18, ground := Ground.phase }, { on := 19, ground := Ground.phase }, { on := 20, ground := Ground.phase }, { on := 21, ground := Ground.phase }, { on := 22, ground := Ground.phase }, { on := 23, ground := Ground.phase }, { on := 24, ground := Ground.phase }, { on := 25, ground := Ground.phase }, { on := 26, ground := Ground.phase }, { on := 27, ground := Ground.phase }, { on := 28, ground := Ground.phase }, { on := 29, ground := Ground.phase }, { on := 30, ground := Ground.phase }, { on := 31, ground := Ground.phase }, { on := 32, ground := Ground.phase }, { on := 33, ground := Ground.phase }, { on := 34, ground := Ground.phase }, { on := 35, ground := Ground.phase }, { on := 36, ground := Ground.phase }, { on := 37, ground := Ground.phase }].append [{ on := 38, ground := Ground.phase }, { on := 39, ground := Ground.phase }, { on := 40, ground := Ground.phase }, { on := 41, ground := Ground.phase }, { on := 42, ground := Ground.phase }, { on := 43, ground := Ground.phase }, { on := 44, ground := Ground.phase }, { on := 45, ground := Ground.phase }, { on := 46, ground := Ground.phase }, { on := 47, ground := Ground.phase }, { on := 48, ground := Ground.phase }, { on := 49, ground := Ground.phase }, { on := 50, ground := Ground.phase }, { on := 51, ground := Ground.phase }, { on := 52, ground := Ground.phase }, { on := 53, ground := Ground.phase }, { on := 54, ground := Ground.phase }, { on := 55, ground := Ground.phase }, { on := 56, ground := Ground.phase }, { on := 57, ground := Ground.phase }, { on := 58, ground := Ground.phase }, { on := 59, ground := Ground.phase }, { on := 60, ground := Ground.phase }, { on := 61, ground := Ground.phase }, { on := 62, ground := Ground.phase }, { on := 63, ground := Ground.phase }, { on := 64, ground := Ground.phase }, { on := 65, ground := Ground.phase }, { on := 66, ground := Ground.phase }, { on := 67, ground := Ground.phase }, { on := 68, ground := Ground.phase }, { on := 69, ground := Ground.phase }, { on := 70, ground := Ground.phase }, { on := 71, ground := Ground.phase }, { on := 72, ground := Ground.phase }, { on := 73, ground := Ground.phase }, { on := 74, ground := Ground.phase }, { on := 75, ground := Ground.phase }, { on := 76, ground := Ground.phase }, { on := 77, ground := Ground.phase }, { on := 78, ground := Ground.phase }]).toArray, guard := none }) (v := ?vu311) rfl (by kernel_rfl) (by kernel_rfl) (by kernel_rfl) (fun _ _ _ h => h) (Or.inl ⟨by rfl, ?hyu311⟩) (by assumption) ?restu311
                          case hyu311 => (intro w hSw; (try dsimp only at hSw); go_simp; (try with_reducible rfl))
                          try simp only [Act.put, List.setIfInBounds_toArray, List.set_cons_zero, List.set_cons_succ]
                          refine wpAnyH_done (by kernel_rfl) ?_ _
                          go_upto_region 12 with fail
                          as_aux_lemma =>
                            refine wp_region_held_drew (S := (fun w' => Below X11.heap.size X11 w')) (by kernel_rfl) ?_ (fun hHeld => ?_)
                            · (try dsimp only); first | exact HW0 | exact HW0.drew
                            refine wpAnyH_take (i := 0) (oi := { dst := some 158, op := Op.move (Operand.tmp 16), type := 4, pos := "law.go:99", after := #[], guard := none }) (v := ?vu312) rfl (by kernel_rfl) (by kernel_rfl) (by kernel_rfl) (fun _ _ _ h => h) (Or.inl ⟨by rfl, ?hyu312⟩) (by assumption) ?restu312
                            case hyu312 => (intro w hSw; (try dsimp only at hSw); go_simp; (try with_reducible rfl))
                            try simp only [Act.put, List.setIfInBounds_toArray, List.set_cons_zero, List.set_cons_succ]
                            refine wpAnyH_take (i := 1) (oi := { dst := some 159, op := Op.move (Operand.tmp 158), type := 4, pos := "law.go:99", after := #[{ on := 0, ground := Ground.data }], guard := none }) (v := ?vu313) rfl (by kernel_rfl) (by kernel_rfl) (by kernel_rfl) (fun _ _ _ h => h) (Or.inl ⟨by rfl, ?hyu313⟩) (by assumption) ?restu313
                            case hyu313 => (intro w hSw; (try dsimp only at hSw); go_simp; (try with_reducible rfl))
                            try simp only [Act.put, List.setIfInBounds_toArray, List.set_cons_zero, List.set_cons_succ]
                            refine wpAnyH_take (i := 2) (oi := { dst := some 160, op := Op.move (Operand.tmp 15), type := 45, pos := "law.go:99", after := #[{ on := 1, ground := Ground.guard }], guard := some (1, true) }) (v := ?vu314) rfl (by kernel_rfl) (by kernel_rfl) (by kernel_rfl) (fun _ _ _ h => h) (Or.inl ⟨by rfl, ?hyu314⟩) (by assumption) ?restu314
                            case hyu314 => (intro w hSw; (try dsimp only at hSw); go_simp; (try with_reducible rfl))
                            try simp only [Act.put, List.setIfInBounds_toArray, List.set_cons_zero, List.set_cons_succ]
                            refine wpAnyH_take (i := 3) (oi := { dst := some 161, op := Op.move (Operand.tmp 13), type := 44, pos := "law.go:99", after := #[{ on := 1, ground := Ground.guard }], guard := some (1, true) }) (v := ?vu315) rfl (by kernel_rfl) (by kernel_rfl) (by kernel_rfl) (fun _ _ _ h => h) (Or.inl ⟨by rfl, ?hyu315⟩) (by assumption) ?restu315
                            case hyu315 => (intro w hSw; (try dsimp only at hSw); go_simp; (try with_reducible rfl))
                            try simp only [Act.put, List.setIfInBounds_toArray, List.set_cons_zero, List.set_cons_succ]
                            refine wpAnyH_take (i := 4) (oi := { dst := some 162, op := Op.load 27 (Operand.tmp 7), type := 27, pos := "law.go:99", after := #[{ on := 1, ground := Ground.guard }], guard := some (1, true) }) (v := ?vu316) rfl (by kernel_rfl) (by kernel_rfl) (by kernel_rfl) (fun _ _ _ h => h) (Or.inl ⟨by rfl, ?hyu316⟩) (by assumption) ?restu316
                            case hyu316 => (intro w hSw; (try dsimp only at hSw); have q1 := (box1_facts ((hSw.block _ (Array.getElem?_eq_some_iff.1 Hb7.out).1).trans Hb7.out)).1; go_simp; (try with_reducible rfl))
                            try simp only [Act.put, List.setIfInBounds_toArray, List.set_cons_zero, List.set_cons_succ]
                            refine wpAnyH_take (i := 5) (oi := { dst := some 163, op := Op.load 27 (Operand.tmp 7), type := 27, pos := "law.go:99", after := #[{ on := 1, ground := Ground.guard }], guard := some (1, true) }) (v := ?vu317) rfl (by kernel_rfl) (by kernel_rfl) (by kernel_rfl) (fun _ _ _ h => h) (Or.inl ⟨by rfl, ?hyu317⟩) (by assumption) ?restu317
                            case hyu317 => (intro w hSw; (try dsimp only at hSw); have q1 := (box1_facts ((hSw.block _ (Array.getElem?_eq_some_iff.1 Hb7.out).1).trans Hb7.out)).1; go_simp; (try with_reducible rfl))
                            try simp only [Act.put, List.setIfInBounds_toArray, List.set_cons_zero, List.set_cons_succ]
                            refine wpAnyH_take (i := 7) (oi := { dst := some 165, op := Op.load 27 (Operand.tmp 7), type := 27, pos := "law.go:99", after := #[{ on := 1, ground := Ground.guard }], guard := some (1, true) }) (v := ?vu318) rfl (by kernel_rfl) (by kernel_rfl) (by kernel_rfl) (fun _ _ _ h => h) (Or.inl ⟨by rfl, ?hyu318⟩) (by assumption) ?restu318
                            case hyu318 => (intro w hSw; (try dsimp only at hSw); have q1 := (box1_facts ((hSw.block _ (Array.getElem?_eq_some_iff.1 Hb7.out).1).trans Hb7.out)).1; go_simp; (try with_reducible rfl))
                            try simp only [Act.put, List.setIfInBounds_toArray, List.set_cons_zero, List.set_cons_succ]
                            refine wpAnyH_ready (rs := [6]) (by kernel_rfl) (by simp) ?_
                            refine AllReadyH.cons (o := { dst := some 164, op := Op.call { callee := Callee.value (Operand.tmp 161), args := #[Operand.tmp 162, Operand.tmp 163], argTypes := #[27, 27] }, type := 27, pos := "law.go:99", after := #[{ on := 3, ground := Ground.data }, { on := 4, ground := Ground.data }, { on := 5, ground := Ground.data }, { on := 1, ground := Ground.chain }, { on := 1, ground := Ground.guard }], guard := some (1, true) }) rfl (fun K hK => ?_) AllReadyH.nil
                            go_simp
                            go_at_call 26
                            refine (rplus_any C _ _ _ (fun s => has F s) (fun s => has F s) 6 12 6 12 (C.keep HEX.out (by first | exact HW0 | exact HW0.drew)) (HPf.out.below (by first | exact HW0 | exact HW0.drew)) (HPf.out.below (by first | exact HW0 | exact HW0.drew)) (by decide)).mono ?_
                            rintro e qz1 ⟨⟨qy1, rfl, hy⟩, b⟩
                            have Hqy1 : Hid (FP qz1 qy1 (fun s => (fun s => has F s) s ∨ (fun s => has F s) s) (6 + 6) (max 12 12)) := hy
                            replace HW0 := below_step (by first | exact HW0 | exact HW0.drew) b
                            clear b hy
                            refine hK.out _ _ ?_ (fun hHeldB => ?_)
                            · (try dsimp only); exact HW0
                            clear hK K hHeld
                            have hHeld := hHeldB
                            clear hHeldB
                            try simp only [Act.put, List.setIfInBounds_toArray, List.set_cons_zero, List.set_cons_succ]
                            refine wpAnyH_ready (rs := [8]) (by kernel_rfl) (by simp) ?_
                            refine AllReadyH.cons (o := { dst := some 166, op := Op.call { callee := Callee.value (Operand.tmp 160), args := #[Operand.tmp 164, Operand.tmp 165], argTypes := #[27, 27] }, type := 4, pos := "law.go:99", after := #[{ on := 2, ground := Ground.data }, { on := 6, ground := Ground.data }, { on := 7, ground := Ground.data }, { on := 6, ground := Ground.chain }, { on := 1, ground := Ground.guard }], guard := some (1, true) }) rfl (fun K hK => ?_) AllReadyH.nil
                            go_simp
                            go_at_call 28
                            refine (rsame_any C _ _ _ (fun s => (fun s => has F s) s ∨ (fun s => has F s) s) (fun s => has F s) (6 + 6) (max 12 12) 6 12 (C.keep HEX.out (by first | exact HW0 | exact HW0.drew)) Hqy1.out (HPf.out.below (by first | exact HW0 | exact HW0.drew)) (fun s => by by_cases h1 : has F s <;> by_cases h2 : has G s <;> by_cases h3 : has J s <;> simp [h1, h2, h3])).mono ?_
                            rintro e qz2 ⟨rfl, b⟩
                            replace HW0 := below_step (by first | exact HW0 | exact HW0.drew) b
                            clear b
                            refine hK.out _ _ ?_ (fun hHeldB => ?_)
                            · (try dsimp only); exact HW0
                            clear hK K hHeld
                            have hHeld := hHeldB
                            clear hHeldB
                            try simp only [Act.put, List.setIfInBounds_toArray, List.set_cons_zero, List.set_cons_succ]
                            as_aux_lemma =>
                              refine wpAnyH_take (i := 9) (oi := { dst := some 167, op := Op.pick (Operand.tmp 159) (Operand.tmp 166) (Operand.const (Value.bool false)), type := 4, pos := "law.go:99", after := #[{ on := 1, ground := Ground.data }, { on := 8, ground := Ground.data }], guard := none }) (v := ?vu319) rfl (by kernel_rfl) (by kernel_rfl) (by kernel_rfl) (fun _ _ _ h => h) (Or.inl ⟨by rfl, ?hyu319⟩) (by assumption) ?restu319
                              case hyu319 => (intro w hSw; (try dsimp only at hSw); go_simp; (try with_reducible rfl))
                              try simp only [Act.put, List.setIfInBounds_toArray, List.set_cons_zero, List.set_cons_succ]
                              refine wpAnyH_take (i := 10) (oi := { dst := some 168, op := Op.move (Operand.tmp 167), type := 4, pos := "law.go:99", after := #[{ on := 9, ground := Ground.data }, { on := 8, ground := Ground.chain }], guard := none }) (v := ?vu320) rfl (by kernel_rfl) (by kernel_rfl) (by kernel_rfl) (fun _ _ _ h => h) (Or.inl ⟨by rfl, ?hyu320⟩) (by assumption) ?restu320
                              case hyu320 => (intro w hSw; (try dsimp only at hSw); go_simp; (try with_reducible rfl))
                              try simp only [Act.put, List.setIfInBounds_toArray, List.set_cons_zero, List.set_cons_succ]
                              refine wpAnyH_take (i := 11) (oi := { dst := some 169, op := Op.move (Operand.tmp 15), type := 45, pos := "law.go:99", after := #[{ on := 10, ground := Ground.guard }], guard := some (10, true) }) (v := ?vu321) rfl (by kernel_rfl) (by kernel_rfl) (by kernel_rfl) (fun _ _ _ h => h) (Or.inl ⟨by rfl, ?hyu321⟩) (by assumption) ?restu321
                              case hyu321 => (intro w hSw; (try dsimp only at hSw); go_simp; (try with_reducible rfl))
                              try simp only [Act.put, List.setIfInBounds_toArray, List.set_cons_zero, List.set_cons_succ]
                              refine wpAnyH_take (i := 12) (oi := { dst := some 170, op := Op.move (Operand.tmp 14), type := 44, pos := "law.go:99", after := #[{ on := 10, ground := Ground.guard }], guard := some (10, true) }) (v := ?vu322) rfl (by kernel_rfl) (by kernel_rfl) (by kernel_rfl) (fun _ _ _ h => h) (Or.inl ⟨by rfl, ?hyu322⟩) (by assumption) ?restu322
                              case hyu322 => (intro w hSw; (try dsimp only at hSw); go_simp; (try with_reducible rfl))
                              try simp only [Act.put, List.setIfInBounds_toArray, List.set_cons_zero, List.set_cons_succ]
                              refine wpAnyH_take (i := 13) (oi := { dst := some 171, op := Op.load 27 (Operand.tmp 7), type := 27, pos := "law.go:99", after := #[{ on := 10, ground := Ground.guard }], guard := some (10, true) }) (v := ?vu323) rfl (by kernel_rfl) (by kernel_rfl) (by kernel_rfl) (fun _ _ _ h => h) (Or.inl ⟨by rfl, ?hyu323⟩) (by assumption) ?restu323
                              case hyu323 => (intro w hSw; (try dsimp only at hSw); have q1 := (box1_facts ((hSw.block _ (Array.getElem?_eq_some_iff.1 Hb7.out).1).trans Hb7.out)).1; go_simp; (try with_reducible rfl))
                              try simp only [Act.put, List.setIfInBounds_toArray, List.set_cons_zero, List.set_cons_succ]
                              refine wpAnyH_take (i := 14) (oi := { dst := some 172, op := Op.load 27 (Operand.tmp 7), type := 27, pos := "law.go:99", after := #[{ on := 10, ground := Ground.guard }], guard := some (10, true) }) (v := ?vu324) rfl (by kernel_rfl) (by kernel_rfl) (by kernel_rfl) (fun _ _ _ h => h) (Or.inl ⟨by rfl, ?hyu324⟩) (by assumption) ?restu324
                              case hyu324 => (intro w hSw; (try dsimp only at hSw); have q1 := (box1_facts ((hSw.block _ (Array.getElem?_eq_some_iff.1 Hb7.out).1).trans Hb7.out)).1; go_simp; (try with_reducible rfl))
                              try simp only [Act.put, List.setIfInBounds_toArray, List.set_cons_zero, List.set_cons_succ]
                              refine wpAnyH_take (i := 16) (oi := { dst := some 174, op := Op.load 27 (Operand.tmp 7), type := 27, pos := "law.go:99", after := #[{ on := 10, ground := Ground.guard }], guard := some (10, true) }) (v := ?vu325) rfl (by kernel_rfl) (by kernel_rfl) (by kernel_rfl) (fun _ _ _ h => h) (Or.inl ⟨by rfl, ?hyu325⟩) (by assumption) ?restu325
                              case hyu325 => (intro w hSw; (try dsimp only at hSw); have q1 := (box1_facts ((hSw.block _ (Array.getElem?_eq_some_iff.1 Hb7.out).1).trans Hb7.out)).1; go_simp; (try with_reducible rfl))
                              try simp only [Act.put, List.setIfInBounds_toArray, List.set_cons_zero, List.set_cons_succ]
                              refine wpAnyH_ready (rs := [15]) (by kernel_rfl) (by simp) ?_
                              refine AllReadyH.cons (o := { dst := some 173, op := Op.call { callee := Callee.value (Operand.tmp 170), args := #[Operand.tmp 171, Operand.tmp 172], argTypes := #[27, 27] }, type := 27, pos := "law.go:99", after := #[{ on := 12, ground := Ground.data }, { on := 13, ground := Ground.data }, { on := 14, ground := Ground.data }, { on := 10, ground := Ground.chain }, { on := 10, ground := Ground.guard }], guard := some (10, true) }) rfl (fun K hK => ?_) AllReadyH.nil
                              go_simp
                              go_at_call 27
                              refine (rtimes_any C _ _ _ (fun s => has F s) (fun s => has F s) 6 12 6 12 (C.keep HEX.out (by first | exact HW0 | exact HW0.drew)) (HPf.out.below (by first | exact HW0 | exact HW0.drew)) (HPf.out.below (by first | exact HW0 | exact HW0.drew)) (by decide) (by decide) (by decide)).mono ?_
                              rintro e qz3 ⟨⟨qy3, rfl, hy⟩, b⟩
                              have Hqy3 : Hid (FP qz3 qy3 (fun s => (fun s => has F s) s ∧ (fun s => has F s) s) (6 * 6) (12 + 12)) := hy
                              replace HW0 := below_step (by first | exact HW0 | exact HW0.drew) b
                              clear b hy
                              refine hK.out _ _ ?_ (fun hHeldB => ?_)
                              · (try dsimp only); exact HW0
                              clear hK K hHeld
                              have hHeld := hHeldB
                              clear hHeldB
                              try simp only [Act.put, List.setIfInBounds_toArray, List.set_cons_zero, List.set_cons_succ]
                              refine wpAnyH_ready (rs := [17]) (by kernel_rfl) (by simp) ?_
                              refine AllReadyH.cons (o := { dst := some 175, op := Op.call { callee := Callee.value (Operand.tmp 169), args := #[Operand.tmp 173, Operand.tmp 174], argTypes := #[27, 27] }, type := 4, pos := "law.go:99", after := #[{ on := 11, ground := Ground.data }, { on := 15, ground := Ground.data }, { on := 16, ground := Ground.data }, { on := 15, ground := Ground.chain }, { on := 10, ground := Ground.guard }], guard := some (10, true) }) rfl (fun K hK => ?_) AllReadyH.nil
                              go_simp
                              go_at_call 28
                              refine (rsame_any C _ _ _ (fun s => (fun s => has F s) s ∧ (fun s => has F s) s) (fun s => has F s) (6 * 6) (12 + 12) 6 12 (C.keep HEX.out (by first | exact HW0 | exact HW0.drew)) Hqy3.out (HPf.out.below (by first | exact HW0 | exact HW0.drew)) (fun s => by by_cases h1 : has F s <;> by_cases h2 : has G s <;> by_cases h3 : has J s <;> simp [h1, h2, h3])).mono ?_
                              rintro e qz4 ⟨rfl, b⟩
                              replace HW0 := below_step (by first | exact HW0 | exact HW0.drew) b
                              clear b
                              refine hK.out _ _ ?_ (fun hHeldB => ?_)
                              · (try dsimp only); exact HW0
                              clear hK K hHeld
                              have hHeld := hHeldB
                              clear hHeldB
                              try simp only [Act.put, List.setIfInBounds_toArray, List.set_cons_zero, List.set_cons_succ]
                              as_aux_lemma =>
                                refine wpAnyH_take (i := 18) (oi := { dst := some 176, op := Op.pick (Operand.tmp 168) (Operand.tmp 175) (Operand.const (Value.bool false)), type := 4, pos := "law.go:99", after := #[{ on := 10, ground := Ground.data }, { on := 17, ground := Ground.data }], guard := none }) (v := ?vu326) rfl (by kernel_rfl) (by kernel_rfl) (by kernel_rfl) (fun _ _ _ h => h) (Or.inl ⟨by rfl, ?hyu326⟩) (by assumption) ?restu326
                                case hyu326 => (intro w hSw; (try dsimp only at hSw); go_simp; (try with_reducible rfl))
                                try simp only [Act.put, List.setIfInBounds_toArray, List.set_cons_zero, List.set_cons_succ]
                                refine wpAnyH_take (i := 19) (oi := { dst := some 177, op := Op.move (Operand.tmp 176), type := 4, pos := "law.go:99", after := #[{ on := 18, ground := Ground.data }, { on := 17, ground := Ground.chain }], guard := none }) (v := ?vu327) rfl (by kernel_rfl) (by kernel_rfl) (by kernel_rfl) (fun _ _ _ h => h) (Or.inl ⟨by rfl, ?hyu327⟩) (by assumption) ?restu327
                                case hyu327 => (intro w hSw; (try dsimp only at hSw); go_simp; (try with_reducible rfl))
                                try simp only [Act.put, List.setIfInBounds_toArray, List.set_cons_zero, List.set_cons_succ]
                                refine wpAnyH_take (i := 20) (oi := { dst := some 178, op := Op.move (Operand.tmp 15), type := 45, pos := "law.go:99", after := #[{ on := 19, ground := Ground.guard }], guard := some (19, true) }) (v := ?vu328) rfl (by kernel_rfl) (by kernel_rfl) (by kernel_rfl) (fun _ _ _ h => h) (Or.inl ⟨by rfl, ?hyu328⟩) (by assumption) ?restu328
                                case hyu328 => (intro w hSw; (try dsimp only at hSw); go_simp; (try with_reducible rfl))
                                try simp only [Act.put, List.setIfInBounds_toArray, List.set_cons_zero, List.set_cons_succ]
                                refine wpAnyH_take (i := 21) (oi := { dst := some 179, op := Op.move (Operand.tmp 13), type := 44, pos := "law.go:99", after := #[{ on := 19, ground := Ground.guard }], guard := some (19, true) }) (v := ?vu329) rfl (by kernel_rfl) (by kernel_rfl) (by kernel_rfl) (fun _ _ _ h => h) (Or.inl ⟨by rfl, ?hyu329⟩) (by assumption) ?restu329
                                case hyu329 => (intro w hSw; (try dsimp only at hSw); go_simp; (try with_reducible rfl))
                                try simp only [Act.put, List.setIfInBounds_toArray, List.set_cons_zero, List.set_cons_succ]
                                refine wpAnyH_take (i := 22) (oi := { dst := some 180, op := Op.load 27 (Operand.tmp 7), type := 27, pos := "law.go:99", after := #[{ on := 19, ground := Ground.guard }], guard := some (19, true) }) (v := ?vu330) rfl (by kernel_rfl) (by kernel_rfl) (by kernel_rfl) (fun _ _ _ h => h) (Or.inl ⟨by rfl, ?hyu330⟩) (by assumption) ?restu330
                                case hyu330 => (intro w hSw; (try dsimp only at hSw); have q1 := (box1_facts ((hSw.block _ (Array.getElem?_eq_some_iff.1 Hb7.out).1).trans Hb7.out)).1; go_simp; (try with_reducible rfl))
                                try simp only [Act.put, List.setIfInBounds_toArray, List.set_cons_zero, List.set_cons_succ]
                                refine wpAnyH_ready (rs := [23]) (by kernel_rfl) (by simp) ?_
                                refine AllReadyH.cons (o := { dst := some 181, op := Op.call { callee := Callee.value (Operand.func 29), args := #[], argTypes := #[] }, type := 27, pos := "law.go:99", after := #[{ on := 19, ground := Ground.chain }, { on := 19, ground := Ground.guard }], guard := some (19, true) }) rfl (fun K hK => ?_) AllReadyH.nil
                                go_simp
                                go_at_call 29
                                refine (rone_any C _ (C.keep HEX.out (by first | exact HW0 | exact HW0.drew))).mono ?_
                                rintro e qz5 ⟨⟨qy5, rfl, hy⟩, b⟩
                                have Hqy5 : Hid (FP qz5 qy5 (fun _ => True) 1 0) := hy
                                replace HW0 := below_step (by first | exact HW0 | exact HW0.drew) b
                                clear b hy
                                refine hK.out _ _ ?_ (fun hHeldB => ?_)
                                · (try dsimp only); exact HW0
                                clear hK K hHeld
                                have hHeld := hHeldB
                                clear hHeldB
                                try simp only [Act.put, List.setIfInBounds_toArray, List.set_cons_zero, List.set_cons_succ]
                                refine wpAnyH_ready (rs := [24]) (by kernel_rfl) (by simp) ?_
                                refine AllReadyH.cons (o := { dst := some 182, op := Op.call { callee := Callee.value (Operand.tmp 179), args := #[Operand.tmp 180, Operand.tmp 181], argTypes := #[27, 27] }, type := 27, pos := "law.go:99", after := #[{ on := 21, ground := Ground.data }, { on := 22, ground := Ground.data }, { on := 23, ground := Ground.data }, { on := 23, ground := Ground.chain }, { on := 19, ground := Ground.guard }], guard := some (19, true) }) rfl (fun K hK => ?_) AllReadyH.nil
                                go_simp
                                go_at_call 26
                                refine (rplus_any C _ _ _ (fun s => has F s) (fun _ => True) 6 12 1 0 (C.keep HEX.out (by first | exact HW0 | exact HW0.drew)) (HPf.out.below (by first | exact HW0 | exact HW0.drew)) Hqy5.out (by decide)).mono ?_
                                rintro e qz6 ⟨⟨qy6, rfl, hy⟩, b⟩
                                have Hqy6 : Hid (FP qz6 qy6 (fun s => (fun s => has F s) s ∨ (fun _ => True) s) (6 + 1) (max 12 0)) := hy
                                replace HW0 := below_step (by first | exact HW0 | exact HW0.drew) b
                                clear b hy
                                refine hK.out _ _ ?_ (fun hHeldB => ?_)
                                · (try dsimp only); exact HW0
                                clear hK K hHeld
                                have hHeld := hHeldB
                                clear hHeldB
                                try simp only [Act.put, List.setIfInBounds_toArray, List.set_cons_zero, List.set_cons_succ]
                                as_aux_lemma =>
                                  refine wpAnyH_ready (rs := [25]) (by kernel_rfl) (by simp) ?_
                                  refine AllReadyH.cons (o := { dst := some 183, op := Op.call { callee := Callee.value (Operand.func 29), args := #[], argTypes := #[] }, type := 27, pos := "law.go:99", after := #[{ on := 24, ground := Ground.chain }, { on := 19, ground := Ground.guard }], guard := some (19, true) }) rfl (fun K hK => ?_) AllReadyH.nil
                                  go_simp
                                  go_at_call 29
                                  refine (rone_any C _ (C.keep HEX.out (by first | exact HW0 | exact HW0.drew))).mono ?_
                                  rintro e qz7 ⟨⟨qy7, rfl, hy⟩, b⟩
                                  replace Hqy6 : Hid (FP qz7 qy6 (fun s => (fun s => has F s) s ∨ (fun _ => True) s) (6 + 1) (max 12 0)) := Hqy6.out.below b
                                  have Hqy7 : Hid (FP qz7 qy7 (fun _ => True) 1 0) := hy
                                  replace HW0 := below_step (by first | exact HW0 | exact HW0.drew) b
                                  clear b hy
                                  refine hK.out _ _ ?_ (fun hHeldB => ?_)
                                  · (try dsimp only); exact HW0
                                  clear hK K hHeld
                                  have hHeld := hHeldB
                                  clear hHeldB
                                  try simp only [Act.put, List.setIfInBounds_toArray, List.set_cons_zero, List.set_cons_succ]
                                  refine wpAnyH_ready (rs := [26]) (by kernel_rfl) (by simp) ?_
                                  refine AllReadyH.cons (o := { dst := some 184, op := Op.call { callee := Callee.value (Operand.tmp 178), args := #[Operand.tmp 182, Operand.tmp 183], argTypes := #[27, 27] }, type := 4, pos := "law.go:99", after := #[{ on := 20, ground := Ground.data }, { on := 24, ground := Ground.data }, { on := 25, ground := Ground.data }, { on := 25, ground := Ground.chain }, { on := 19, ground := Ground.guard }], guard := some (19, true) }) rfl (fun K hK => ?_) AllReadyH.nil
                                  go_simp
                                  go_at_call 28
                                  refine (rsame_any C _ _ _ (fun s => (fun s => has F s) s ∨ (fun _ => True) s) (fun _ => True) (6 + 1) (max 12 0) 1 0 (C.keep HEX.out (by first | exact HW0 | exact HW0.drew)) Hqy6.out Hqy7.out (fun s => by by_cases h1 : has F s <;> by_cases h2 : has G s <;> by_cases h3 : has J s <;> simp [h1, h2, h3])).mono ?_
                                  rintro e qz8 ⟨rfl, b⟩
                                  replace HW0 := below_step (by first | exact HW0 | exact HW0.drew) b
                                  clear b
                                  refine hK.out _ _ ?_ (fun hHeldB => ?_)
                                  · (try dsimp only); exact HW0
                                  clear hK K hHeld
                                  have hHeld := hHeldB
                                  clear hHeldB
                                  try simp only [Act.put, List.setIfInBounds_toArray, List.set_cons_zero, List.set_cons_succ]
                                  as_aux_lemma =>
                                    refine wpAnyH_take (i := 27) (oi := { dst := some 185, op := Op.pick (Operand.tmp 177) (Operand.tmp 184) (Operand.const (Value.bool false)), type := 4, pos := "law.go:99", after := #[{ on := 19, ground := Ground.data }, { on := 26, ground := Ground.data }], guard := none }) (v := ?vu331) rfl (by kernel_rfl) (by kernel_rfl) (by kernel_rfl) (fun _ _ _ h => h) (Or.inl ⟨by rfl, ?hyu331⟩) (by assumption) ?restu331
                                    case hyu331 => (intro w hSw; (try dsimp only at hSw); go_simp; (try with_reducible rfl))
                                    try simp only [Act.put, List.setIfInBounds_toArray, List.set_cons_zero, List.set_cons_succ]
                                    refine wpAnyH_take (i := 28) (oi := { dst := some 186, op := Op.move (Operand.tmp 185), type := 4, pos := "law.go:99", after := #[{ on := 27, ground := Ground.data }, { on := 26, ground := Ground.chain }], guard := none }) (v := ?vu332) rfl (by kernel_rfl) (by kernel_rfl) (by kernel_rfl) (fun _ _ _ h => h) (Or.inl ⟨by rfl, ?hyu332⟩) (by assumption) ?restu332
                                    case hyu332 => (intro w hSw; (try dsimp only at hSw); go_simp; (try with_reducible rfl))
                                    try simp only [Act.put, List.setIfInBounds_toArray, List.set_cons_zero, List.set_cons_succ]
                                    refine wpAnyH_take (i := 29) (oi := { dst := some 187, op := Op.move (Operand.tmp 15), type := 45, pos := "law.go:99", after := #[{ on := 28, ground := Ground.guard }], guard := some (28, true) }) (v := ?vu333) rfl (by kernel_rfl) (by kernel_rfl) (by kernel_rfl) (fun _ _ _ h => h) (Or.inl ⟨by rfl, ?hyu333⟩) (by assumption) ?restu333
                                    case hyu333 => (intro w hSw; (try dsimp only at hSw); go_simp; (try with_reducible rfl))
                                    try simp only [Act.put, List.setIfInBounds_toArray, List.set_cons_zero, List.set_cons_succ]
                                    refine wpAnyH_take (i := 30) (oi := { dst := some 188, op := Op.move (Operand.tmp 14), type := 44, pos := "law.go:99", after := #[{ on := 28, ground := Ground.guard }], guard := some (28, true) }) (v := ?vu334) rfl (by kernel_rfl) (by kernel_rfl) (by kernel_rfl) (fun _ _ _ h => h) (Or.inl ⟨by rfl, ?hyu334⟩) (by assumption) ?restu334
                                    case hyu334 => (intro w hSw; (try dsimp only at hSw); go_simp; (try with_reducible rfl))
                                    try simp only [Act.put, List.setIfInBounds_toArray, List.set_cons_zero, List.set_cons_succ]
                                    refine wpAnyH_take (i := 31) (oi := { dst := some 189, op := Op.load 27 (Operand.tmp 7), type := 27, pos := "law.go:99", after := #[{ on := 28, ground := Ground.guard }], guard := some (28, true) }) (v := ?vu335) rfl (by kernel_rfl) (by kernel_rfl) (by kernel_rfl) (fun _ _ _ h => h) (Or.inl ⟨by rfl, ?hyu335⟩) (by assumption) ?restu335
                                    case hyu335 => (intro w hSw; (try dsimp only at hSw); have q1 := (box1_facts ((hSw.block _ (Array.getElem?_eq_some_iff.1 Hb7.out).1).trans Hb7.out)).1; go_simp; (try with_reducible rfl))
                                    try simp only [Act.put, List.setIfInBounds_toArray, List.set_cons_zero, List.set_cons_succ]
                                    refine wpAnyH_take (i := 34) (oi := { dst := some 192, op := Op.load 27 (Operand.tmp 7), type := 27, pos := "law.go:99", after := #[{ on := 28, ground := Ground.guard }], guard := some (28, true) }) (v := ?vu336) rfl (by kernel_rfl) (by kernel_rfl) (by kernel_rfl) (fun _ _ _ h => h) (Or.inl ⟨by rfl, ?hyu336⟩) (by assumption) ?restu336
                                    case hyu336 => (intro w hSw; (try dsimp only at hSw); have q1 := (box1_facts ((hSw.block _ (Array.getElem?_eq_some_iff.1 Hb7.out).1).trans Hb7.out)).1; go_simp; (try with_reducible rfl))
                                    try simp only [Act.put, List.setIfInBounds_toArray, List.set_cons_zero, List.set_cons_succ]
                                    refine wpAnyH_ready (rs := [32]) (by kernel_rfl) (by simp) ?_
                                    refine AllReadyH.cons (o := { dst := some 190, op := Op.call { callee := Callee.value (Operand.func 29), args := #[], argTypes := #[] }, type := 27, pos := "law.go:99", after := #[{ on := 28, ground := Ground.chain }, { on := 28, ground := Ground.guard }], guard := some (28, true) }) rfl (fun K hK => ?_) AllReadyH.nil
                                    go_simp
                                    go_at_call 29
                                    refine (rone_any C _ (C.keep HEX.out (by first | exact HW0 | exact HW0.drew))).mono ?_
                                    rintro e qz9 ⟨⟨qy9, rfl, hy⟩, b⟩
                                    have Hqy9 : Hid (FP qz9 qy9 (fun _ => True) 1 0) := hy
                                    replace HW0 := below_step (by first | exact HW0 | exact HW0.drew) b
                                    clear b hy
                                    refine hK.out _ _ ?_ (fun hHeldB => ?_)
                                    · (try dsimp only); exact HW0
                                    clear hK K hHeld
                                    have hHeld := hHeldB
                                    clear hHeldB
                                    try simp only [Act.put, List.setIfInBounds_toArray, List.set_cons_zero, List.set_cons_succ]
                                    refine wpAnyH_ready (rs := [33]) (by kernel_rfl) (by simp) ?_
                                    refine AllReadyH.cons (o := { dst := some 191, op := Op.call { callee := Callee.value (Operand.tmp 188), args := #[Operand.tmp 189, Operand.tmp 190], argTypes := #[27, 27] }, type := 27, pos := "law.go:99", after := #[{ on := 30, ground := Ground.data }, { on := 31, ground := Ground.data }, { on := 32, ground := Ground.data }, { on := 32, ground := Ground.chain }, { on := 28, ground := Ground.guard }], guard := some (28, true) }) rfl (fun K hK => ?_) AllReadyH.nil
                                    go_simp
                                    go_at_call 27
                                    refine (rtimes_any C _ _ _ (fun s => has F s) (fun _ => True) 6 12 1 0 (C.keep HEX.out (by first | exact HW0 | exact HW0.drew)) (HPf.out.below (by first | exact HW0 | exact HW0.drew)) Hqy9.out (by decide) (by decide) (by decide)).mono ?_
                                    rintro e qz10 ⟨⟨qy10, rfl, hy⟩, b⟩
                                    have Hqy10 : Hid (FP qz10 qy10 (fun s => (fun s => has F s) s ∧ (fun _ => True) s) (6 * 1) (12 + 0)) := hy
                                    replace HW0 := below_step (by first | exact HW0 | exact HW0.drew) b
                                    clear b hy
                                    refine hK.out _ _ ?_ (fun hHeldB => ?_)
                                    · (try dsimp only); exact HW0
                                    clear hK K hHeld
                                    have hHeld := hHeldB
                                    clear hHeldB
                                    try simp only [Act.put, List.setIfInBounds_toArray, List.set_cons_zero, List.set_cons_succ]
                                    as_aux_lemma =>
                                      refine wpAnyH_ready (rs := [35]) (by kernel_rfl) (by simp) ?_
                                      refine AllReadyH.cons (o := { dst := some 193, op := Op.call { callee := Callee.value (Operand.tmp 187), args := #[Operand.tmp 191, Operand.tmp 192], argTypes := #[27, 27] }, type := 4, pos := "law.go:99", after := #[{ on := 29, ground := Ground.data }, { on := 33, ground := Ground.data }, { on := 34, ground := Ground.data }, { on := 33, ground := Ground.chain }, { on := 28, ground := Ground.guard }], guard := some (28, true) }) rfl (fun K hK => ?_) AllReadyH.nil
                                      go_simp
                                      go_at_call 28
                                      refine (rsame_any C _ _ _ (fun s => (fun s => has F s) s ∧ (fun _ => True) s) (fun s => has F s) (6 * 1) (12 + 0) 6 12 (C.keep HEX.out (by first | exact HW0 | exact HW0.drew)) Hqy10.out (HPf.out.below (by first | exact HW0 | exact HW0.drew)) (fun s => by by_cases h1 : has F s <;> by_cases h2 : has G s <;> by_cases h3 : has J s <;> simp [h1, h2, h3])).mono ?_
                                      rintro e qz11 ⟨rfl, b⟩
                                      replace HW0 := below_step (by first | exact HW0 | exact HW0.drew) b
                                      clear b
                                      refine hK.out _ _ ?_ (fun hHeldB => ?_)
                                      · (try dsimp only); exact HW0
                                      clear hK K hHeld
                                      have hHeld := hHeldB
                                      clear hHeldB
                                      try simp only [Act.put, List.setIfInBounds_toArray, List.set_cons_zero, List.set_cons_succ]
                                      refine wpAnyH_take (i := 36) (oi := { dst := some 194, op := Op.pick (Operand.tmp 186) (Operand.tmp 193) (Operand.const (Value.bool false)), type := 4, pos := "law.go:99", after := #[{ on := 28, ground := Ground.data }, { on := 35, ground := Ground.data }], guard := none }) (v := ?vu337) rfl (by kernel_rfl) (by kernel_rfl) (by kernel_rfl) (fun _ _ _ h => h) (Or.inl ⟨by rfl, ?hyu337⟩) (by assumption) ?restu337
                                      case hyu337 => (intro w hSw; (try dsimp only at hSw); go_simp; (try with_reducible rfl))
                                      try simp only [Act.put, List.setIfInBounds_toArray, List.set_cons_zero, List.set_cons_succ]
                                      refine wpAnyH_take (i := 37) (oi := { dst := some 195, op := Op.move (Operand.tmp 194), type := 4, pos := "law.go:99", after := #[{ on := 36, ground := Ground.data }, { on := 35, ground := Ground.chain }], guard := none }) (v := ?vu338) rfl (by kernel_rfl) (by kernel_rfl) (by kernel_rfl) (fun _ _ _ h => h) (Or.inl ⟨by rfl, ?hyu338⟩) (by assumption) ?restu338
                                      case hyu338 => (intro w hSw; (try dsimp only at hSw); go_simp; (try with_reducible rfl))
                                      try simp only [Act.put, List.setIfInBounds_toArray, List.set_cons_zero, List.set_cons_succ]
                                      refine wpAnyH_take (i := 38) (oi := { dst := some 196, op := Op.move (Operand.tmp 15), type := 45, pos := "law.go:99", after := #[{ on := 37, ground := Ground.guard }], guard := some (37, true) }) (v := ?vu339) rfl (by kernel_rfl) (by kernel_rfl) (by kernel_rfl) (fun _ _ _ h => h) (Or.inl ⟨by rfl, ?hyu339⟩) (by assumption) ?restu339
                                      case hyu339 => (intro w hSw; (try dsimp only at hSw); go_simp; (try with_reducible rfl))
                                      try simp only [Act.put, List.setIfInBounds_toArray, List.set_cons_zero, List.set_cons_succ]
                                      refine wpAnyH_take (i := 39) (oi := { dst := some 197, op := Op.move (Operand.tmp 13), type := 44, pos := "law.go:99", after := #[{ on := 37, ground := Ground.guard }], guard := some (37, true) }) (v := ?vu340) rfl (by kernel_rfl) (by kernel_rfl) (by kernel_rfl) (fun _ _ _ h => h) (Or.inl ⟨by rfl, ?hyu340⟩) (by assumption) ?restu340
                                      case hyu340 => (intro w hSw; (try dsimp only at hSw); go_simp; (try with_reducible rfl))
                                      try simp only [Act.put, List.setIfInBounds_toArray, List.set_cons_zero, List.set_cons_succ]
                                      refine wpAnyH_take (i := 40) (oi := { dst := some 198, op := Op.load 27 (Operand.tmp 7), type := 27, pos := "law.go:99", after := #[{ on := 37, ground := Ground.guard }], guard := some (37, true) }) (v := ?vu341) rfl (by kernel_rfl) (by kernel_rfl) (by kernel_rfl) (fun _ _ _ h => h) (Or.inl ⟨by rfl, ?hyu341⟩) (by assumption) ?restu341
                                      case hyu341 => (intro w hSw; (try dsimp only at hSw); have q1 := (box1_facts ((hSw.block _ (Array.getElem?_eq_some_iff.1 Hb7.out).1).trans Hb7.out)).1; go_simp; (try with_reducible rfl))
                                      try simp only [Act.put, List.setIfInBounds_toArray, List.set_cons_zero, List.set_cons_succ]
                                      refine wpAnyH_take (i := 43) (oi := { dst := some 201, op := Op.load 27 (Operand.tmp 7), type := 27, pos := "law.go:99", after := #[{ on := 37, ground := Ground.guard }], guard := some (37, true) }) (v := ?vu342) rfl (by kernel_rfl) (by kernel_rfl) (by kernel_rfl) (fun _ _ _ h => h) (Or.inl ⟨by rfl, ?hyu342⟩) (by assumption) ?restu342
                                      case hyu342 => (intro w hSw; (try dsimp only at hSw); have q1 := (box1_facts ((hSw.block _ (Array.getElem?_eq_some_iff.1 Hb7.out).1).trans Hb7.out)).1; go_simp; (try with_reducible rfl))
                                      try simp only [Act.put, List.setIfInBounds_toArray, List.set_cons_zero, List.set_cons_succ]
                                      refine wpAnyH_ready (rs := [41]) (by kernel_rfl) (by simp) ?_
                                      refine AllReadyH.cons (o := { dst := some 199, op := Op.call { callee := Callee.value (Operand.func 30), args := #[], argTypes := #[] }, type := 27, pos := "law.go:99", after := #[{ on := 37, ground := Ground.chain }, { on := 37, ground := Ground.guard }], guard := some (37, true) }) rfl (fun K hK => ?_) AllReadyH.nil
                                      go_simp
                                      go_at_call 30
                                      refine (rzero_any C _ (C.keep HEX.out (by first | exact HW0 | exact HW0.drew))).mono ?_
                                      rintro e qz12 ⟨⟨qy12, rfl, hy⟩, b⟩
                                      have Hqy12 : Hid (FP qz12 qy12 (fun _ => False) 0 0) := hy
                                      replace HW0 := below_step (by first | exact HW0 | exact HW0.drew) b
                                      clear b hy
                                      refine hK.out _ _ ?_ (fun hHeldB => ?_)
                                      · (try dsimp only); exact HW0
                                      clear hK K hHeld
                                      have hHeld := hHeldB
                                      clear hHeldB
                                      try simp only [Act.put, List.setIfInBounds_toArray, List.set_cons_zero, List.set_cons_succ]
                                      as_aux_lemma =>
                                        refine wpAnyH_ready (rs := [42]) (by kernel_rfl) (by simp) ?_
                                        refine AllReadyH.cons (o := { dst := some 200, op := Op.call { callee := Callee.value (Operand.tmp 197), args := #[Operand.tmp 198, Operand.tmp 199], argTypes := #[27, 27] }, type := 27, pos := "law.go:99", after := #[{ on := 39, ground := Ground.data }, { on := 40, ground := Ground.data }, { on := 41, ground := Ground.data }, { on := 41, ground := Ground.chain }, { on := 37, ground := Ground.guard }], guard := some (37, true) }) rfl (fun K hK => ?_) AllReadyH.nil
                                        go_simp
                                        go_at_call 26
                                        refine (rplus_any C _ _ _ (fun s => has F s) (fun _ => False) 6 12 0 0 (C.keep HEX.out (by first | exact HW0 | exact HW0.drew)) (HPf.out.below (by first | exact HW0 | exact HW0.drew)) Hqy12.out (by decide)).mono ?_
                                        rintro e qz13 ⟨⟨qy13, rfl, hy⟩, b⟩
                                        have Hqy13 : Hid (FP qz13 qy13 (fun s => (fun s => has F s) s ∨ (fun _ => False) s) (6 + 0) (max 12 0)) := hy
                                        replace HW0 := below_step (by first | exact HW0 | exact HW0.drew) b
                                        clear b hy
                                        refine hK.out _ _ ?_ (fun hHeldB => ?_)
                                        · (try dsimp only); exact HW0
                                        clear hK K hHeld
                                        have hHeld := hHeldB
                                        clear hHeldB
                                        try simp only [Act.put, List.setIfInBounds_toArray, List.set_cons_zero, List.set_cons_succ]
                                        refine wpAnyH_ready (rs := [44]) (by kernel_rfl) (by simp) ?_
                                        refine AllReadyH.cons (o := { dst := some 202, op := Op.call { callee := Callee.value (Operand.tmp 196), args := #[Operand.tmp 200, Operand.tmp 201], argTypes := #[27, 27] }, type := 4, pos := "law.go:99", after := #[{ on := 38, ground := Ground.data }, { on := 42, ground := Ground.data }, { on := 43, ground := Ground.data }, { on := 42, ground := Ground.chain }, { on := 37, ground := Ground.guard }], guard := some (37, true) }) rfl (fun K hK => ?_) AllReadyH.nil
                                        go_simp
                                        go_at_call 28
                                        refine (rsame_any C _ _ _ (fun s => (fun s => has F s) s ∨ (fun _ => False) s) (fun s => has F s) (6 + 0) (max 12 0) 6 12 (C.keep HEX.out (by first | exact HW0 | exact HW0.drew)) Hqy13.out (HPf.out.below (by first | exact HW0 | exact HW0.drew)) (fun s => by by_cases h1 : has F s <;> by_cases h2 : has G s <;> by_cases h3 : has J s <;> simp [h1, h2, h3])).mono ?_
                                        rintro e qz14 ⟨rfl, b⟩
                                        replace HW0 := below_step (by first | exact HW0 | exact HW0.drew) b
                                        clear b
                                        refine hK.out _ _ ?_ (fun hHeldB => ?_)
                                        · (try dsimp only); exact HW0
                                        clear hK K hHeld
                                        have hHeld := hHeldB
                                        clear hHeldB
                                        try simp only [Act.put, List.setIfInBounds_toArray, List.set_cons_zero, List.set_cons_succ]
                                        as_aux_lemma =>
                                          refine wpAnyH_take (i := 45) (oi := { dst := some 203, op := Op.pick (Operand.tmp 195) (Operand.tmp 202) (Operand.const (Value.bool false)), type := 4, pos := "law.go:99", after := #[{ on := 37, ground := Ground.data }, { on := 44, ground := Ground.data }], guard := none }) (v := ?vu343) rfl (by kernel_rfl) (by kernel_rfl) (by kernel_rfl) (fun _ _ _ h => h) (Or.inl ⟨by rfl, ?hyu343⟩) (by assumption) ?restu343
                                          case hyu343 => (intro w hSw; (try dsimp only at hSw); go_simp; (try with_reducible rfl))
                                          try simp only [Act.put, List.setIfInBounds_toArray, List.set_cons_zero, List.set_cons_succ]
                                          refine wpAnyH_take (i := 46) (oi := { dst := some 204, op := Op.move (Operand.tmp 203), type := 4, pos := "law.go:99", after := #[{ on := 45, ground := Ground.data }, { on := 44, ground := Ground.chain }], guard := none }) (v := ?vu344) rfl (by kernel_rfl) (by kernel_rfl) (by kernel_rfl) (fun _ _ _ h => h) (Or.inl ⟨by rfl, ?hyu344⟩) (by assumption) ?restu344
                                          case hyu344 => (intro w hSw; (try dsimp only at hSw); go_simp; (try with_reducible rfl))
                                          try simp only [Act.put, List.setIfInBounds_toArray, List.set_cons_zero, List.set_cons_succ]
                                          refine wpAnyH_take (i := 47) (oi := { dst := some 205, op := Op.move (Operand.tmp 14), type := 44, pos := "law.go:99", after := #[{ on := 46, ground := Ground.guard }], guard := some (46, true) }) (v := ?vu345) rfl (by kernel_rfl) (by kernel_rfl) (by kernel_rfl) (fun _ _ _ h => h) (Or.inl ⟨by rfl, ?hyu345⟩) (by assumption) ?restu345
                                          case hyu345 => (intro w hSw; (try dsimp only at hSw); go_simp; (try with_reducible rfl))
                                          try simp only [Act.put, List.setIfInBounds_toArray, List.set_cons_zero, List.set_cons_succ]
                                          refine wpAnyH_take (i := 48) (oi := { dst := some 206, op := Op.load 27 (Operand.tmp 7), type := 27, pos := "law.go:99", after := #[{ on := 46, ground := Ground.guard }], guard := some (46, true) }) (v := ?vu346) rfl (by kernel_rfl) (by kernel_rfl) (by kernel_rfl) (fun _ _ _ h => h) (Or.inl ⟨by rfl, ?hyu346⟩) (by assumption) ?restu346
                                          case hyu346 => (intro w hSw; (try dsimp only at hSw); have q1 := (box1_facts ((hSw.block _ (Array.getElem?_eq_some_iff.1 Hb7.out).1).trans Hb7.out)).1; go_simp; (try with_reducible rfl))
                                          try simp only [Act.put, List.setIfInBounds_toArray, List.set_cons_zero, List.set_cons_succ]
                                          refine wpAnyH_ready (rs := [49]) (by kernel_rfl) (by simp) ?_
                                          refine AllReadyH.cons (o := { dst := some 207, op := Op.call { callee := Callee.value (Operand.func 30), args := #[], argTypes := #[] }, type := 27, pos := "law.go:99", after := #[{ on := 46, ground := Ground.chain }, { on := 46, ground := Ground.guard }], guard := some (46, true) }) rfl (fun K hK => ?_) AllReadyH.nil
                                          go_simp
                                          go_at_call 30
                                          refine (rzero_any C _ (C.keep HEX.out (by first | exact HW0 | exact HW0.drew))).mono ?_
                                          rintro e qz15 ⟨⟨qy15, rfl, hy⟩, b⟩
                                          have Hqy15 : Hid (FP qz15 qy15 (fun _ => False) 0 0) := hy
                                          replace HW0 := below_step (by first | exact HW0 | exact HW0.drew) b
                                          clear b hy
                                          refine hK.out _ _ ?_ (fun hHeldB => ?_)
                                          · (try dsimp only); exact HW0
                                          clear hK K hHeld
                                          have hHeld := hHeldB
                                          clear hHeldB
                                          try simp only [Act.put, List.setIfInBounds_toArray, List.set_cons_zero, List.set_cons_succ]
                                          refine wpAnyH_ready (rs := [50]) (by kernel_rfl) (by simp) ?_
                                          refine AllReadyH.cons (o := { dst := some 208, op := Op.call { callee := Callee.value (Operand.tmp 205), args := #[Operand.tmp 206, Operand.tmp 207], argTypes := #[27, 27] }, type := 27, pos := "law.go:99", after := #[{ on := 47, ground := Ground.data }, { on := 48, ground := Ground.data }, { on := 49, ground := Ground.data }, { on := 49, ground := Ground.chain }, { on := 46, ground := Ground.guard }], guard := some (46, true) }) rfl (fun K hK => ?_) AllReadyH.nil
                                          go_simp
                                          go_at_call 27
                                          refine (rtimes_any C _ _ _ (fun s => has F s) (fun _ => False) 6 12 0 0 (C.keep HEX.out (by first | exact HW0 | exact HW0.drew)) (HPf.out.below (by first | exact HW0 | exact HW0.drew)) Hqy15.out (by decide) (by decide) (by decide)).mono ?_
                                          rintro e qz16 ⟨⟨qy16, rfl, hy⟩, b⟩
                                          have Hqy16 : Hid (FP qz16 qy16 (fun s => (fun s => has F s) s ∧ (fun _ => False) s) (6 * 0) (12 + 0)) := hy
                                          replace HW0 := below_step (by first | exact HW0 | exact HW0.drew) b
                                          clear b hy
                                          refine hK.out _ _ ?_ (fun hHeldB => ?_)
                                          · (try dsimp only); exact HW0
                                          clear hK K hHeld
                                          have hHeld := hHeldB
                                          clear hHeldB
                                          try simp only [Act.put, List.setIfInBounds_toArray, List.set_cons_zero, List.set_cons_succ]
                                          as_aux_lemma =>
                                            refine wpAnyH_ready (rs := [51]) (by kernel_rfl) (by simp) ?_
                                            refine AllReadyH.cons (o := { dst := some 209, op := Op.call { callee := Callee.value (Operand.func 16), args := #[Operand.tmp 208], argTypes := #[27] }, type := 3, pos := "law.go:99", after := #[{ on := 50, ground := Ground.data }, { on := 50, ground := Ground.chain }, { on := 46, ground := Ground.guard }], guard := some (46, true) }) rfl (fun K hK => ?_) AllReadyH.nil
                                            go_simp
                                            go_at_call 16
                                            refine (rlen0_any C _ _ (fun s => (fun s => has F s) s ∧ (fun _ => False) s) (6 * 0) (12 + 0) (C.keep HEX.out (by first | exact HW0 | exact HW0.drew)) Hqy16.out (fun s => by simp)).mono ?_
                                            rintro e qz17 ⟨rfl, b⟩
                                            replace HW0 := below_step (by first | exact HW0 | exact HW0.drew) b
                                            clear b
                                            refine hK.out _ _ ?_ (fun hHeldB => ?_)
                                            · (try dsimp only); exact HW0
                                            clear hK K hHeld
                                            have hHeld := hHeldB
                                            clear hHeldB
                                            try simp only [Act.put, List.setIfInBounds_toArray, List.set_cons_zero, List.set_cons_succ]
                                            refine wpAnyH_take (i := 52) (oi := { dst := some 210, op := Op.binOp BinOp.eql 3 (Operand.tmp 209) (Operand.const (Value.int IntKind.i64 0)) 3, type := 4, pos := "law.go:99", after := #[{ on := 51, ground := Ground.data }, { on := 46, ground := Ground.guard }], guard := some (46, true) }) (v := ?vu347) rfl (by kernel_rfl) (by kernel_rfl) (by kernel_rfl) (fun _ _ _ h => h) (Or.inl ⟨by rfl, ?hyu347⟩) (by assumption) ?restu347
                                            case hyu347 => (intro w hSw; (try dsimp only at hSw); go_simp; (try with_reducible rfl))
                                            try simp only [Act.put, List.setIfInBounds_toArray, List.set_cons_zero, List.set_cons_succ]
                                            refine wpAnyH_take (i := 53) (oi := { dst := some 211, op := Op.pick (Operand.tmp 204) (Operand.tmp 210) (Operand.const (Value.bool false)), type := 4, pos := "law.go:99", after := #[{ on := 46, ground := Ground.data }, { on := 52, ground := Ground.data }], guard := none }) (v := ?vu348) rfl (by kernel_rfl) (by kernel_rfl) (by kernel_rfl) (fun _ _ _ h => h) (Or.inl ⟨by rfl, ?hyu348⟩) (by assumption) ?restu348
                                            case hyu348 => (intro w hSw; (try dsimp only at hSw); go_simp; (try with_reducible rfl))
                                            try simp only [Act.put, List.setIfInBounds_toArray, List.set_cons_zero, List.set_cons_succ]
                                            refine wpAnyH_take (i := 54) (oi := { dst := some 212, op := Op.move (Operand.tmp 211), type := 4, pos := "law.go:99", after := #[{ on := 53, ground := Ground.data }, { on := 51, ground := Ground.chain }], guard := none }) (v := ?vu349) rfl (by kernel_rfl) (by kernel_rfl) (by kernel_rfl) (fun _ _ _ h => h) (Or.inl ⟨by rfl, ?hyu349⟩) (by assumption) ?restu349
                                            case hyu349 => (intro w hSw; (try dsimp only at hSw); go_simp; (try with_reducible rfl))
                                            try simp only [Act.put, List.setIfInBounds_toArray, List.set_cons_zero, List.set_cons_succ]
                                            refine wpAnyH_take (i := 55) (oi := { dst := some 213, op := Op.move (Operand.tmp 15), type := 45, pos := "law.go:99", after := #[{ on := 54, ground := Ground.guard }], guard := some (54, true) }) (v := ?vu350) rfl (by kernel_rfl) (by kernel_rfl) (by kernel_rfl) (fun _ _ _ h => h) (Or.inl ⟨by rfl, ?hyu350⟩) (by assumption) ?restu350
                                            case hyu350 => (intro w hSw; (try dsimp only at hSw); go_simp; (try with_reducible rfl))
                                            try simp only [Act.put, List.setIfInBounds_toArray, List.set_cons_zero, List.set_cons_succ]
                                            refine wpAnyH_take (i := 56) (oi := { dst := some 214, op := Op.move (Operand.tmp 13), type := 44, pos := "law.go:99", after := #[{ on := 54, ground := Ground.guard }], guard := some (54, true) }) (v := ?vu351) rfl (by kernel_rfl) (by kernel_rfl) (by kernel_rfl) (fun _ _ _ h => h) (Or.inl ⟨by rfl, ?hyu351⟩) (by assumption) ?restu351
                                            case hyu351 => (intro w hSw; (try dsimp only at hSw); go_simp; (try with_reducible rfl))
                                            try simp only [Act.put, List.setIfInBounds_toArray, List.set_cons_zero, List.set_cons_succ]
                                            refine wpAnyH_take (i := 57) (oi := { dst := some 215, op := Op.load 27 (Operand.tmp 7), type := 27, pos := "law.go:99", after := #[{ on := 54, ground := Ground.guard }], guard := some (54, true) }) (v := ?vu352) rfl (by kernel_rfl) (by kernel_rfl) (by kernel_rfl) (fun _ _ _ h => h) (Or.inl ⟨by rfl, ?hyu352⟩) (by assumption) ?restu352
                                            case hyu352 => (intro w hSw; (try dsimp only at hSw); have q1 := (box1_facts ((hSw.block _ (Array.getElem?_eq_some_iff.1 Hb7.out).1).trans Hb7.out)).1; go_simp; (try with_reducible rfl))
                                            try simp only [Act.put, List.setIfInBounds_toArray, List.set_cons_zero, List.set_cons_succ]
                                            refine wpAnyH_take (i := 58) (oi := { dst := some 216, op := Op.move (Operand.tmp 14), type := 44, pos := "law.go:99", after := #[{ on := 54, ground := Ground.guard }], guard := some (54, true) }) (v := ?vu353) rfl (by kernel_rfl) (by kernel_rfl) (by kernel_rfl) (fun _ _ _ h => h) (Or.inl ⟨by rfl, ?hyu353⟩) (by assumption) ?restu353
                                            case hyu353 => (intro w hSw; (try dsimp only at hSw); go_simp; (try with_reducible rfl))
                                            try simp only [Act.put, List.setIfInBounds_toArray, List.set_cons_zero, List.set_cons_succ]
                                            refine wpAnyH_take (i := 59) (oi := { dst := some 217, op := Op.load 27 (Operand.tmp 7), type := 27, pos := "law.go:99", after := #[{ on := 54, ground := Ground.guard }], guard := some (54, true) }) (v := ?vu354) rfl (by kernel_rfl) (by kernel_rfl) (by kernel_rfl) (fun _ _ _ h => h) (Or.inl ⟨by rfl, ?hyu354⟩) (by assumption) ?restu354
                                            case hyu354 => (intro w hSw; (try dsimp only at hSw); have q1 := (box1_facts ((hSw.block _ (Array.getElem?_eq_some_iff.1 Hb7.out).1).trans Hb7.out)).1; go_simp; (try with_reducible rfl))
                                            try simp only [Act.put, List.setIfInBounds_toArray, List.set_cons_zero, List.set_cons_succ]
                                            refine wpAnyH_take (i := 60) (oi := { dst := some 218, op := Op.load 27 (Operand.tmp 9), type := 27, pos := "law.go:99", after := #[{ on := 54, ground := Ground.guard }], guard := some (54, true) }) (v := ?vu355) rfl (by kernel_rfl) (by kernel_rfl) (by kernel_rfl) (fun _ _ _ h => h) (Or.inl ⟨by rfl, ?hyu355⟩) (by assumption) ?restu355
                                            case hyu355 => (intro w hSw; (try dsimp only at hSw); have q1 := (box1_facts ((hSw.block _ (Array.getElem?_eq_some_iff.1 Hb9.out).1).trans Hb9.out)).1; go_simp; (try with_reducible rfl))
                                            try simp only [Act.put, List.setIfInBounds_toArray, List.set_cons_zero, List.set_cons_succ]
                                            refine wpAnyH_take (i := 63) (oi := { dst := some 221, op := Op.load 27 (Operand.tmp 7), type := 27, pos := "law.go:99", after := #[{ on := 54, ground := Ground.guard }], guard := some (54, true) }) (v := ?vu356) rfl (by kernel_rfl) (by kernel_rfl) (by kernel_rfl) (fun _ _ _ h => h) (Or.inl ⟨by rfl, ?hyu356⟩) (by assumption) ?restu356
                                            case hyu356 => (intro w hSw; (try dsimp only at hSw); have q1 := (box1_facts ((hSw.block _ (Array.getElem?_eq_some_iff.1 Hb7.out).1).trans Hb7.out)).1; go_simp; (try with_reducible rfl))
                                            try simp only [Act.put, List.setIfInBounds_toArray, List.set_cons_zero, List.set_cons_succ]
                                            refine wpAnyH_ready (rs := [61]) (by kernel_rfl) (by simp) ?_
                                            refine AllReadyH.cons (o := { dst := some 219, op := Op.call { callee := Callee.value (Operand.tmp 216), args := #[Operand.tmp 217, Operand.tmp 218], argTypes := #[27, 27] }, type := 27, pos := "law.go:99", after := #[{ on := 58, ground := Ground.data }, { on := 59, ground := Ground.data }, { on := 60, ground := Ground.data }, { on := 54, ground := Ground.chain }, { on := 54, ground := Ground.guard }], guard := some (54, true) }) rfl (fun K hK => ?_) AllReadyH.nil
                                            go_simp
                                            go_at_call 27
                                            refine (rtimes_any C _ _ _ (fun s => has F s) (fun s => has G s) 6 12 6 12 (C.keep HEX.out (by first | exact HW0 | exact HW0.drew)) (HPf.out.below (by first | exact HW0 | exact HW0.drew)) (HPg.out.below (by first | exact HW0 | exact HW0.drew)) (by decide) (by decide) (by decide)).mono ?_
                                            rintro e qz18 ⟨⟨qy18, rfl, hy⟩, b⟩
                                            have Hqy18 : Hid (FP qz18 qy18 (fun s => (fun s => has F s) s ∧ (fun s => has G s) s) (6 * 6) (12 + 12)) := hy
                                            replace HW0 := below_step (by first | exact HW0 | exact HW0.drew) b
                                            clear b hy
                                            refine hK.out _ _ ?_ (fun hHeldB => ?_)
                                            · (try dsimp only); exact HW0
                                            clear hK K hHeld
                                            have hHeld := hHeldB
                                            clear hHeldB
                                            try simp only [Act.put, List.setIfInBounds_toArray, List.set_cons_zero, List.set_cons_succ]
                                            as_aux_lemma =>
                                              refine wpAnyH_ready (rs := [62]) (by kernel_rfl) (by simp) ?_
                                              refine AllReadyH.cons (o := { dst := some 220, op := Op.call { callee := Callee.value (Operand.tmp 214), args := #[Operand.tmp 215, Operand.tmp 219], argTypes := #[27, 27] }, type := 27, pos := "law.go:99", after := #[{ on := 56, ground := Ground.data }, { on := 57, ground := Ground.data }, { on := 61, ground := Ground.data }, { on := 61, ground := Ground.chain }, { on := 54, ground := Ground.guard }], guard := some (54, true) }) rfl (fun K hK => ?_) AllReadyH.nil
                                              go_simp
                                              go_at_call 26
                                              refine (rplus_any C _ _ _ (fun s => has F s) (fun s => (fun s => has F s) s ∧ (fun s => has G s) s) 6 12 (6 * 6) (12 + 12) (C.keep HEX.out (by first | exact HW0 | exact HW0.drew)) (HPf.out.below (by first | exact HW0 | exact HW0.drew)) Hqy18.out (by decide)).mono ?_
                                              rintro e qz19 ⟨⟨qy19, rfl, hy⟩, b⟩
                                              have Hqy19 : Hid (FP qz19 qy19 (fun s => (fun s => has F s) s ∨ (fun s => (fun s => has F s) s ∧ (fun s => has G s) s) s) (6 + (6 * 6)) (max 12 (12 + 12))) := hy
                                              replace HW0 := below_step (by first | exact HW0 | exact HW0.drew) b
                                              clear b hy
                                              refine hK.out _ _ ?_ (fun hHeldB => ?_)
                                              · (try dsimp only); exact HW0
                                              clear hK K hHeld
                                              have hHeld := hHeldB
                                              clear hHeldB
                                              try simp only [Act.put, List.setIfInBounds_toArray, List.set_cons_zero, List.set_cons_succ]
                                              refine wpAnyH_ready (rs := [64]) (by kernel_rfl) (by simp) ?_
                                              refine AllReadyH.cons (o := { dst := some 222, op := Op.call { callee := Callee.value (Operand.tmp 213), args := #[Operand.tmp 220, Operand.tmp 221], argTypes := #[27, 27] }, type := 4, pos := "law.go:99", after := #[{ on := 55, ground := Ground.data }, { on := 62, ground := Ground.data }, { on := 63, ground := Ground.data }, { on := 62, ground := Ground.chain }, { on := 54, ground := Ground.guard }], guard := some (54, true) }) rfl (fun K hK => ?_) AllReadyH.nil
                                              go_simp
                                              go_at_call 28
                                              refine (rsame_any C _ _ _ (fun s => (fun s => has F s) s ∨ (fun s => (fun s => has F s) s ∧ (fun s => has G s) s) s) (fun s => has F s) (6 + (6 * 6)) (max 12 (12 + 12)) 6 12 (C.keep HEX.out (by first | exact HW0 | exact HW0.drew)) Hqy19.out (HPf.out.below (by first | exact HW0 | exact HW0.drew)) (fun s => by by_cases h1 : has F s <;> by_cases h2 : has G s <;> by_cases h3 : has J s <;> simp [h1, h2, h3])).mono ?_
                                              rintro e qz20 ⟨rfl, b⟩
                                              replace HW0 := below_step (by first | exact HW0 | exact HW0.drew) b
                                              clear b
                                              refine hK.out _ _ ?_ (fun hHeldB => ?_)
                                              · (try dsimp only); exact HW0
                                              clear hK K hHeld
                                              have hHeld := hHeldB
                                              clear hHeldB
                                              try simp only [Act.put, List.setIfInBounds_toArray, List.set_cons_zero, List.set_cons_succ]
                                              as_aux_lemma =>
                                                refine wpAnyH_take (i := 65) (oi := { dst := some 223, op := Op.pick (Operand.tmp 212) (Operand.tmp 222) (Operand.const (Value.bool false)), type := 4, pos := "law.go:99", after := #[{ on := 54, ground := Ground.data }, { on := 64, ground := Ground.data }], guard := none }) (v := ?vu357) rfl (by kernel_rfl) (by kernel_rfl) (by kernel_rfl) (fun _ _ _ h => h) (Or.inl ⟨by rfl, ?hyu357⟩) (by assumption) ?restu357
                                                case hyu357 => (intro w hSw; (try dsimp only at hSw); go_simp; (try with_reducible rfl))
                                                try simp only [Act.put, List.setIfInBounds_toArray, List.set_cons_zero, List.set_cons_succ]
                                                refine wpAnyH_take (i := 66) (oi := { dst := some 224, op := Op.move (Operand.tmp 223), type := 4, pos := "law.go:99", after := #[{ on := 65, ground := Ground.data }, { on := 64, ground := Ground.chain }], guard := none }) (v := ?vu358) rfl (by kernel_rfl) (by kernel_rfl) (by kernel_rfl) (fun _ _ _ h => h) (Or.inl ⟨by rfl, ?hyu358⟩) (by assumption) ?restu358
                                                case hyu358 => (intro w hSw; (try dsimp only at hSw); go_simp; (try with_reducible rfl))
                                                try simp only [Act.put, List.setIfInBounds_toArray, List.set_cons_zero, List.set_cons_succ]
                                                refine wpAnyH_ready (rs := [67]) (by kernel_rfl) (by simp) ?_
                                                refine AllReadyH.cons (o := { dst := some 225, op := Op.call { callee := Callee.value (Operand.func 10), args := #[], argTypes := #[] }, type := 4, pos := "law.go:99", after := #[{ on := 66, ground := Ground.chain }, { on := 66, ground := Ground.guard }], guard := some (66, true) }) rfl (fun K hK => ?_) AllReadyH.nil
                                                go_simp
                                                go_at_call 10
                                                refine (awake_of C _ (C.keep HEX.out (by first | exact HW0 | exact HW0.drew))).mono ?_
                                                rintro e qz21 ⟨rfl, b⟩
                                                replace HW0 := below_step (by first | exact HW0 | exact HW0.drew) b
                                                clear b
                                                refine hK.out _ _ ?_ (fun hHeldB => ?_)
                                                · (try dsimp only); exact HW0
                                                clear hK K hHeld
                                                have hHeld := hHeldB
                                                clear hHeldB
                                                try simp only [Act.put, List.setIfInBounds_toArray, List.set_cons_zero, List.set_cons_succ]
                                                refine wpAnyH_take (i := 68) (oi := { dst := some 226, op := Op.pick (Operand.tmp 224) (Operand.tmp 225) (Operand.const (Value.bool false)), type := 4, pos := "law.go:99", after := #[{ on := 66, ground := Ground.data }, { on := 67, ground := Ground.data }], guard := none }) (v := ?vu359) rfl (by kernel_rfl) (by kernel_rfl) (by kernel_rfl) (fun _ _ _ h => h) (Or.inl ⟨by rfl, ?hyu359⟩) (by assumption) ?restu359
                                                case hyu359 => (intro w hSw; (try dsimp only at hSw); go_simp; (try with_reducible rfl))
                                                try simp only [Act.put, List.setIfInBounds_toArray, List.set_cons_zero, List.set_cons_succ]
                                                refine wpAnyH_take (i := 69) (oi := { dst := some 6, op := Op.assign (Operand.tmp 226), type := 4, pos := "law.go:99", after := ([{ on := 68, ground := Ground.data }, { on := 67, ground := Ground.chain }, { on := 0, ground := Ground.phase }, { on := 1, ground := Ground.phase }, { on := 2, ground := Ground.phase }, { on := 3, ground := Ground.phase }, { on := 4, ground := Ground.phase }, { on := 5, ground := Ground.phase }, { on := 6, ground := Ground.phase }, { on := 7, ground := Ground.phase }, { on := 8, ground := Ground.phase }, { on := 9, ground := Ground.phase }, { on := 10, ground := Ground.phase }, { on := 11, ground := Ground.phase }, { on := 12, ground := Ground.phase }, { on := 13, ground := Ground.phase }, { on := 14, ground := Ground.phase }, { on := 15, ground := Ground.phase }, { on := 16, ground := Ground.phase }, { on := 17, ground := Ground.phase }, { on := 18, ground := Ground.phase }, { on := 19, ground := Ground.phase }, { on := 20, ground := Ground.phase }, { on := 21, ground := Ground.phase }, { on := 22, ground := Ground.phase }, { on := 23, ground := Ground.phase }, { on := 24, ground := Ground.phase }, { on := 25, ground := Ground.phase }, { on := 26, ground := Ground.phase }, { on := 27, ground := Ground.phase }, { on := 28, ground := Ground.phase }, { on := 29, ground := Ground.phase }, { on := 30, ground := Ground.phase }, { on := 31, ground := Ground.phase }, { on := 32, ground := Ground.phase }].append [{ on := 33, ground := Ground.phase }, { on := 34, ground := Ground.phase }, { on := 35, ground := Ground.phase }, { on := 36, ground := Ground.phase }, { on := 37, ground := Ground.phase }, { on := 38, ground := Ground.phase }, { on := 39, ground := Ground.phase }, { on := 40, ground := Ground.phase }, { on := 41, ground := Ground.phase }, { on := 42, ground := Ground.phase }, { on := 43, ground := Ground.phase }, { on := 44, ground := Ground.phase }, { on := 45, ground := Ground.phase }, { on := 46, ground := Ground.phase }, { on := 47, ground := Ground.phase }, { on := 48, ground := Ground.phase }, { on := 49, ground := Ground.phase }, { on := 50, ground := Ground.phase }, { on := 51, ground := Ground.phase }, { on := 52, ground := Ground.phase }, { on := 53, ground := Ground.phase }, { on := 54, ground := Ground.phase }, { on := 55, ground := Ground.phase }, { on := 56, ground := Ground.phase }, { on := 57, ground := Ground.phase }, { on := 58, ground := Ground.phase }, { on := 59, ground := Ground.phase }, { on := 60, ground := Ground.phase }, { on := 61, ground := Ground.phase }, { on := 62, ground := Ground.phase }, { on := 63, ground := Ground.phase }, { on := 64, ground := Ground.phase }, { on := 65, ground := Ground.phase }, { on := 66, ground := Ground.phase }, { on := 67, ground := Ground.phase }, { on := 68, ground := Ground.phase }]).toArray, guard := none }) (v := ?vu360) rfl (by kernel_rfl) (by kernel_rfl) (by kernel_rfl) (fun _ _ _ h => h) (Or.inl ⟨by rfl, ?hyu360⟩) (by assumption) ?restu360
                                                case hyu360 => (intro w hSw; (try dsimp only at hSw); go_simp; (try with_reducible rfl))
                                                try simp only [Act.put, List.setIfInBounds_toArray, List.set_cons_zero, List.set_cons_succ]
                                                refine wpAnyH_done (by kernel_rfl) ?_ _
                                                go_wp2
                                                go_ret
                                                exact ⟨rfl, below_step HB.out (by first | exact HW0 | exact HW0.drew)⟩
end Go.Proofs.Yteaajhpgmndomaa
