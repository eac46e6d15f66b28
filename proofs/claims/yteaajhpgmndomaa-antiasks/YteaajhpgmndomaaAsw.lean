/- The walk of AntiAsks. -/
import Derived.Test.YteaajhpgmndomaaAsk
namespace Go.Proofs.Yteaajhpgmndomaa
open Go.RowKit Fo
set_option maxRecDepth 100000

set_option maxHeartbeats 64000000 in
theorem asks_core {Env : World → Prop} (C : FamSays Env) (w : World) (vl vr : Value) (L R : List (List Int)) (vs : Value) (S : List Int) (bud : Int) (h1 : IsLL w vl L) (h2 : IsLL w vr R) (h3 : IsL w vs S) (henv : Env w) :
    Calls Try.prog 3 #[vl, vr, vs, .int .i64 bud] w fun e w' => e = .returned (.bool true) ∧ Below w.heap.size w w' := by
  have HA0 := h1
  have HR0 := h2
  have HS0 := h3
  have HE : Hid (Env w) := henv
  obtain ⟨al, cl, VL, rfl, hrl, -⟩ := h1
  obtain ⟨ar, cr, VR, rfl, hrr, -⟩ := h2
  have hl1 := hrl.1
  have hl2 := hrl.2.1
  have hr1 := hrr.1
  have hr2 := hrr.2.1
  obtain ⟨aS, cS_, rfl, hrs⟩ := h3
  have hs1 := hrs.1
  have hs2 := hrs.2.1
  obtain ⟨W0, hW0⟩ : ∃ W0, W0 = w.alloc (.cells #[.slice al L.length cl, .slice ar R.length cr] 22) := ⟨_, rfl⟩
  have HB : Hid (Below w.heap.size w W0) := by rw [hW0]; exact below1 w _
  have hg0 : W0.heap[w.heap.size]? = some (.cells #[.slice al L.length cl, .slice ar R.length cr] 22) := by rw [hW0]; exact heap_new1 w _
  have cS := asmall_any W0 w.heap.size 2 (fun j => if j = 0 then .slice al L.length cl else .slice ar R.length cr) (fun j => if j = 0 then L else R) (by decide)
    (fun j hj => by rw [cell_of_row W0 _ _ _ _ _ hg0]; match j, hj with | 0, _ => rfl | 1, _ => rfl)
    (fun j hj => by match j, hj with | 0, _ => exact HA0.below HB.out | 1, _ => exact HR0.below HB.out)
  have HA : Hid (IsLL W0 (.slice al L.length cl) L) := HA0.below HB.out
  have HR : Hid (IsLL W0 (.slice ar R.length cr) R) := HR0.below HB.out
  have HS : Hid (IsL W0 (.slice aS S.length cS_) S) := HS0.below HB.out
  clear hrl hrr hrs hg0 HA0 HR0 HS0 henv
  go_enter Try.func3, Try.ntmps3
  go_wp2_with (go_at_call 9; fail)
  rw [← hW0]
  clear hW0
  refine cS.mono ?_
  rintro e w' ⟨hr, hw⟩
  replace hw := hw.symm
  subst hw
  obtain ⟨q, rfl, hq⟩ := hr
  clear cS
  cases q
  · skip
    go_wp2_with (go_at_call 10; fail)
    refine (awake_of C _ (C.keep HE.out HB.out)).mono ?_
    rintro e xx ⟨rfl, b⟩
    have HBx : Hid (Below w.heap.size w xx) := below_step HB.out b
    clear b HB
    go_wp2
    go_ret
    exact ⟨rfl, HBx.out⟩
  · have HL : Hid (SmP L) := hq rfl 0 (by decide)
    have HRs : Hid (SmP R) := hq rfl 1 (by decide)
    clear hq
    by_cases hS : (100 : Int) < (S.length : Int)
    · skip
      go_wp2_with (go_at_call 10; fail)
      refine (awake_of C _ (C.keep HE.out HB.out)).mono ?_
      rintro e xx ⟨rfl, b⟩
      have HBx : Hid (Below w.heap.size w xx) := below_step HB.out b
      clear b HB
      go_wp2
      go_ret
      exact ⟨rfl, HBx.out⟩
    have hSl : S.length ≤ 100 := by omega
    have HSl : Hid (S.length ≤ 100) := hSl
    clear hSl
    by_cases hgl : GoodP L
    · have HgL : Hid (GoodP L) := hgl
      clear hgl
      by_cases hgr : GoodP R
      · have HgR : Hid (GoodP R) := hgr
        clear hgr
        go_wp2_with (go_at_call 11; fail)
        refine (C.of _ _ L (C.keep HE.out HB.out) HA.out (Nat.le_trans HL.out.1 (by decide)) (fun j hj => Nat.le_trans (HL.out.2 j hj) (by decide))).mono ?_
        rintro e w1 ⟨hr, b⟩
        rcases hr with ⟨-, u, F, rfl, hf, ho⟩ | ⟨hn, -⟩
        case inr => exact absurd HgL.out hn
        replace HS : Hid (IsL w1 (.slice aS S.length cS_) S) := HS.out.below b
        replace HA : Hid (IsLL w1 (.slice al L.length cl) L) := HA.out.below b
        replace HR : Hid (IsLL w1 (.slice ar R.length cr) R) := HR.out.below b
        replace HB : Hid (Below w.heap.size w w1) := below_step HB.out b
        obtain ⟨af, cf, Vf, rfl, hrest⟩ := id hf
        have HOf : Hid (FamOf L F) := ho
        have HFf : Hid (FV w1 (.agg #[.slice af F.length cf]) F) := hf
        clear hrest ho hf b
        go_upto_region 4 with fail
        obtain ⟨X9, hW⟩ : ∃ X9, X9 = w1.alloc (.cells #[.slice af F.length cf] 27) := ⟨_, rfl⟩
        rw [← hW]
        have b : Below w1.heap.size w1 X9 := by rw [hW]; exact below1 _ _
        have Hb9 : Hid (X9.heap[w1.heap.size]? = some (.cells #[.slice af F.length cf] 27)) := by show X9.heap[_]? = _; rw [hW]; exact heap_new1 _ _
        have HBx9 : Hid (w.heap.size ≤ w1.heap.size) := HB.out.size
        clear hW
        replace HS : Hid (IsL X9 (.slice aS S.length cS_) S) := HS.out.below b
        replace HA : Hid (IsLL X9 (.slice al L.length cl) L) := HA.out.below b
        replace HR : Hid (IsLL X9 (.slice ar R.length cr) R) := HR.out.below b
        replace HB : Hid (Below w.heap.size w X9) := below_step HB.out b
        replace HFf : Hid (FV X9 (.agg #[.slice af F.length cf]) F) := HFf.out.below b
        clear b
        go_wp2_with (go_at_call 11; fail)
        refine (C.of _ _ R (C.keep HE.out HB.out) HR.out (Nat.le_trans HRs.out.1 (by decide)) (fun j hj => Nat.le_trans (HRs.out.2 j hj) (by decide))).mono ?_
        rintro e w2 ⟨hr, b⟩
        rcases hr with ⟨-, u, G, rfl, hf, ho⟩ | ⟨hn, -⟩
        case inr => exact absurd HgR.out hn
        replace HS : Hid (IsL w2 (.slice aS S.length cS_) S) := HS.out.below b
        replace HA : Hid (IsLL w2 (.slice al L.length cl) L) := HA.out.below b
        replace HR : Hid (IsLL w2 (.slice ar R.length cr) R) := HR.out.below b
        replace HB : Hid (Below w.heap.size w w2) := below_step HB.out b
        replace HFf : Hid (FV w2 (.agg #[.slice af F.length cf]) F) := HFf.out.below b
        replace Hb9 : Hid (w2.heap[w1.heap.size]? = some (.cells #[.slice af F.length cf] 27)) := (b.block (w1.heap.size) (Array.getElem?_eq_some_iff.1 Hb9.out).1).trans Hb9.out
        obtain ⟨ag, cg, Vg, rfl, hrest⟩ := id hf
        have HOg : Hid (FamOf R G) := ho
        have HFg : Hid (FV w2 (.agg #[.slice ag G.length cg]) G) := hf
        clear hrest ho hf b
        go_upto_region 5 with fail
        obtain ⟨X11, hW⟩ : ∃ X11, X11 = w2.alloc (.cells #[.slice ag G.length cg] 27) := ⟨_, rfl⟩
        rw [← hW]
        have b : Below w2.heap.size w2 X11 := by rw [hW]; exact below1 _ _
        have Hb11 : Hid (X11.heap[w2.heap.size]? = some (.cells #[.slice ag G.length cg] 27)) := by show X11.heap[_]? = _; rw [hW]; exact heap_new1 _ _
        have HBx11 : Hid (w.heap.size ≤ w2.heap.size) := HB.out.size
        have dl9_11 : w1.heap.size < w2.heap.size := (Array.getElem?_eq_some_iff.1 Hb9.out).1
        clear hW
        replace HS : Hid (IsL X11 (.slice aS S.length cS_) S) := HS.out.below b
        replace HA : Hid (IsLL X11 (.slice al L.length cl) L) := HA.out.below b
        replace HR : Hid (IsLL X11 (.slice ar R.length cr) R) := HR.out.below b
        replace HB : Hid (Below w.heap.size w X11) := below_step HB.out b
        replace HFf : Hid (FV X11 (.agg #[.slice af F.length cf]) F) := HFf.out.below b
        replace HFg : Hid (FV X11 (.agg #[.slice ag G.length cg]) G) := HFg.out.below b
        replace Hb9 : Hid (X11.heap[w1.heap.size]? = some (.cells #[.slice af F.length cf] 27)) := (b.block (w1.heap.size) (Array.getElem?_eq_some_iff.1 Hb9.out).1).trans Hb9.out
        clear b
        go_wp2_with (go_at_call 12; fail)
        refine (agood_any _ _ L true HA.out ⟨fun _ => HgL.out, fun _ => rfl⟩).mono ?_
        rintro e w' ⟨rfl, hw⟩
        replace hw := hw.symm
        subst hw
        go_wp2_with (go_at_call 12; fail)
        refine (agood_any _ _ R true HR.out ⟨fun _ => HgR.out, fun _ => rfl⟩).mono ?_
        rintro e w' ⟨rfl, hw⟩
        replace hw := hw.symm
        subst hw
        have HFl : Hid (F.length ≤ 12) := Nat.le_trans (fam_len HOf.out) HL.out.1
        have HGl : Hid (G.length ≤ 12) := Nat.le_trans (fam_len HOg.out) HRs.out.1
        have HFG : Hid (F.length * G.length ≤ 144) := Nat.mul_le_mul HFl.out HGl.out
        have HFn : Hid (∀ j, j < F.length → (gs F j).length ≤ 12) := fam_sets HOf.out fun j hj => HL.out.2 j hj
        have HGn : Hid (∀ j, j < G.length → (gs G j).length ≤ 12) := fam_sets HOg.out fun j hj => HRs.out.2 j hj
        go_wp2_with (go_at_call 14; fail)
        refine (sorted_all _ _ S HS.out (by have := HSl.out; omega)).mono ?_
        rintro e w3 ⟨⟨u1, R1, rfl, hq1, hq2, hq3, -, -⟩, b⟩
        replace HS : Hid (IsL w3 (.slice aS S.length cS_) S) := HS.out.below b
        replace HA : Hid (IsLL w3 (.slice al L.length cl) L) := HA.out.below b
        replace HR : Hid (IsLL w3 (.slice ar R.length cr) R) := HR.out.below b
        replace HB : Hid (Below w.heap.size w w3) := below_step HB.out b
        replace HFf : Hid (FV w3 (.agg #[.slice af F.length cf]) F) := HFf.out.below b
        replace HFg : Hid (FV w3 (.agg #[.slice ag G.length cg]) G) := HFg.out.below b
        replace Hb9 : Hid (w3.heap[w1.heap.size]? = some (.cells #[.slice af F.length cf] 27)) := (b.block (w1.heap.size) (Array.getElem?_eq_some_iff.1 Hb9.out).1).trans Hb9.out
        replace Hb11 : Hid (w3.heap[w2.heap.size]? = some (.cells #[.slice ag G.length cg] 27)) := (b.block (w2.heap.size) (Array.getElem?_eq_some_iff.1 Hb11.out).1).trans Hb11.out
        have HU1 : Hid (IsL w3 u1 R1) := hq1.isL
        have HRi : Hid (Rise R1 ∧ (Fo.sub R1 S ∧ Fo.sub S R1)) := ⟨hq2, hq3⟩
        clear hq1 hq2 hq3
        clear b
        go_wp2_with (go_at_call 15; fail)
        refine (rsorted_l _ _ S HS.out (by have := HSl.out; omega)).mono ?_
        rintro e w4 ⟨⟨u2, R2, rfl, hq1, hq2, hq3⟩, b⟩
        replace HS : Hid (IsL w4 (.slice aS S.length cS_) S) := HS.out.below b
        replace HU1 : Hid (IsL w4 u1 R1) := HU1.out.below b
        replace HA : Hid (IsLL w4 (.slice al L.length cl) L) := HA.out.below b
        replace HR : Hid (IsLL w4 (.slice ar R.length cr) R) := HR.out.below b
        replace HB : Hid (Below w.heap.size w w4) := below_step HB.out b
        replace HFf : Hid (FV w4 (.agg #[.slice af F.length cf]) F) := HFf.out.below b
        replace HFg : Hid (FV w4 (.agg #[.slice ag G.length cg]) G) := HFg.out.below b
        replace Hb9 : Hid (w4.heap[w1.heap.size]? = some (.cells #[.slice af F.length cf] 27)) := (b.block (w1.heap.size) (Array.getElem?_eq_some_iff.1 Hb9.out).1).trans Hb9.out
        replace Hb11 : Hid (w4.heap[w2.heap.size]? = some (.cells #[.slice ag G.length cg] 27)) := (b.block (w2.heap.size) (Array.getElem?_eq_some_iff.1 Hb11.out).1).trans Hb11.out
        obtain rfl : R2 = R1 := rise_ext hq2 HRi.out.1 (fun x hx => HRi.out.2.2 x (hq3.1 x hx)) (fun x hx => hq3.2 x (HRi.out.2.1 x hx))
        have HU2 : Hid (IsL w4 u2 R2) := hq1
        clear hq1 hq2 hq3 HRi
        clear b
        go_wp2_with (go_at_call 13; fail)
        refine (rints_any _ u1 u2 R2 R2 true HU1.out HU2.out ⟨fun _ => rfl, fun _ => rfl⟩).mono ?_
        rintro e w5 ⟨rfl, b⟩
        replace HS : Hid (IsL w5 (.slice aS S.length cS_) S) := HS.out.below b
        replace HU1 : Hid (IsL w5 u1 R2) := HU1.out.below b
        replace HU2 : Hid (IsL w5 u2 R2) := HU2.out.below b
        replace HA : Hid (IsLL w5 (.slice al L.length cl) L) := HA.out.below b
        replace HR : Hid (IsLL w5 (.slice ar R.length cr) R) := HR.out.below b
        replace HB : Hid (Below w.heap.size w w5) := below_step HB.out b
        replace HFf : Hid (FV w5 (.agg #[.slice af F.length cf]) F) := HFf.out.below b
        replace HFg : Hid (FV w5 (.agg #[.slice ag G.length cg]) G) := HFg.out.below b
        replace Hb9 : Hid (w5.heap[w1.heap.size]? = some (.cells #[.slice af F.length cf] 27)) := (b.block (w1.heap.size) (Array.getElem?_eq_some_iff.1 Hb9.out).1).trans Hb9.out
        replace Hb11 : Hid (w5.heap[w2.heap.size]? = some (.cells #[.slice ag G.length cg] 27)) := (b.block (w2.heap.size) (Array.getElem?_eq_some_iff.1 Hb11.out).1).trans Hb11.out
        clear b
        clear HU1 HU2
        go_wp2_with (go_at_call 17; fail)
        refine (rleast_ll _ _ L HA.out (Nat.le_trans HL.out.1 (by decide)) (fun j hj => Nat.le_trans (HL.out.2 j hj) (by decide))).mono ?_
        rintro e w6 ⟨⟨ux, X, rfl, hx, hxo, -⟩, b⟩
        replace HS : Hid (IsL w6 (.slice aS S.length cS_) S) := HS.out.below b
        replace HA : Hid (IsLL w6 (.slice al L.length cl) L) := HA.out.below b
        replace HR : Hid (IsLL w6 (.slice ar R.length cr) R) := HR.out.below b
        replace HB : Hid (Below w.heap.size w w6) := below_step HB.out b
        replace HFf : Hid (FV w6 (.agg #[.slice af F.length cf]) F) := HFf.out.below b
        replace HFg : Hid (FV w6 (.agg #[.slice ag G.length cg]) G) := HFg.out.below b
        replace Hb9 : Hid (w6.heap[w1.heap.size]? = some (.cells #[.slice af F.length cf] 27)) := (b.block (w1.heap.size) (Array.getElem?_eq_some_iff.1 Hb9.out).1).trans Hb9.out
        replace Hb11 : Hid (w6.heap[w2.heap.size]? = some (.cells #[.slice ag G.length cg] 27)) := (b.block (w2.heap.size) (Array.getElem?_eq_some_iff.1 Hb11.out).1).trans Hb11.out
        obtain rfl : X = F := famOf_fun hxo HOf.out
        obtain ⟨ax, cx, Vx, rfl, -⟩ := id hx.isLL
        have HX : Hid (IsLL w6 (.slice ax X.length cx) X) := hx.isLL
        clear hx hxo
        clear b
        go_wp2_with (go_at_call 17; fail)
        refine (rleast_ll _ _ R HR.out (Nat.le_trans HRs.out.1 (by decide)) (fun j hj => Nat.le_trans (HRs.out.2 j hj) (by decide))).mono ?_
        rintro e w7 ⟨⟨uy, Y, rfl, hy, hyo, -⟩, b⟩
        replace HS : Hid (IsL w7 (.slice aS S.length cS_) S) := HS.out.below b
        replace HX : Hid (IsLL w7 (.slice ax X.length cx) X) := HX.out.below b
        replace HA : Hid (IsLL w7 (.slice al L.length cl) L) := HA.out.below b
        replace HR : Hid (IsLL w7 (.slice ar R.length cr) R) := HR.out.below b
        replace HB : Hid (Below w.heap.size w w7) := below_step HB.out b
        replace HFf : Hid (FV w7 (.agg #[.slice af X.length cf]) X) := HFf.out.below b
        replace HFg : Hid (FV w7 (.agg #[.slice ag G.length cg]) G) := HFg.out.below b
        replace Hb9 : Hid (w7.heap[w1.heap.size]? = some (.cells #[.slice af X.length cf] 27)) := (b.block (w1.heap.size) (Array.getElem?_eq_some_iff.1 Hb9.out).1).trans Hb9.out
        replace Hb11 : Hid (w7.heap[w2.heap.size]? = some (.cells #[.slice ag G.length cg] 27)) := (b.block (w2.heap.size) (Array.getElem?_eq_some_iff.1 Hb11.out).1).trans Hb11.out
        obtain rfl : Y = G := famOf_fun hyo HOg.out
        obtain ⟨ay, cy, Vy, rfl, -⟩ := id hy.isLL
        have HY : Hid (IsLL w7 (.slice ay Y.length cy) Y) := hy.isLL
        clear hy hyo
        clear b
        clear HA HR
        have hk9 : w7.cell? ⟨w1.heap.size, 0, none⟩ = some (.slice af X.length cf) := by rw [cell_of_row w7 _ _ _ _ _ Hb9.out]; rfl
        go_wp2_with (go_at_call 19; fail)
        refine (C.sets _ _ X (C.keep HE.out HB.out) HFf.out).mono ?_
        rintro e w8 ⟨⟨u3, rfl, hq⟩, b⟩
        replace HS : Hid (IsL w8 (.slice aS S.length cS_) S) := HS.out.below b
        replace HX : Hid (IsLL w8 (.slice ax X.length cx) X) := HX.out.below b
        replace HY : Hid (IsLL w8 (.slice ay Y.length cy) Y) := HY.out.below b
        replace HB : Hid (Below w.heap.size w w8) := below_step HB.out b
        replace HFf : Hid (FV w8 (.agg #[.slice af X.length cf]) X) := HFf.out.below b
        replace HFg : Hid (FV w8 (.agg #[.slice ag Y.length cg]) Y) := HFg.out.below b
        replace Hb9 : Hid (w8.heap[w1.heap.size]? = some (.cells #[.slice af X.length cf] 27)) := (b.block (w1.heap.size) (Array.getElem?_eq_some_iff.1 Hb9.out).1).trans Hb9.out
        replace Hb11 : Hid (w8.heap[w2.heap.size]? = some (.cells #[.slice ag Y.length cg] 27)) := (b.block (w2.heap.size) (Array.getElem?_eq_some_iff.1 Hb11.out).1).trans Hb11.out
        have HU3 : Hid (IsLL w8 u3 X) := hq
        clear hq hk9
        clear b
        go_wp2_with (go_at_call 18; fail)
        refine (rlists_any _ u3 _ X X true HU3.out HX.out ⟨fun _ => rfl, fun _ => rfl⟩).mono ?_
        rintro e w9 ⟨rfl, b⟩
        replace HS : Hid (IsL w9 (.slice aS S.length cS_) S) := HS.out.below b
        replace HX : Hid (IsLL w9 (.slice ax X.length cx) X) := HX.out.below b
        replace HY : Hid (IsLL w9 (.slice ay Y.length cy) Y) := HY.out.below b
        replace HU3 : Hid (IsLL w9 u3 X) := HU3.out.below b
        replace HB : Hid (Below w.heap.size w w9) := below_step HB.out b
        replace HFf : Hid (FV w9 (.agg #[.slice af X.length cf]) X) := HFf.out.below b
        replace HFg : Hid (FV w9 (.agg #[.slice ag Y.length cg]) Y) := HFg.out.below b
        replace Hb9 : Hid (w9.heap[w1.heap.size]? = some (.cells #[.slice af X.length cf] 27)) := (b.block (w1.heap.size) (Array.getElem?_eq_some_iff.1 Hb9.out).1).trans Hb9.out
        replace Hb11 : Hid (w9.heap[w2.heap.size]? = some (.cells #[.slice ag Y.length cg] 27)) := (b.block (w2.heap.size) (Array.getElem?_eq_some_iff.1 Hb11.out).1).trans Hb11.out
        clear b
        clear HU3
        have hk9 : w9.cell? ⟨w1.heap.size, 0, none⟩ = some (.slice af X.length cf) := by rw [cell_of_row w9 _ _ _ _ _ Hb9.out]; rfl
        go_wp2_with (go_at_call 16; fail)
        refine (C.len _ _ X ((X.length : Nat) : Int) (C.keep HE.out HB.out) HFf.out rfl).mono ?_
        rintro e w10 ⟨rfl, b⟩
        replace HS : Hid (IsL w10 (.slice aS S.length cS_) S) := HS.out.below b
        replace HX : Hid (IsLL w10 (.slice ax X.length cx) X) := HX.out.below b
        replace HY : Hid (IsLL w10 (.slice ay Y.length cy) Y) := HY.out.below b
        replace HB : Hid (Below w.heap.size w w10) := below_step HB.out b
        replace HFf : Hid (FV w10 (.agg #[.slice af X.length cf]) X) := HFf.out.below b
        replace HFg : Hid (FV w10 (.agg #[.slice ag Y.length cg]) Y) := HFg.out.below b
        replace Hb9 : Hid (w10.heap[w1.heap.size]? = some (.cells #[.slice af X.length cf] 27)) := (b.block (w1.heap.size) (Array.getElem?_eq_some_iff.1 Hb9.out).1).trans Hb9.out
        replace Hb11 : Hid (w10.heap[w2.heap.size]? = some (.cells #[.slice ag Y.length cg] 27)) := (b.block (w2.heap.size) (Array.getElem?_eq_some_iff.1 Hb11.out).1).trans Hb11.out
        clear hk9
        clear b
        obtain ⟨RH, hRH⟩ : ∃ RH : Bool, RH = true ↔ has X S := by
          by_cases q : has X S
          · exact ⟨true, fun _ => q, fun _ => rfl⟩
          · exact ⟨false, fun h => Bool.noConfusion h, fun h => absurd h q⟩
        have HRH : Hid (RH = true ↔ has X S) := hRH
        clear hRH
        have hk9 : w10.cell? ⟨w1.heap.size, 0, none⟩ = some (.slice af X.length cf) := by rw [cell_of_row w10 _ _ _ _ _ Hb9.out]; rfl
        go_wp2_with (go_at_call 20; fail)
        refine (C.has _ _ _ X S RH (C.keep HE.out HB.out) HFf.out HS.out (by have := HSl.out; omega) HRH.out).mono ?_
        rintro e w11 ⟨rfl, b⟩
        replace HS : Hid (IsL w11 (.slice aS S.length cS_) S) := HS.out.below b
        replace HX : Hid (IsLL w11 (.slice ax X.length cx) X) := HX.out.below b
        replace HY : Hid (IsLL w11 (.slice ay Y.length cy) Y) := HY.out.below b
        replace HB : Hid (Below w.heap.size w w11) := below_step HB.out b
        replace HFf : Hid (FV w11 (.agg #[.slice af X.length cf]) X) := HFf.out.below b
        replace HFg : Hid (FV w11 (.agg #[.slice ag Y.length cg]) Y) := HFg.out.below b
        replace Hb9 : Hid (w11.heap[w1.heap.size]? = some (.cells #[.slice af X.length cf] 27)) := (b.block (w1.heap.size) (Array.getElem?_eq_some_iff.1 Hb9.out).1).trans Hb9.out
        replace Hb11 : Hid (w11.heap[w2.heap.size]? = some (.cells #[.slice ag Y.length cg] 27)) := (b.block (w2.heap.size) (Array.getElem?_eq_some_iff.1 Hb11.out).1).trans Hb11.out
        clear hk9
        clear b
        go_wp2_with (go_at_call 21; fail)
        refine (rhas_ll _ _ _ X S RH HX.out HS.out (fun j hj => Nat.le_trans (HFn.out j hj) (by decide)) (by have := HSl.out; omega) HRH.out).mono ?_
        rintro e w12 ⟨rfl, b⟩
        replace HS : Hid (IsL w12 (.slice aS S.length cS_) S) := HS.out.below b
        replace HX : Hid (IsLL w12 (.slice ax X.length cx) X) := HX.out.below b
        replace HY : Hid (IsLL w12 (.slice ay Y.length cy) Y) := HY.out.below b
        replace HB : Hid (Below w.heap.size w w12) := below_step HB.out b
        replace HFf : Hid (FV w12 (.agg #[.slice af X.length cf]) X) := HFf.out.below b
        replace HFg : Hid (FV w12 (.agg #[.slice ag Y.length cg]) Y) := HFg.out.below b
        replace Hb9 : Hid (w12.heap[w1.heap.size]? = some (.cells #[.slice af X.length cf] 27)) := (b.block (w1.heap.size) (Array.getElem?_eq_some_iff.1 Hb9.out).1).trans Hb9.out
        replace Hb11 : Hid (w12.heap[w2.heap.size]? = some (.cells #[.slice ag Y.length cg] 27)) := (b.block (w2.heap.size) (Array.getElem?_eq_some_iff.1 Hb11.out).1).trans Hb11.out
        clear b
        clear HS
        obtain ⟨_, _, VX, ex, hxr, hxs⟩ := HX.out
        obtain ⟨rfl, rfl⟩ : ax = _ ∧ cx = _ := by simpa using ex
        obtain ⟨_, _, VY, ey, hyr, hys⟩ := HY.out
        obtain ⟨rfl, rfl⟩ : ay = _ ∧ cy = _ := by simpa using ey
        have HXr : Hid (Rd w12 ax X.length cx VX) := hxr
        have HXs : Hid (∀ j, j < X.length → IsL w12 (VX j) (gs X j)) := hxs
        have HYr : Hid (Rd w12 ay Y.length cy VY) := hyr
        have HYs : Hid (∀ j, j < Y.length → IsL w12 (VY j) (gs Y j)) := hys
        have hx1 := hxr.1
        have hx2 := hxr.2.1
        have hy1 := hyr.1
        have hy2 := hyr.2.1
        have hxl : X.length ≤ 12 := HFl.out
        have hyl : Y.length ≤ 12 := HGl.out
        clear hxr hxs hyr hys ex ey
        have W1 := (below_refl w12).alloc (Nat.le_refl _) (.cells #[] 23)
        go_wp2_with (first
          | (at_builtin; refine wpList_app eSet rfl _ _ rfl (Ow.made 23 w12.heap.size w12 (fun _ => .slice none 0 0) (Nat.le_refl _)) (by simp) (HXr.out.below W1) (fun j hj => by obtain ⟨a, c, e, -⟩ := HXs.out j hj; rw [e]; rfl) X.length (by omega) (by omega) VX (fun j hj => by unfold catV; rw [if_neg (by omega), Nat.sub_zero]) rfl rfl ?_; intro a3 c3 w3 hO3 hG3
             have HW3 : Hid (Below w12.heap.size w12 w3) := W1.grown hG3 (by simp) (fun k' hk' => own_le hk')
             have HO3 : Hid (Ow 23 w12.heap.size w3 (.slice a3 X.length c3) X.length VX) := hO3
             clear hO3 hG3 W1)
          | (at_builtin; refine wpList_app eSet rfl _ _ rfl HO3.out HW3.out.size (HYr.out.below HW3.out) (fun j hj => by obtain ⟨a, c, e, -⟩ := HYs.out j hj; rw [e]; rfl) (X.length + Y.length) rfl (by omega) (catV VX X.length VY) (fun j hj => rfl) rfl rfl ?_; intro a4 c4 wA hO4 hG4
             have b : Below w12.heap.size w12 wA := HW3.out.grown hG4 HW3.out.size (fun k' hk' => HO3.out.row k' hk')
             have HPL : Hid (IsLL wA (.slice a4 (X.length + Y.length) c4) (X ++ Y)) := IsLL.app hO4 (fun j hj => (HXs.out j hj).below b) fun j hj => (HYs.out j hj).below b
             clear hO4 hG4 HO3 HW3)
          | (go_at_call 17; fail))
        clear HXr HXs HYr HYs
        replace HX : Hid (IsLL wA (.slice ax X.length cx) X) := HX.out.below b
        replace HY : Hid (IsLL wA (.slice ay Y.length cy) Y) := HY.out.below b
        replace HB : Hid (Below w.heap.size w wA) := below_step HB.out b
        replace HFf : Hid (FV wA (.agg #[.slice af X.length cf]) X) := HFf.out.below b
        replace HFg : Hid (FV wA (.agg #[.slice ag Y.length cg]) Y) := HFg.out.below b
        replace Hb9 : Hid (wA.heap[w1.heap.size]? = some (.cells #[.slice af X.length cf] 27)) := (b.block (w1.heap.size) (Array.getElem?_eq_some_iff.1 Hb9.out).1).trans Hb9.out
        replace Hb11 : Hid (wA.heap[w2.heap.size]? = some (.cells #[.slice ag Y.length cg] 27)) := (b.block (w2.heap.size) (Array.getElem?_eq_some_iff.1 Hb11.out).1).trans Hb11.out
        clear b
        have HPn : Hid (∀ j, j < (X ++ Y).length → (gs (X ++ Y) j).length ≤ 100000) := fun j hj => by
          rw [List.length_append] at hj
          rw [gs_cat]
          by_cases e : j < X.length
          · rw [if_pos e]; exact Nat.le_trans (HFn.out j e) (by decide)
          · rw [if_neg e]; exact Nat.le_trans (HGn.out _ (by omega)) (by decide)
        go_wp2_with (go_at_call 17; fail)
        refine (rleast_ll _ _ (X ++ Y) HPL.out (by rw [List.length_append]; omega) HPn.out).mono ?_
        rintro e w13 ⟨⟨up, Pm, rfl, hq1, hq2, -⟩, b⟩
        replace HX : Hid (IsLL w13 (.slice ax X.length cx) X) := HX.out.below b
        replace HY : Hid (IsLL w13 (.slice ay Y.length cy) Y) := HY.out.below b
        replace HPL : Hid (IsLL w13 (.slice a4 (X.length + Y.length) c4) (X ++ Y)) := HPL.out.below b
        replace HB : Hid (Below w.heap.size w w13) := below_step HB.out b
        replace HFf : Hid (FV w13 (.agg #[.slice af X.length cf]) X) := HFf.out.below b
        replace HFg : Hid (FV w13 (.agg #[.slice ag Y.length cg]) Y) := HFg.out.below b
        replace Hb9 : Hid (w13.heap[w1.heap.size]? = some (.cells #[.slice af X.length cf] 27)) := (b.block (w1.heap.size) (Array.getElem?_eq_some_iff.1 Hb9.out).1).trans Hb9.out
        replace Hb11 : Hid (w13.heap[w2.heap.size]? = some (.cells #[.slice ag Y.length cg] 27)) := (b.block (w2.heap.size) (Array.getElem?_eq_some_iff.1 Hb11.out).1).trans Hb11.out
        obtain ⟨ap, cp, Vp, rfl, -⟩ := id hq1.isLL
        have HP : Hid (IsLL w13 (.slice ap Pm.length cp) Pm) := hq1.isLL
        have HOp : Hid (FamOf (X ++ Y) Pm) := hq2
        have hpl : Pm.length ≤ 24 := by have h := fam_len hq2; rw [List.length_append] at h; omega
        clear hq1 hq2
        clear b
        clear HPL
        go_wp2_with (go_at_call 22; fail)
        refine (runions_any _ _ _ X Y HX.out HY.out (Nat.le_trans HFG.out (by decide)) (fun j hj => Nat.le_trans (HFn.out j hj) (by decide)) (fun j hj => Nat.le_trans (HGn.out j hj) (by decide))).mono ?_
        rintro e w14 ⟨⟨ut, Tm, rfl, hq1, hq2, hq3⟩, b⟩
        replace HX : Hid (IsLL w14 (.slice ax X.length cx) X) := HX.out.below b
        replace HY : Hid (IsLL w14 (.slice ay Y.length cy) Y) := HY.out.below b
        replace HP : Hid (IsLL w14 (.slice ap Pm.length cp) Pm) := HP.out.below b
        replace HB : Hid (Below w.heap.size w w14) := below_step HB.out b
        replace HFf : Hid (FV w14 (.agg #[.slice af X.length cf]) X) := HFf.out.below b
        replace HFg : Hid (FV w14 (.agg #[.slice ag Y.length cg]) Y) := HFg.out.below b
        replace Hb9 : Hid (w14.heap[w1.heap.size]? = some (.cells #[.slice af X.length cf] 27)) := (b.block (w1.heap.size) (Array.getElem?_eq_some_iff.1 Hb9.out).1).trans Hb9.out
        replace Hb11 : Hid (w14.heap[w2.heap.size]? = some (.cells #[.slice ag Y.length cg] 27)) := (b.block (w2.heap.size) (Array.getElem?_eq_some_iff.1 Hb11.out).1).trans Hb11.out
        obtain ⟨at_, ct, Vt, rfl, -⟩ := id hq1.isLL
        have HT : Hid (IsLL w14 (.slice at_ Tm.length ct) Tm) := hq1.isLL
        have HOt : Hid (FamOf (unionsL X Y) Tm) := hq2
        have htl : Tm.length ≤ 144 := Nat.le_trans hq3 HFG.out
        clear hq1 hq2 hq3
        clear b
        clear HX HY
        have hk9 : w14.cell? ⟨w1.heap.size, 0, none⟩ = some (.slice af X.length cf) := by rw [cell_of_row w14 _ _ _ _ _ Hb9.out]; rfl
        have hk11 : w14.cell? ⟨w2.heap.size, 0, none⟩ = some (.slice ag Y.length cg) := by rw [cell_of_row w14 _ _ _ _ _ Hb11.out]; rfl
        go_wp2_with (go_at_call 23; fail)
        refine (C.plus _ _ _ X Y Pm _ (C.keep HE.out HB.out) HFf.out HFg.out HOf.out.1 HOg.out.1 HOp.out).mono ?_
        rintro e w15 ⟨hr, b⟩
        clear hk9 hk11
        rcases hr with ⟨hop, u, rfl, hf⟩ | ⟨hop, u, rfl, hf⟩
        · skip
          have HOPv : Hid (ovB Pm bud = false) := hop
          clear hop
          replace HP : Hid (IsLL w15 (.slice ap Pm.length cp) Pm) := HP.out.below b
          replace HT : Hid (IsLL w15 (.slice at_ Tm.length ct) Tm) := HT.out.below b
          replace HB : Hid (Below w.heap.size w w15) := below_step HB.out b
          replace HFf : Hid (FV w15 (.agg #[.slice af X.length cf]) X) := HFf.out.below b
          replace HFg : Hid (FV w15 (.agg #[.slice ag Y.length cg]) Y) := HFg.out.below b
          replace Hb9 : Hid (w15.heap[w1.heap.size]? = some (.cells #[.slice af X.length cf] 27)) := (b.block (w1.heap.size) (Array.getElem?_eq_some_iff.1 Hb9.out).1).trans Hb9.out
          replace Hb11 : Hid (w15.heap[w2.heap.size]? = some (.cells #[.slice ag Y.length cg] 27)) := (b.block (w2.heap.size) (Array.getElem?_eq_some_iff.1 Hb11.out).1).trans Hb11.out
          obtain ⟨av1, cv1, Vv1, rfl, hrest⟩ := id hf
          have HFv1 : Hid (FV w15 (.agg #[.slice av1 Pm.length cv1]) Pm) := hf
          clear hrest hf b
          go_upto_region 18 with fail
          obtain ⟨X17, hW⟩ : ∃ X17, X17 = w15.alloc (.cells #[.slice av1 Pm.length cv1] 27) := ⟨_, rfl⟩
          rw [← hW]
          have b : Below w15.heap.size w15 X17 := by rw [hW]; exact below1 _ _
          have Hb17 : Hid (X17.heap[w15.heap.size]? = some (.cells #[.slice av1 Pm.length cv1] 27)) := by show X17.heap[_]? = _; rw [hW]; exact heap_new1 _ _
          have HBx17 : Hid (w.heap.size ≤ w15.heap.size) := HB.out.size
          have dl9_17 : w1.heap.size < w15.heap.size := (Array.getElem?_eq_some_iff.1 Hb9.out).1
          have dl11_17 : w2.heap.size < w15.heap.size := (Array.getElem?_eq_some_iff.1 Hb11.out).1
          clear hW
          replace HP : Hid (IsLL X17 (.slice ap Pm.length cp) Pm) := HP.out.below b
          replace HT : Hid (IsLL X17 (.slice at_ Tm.length ct) Tm) := HT.out.below b
          replace HB : Hid (Below w.heap.size w X17) := below_step HB.out b
          replace HFf : Hid (FV X17 (.agg #[.slice af X.length cf]) X) := HFf.out.below b
          replace HFg : Hid (FV X17 (.agg #[.slice ag Y.length cg]) Y) := HFg.out.below b
          replace HFv1 : Hid (FV X17 (.agg #[.slice av1 Pm.length cv1]) Pm) := HFv1.out.below b
          replace Hb9 : Hid (X17.heap[w1.heap.size]? = some (.cells #[.slice af X.length cf] 27)) := (b.block (w1.heap.size) (Array.getElem?_eq_some_iff.1 Hb9.out).1).trans Hb9.out
          replace Hb11 : Hid (X17.heap[w2.heap.size]? = some (.cells #[.slice ag Y.length cg] 27)) := (b.block (w2.heap.size) (Array.getElem?_eq_some_iff.1 Hb11.out).1).trans Hb11.out
          clear b
          have hk9 : X17.cell? ⟨w1.heap.size, 0, none⟩ = some (.slice af X.length cf) := by rw [cell_of_row X17 _ _ _ _ _ Hb9.out]; rfl
          have hk11 : X17.cell? ⟨w2.heap.size, 0, none⟩ = some (.slice ag Y.length cg) := by rw [cell_of_row X17 _ _ _ _ _ Hb11.out]; rfl
          go_wp2_with (go_at_call 24; fail)
          refine (C.times _ _ _ X Y Tm _ (C.keep HE.out HB.out) HFf.out HFg.out HOf.out.1 HOg.out.1 HOt.out (Nat.le_trans HFG.out (by decide)) (fun j hj => Nat.le_trans (HFn.out j hj) (by decide)) (fun j hj => Nat.le_trans (HGn.out j hj) (by decide))).mono ?_
          rintro e w16 ⟨hr, b⟩
          clear hk9 hk11
          rcases hr with ⟨hot, u, rfl, hf⟩ | ⟨hot, u, rfl, hf⟩
          · skip
            have HOTv : Hid (ovB Tm bud = false) := hot
            clear hot
            replace HP : Hid (IsLL w16 (.slice ap Pm.length cp) Pm) := HP.out.below b
            replace HT : Hid (IsLL w16 (.slice at_ Tm.length ct) Tm) := HT.out.below b
            replace HB : Hid (Below w.heap.size w w16) := below_step HB.out b
            replace HFf : Hid (FV w16 (.agg #[.slice af X.length cf]) X) := HFf.out.below b
            replace HFg : Hid (FV w16 (.agg #[.slice ag Y.length cg]) Y) := HFg.out.below b
            replace HFv1 : Hid (FV w16 (.agg #[.slice av1 Pm.length cv1]) Pm) := HFv1.out.below b
            replace Hb9 : Hid (w16.heap[w1.heap.size]? = some (.cells #[.slice af X.length cf] 27)) := (b.block (w1.heap.size) (Array.getElem?_eq_some_iff.1 Hb9.out).1).trans Hb9.out
            replace Hb11 : Hid (w16.heap[w2.heap.size]? = some (.cells #[.slice ag Y.length cg] 27)) := (b.block (w2.heap.size) (Array.getElem?_eq_some_iff.1 Hb11.out).1).trans Hb11.out
            replace Hb17 : Hid (w16.heap[w15.heap.size]? = some (.cells #[.slice av1 Pm.length cv1] 27)) := (b.block (w15.heap.size) (Array.getElem?_eq_some_iff.1 Hb17.out).1).trans Hb17.out
            obtain ⟨av2, cv2, Vv2, rfl, hrest⟩ := id hf
            have HFv2 : Hid (FV w16 (.agg #[.slice av2 Tm.length cv2]) Tm) := hf
            clear hrest hf b
            go_upto_region 19 with fail
            obtain ⟨X19, hW⟩ : ∃ X19, X19 = w16.alloc (.cells #[.slice av2 Tm.length cv2] 27) := ⟨_, rfl⟩
            rw [← hW]
            have b : Below w16.heap.size w16 X19 := by rw [hW]; exact below1 _ _
            have Hb19 : Hid (X19.heap[w16.heap.size]? = some (.cells #[.slice av2 Tm.length cv2] 27)) := by show X19.heap[_]? = _; rw [hW]; exact heap_new1 _ _
            have HBx19 : Hid (w.heap.size ≤ w16.heap.size) := HB.out.size
            have dl9_19 : w1.heap.size < w16.heap.size := (Array.getElem?_eq_some_iff.1 Hb9.out).1
            have dl11_19 : w2.heap.size < w16.heap.size := (Array.getElem?_eq_some_iff.1 Hb11.out).1
            have dl17_19 : w15.heap.size < w16.heap.size := (Array.getElem?_eq_some_iff.1 Hb17.out).1
            clear hW
            replace HP : Hid (IsLL X19 (.slice ap Pm.length cp) Pm) := HP.out.below b
            replace HT : Hid (IsLL X19 (.slice at_ Tm.length ct) Tm) := HT.out.below b
            replace HB : Hid (Below w.heap.size w X19) := below_step HB.out b
            replace HFf : Hid (FV X19 (.agg #[.slice af X.length cf]) X) := HFf.out.below b
            replace HFg : Hid (FV X19 (.agg #[.slice ag Y.length cg]) Y) := HFg.out.below b
            replace HFv1 : Hid (FV X19 (.agg #[.slice av1 Pm.length cv1]) Pm) := HFv1.out.below b
            replace HFv2 : Hid (FV X19 (.agg #[.slice av2 Tm.length cv2]) Tm) := HFv2.out.below b
            replace Hb9 : Hid (X19.heap[w1.heap.size]? = some (.cells #[.slice af X.length cf] 27)) := (b.block (w1.heap.size) (Array.getElem?_eq_some_iff.1 Hb9.out).1).trans Hb9.out
            replace Hb11 : Hid (X19.heap[w2.heap.size]? = some (.cells #[.slice ag Y.length cg] 27)) := (b.block (w2.heap.size) (Array.getElem?_eq_some_iff.1 Hb11.out).1).trans Hb11.out
            replace Hb17 : Hid (X19.heap[w15.heap.size]? = some (.cells #[.slice av1 Pm.length cv1] 27)) := (b.block (w15.heap.size) (Array.getElem?_eq_some_iff.1 Hb17.out).1).trans Hb17.out
            clear b
            go_wp2_with (go_at_call 25; fail)
            refine (rover_any _ ap Pm.length cp bud false (by omega) HOPv.out).mono ?_
            rintro e w' ⟨rfl, hw⟩
            replace hw := hw.symm
            subst hw
            have hk17 : X19.cell? ⟨w15.heap.size, 0, none⟩ = some (.slice av1 Pm.length cv1) := by rw [cell_of_row X19 _ _ _ _ _ Hb17.out]; rfl
            go_wp2_with (go_at_call 19; fail)
            refine (C.sets _ _ Pm (C.keep HE.out HB.out) HFv1.out).mono ?_
            rintro e w17 ⟨⟨u4, rfl, hq⟩, b⟩
            replace HP : Hid (IsLL w17 (.slice ap Pm.length cp) Pm) := HP.out.below b
            replace HT : Hid (IsLL w17 (.slice at_ Tm.length ct) Tm) := HT.out.below b
            replace HB : Hid (Below w.heap.size w w17) := below_step HB.out b
            replace HFf : Hid (FV w17 (.agg #[.slice af X.length cf]) X) := HFf.out.below b
            replace HFg : Hid (FV w17 (.agg #[.slice ag Y.length cg]) Y) := HFg.out.below b
            replace HFv1 : Hid (FV w17 (.agg #[.slice av1 Pm.length cv1]) Pm) := HFv1.out.below b
            replace HFv2 : Hid (FV w17 (.agg #[.slice av2 Tm.length cv2]) Tm) := HFv2.out.below b
            replace Hb9 : Hid (w17.heap[w1.heap.size]? = some (.cells #[.slice af X.length cf] 27)) := (b.block (w1.heap.size) (Array.getElem?_eq_some_iff.1 Hb9.out).1).trans Hb9.out
            replace Hb11 : Hid (w17.heap[w2.heap.size]? = some (.cells #[.slice ag Y.length cg] 27)) := (b.block (w2.heap.size) (Array.getElem?_eq_some_iff.1 Hb11.out).1).trans Hb11.out
            replace Hb17 : Hid (w17.heap[w15.heap.size]? = some (.cells #[.slice av1 Pm.length cv1] 27)) := (b.block (w15.heap.size) (Array.getElem?_eq_some_iff.1 Hb17.out).1).trans Hb17.out
            replace Hb19 : Hid (w17.heap[w16.heap.size]? = some (.cells #[.slice av2 Tm.length cv2] 27)) := (b.block (w16.heap.size) (Array.getElem?_eq_some_iff.1 Hb19.out).1).trans Hb19.out
            have HU4 : Hid (IsLL w17 u4 Pm) := hq
            clear hq hk17
            clear b
            go_wp2_with (go_at_call 18; fail)
            refine (rlists_any _ u4 _ Pm Pm true HU4.out HP.out ⟨fun _ => rfl, fun _ => rfl⟩).mono ?_
            rintro e w18 ⟨rfl, b⟩
            replace HP : Hid (IsLL w18 (.slice ap Pm.length cp) Pm) := HP.out.below b
            replace HT : Hid (IsLL w18 (.slice at_ Tm.length ct) Tm) := HT.out.below b
            replace HU4 : Hid (IsLL w18 u4 Pm) := HU4.out.below b
            replace HB : Hid (Below w.heap.size w w18) := below_step HB.out b
            replace HFf : Hid (FV w18 (.agg #[.slice af X.length cf]) X) := HFf.out.below b
            replace HFg : Hid (FV w18 (.agg #[.slice ag Y.length cg]) Y) := HFg.out.below b
            replace HFv1 : Hid (FV w18 (.agg #[.slice av1 Pm.length cv1]) Pm) := HFv1.out.below b
            replace HFv2 : Hid (FV w18 (.agg #[.slice av2 Tm.length cv2]) Tm) := HFv2.out.below b
            replace Hb9 : Hid (w18.heap[w1.heap.size]? = some (.cells #[.slice af X.length cf] 27)) := (b.block (w1.heap.size) (Array.getElem?_eq_some_iff.1 Hb9.out).1).trans Hb9.out
            replace Hb11 : Hid (w18.heap[w2.heap.size]? = some (.cells #[.slice ag Y.length cg] 27)) := (b.block (w2.heap.size) (Array.getElem?_eq_some_iff.1 Hb11.out).1).trans Hb11.out
            replace Hb17 : Hid (w18.heap[w15.heap.size]? = some (.cells #[.slice av1 Pm.length cv1] 27)) := (b.block (w15.heap.size) (Array.getElem?_eq_some_iff.1 Hb17.out).1).trans Hb17.out
            replace Hb19 : Hid (w18.heap[w16.heap.size]? = some (.cells #[.slice av2 Tm.length cv2] 27)) := (b.block (w16.heap.size) (Array.getElem?_eq_some_iff.1 Hb19.out).1).trans Hb19.out
            clear b
            clear HU4
            go_wp2_with (go_at_call 25; fail)
            refine (rover_any _ at_ Tm.length ct bud false (by omega) HOTv.out).mono ?_
            rintro e w' ⟨rfl, hw⟩
            replace hw := hw.symm
            subst hw
            have hk19 : w18.cell? ⟨w16.heap.size, 0, none⟩ = some (.slice av2 Tm.length cv2) := by rw [cell_of_row w18 _ _ _ _ _ Hb19.out]; rfl
            go_wp2_with (go_at_call 19; fail)
            refine (C.sets _ _ Tm (C.keep HE.out HB.out) HFv2.out).mono ?_
            rintro e w19 ⟨⟨u4, rfl, hq⟩, b⟩
            replace HP : Hid (IsLL w19 (.slice ap Pm.length cp) Pm) := HP.out.below b
            replace HT : Hid (IsLL w19 (.slice at_ Tm.length ct) Tm) := HT.out.below b
            replace HB : Hid (Below w.heap.size w w19) := below_step HB.out b
            replace HFf : Hid (FV w19 (.agg #[.slice af X.length cf]) X) := HFf.out.below b
            replace HFg : Hid (FV w19 (.agg #[.slice ag Y.length cg]) Y) := HFg.out.below b
            replace HFv1 : Hid (FV w19 (.agg #[.slice av1 Pm.length cv1]) Pm) := HFv1.out.below b
            replace HFv2 : Hid (FV w19 (.agg #[.slice av2 Tm.length cv2]) Tm) := HFv2.out.below b
            replace Hb9 : Hid (w19.heap[w1.heap.size]? = some (.cells #[.slice af X.length cf] 27)) := (b.block (w1.heap.size) (Array.getElem?_eq_some_iff.1 Hb9.out).1).trans Hb9.out
            replace Hb11 : Hid (w19.heap[w2.heap.size]? = some (.cells #[.slice ag Y.length cg] 27)) := (b.block (w2.heap.size) (Array.getElem?_eq_some_iff.1 Hb11.out).1).trans Hb11.out
            replace Hb17 : Hid (w19.heap[w15.heap.size]? = some (.cells #[.slice av1 Pm.length cv1] 27)) := (b.block (w15.heap.size) (Array.getElem?_eq_some_iff.1 Hb17.out).1).trans Hb17.out
            replace Hb19 : Hid (w19.heap[w16.heap.size]? = some (.cells #[.slice av2 Tm.length cv2] 27)) := (b.block (w16.heap.size) (Array.getElem?_eq_some_iff.1 Hb19.out).1).trans Hb19.out
            have HU4 : Hid (IsLL w19 u4 Tm) := hq
            clear hq hk19
            clear b
            go_wp2_with (go_at_call 18; fail)
            refine (rlists_any _ u4 _ Tm Tm true HU4.out HT.out ⟨fun _ => rfl, fun _ => rfl⟩).mono ?_
            rintro e w20 ⟨rfl, b⟩
            replace HP : Hid (IsLL w20 (.slice ap Pm.length cp) Pm) := HP.out.below b
            replace HT : Hid (IsLL w20 (.slice at_ Tm.length ct) Tm) := HT.out.below b
            replace HU4 : Hid (IsLL w20 u4 Tm) := HU4.out.below b
            replace HB : Hid (Below w.heap.size w w20) := below_step HB.out b
            replace HFf : Hid (FV w20 (.agg #[.slice af X.length cf]) X) := HFf.out.below b
            replace HFg : Hid (FV w20 (.agg #[.slice ag Y.length cg]) Y) := HFg.out.below b
            replace HFv1 : Hid (FV w20 (.agg #[.slice av1 Pm.length cv1]) Pm) := HFv1.out.below b
            replace HFv2 : Hid (FV w20 (.agg #[.slice av2 Tm.length cv2]) Tm) := HFv2.out.below b
            replace Hb9 : Hid (w20.heap[w1.heap.size]? = some (.cells #[.slice af X.length cf] 27)) := (b.block (w1.heap.size) (Array.getElem?_eq_some_iff.1 Hb9.out).1).trans Hb9.out
            replace Hb11 : Hid (w20.heap[w2.heap.size]? = some (.cells #[.slice ag Y.length cg] 27)) := (b.block (w2.heap.size) (Array.getElem?_eq_some_iff.1 Hb11.out).1).trans Hb11.out
            replace Hb17 : Hid (w20.heap[w15.heap.size]? = some (.cells #[.slice av1 Pm.length cv1] 27)) := (b.block (w15.heap.size) (Array.getElem?_eq_some_iff.1 Hb17.out).1).trans Hb17.out
            replace Hb19 : Hid (w20.heap[w16.heap.size]? = some (.cells #[.slice av2 Tm.length cv2] 27)) := (b.block (w16.heap.size) (Array.getElem?_eq_some_iff.1 Hb19.out).1).trans Hb19.out
            clear b
            clear HU4
            go_wp2_with (go_at_call 10; fail)
            refine (awake_of C _ (C.keep HE.out HB.out)).mono ?_
            rintro e xx ⟨rfl, b⟩
            have HBx : Hid (Below w.heap.size w xx) := below_step HB.out b
            clear b HB
            go_wp2
            go_ret
            exact ⟨rfl, HBx.out⟩
          · skip
            have HOTv : Hid (ovB Tm bud = true) := hot
            clear hot
            replace HP : Hid (IsLL w16 (.slice ap Pm.length cp) Pm) := HP.out.below b
            replace HT : Hid (IsLL w16 (.slice at_ Tm.length ct) Tm) := HT.out.below b
            replace HB : Hid (Below w.heap.size w w16) := below_step HB.out b
            replace HFf : Hid (FV w16 (.agg #[.slice af X.length cf]) X) := HFf.out.below b
            replace HFg : Hid (FV w16 (.agg #[.slice ag Y.length cg]) Y) := HFg.out.below b
            replace HFv1 : Hid (FV w16 (.agg #[.slice av1 Pm.length cv1]) Pm) := HFv1.out.below b
            replace Hb9 : Hid (w16.heap[w1.heap.size]? = some (.cells #[.slice af X.length cf] 27)) := (b.block (w1.heap.size) (Array.getElem?_eq_some_iff.1 Hb9.out).1).trans Hb9.out
            replace Hb11 : Hid (w16.heap[w2.heap.size]? = some (.cells #[.slice ag Y.length cg] 27)) := (b.block (w2.heap.size) (Array.getElem?_eq_some_iff.1 Hb11.out).1).trans Hb11.out
            replace Hb17 : Hid (w16.heap[w15.heap.size]? = some (.cells #[.slice av1 Pm.length cv1] 27)) := (b.block (w15.heap.size) (Array.getElem?_eq_some_iff.1 Hb17.out).1).trans Hb17.out
            obtain ⟨av2, cv2, Vv2, rfl, hrest⟩ := id hf
            have HFv2 : Hid (FV w16 (.agg #[.slice av2 0 cv2]) (([] : List (List Int)))) := hf
            clear hrest hf b
            go_upto_region 19 with fail
            obtain ⟨X19, hW⟩ : ∃ X19, X19 = w16.alloc (.cells #[.slice av2 0 cv2] 27) := ⟨_, rfl⟩
            rw [← hW]
            have b : Below w16.heap.size w16 X19 := by rw [hW]; exact below1 _ _
            have Hb19 : Hid (X19.heap[w16.heap.size]? = some (.cells #[.slice av2 0 cv2] 27)) := by show X19.heap[_]? = _; rw [hW]; exact heap_new1 _ _
            have HBx19 : Hid (w.heap.size ≤ w16.heap.size) := HB.out.size
            have dl9_19 : w1.heap.size < w16.heap.size := (Array.getElem?_eq_some_iff.1 Hb9.out).1
            have dl11_19 : w2.heap.size < w16.heap.size := (Array.getElem?_eq_some_iff.1 Hb11.out).1
            have dl17_19 : w15.heap.size < w16.heap.size := (Array.getElem?_eq_some_iff.1 Hb17.out).1
            clear hW
            replace HP : Hid (IsLL X19 (.slice ap Pm.length cp) Pm) := HP.out.below b
            replace HT : Hid (IsLL X19 (.slice at_ Tm.length ct) Tm) := HT.out.below b
            replace HB : Hid (Below w.heap.size w X19) := below_step HB.out b
            replace HFf : Hid (FV X19 (.agg #[.slice af X.length cf]) X) := HFf.out.below b
            replace HFg : Hid (FV X19 (.agg #[.slice ag Y.length cg]) Y) := HFg.out.below b
            replace HFv1 : Hid (FV X19 (.agg #[.slice av1 Pm.length cv1]) Pm) := HFv1.out.below b
            replace HFv2 : Hid (FV X19 (.agg #[.slice av2 0 cv2]) (([] : List (List Int)))) := HFv2.out.below b
            replace Hb9 : Hid (X19.heap[w1.heap.size]? = some (.cells #[.slice af X.length cf] 27)) := (b.block (w1.heap.size) (Array.getElem?_eq_some_iff.1 Hb9.out).1).trans Hb9.out
            replace Hb11 : Hid (X19.heap[w2.heap.size]? = some (.cells #[.slice ag Y.length cg] 27)) := (b.block (w2.heap.size) (Array.getElem?_eq_some_iff.1 Hb11.out).1).trans Hb11.out
            replace Hb17 : Hid (X19.heap[w15.heap.size]? = some (.cells #[.slice av1 Pm.length cv1] 27)) := (b.block (w15.heap.size) (Array.getElem?_eq_some_iff.1 Hb17.out).1).trans Hb17.out
            clear b
            go_wp2_with (go_at_call 25; fail)
            refine (rover_any _ ap Pm.length cp bud false (by omega) HOPv.out).mono ?_
            rintro e w' ⟨rfl, hw⟩
            replace hw := hw.symm
            subst hw
            have hk17 : X19.cell? ⟨w15.heap.size, 0, none⟩ = some (.slice av1 Pm.length cv1) := by rw [cell_of_row X19 _ _ _ _ _ Hb17.out]; rfl
            go_wp2_with (go_at_call 19; fail)
            refine (C.sets _ _ Pm (C.keep HE.out HB.out) HFv1.out).mono ?_
            rintro e w17 ⟨⟨u4, rfl, hq⟩, b⟩
            replace HP : Hid (IsLL w17 (.slice ap Pm.length cp) Pm) := HP.out.below b
            replace HT : Hid (IsLL w17 (.slice at_ Tm.length ct) Tm) := HT.out.below b
            replace HB : Hid (Below w.heap.size w w17) := below_step HB.out b
            replace HFf : Hid (FV w17 (.agg #[.slice af X.length cf]) X) := HFf.out.below b
            replace HFg : Hid (FV w17 (.agg #[.slice ag Y.length cg]) Y) := HFg.out.below b
            replace HFv1 : Hid (FV w17 (.agg #[.slice av1 Pm.length cv1]) Pm) := HFv1.out.below b
            replace HFv2 : Hid (FV w17 (.agg #[.slice av2 0 cv2]) (([] : List (List Int)))) := HFv2.out.below b
            replace Hb9 : Hid (w17.heap[w1.heap.size]? = some (.cells #[.slice af X.length cf] 27)) := (b.block (w1.heap.size) (Array.getElem?_eq_some_iff.1 Hb9.out).1).trans Hb9.out
            replace Hb11 : Hid (w17.heap[w2.heap.size]? = some (.cells #[.slice ag Y.length cg] 27)) := (b.block (w2.heap.size) (Array.getElem?_eq_some_iff.1 Hb11.out).1).trans Hb11.out
            replace Hb17 : Hid (w17.heap[w15.heap.size]? = some (.cells #[.slice av1 Pm.length cv1] 27)) := (b.block (w15.heap.size) (Array.getElem?_eq_some_iff.1 Hb17.out).1).trans Hb17.out
            replace Hb19 : Hid (w17.heap[w16.heap.size]? = some (.cells #[.slice av2 0 cv2] 27)) := (b.block (w16.heap.size) (Array.getElem?_eq_some_iff.1 Hb19.out).1).trans Hb19.out
            have HU4 : Hid (IsLL w17 u4 Pm) := hq
            clear hq hk17
            clear b
            go_wp2_with (go_at_call 18; fail)
            refine (rlists_any _ u4 _ Pm Pm true HU4.out HP.out ⟨fun _ => rfl, fun _ => rfl⟩).mono ?_
            rintro e w18 ⟨rfl, b⟩
            replace HP : Hid (IsLL w18 (.slice ap Pm.length cp) Pm) := HP.out.below b
            replace HT : Hid (IsLL w18 (.slice at_ Tm.length ct) Tm) := HT.out.below b
            replace HU4 : Hid (IsLL w18 u4 Pm) := HU4.out.below b
            replace HB : Hid (Below w.heap.size w w18) := below_step HB.out b
            replace HFf : Hid (FV w18 (.agg #[.slice af X.length cf]) X) := HFf.out.below b
            replace HFg : Hid (FV w18 (.agg #[.slice ag Y.length cg]) Y) := HFg.out.below b
            replace HFv1 : Hid (FV w18 (.agg #[.slice av1 Pm.length cv1]) Pm) := HFv1.out.below b
            replace HFv2 : Hid (FV w18 (.agg #[.slice av2 0 cv2]) (([] : List (List Int)))) := HFv2.out.below b
            replace Hb9 : Hid (w18.heap[w1.heap.size]? = some (.cells #[.slice af X.length cf] 27)) := (b.block (w1.heap.size) (Array.getElem?_eq_some_iff.1 Hb9.out).1).trans Hb9.out
            replace Hb11 : Hid (w18.heap[w2.heap.size]? = some (.cells #[.slice ag Y.length cg] 27)) := (b.block (w2.heap.size) (Array.getElem?_eq_some_iff.1 Hb11.out).1).trans Hb11.out
            replace Hb17 : Hid (w18.heap[w15.heap.size]? = some (.cells #[.slice av1 Pm.length cv1] 27)) := (b.block (w15.heap.size) (Array.getElem?_eq_some_iff.1 Hb17.out).1).trans Hb17.out
            replace Hb19 : Hid (w18.heap[w16.heap.size]? = some (.cells #[.slice av2 0 cv2] 27)) := (b.block (w16.heap.size) (Array.getElem?_eq_some_iff.1 Hb19.out).1).trans Hb19.out
            clear b
            clear HU4
            go_wp2_with (go_at_call 25; fail)
            refine (rover_any _ at_ Tm.length ct bud true (by omega) HOTv.out).mono ?_
            rintro e w' ⟨rfl, hw⟩
            replace hw := hw.symm
            subst hw
            have hk19 : w18.cell? ⟨w16.heap.size, 0, none⟩ = some (.slice av2 0 cv2) := by rw [cell_of_row w18 _ _ _ _ _ Hb19.out]; rfl
            go_wp2_with (go_at_call 16; fail)
            refine (C.len _ _ [] 0 (C.keep HE.out HB.out) HFv2.out rfl).mono ?_
            rintro e w19 ⟨rfl, b⟩
            replace HP : Hid (IsLL w19 (.slice ap Pm.length cp) Pm) := HP.out.below b
            replace HT : Hid (IsLL w19 (.slice at_ Tm.length ct) Tm) := HT.out.below b
            replace HB : Hid (Below w.heap.size w w19) := below_step HB.out b
            replace HFf : Hid (FV w19 (.agg #[.slice af X.length cf]) X) := HFf.out.below b
            replace HFg : Hid (FV w19 (.agg #[.slice ag Y.length cg]) Y) := HFg.out.below b
            replace HFv1 : Hid (FV w19 (.agg #[.slice av1 Pm.length cv1]) Pm) := HFv1.out.below b
            replace HFv2 : Hid (FV w19 (.agg #[.slice av2 0 cv2]) (([] : List (List Int)))) := HFv2.out.below b
            replace Hb9 : Hid (w19.heap[w1.heap.size]? = some (.cells #[.slice af X.length cf] 27)) := (b.block (w1.heap.size) (Array.getElem?_eq_some_iff.1 Hb9.out).1).trans Hb9.out
            replace Hb11 : Hid (w19.heap[w2.heap.size]? = some (.cells #[.slice ag Y.length cg] 27)) := (b.block (w2.heap.size) (Array.getElem?_eq_some_iff.1 Hb11.out).1).trans Hb11.out
            replace Hb17 : Hid (w19.heap[w15.heap.size]? = some (.cells #[.slice av1 Pm.length cv1] 27)) := (b.block (w15.heap.size) (Array.getElem?_eq_some_iff.1 Hb17.out).1).trans Hb17.out
            replace Hb19 : Hid (w19.heap[w16.heap.size]? = some (.cells #[.slice av2 0 cv2] 27)) := (b.block (w16.heap.size) (Array.getElem?_eq_some_iff.1 Hb19.out).1).trans Hb19.out
            clear hk19
            clear b
            go_wp2_with (go_at_call 10; fail)
            refine (awake_of C _ (C.keep HE.out HB.out)).mono ?_
            rintro e xx ⟨rfl, b⟩
            have HBx : Hid (Below w.heap.size w xx) := below_step HB.out b
            clear b HB
            go_wp2
            go_ret
            exact ⟨rfl, HBx.out⟩
        · skip
          have HOPv : Hid (ovB Pm bud = true) := hop
          clear hop
          replace HP : Hid (IsLL w15 (.slice ap Pm.length cp) Pm) := HP.out.below b
          replace HT : Hid (IsLL w15 (.slice at_ Tm.length ct) Tm) := HT.out.below b
          replace HB : Hid (Below w.heap.size w w15) := below_step HB.out b
          replace HFf : Hid (FV w15 (.agg #[.slice af X.length cf]) X) := HFf.out.below b
          replace HFg : Hid (FV w15 (.agg #[.slice ag Y.length cg]) Y) := HFg.out.below b
          replace Hb9 : Hid (w15.heap[w1.heap.size]? = some (.cells #[.slice af X.length cf] 27)) := (b.block (w1.heap.size) (Array.getElem?_eq_some_iff.1 Hb9.out).1).trans Hb9.out
          replace Hb11 : Hid (w15.heap[w2.heap.size]? = some (.cells #[.slice ag Y.length cg] 27)) := (b.block (w2.heap.size) (Array.getElem?_eq_some_iff.1 Hb11.out).1).trans Hb11.out
          obtain ⟨av1, cv1, Vv1, rfl, hrest⟩ := id hf
          have HFv1 : Hid (FV w15 (.agg #[.slice av1 0 cv1]) (([] : List (List Int)))) := hf
          clear hrest hf b
          go_upto_region 18 with fail
          obtain ⟨X17, hW⟩ : ∃ X17, X17 = w15.alloc (.cells #[.slice av1 0 cv1] 27) := ⟨_, rfl⟩
          rw [← hW]
          have b : Below w15.heap.size w15 X17 := by rw [hW]; exact below1 _ _
          have Hb17 : Hid (X17.heap[w15.heap.size]? = some (.cells #[.slice av1 0 cv1] 27)) := by show X17.heap[_]? = _; rw [hW]; exact heap_new1 _ _
          have HBx17 : Hid (w.heap.size ≤ w15.heap.size) := HB.out.size
          have dl9_17 : w1.heap.size < w15.heap.size := (Array.getElem?_eq_some_iff.1 Hb9.out).1
          have dl11_17 : w2.heap.size < w15.heap.size := (Array.getElem?_eq_some_iff.1 Hb11.out).1
          clear hW
          replace HP : Hid (IsLL X17 (.slice ap Pm.length cp) Pm) := HP.out.below b
          replace HT : Hid (IsLL X17 (.slice at_ Tm.length ct) Tm) := HT.out.below b
          replace HB : Hid (Below w.heap.size w X17) := below_step HB.out b
          replace HFf : Hid (FV X17 (.agg #[.slice af X.length cf]) X) := HFf.out.below b
          replace HFg : Hid (FV X17 (.agg #[.slice ag Y.length cg]) Y) := HFg.out.below b
          replace HFv1 : Hid (FV X17 (.agg #[.slice av1 0 cv1]) (([] : List (List Int)))) := HFv1.out.below b
          replace Hb9 : Hid (X17.heap[w1.heap.size]? = some (.cells #[.slice af X.length cf] 27)) := (b.block (w1.heap.size) (Array.getElem?_eq_some_iff.1 Hb9.out).1).trans Hb9.out
          replace Hb11 : Hid (X17.heap[w2.heap.size]? = some (.cells #[.slice ag Y.length cg] 27)) := (b.block (w2.heap.size) (Array.getElem?_eq_some_iff.1 Hb11.out).1).trans Hb11.out
          clear b
          have hk9 : X17.cell? ⟨w1.heap.size, 0, none⟩ = some (.slice af X.length cf) := by rw [cell_of_row X17 _ _ _ _ _ Hb9.out]; rfl
          have hk11 : X17.cell? ⟨w2.heap.size, 0, none⟩ = some (.slice ag Y.length cg) := by rw [cell_of_row X17 _ _ _ _ _ Hb11.out]; rfl
          go_wp2_with (go_at_call 24; fail)
          refine (C.times _ _ _ X Y Tm _ (C.keep HE.out HB.out) HFf.out HFg.out HOf.out.1 HOg.out.1 HOt.out (Nat.le_trans HFG.out (by decide)) (fun j hj => Nat.le_trans (HFn.out j hj) (by decide)) (fun j hj => Nat.le_trans (HGn.out j hj) (by decide))).mono ?_
          rintro e w16 ⟨hr, b⟩
          clear hk9 hk11
          rcases hr with ⟨hot, u, rfl, hf⟩ | ⟨hot, u, rfl, hf⟩
          · skip
            have HOTv : Hid (ovB Tm bud = false) := hot
            clear hot
            replace HP : Hid (IsLL w16 (.slice ap Pm.length cp) Pm) := HP.out.below b
            replace HT : Hid (IsLL w16 (.slice at_ Tm.length ct) Tm) := HT.out.below b
            replace HB : Hid (Below w.heap.size w w16) := below_step HB.out b
            replace HFf : Hid (FV w16 (.agg #[.slice af X.length cf]) X) := HFf.out.below b
            replace HFg : Hid (FV w16 (.agg #[.slice ag Y.length cg]) Y) := HFg.out.below b
            replace HFv1 : Hid (FV w16 (.agg #[.slice av1 0 cv1]) (([] : List (List Int)))) := HFv1.out.below b
            replace Hb9 : Hid (w16.heap[w1.heap.size]? = some (.cells #[.slice af X.length cf] 27)) := (b.block (w1.heap.size) (Array.getElem?_eq_some_iff.1 Hb9.out).1).trans Hb9.out
            replace Hb11 : Hid (w16.heap[w2.heap.size]? = some (.cells #[.slice ag Y.length cg] 27)) := (b.block (w2.heap.size) (Array.getElem?_eq_some_iff.1 Hb11.out).1).trans Hb11.out
            replace Hb17 : Hid (w16.heap[w15.heap.size]? = some (.cells #[.slice av1 0 cv1] 27)) := (b.block (w15.heap.size) (Array.getElem?_eq_some_iff.1 Hb17.out).1).trans Hb17.out
            obtain ⟨av2, cv2, Vv2, rfl, hrest⟩ := id hf
            have HFv2 : Hid (FV w16 (.agg #[.slice av2 Tm.length cv2]) Tm) := hf
            clear hrest hf b
            go_upto_region 19 with fail
            obtain ⟨X19, hW⟩ : ∃ X19, X19 = w16.alloc (.cells #[.slice av2 Tm.length cv2] 27) := ⟨_, rfl⟩
            rw [← hW]
            have b : Below w16.heap.size w16 X19 := by rw [hW]; exact below1 _ _
            have Hb19 : Hid (X19.heap[w16.heap.size]? = some (.cells #[.slice av2 Tm.length cv2] 27)) := by show X19.heap[_]? = _; rw [hW]; exact heap_new1 _ _
            have HBx19 : Hid (w.heap.size ≤ w16.heap.size) := HB.out.size
            have dl9_19 : w1.heap.size < w16.heap.size := (Array.getElem?_eq_some_iff.1 Hb9.out).1
            have dl11_19 : w2.heap.size < w16.heap.size := (Array.getElem?_eq_some_iff.1 Hb11.out).1
            have dl17_19 : w15.heap.size < w16.heap.size := (Array.getElem?_eq_some_iff.1 Hb17.out).1
            clear hW
            replace HP : Hid (IsLL X19 (.slice ap Pm.length cp) Pm) := HP.out.below b
            replace HT : Hid (IsLL X19 (.slice at_ Tm.length ct) Tm) := HT.out.below b
            replace HB : Hid (Below w.heap.size w X19) := below_step HB.out b
            replace HFf : Hid (FV X19 (.agg #[.slice af X.length cf]) X) := HFf.out.below b
            replace HFg : Hid (FV X19 (.agg #[.slice ag Y.length cg]) Y) := HFg.out.below b
            replace HFv1 : Hid (FV X19 (.agg #[.slice av1 0 cv1]) (([] : List (List Int)))) := HFv1.out.below b
            replace HFv2 : Hid (FV X19 (.agg #[.slice av2 Tm.length cv2]) Tm) := HFv2.out.below b
            replace Hb9 : Hid (X19.heap[w1.heap.size]? = some (.cells #[.slice af X.length cf] 27)) := (b.block (w1.heap.size) (Array.getElem?_eq_some_iff.1 Hb9.out).1).trans Hb9.out
            replace Hb11 : Hid (X19.heap[w2.heap.size]? = some (.cells #[.slice ag Y.length cg] 27)) := (b.block (w2.heap.size) (Array.getElem?_eq_some_iff.1 Hb11.out).1).trans Hb11.out
            replace Hb17 : Hid (X19.heap[w15.heap.size]? = some (.cells #[.slice av1 0 cv1] 27)) := (b.block (w15.heap.size) (Array.getElem?_eq_some_iff.1 Hb17.out).1).trans Hb17.out
            clear b
            go_wp2_with (go_at_call 25; fail)
            refine (rover_any _ ap Pm.length cp bud true (by omega) HOPv.out).mono ?_
            rintro e w' ⟨rfl, hw⟩
            replace hw := hw.symm
            subst hw
            have hk17 : X19.cell? ⟨w15.heap.size, 0, none⟩ = some (.slice av1 0 cv1) := by rw [cell_of_row X19 _ _ _ _ _ Hb17.out]; rfl
            go_wp2_with (go_at_call 16; fail)
            refine (C.len _ _ [] 0 (C.keep HE.out HB.out) HFv1.out rfl).mono ?_
            rintro e w17 ⟨rfl, b⟩
            replace HP : Hid (IsLL w17 (.slice ap Pm.length cp) Pm) := HP.out.below b
            replace HT : Hid (IsLL w17 (.slice at_ Tm.length ct) Tm) := HT.out.below b
            replace HB : Hid (Below w.heap.size w w17) := below_step HB.out b
            replace HFf : Hid (FV w17 (.agg #[.slice af X.length cf]) X) := HFf.out.below b
            replace HFg : Hid (FV w17 (.agg #[.slice ag Y.length cg]) Y) := HFg.out.below b
            replace HFv1 : Hid (FV w17 (.agg #[.slice av1 0 cv1]) (([] : List (List Int)))) := HFv1.out.below b
            replace HFv2 : Hid (FV w17 (.agg #[.slice av2 Tm.length cv2]) Tm) := HFv2.out.below b
            replace Hb9 : Hid (w17.heap[w1.heap.size]? = some (.cells #[.slice af X.length cf] 27)) := (b.block (w1.heap.size) (Array.getElem?_eq_some_iff.1 Hb9.out).1).trans Hb9.out
            replace Hb11 : Hid (w17.heap[w2.heap.size]? = some (.cells #[.slice ag Y.length cg] 27)) := (b.block (w2.heap.size) (Array.getElem?_eq_some_iff.1 Hb11.out).1).trans Hb11.out
            replace Hb17 : Hid (w17.heap[w15.heap.size]? = some (.cells #[.slice av1 0 cv1] 27)) := (b.block (w15.heap.size) (Array.getElem?_eq_some_iff.1 Hb17.out).1).trans Hb17.out
            replace Hb19 : Hid (w17.heap[w16.heap.size]? = some (.cells #[.slice av2 Tm.length cv2] 27)) := (b.block (w16.heap.size) (Array.getElem?_eq_some_iff.1 Hb19.out).1).trans Hb19.out
            clear hk17
            clear b
            go_wp2_with (go_at_call 25; fail)
            refine (rover_any _ at_ Tm.length ct bud false (by omega) HOTv.out).mono ?_
            rintro e w' ⟨rfl, hw⟩
            replace hw := hw.symm
            subst hw
            have hk19 : w17.cell? ⟨w16.heap.size, 0, none⟩ = some (.slice av2 Tm.length cv2) := by rw [cell_of_row w17 _ _ _ _ _ Hb19.out]; rfl
            go_wp2_with (go_at_call 19; fail)
            refine (C.sets _ _ Tm (C.keep HE.out HB.out) HFv2.out).mono ?_
            rintro e w18 ⟨⟨u4, rfl, hq⟩, b⟩
            replace HP : Hid (IsLL w18 (.slice ap Pm.length cp) Pm) := HP.out.below b
            replace HT : Hid (IsLL w18 (.slice at_ Tm.length ct) Tm) := HT.out.below b
            replace HB : Hid (Below w.heap.size w w18) := below_step HB.out b
            replace HFf : Hid (FV w18 (.agg #[.slice af X.length cf]) X) := HFf.out.below b
            replace HFg : Hid (FV w18 (.agg #[.slice ag Y.length cg]) Y) := HFg.out.below b
            replace HFv1 : Hid (FV w18 (.agg #[.slice av1 0 cv1]) (([] : List (List Int)))) := HFv1.out.below b
            replace HFv2 : Hid (FV w18 (.agg #[.slice av2 Tm.length cv2]) Tm) := HFv2.out.below b
            replace Hb9 : Hid (w18.heap[w1.heap.size]? = some (.cells #[.slice af X.length cf] 27)) := (b.block (w1.heap.size) (Array.getElem?_eq_some_iff.1 Hb9.out).1).trans Hb9.out
            replace Hb11 : Hid (w18.heap[w2.heap.size]? = some (.cells #[.slice ag Y.length cg] 27)) := (b.block (w2.heap.size) (Array.getElem?_eq_some_iff.1 Hb11.out).1).trans Hb11.out
            replace Hb17 : Hid (w18.heap[w15.heap.size]? = some (.cells #[.slice av1 0 cv1] 27)) := (b.block (w15.heap.size) (Array.getElem?_eq_some_iff.1 Hb17.out).1).trans Hb17.out
            replace Hb19 : Hid (w18.heap[w16.heap.size]? = some (.cells #[.slice av2 Tm.length cv2] 27)) := (b.block (w16.heap.size) (Array.getElem?_eq_some_iff.1 Hb19.out).1).trans Hb19.out
            have HU4 : Hid (IsLL w18 u4 Tm) := hq
            clear hq hk19
            clear b
            go_wp2_with (go_at_call 18; fail)
            refine (rlists_any _ u4 _ Tm Tm true HU4.out HT.out ⟨fun _ => rfl, fun _ => rfl⟩).mono ?_
            rintro e w19 ⟨rfl, b⟩
            replace HP : Hid (IsLL w19 (.slice ap Pm.length cp) Pm) := HP.out.below b
            replace HT : Hid (IsLL w19 (.slice at_ Tm.length ct) Tm) := HT.out.below b
            replace HU4 : Hid (IsLL w19 u4 Tm) := HU4.out.below b
            replace HB : Hid (Below w.heap.size w w19) := below_step HB.out b
            replace HFf : Hid (FV w19 (.agg #[.slice af X.length cf]) X) := HFf.out.below b
            replace HFg : Hid (FV w19 (.agg #[.slice ag Y.length cg]) Y) := HFg.out.below b
            replace HFv1 : Hid (FV w19 (.agg #[.slice av1 0 cv1]) (([] : List (List Int)))) := HFv1.out.below b
            replace HFv2 : Hid (FV w19 (.agg #[.slice av2 Tm.length cv2]) Tm) := HFv2.out.below b
            replace Hb9 : Hid (w19.heap[w1.heap.size]? = some (.cells #[.slice af X.length cf] 27)) := (b.block (w1.heap.size) (Array.getElem?_eq_some_iff.1 Hb9.out).1).trans Hb9.out
            replace Hb11 : Hid (w19.heap[w2.heap.size]? = some (.cells #[.slice ag Y.length cg] 27)) := (b.block (w2.heap.size) (Array.getElem?_eq_some_iff.1 Hb11.out).1).trans Hb11.out
            replace Hb17 : Hid (w19.heap[w15.heap.size]? = some (.cells #[.slice av1 0 cv1] 27)) := (b.block (w15.heap.size) (Array.getElem?_eq_some_iff.1 Hb17.out).1).trans Hb17.out
            replace Hb19 : Hid (w19.heap[w16.heap.size]? = some (.cells #[.slice av2 Tm.length cv2] 27)) := (b.block (w16.heap.size) (Array.getElem?_eq_some_iff.1 Hb19.out).1).trans Hb19.out
            clear b
            clear HU4
            go_wp2_with (go_at_call 10; fail)
            refine (awake_of C _ (C.keep HE.out HB.out)).mono ?_
            rintro e xx ⟨rfl, b⟩
            have HBx : Hid (Below w.heap.size w xx) := below_step HB.out b
            clear b HB
            go_wp2
            go_ret
            exact ⟨rfl, HBx.out⟩
          · skip
            have HOTv : Hid (ovB Tm bud = true) := hot
            clear hot
            replace HP : Hid (IsLL w16 (.slice ap Pm.length cp) Pm) := HP.out.below b
            replace HT : Hid (IsLL w16 (.slice at_ Tm.length ct) Tm) := HT.out.below b
            replace HB : Hid (Below w.heap.size w w16) := below_step HB.out b
            replace HFf : Hid (FV w16 (.agg #[.slice af X.length cf]) X) := HFf.out.below b
            replace HFg : Hid (FV w16 (.agg #[.slice ag Y.length cg]) Y) := HFg.out.below b
            replace HFv1 : Hid (FV w16 (.agg #[.slice av1 0 cv1]) (([] : List (List Int)))) := HFv1.out.below b
            replace Hb9 : Hid (w16.heap[w1.heap.size]? = some (.cells #[.slice af X.length cf] 27)) := (b.block (w1.heap.size) (Array.getElem?_eq_some_iff.1 Hb9.out).1).trans Hb9.out
            replace Hb11 : Hid (w16.heap[w2.heap.size]? = some (.cells #[.slice ag Y.length cg] 27)) := (b.block (w2.heap.size) (Array.getElem?_eq_some_iff.1 Hb11.out).1).trans Hb11.out
            replace Hb17 : Hid (w16.heap[w15.heap.size]? = some (.cells #[.slice av1 0 cv1] 27)) := (b.block (w15.heap.size) (Array.getElem?_eq_some_iff.1 Hb17.out).1).trans Hb17.out
            obtain ⟨av2, cv2, Vv2, rfl, hrest⟩ := id hf
            have HFv2 : Hid (FV w16 (.agg #[.slice av2 0 cv2]) (([] : List (List Int)))) := hf
            clear hrest hf b
            go_upto_region 19 with fail
            obtain ⟨X19, hW⟩ : ∃ X19, X19 = w16.alloc (.cells #[.slice av2 0 cv2] 27) := ⟨_, rfl⟩
            rw [← hW]
            have b : Below w16.heap.size w16 X19 := by rw [hW]; exact below1 _ _
            have Hb19 : Hid (X19.heap[w16.heap.size]? = some (.cells #[.slice av2 0 cv2] 27)) := by show X19.heap[_]? = _; rw [hW]; exact heap_new1 _ _
            have HBx19 : Hid (w.heap.size ≤ w16.heap.size) := HB.out.size
            have dl9_19 : w1.heap.size < w16.heap.size := (Array.getElem?_eq_some_iff.1 Hb9.out).1
            have dl11_19 : w2.heap.size < w16.heap.size := (Array.getElem?_eq_some_iff.1 Hb11.out).1
            have dl17_19 : w15.heap.size < w16.heap.size := (Array.getElem?_eq_some_iff.1 Hb17.out).1
            clear hW
            replace HP : Hid (IsLL X19 (.slice ap Pm.length cp) Pm) := HP.out.below b
            replace HT : Hid (IsLL X19 (.slice at_ Tm.length ct) Tm) := HT.out.below b
            replace HB : Hid (Below w.heap.size w X19) := below_step HB.out b
            replace HFf : Hid (FV X19 (.agg #[.slice af X.length cf]) X) := HFf.out.below b
            replace HFg : Hid (FV X19 (.agg #[.slice ag Y.length cg]) Y) := HFg.out.below b
            replace HFv1 : Hid (FV X19 (.agg #[.slice av1 0 cv1]) (([] : List (List Int)))) := HFv1.out.below b
            replace HFv2 : Hid (FV X19 (.agg #[.slice av2 0 cv2]) (([] : List (List Int)))) := HFv2.out.below b
            replace Hb9 : Hid (X19.heap[w1.heap.size]? = some (.cells #[.slice af X.length cf] 27)) := (b.block (w1.heap.size) (Array.getElem?_eq_some_iff.1 Hb9.out).1).trans Hb9.out
            replace Hb11 : Hid (X19.heap[w2.heap.size]? = some (.cells #[.slice ag Y.length cg] 27)) := (b.block (w2.heap.size) (Array.getElem?_eq_some_iff.1 Hb11.out).1).trans Hb11.out
            replace Hb17 : Hid (X19.heap[w15.heap.size]? = some (.cells #[.slice av1 0 cv1] 27)) := (b.block (w15.heap.size) (Array.getElem?_eq_some_iff.1 Hb17.out).1).trans Hb17.out
            clear b
            go_wp2_with (go_at_call 25; fail)
            refine (rover_any _ ap Pm.length cp bud true (by omega) HOPv.out).mono ?_
            rintro e w' ⟨rfl, hw⟩
            replace hw := hw.symm
            subst hw
            have hk17 : X19.cell? ⟨w15.heap.size, 0, none⟩ = some (.slice av1 0 cv1) := by rw [cell_of_row X19 _ _ _ _ _ Hb17.out]; rfl
            go_wp2_with (go_at_call 16; fail)
            refine (C.len _ _ [] 0 (C.keep HE.out HB.out) HFv1.out rfl).mono ?_
            rintro e w17 ⟨rfl, b⟩
            replace HP : Hid (IsLL w17 (.slice ap Pm.length cp) Pm) := HP.out.below b
            replace HT : Hid (IsLL w17 (.slice at_ Tm.length ct) Tm) := HT.out.below b
            replace HB : Hid (Below w.heap.size w w17) := below_step HB.out b
            replace HFf : Hid (FV w17 (.agg #[.slice af X.length cf]) X) := HFf.out.below b
            replace HFg : Hid (FV w17 (.agg #[.slice ag Y.length cg]) Y) := HFg.out.below b
            replace HFv1 : Hid (FV w17 (.agg #[.slice av1 0 cv1]) (([] : List (List Int)))) := HFv1.out.below b
            replace HFv2 : Hid (FV w17 (.agg #[.slice av2 0 cv2]) (([] : List (List Int)))) := HFv2.out.below b
            replace Hb9 : Hid (w17.heap[w1.heap.size]? = some (.cells #[.slice af X.length cf] 27)) := (b.block (w1.heap.size) (Array.getElem?_eq_some_iff.1 Hb9.out).1).trans Hb9.out
            replace Hb11 : Hid (w17.heap[w2.heap.size]? = some (.cells #[.slice ag Y.length cg] 27)) := (b.block (w2.heap.size) (Array.getElem?_eq_some_iff.1 Hb11.out).1).trans Hb11.out
            replace Hb17 : Hid (w17.heap[w15.heap.size]? = some (.cells #[.slice av1 0 cv1] 27)) := (b.block (w15.heap.size) (Array.getElem?_eq_some_iff.1 Hb17.out).1).trans Hb17.out
            replace Hb19 : Hid (w17.heap[w16.heap.size]? = some (.cells #[.slice av2 0 cv2] 27)) := (b.block (w16.heap.size) (Array.getElem?_eq_some_iff.1 Hb19.out).1).trans Hb19.out
            clear hk17
            clear b
            go_wp2_with (go_at_call 25; fail)
            refine (rover_any _ at_ Tm.length ct bud true (by omega) HOTv.out).mono ?_
            rintro e w' ⟨rfl, hw⟩
            replace hw := hw.symm
            subst hw
            have hk19 : w17.cell? ⟨w16.heap.size, 0, none⟩ = some (.slice av2 0 cv2) := by rw [cell_of_row w17 _ _ _ _ _ Hb19.out]; rfl
            go_wp2_with (go_at_call 16; fail)
            refine (C.len _ _ [] 0 (C.keep HE.out HB.out) HFv2.out rfl).mono ?_
            rintro e w18 ⟨rfl, b⟩
            replace HP : Hid (IsLL w18 (.slice ap Pm.length cp) Pm) := HP.out.below b
            replace HT : Hid (IsLL w18 (.slice at_ Tm.length ct) Tm) := HT.out.below b
            replace HB : Hid (Below w.heap.size w w18) := below_step HB.out b
            replace HFf : Hid (FV w18 (.agg #[.slice af X.length cf]) X) := HFf.out.below b
            replace HFg : Hid (FV w18 (.agg #[.slice ag Y.length cg]) Y) := HFg.out.below b
            replace HFv1 : Hid (FV w18 (.agg #[.slice av1 0 cv1]) (([] : List (List Int)))) := HFv1.out.below b
            replace HFv2 : Hid (FV w18 (.agg #[.slice av2 0 cv2]) (([] : List (List Int)))) := HFv2.out.below b
            replace Hb9 : Hid (w18.heap[w1.heap.size]? = some (.cells #[.slice af X.length cf] 27)) := (b.block (w1.heap.size) (Array.getElem?_eq_some_iff.1 Hb9.out).1).trans Hb9.out
            replace Hb11 : Hid (w18.heap[w2.heap.size]? = some (.cells #[.slice ag Y.length cg] 27)) := (b.block (w2.heap.size) (Array.getElem?_eq_some_iff.1 Hb11.out).1).trans Hb11.out
            replace Hb17 : Hid (w18.heap[w15.heap.size]? = some (.cells #[.slice av1 0 cv1] 27)) := (b.block (w15.heap.size) (Array.getElem?_eq_some_iff.1 Hb17.out).1).trans Hb17.out
            replace Hb19 : Hid (w18.heap[w16.heap.size]? = some (.cells #[.slice av2 0 cv2] 27)) := (b.block (w16.heap.size) (Array.getElem?_eq_some_iff.1 Hb19.out).1).trans Hb19.out
            clear hk19
            clear b
            go_wp2_with (go_at_call 10; fail)
            refine (awake_of C _ (C.keep HE.out HB.out)).mono ?_
            rintro e xx ⟨rfl, b⟩
            have HBx : Hid (Below w.heap.size w xx) := below_step HB.out b
            clear b HB
            go_wp2
            go_ret
            exact ⟨rfl, HBx.out⟩
      · have HgR : Hid (¬ GoodP R) := hgr
        clear hgr
        go_wp2_with (go_at_call 11; fail)
        refine (C.of _ _ L (C.keep HE.out HB.out) HA.out (Nat.le_trans HL.out.1 (by decide)) (fun j hj => Nat.le_trans (HL.out.2 j hj) (by decide))).mono ?_
        rintro e w16 ⟨hr, b⟩
        rcases hr with ⟨-, u, F, rfl, hf, ho⟩ | ⟨hn, -⟩
        case inr => exact absurd HgL.out hn
        replace HS : Hid (IsL w16 (.slice aS S.length cS_) S) := HS.out.below b
        replace HA : Hid (IsLL w16 (.slice al L.length cl) L) := HA.out.below b
        replace HR : Hid (IsLL w16 (.slice ar R.length cr) R) := HR.out.below b
        replace HB : Hid (Below w.heap.size w w16) := below_step HB.out b
        obtain ⟨af, cf, Vf, rfl, hrest⟩ := id hf
        have HOf : Hid (FamOf L F) := ho
        have HFf : Hid (FV w16 (.agg #[.slice af F.length cf]) F) := hf
        clear hrest ho hf b
        go_upto_region 4 with fail
        obtain ⟨X9, hW⟩ : ∃ X9, X9 = w16.alloc (.cells #[.slice af F.length cf] 27) := ⟨_, rfl⟩
        rw [← hW]
        have b : Below w16.heap.size w16 X9 := by rw [hW]; exact below1 _ _
        have Hb9 : Hid (X9.heap[w16.heap.size]? = some (.cells #[.slice af F.length cf] 27)) := by show X9.heap[_]? = _; rw [hW]; exact heap_new1 _ _
        have HBx9 : Hid (w.heap.size ≤ w16.heap.size) := HB.out.size
        clear hW
        replace HS : Hid (IsL X9 (.slice aS S.length cS_) S) := HS.out.below b
        replace HA : Hid (IsLL X9 (.slice al L.length cl) L) := HA.out.below b
        replace HR : Hid (IsLL X9 (.slice ar R.length cr) R) := HR.out.below b
        replace HB : Hid (Below w.heap.size w X9) := below_step HB.out b
        replace HFf : Hid (FV X9 (.agg #[.slice af F.length cf]) F) := HFf.out.below b
        clear b
        go_wp2_with (go_at_call 11; fail)
        refine (C.of _ _ R (C.keep HE.out HB.out) HR.out (Nat.le_trans HRs.out.1 (by decide)) (fun j hj => Nat.le_trans (HRs.out.2 j hj) (by decide))).mono ?_
        rintro e w17 ⟨hr, b⟩
        rcases hr with ⟨hn, -⟩ | ⟨-, u, rfl, hf⟩
        case inl => exact absurd hn HgR.out
        replace HS : Hid (IsL w17 (.slice aS S.length cS_) S) := HS.out.below b
        replace HA : Hid (IsLL w17 (.slice al L.length cl) L) := HA.out.below b
        replace HR : Hid (IsLL w17 (.slice ar R.length cr) R) := HR.out.below b
        replace HB : Hid (Below w.heap.size w w17) := below_step HB.out b
        replace HFf : Hid (FV w17 (.agg #[.slice af F.length cf]) F) := HFf.out.below b
        replace Hb9 : Hid (w17.heap[w16.heap.size]? = some (.cells #[.slice af F.length cf] 27)) := (b.block (w16.heap.size) (Array.getElem?_eq_some_iff.1 Hb9.out).1).trans Hb9.out
        obtain ⟨ag, cg, Vg, rfl, hrest⟩ := id hf
        have HFg : Hid (FV w17 (.agg #[.slice ag 0 cg]) (([] : List (List Int)))) := hf
        clear hrest hf b
        go_upto_region 5 with fail
        obtain ⟨X11, hW⟩ : ∃ X11, X11 = w17.alloc (.cells #[.slice ag 0 cg] 27) := ⟨_, rfl⟩
        rw [← hW]
        have b : Below w17.heap.size w17 X11 := by rw [hW]; exact below1 _ _
        have Hb11 : Hid (X11.heap[w17.heap.size]? = some (.cells #[.slice ag 0 cg] 27)) := by show X11.heap[_]? = _; rw [hW]; exact heap_new1 _ _
        have HBx11 : Hid (w.heap.size ≤ w17.heap.size) := HB.out.size
        have dl9_11 : w16.heap.size < w17.heap.size := (Array.getElem?_eq_some_iff.1 Hb9.out).1
        clear hW
        replace HS : Hid (IsL X11 (.slice aS S.length cS_) S) := HS.out.below b
        replace HA : Hid (IsLL X11 (.slice al L.length cl) L) := HA.out.below b
        replace HR : Hid (IsLL X11 (.slice ar R.length cr) R) := HR.out.below b
        replace HB : Hid (Below w.heap.size w X11) := below_step HB.out b
        replace HFf : Hid (FV X11 (.agg #[.slice af F.length cf]) F) := HFf.out.below b
        replace HFg : Hid (FV X11 (.agg #[.slice ag 0 cg]) (([] : List (List Int)))) := HFg.out.below b
        replace Hb9 : Hid (X11.heap[w16.heap.size]? = some (.cells #[.slice af F.length cf] 27)) := (b.block (w16.heap.size) (Array.getElem?_eq_some_iff.1 Hb9.out).1).trans Hb9.out
        clear b
        go_wp2_with (go_at_call 12; fail)
        refine (agood_any _ _ L true HA.out ⟨fun _ => HgL.out, fun _ => rfl⟩).mono ?_
        rintro e w' ⟨rfl, hw⟩
        replace hw := hw.symm
        subst hw
        go_wp2_with (go_at_call 12; fail)
        refine (agood_any _ _ R false HR.out ⟨fun h => (by cases h), fun h => absurd h HgR.out⟩).mono ?_
        rintro e w' ⟨rfl, hw⟩
        replace hw := hw.symm
        subst hw
        go_wp2_with (go_at_call 14; fail)
        refine (sorted_all _ _ S HS.out (by have := HSl.out; omega)).mono ?_
        rintro e w18 ⟨⟨u1, R1, rfl, hq1, hq2, hq3, -, -⟩, b⟩
        replace HS : Hid (IsL w18 (.slice aS S.length cS_) S) := HS.out.below b
        replace HA : Hid (IsLL w18 (.slice al L.length cl) L) := HA.out.below b
        replace HR : Hid (IsLL w18 (.slice ar R.length cr) R) := HR.out.below b
        replace HB : Hid (Below w.heap.size w w18) := below_step HB.out b
        replace HFf : Hid (FV w18 (.agg #[.slice af F.length cf]) F) := HFf.out.below b
        replace HFg : Hid (FV w18 (.agg #[.slice ag 0 cg]) (([] : List (List Int)))) := HFg.out.below b
        replace Hb9 : Hid (w18.heap[w16.heap.size]? = some (.cells #[.slice af F.length cf] 27)) := (b.block (w16.heap.size) (Array.getElem?_eq_some_iff.1 Hb9.out).1).trans Hb9.out
        replace Hb11 : Hid (w18.heap[w17.heap.size]? = some (.cells #[.slice ag 0 cg] 27)) := (b.block (w17.heap.size) (Array.getElem?_eq_some_iff.1 Hb11.out).1).trans Hb11.out
        have HU1 : Hid (IsL w18 u1 R1) := hq1.isL
        have HRi : Hid (Rise R1 ∧ (Fo.sub R1 S ∧ Fo.sub S R1)) := ⟨hq2, hq3⟩
        clear hq1 hq2 hq3
        clear b
        go_wp2_with (go_at_call 15; fail)
        refine (rsorted_l _ _ S HS.out (by have := HSl.out; omega)).mono ?_
        rintro e w19 ⟨⟨u2, R2, rfl, hq1, hq2, hq3⟩, b⟩
        replace HS : Hid (IsL w19 (.slice aS S.length cS_) S) := HS.out.below b
        replace HU1 : Hid (IsL w19 u1 R1) := HU1.out.below b
        replace HA : Hid (IsLL w19 (.slice al L.length cl) L) := HA.out.below b
        replace HR : Hid (IsLL w19 (.slice ar R.length cr) R) := HR.out.below b
        replace HB : Hid (Below w.heap.size w w19) := below_step HB.out b
        replace HFf : Hid (FV w19 (.agg #[.slice af F.length cf]) F) := HFf.out.below b
        replace HFg : Hid (FV w19 (.agg #[.slice ag 0 cg]) (([] : List (List Int)))) := HFg.out.below b
        replace Hb9 : Hid (w19.heap[w16.heap.size]? = some (.cells #[.slice af F.length cf] 27)) := (b.block (w16.heap.size) (Array.getElem?_eq_some_iff.1 Hb9.out).1).trans Hb9.out
        replace Hb11 : Hid (w19.heap[w17.heap.size]? = some (.cells #[.slice ag 0 cg] 27)) := (b.block (w17.heap.size) (Array.getElem?_eq_some_iff.1 Hb11.out).1).trans Hb11.out
        obtain rfl : R2 = R1 := rise_ext hq2 HRi.out.1 (fun x hx => HRi.out.2.2 x (hq3.1 x hx)) (fun x hx => hq3.2 x (HRi.out.2.1 x hx))
        have HU2 : Hid (IsL w19 u2 R2) := hq1
        clear hq1 hq2 hq3 HRi
        clear b
        go_wp2_with (go_at_call 13; fail)
        refine (rints_any _ u1 u2 R2 R2 true HU1.out HU2.out ⟨fun _ => rfl, fun _ => rfl⟩).mono ?_
        rintro e w20 ⟨rfl, b⟩
        replace HS : Hid (IsL w20 (.slice aS S.length cS_) S) := HS.out.below b
        replace HU1 : Hid (IsL w20 u1 R2) := HU1.out.below b
        replace HU2 : Hid (IsL w20 u2 R2) := HU2.out.below b
        replace HA : Hid (IsLL w20 (.slice al L.length cl) L) := HA.out.below b
        replace HR : Hid (IsLL w20 (.slice ar R.length cr) R) := HR.out.below b
        replace HB : Hid (Below w.heap.size w w20) := below_step HB.out b
        replace HFf : Hid (FV w20 (.agg #[.slice af F.length cf]) F) := HFf.out.below b
        replace HFg : Hid (FV w20 (.agg #[.slice ag 0 cg]) (([] : List (List Int)))) := HFg.out.below b
        replace Hb9 : Hid (w20.heap[w16.heap.size]? = some (.cells #[.slice af F.length cf] 27)) := (b.block (w16.heap.size) (Array.getElem?_eq_some_iff.1 Hb9.out).1).trans Hb9.out
        replace Hb11 : Hid (w20.heap[w17.heap.size]? = some (.cells #[.slice ag 0 cg] 27)) := (b.block (w17.heap.size) (Array.getElem?_eq_some_iff.1 Hb11.out).1).trans Hb11.out
        clear b
        clear HU1 HU2
        have hk9 : w20.cell? ⟨w16.heap.size, 0, none⟩ = some (.slice af F.length cf) := by rw [cell_of_row w20 _ _ _ _ _ Hb9.out]; rfl
        obtain ⟨nF, hnF⟩ : ∃ nF : Int, (F.length : Int) = nF := ⟨_, rfl⟩
        have HnF : Hid ((F.length : Int) = nF) := hnF
        clear hnF
        by_cases h0 : nF = 0
        · subst h0
          go_wp2_with (go_at_call 16; fail)
          refine (C.len _ _ F 0 (C.keep HE.out HB.out) HFf.out HnF.out).mono ?_
          rintro e w21 ⟨rfl, b⟩
          replace HS : Hid (IsL w21 (.slice aS S.length cS_) S) := HS.out.below b
          replace HA : Hid (IsLL w21 (.slice al L.length cl) L) := HA.out.below b
          replace HR : Hid (IsLL w21 (.slice ar R.length cr) R) := HR.out.below b
          replace HB : Hid (Below w.heap.size w w21) := below_step HB.out b
          replace HFf : Hid (FV w21 (.agg #[.slice af F.length cf]) F) := HFf.out.below b
          replace HFg : Hid (FV w21 (.agg #[.slice ag 0 cg]) (([] : List (List Int)))) := HFg.out.below b
          replace Hb9 : Hid (w21.heap[w16.heap.size]? = some (.cells #[.slice af F.length cf] 27)) := (b.block (w16.heap.size) (Array.getElem?_eq_some_iff.1 Hb9.out).1).trans Hb9.out
          replace Hb11 : Hid (w21.heap[w17.heap.size]? = some (.cells #[.slice ag 0 cg] 27)) := (b.block (w17.heap.size) (Array.getElem?_eq_some_iff.1 Hb11.out).1).trans Hb11.out
          clear hk9
          clear b
          go_wp2_with (go_at_call 10; fail)
          refine (awake_of C _ (C.keep HE.out HB.out)).mono ?_
          rintro e xx ⟨rfl, b⟩
          have HBx : Hid (Below w.heap.size w xx) := below_step HB.out b
          clear b HB
          go_wp2
          go_ret
          exact ⟨rfl, HBx.out⟩
        go_wp2_with (go_at_call 16; fail)
        refine (C.len _ _ F nF (C.keep HE.out HB.out) HFf.out HnF.out).mono ?_
        rintro e w21 ⟨rfl, b⟩
        replace HS : Hid (IsL w21 (.slice aS S.length cS_) S) := HS.out.below b
        replace HA : Hid (IsLL w21 (.slice al L.length cl) L) := HA.out.below b
        replace HR : Hid (IsLL w21 (.slice ar R.length cr) R) := HR.out.below b
        replace HB : Hid (Below w.heap.size w w21) := below_step HB.out b
        replace HFf : Hid (FV w21 (.agg #[.slice af F.length cf]) F) := HFf.out.below b
        replace HFg : Hid (FV w21 (.agg #[.slice ag 0 cg]) (([] : List (List Int)))) := HFg.out.below b
        replace Hb9 : Hid (w21.heap[w16.heap.size]? = some (.cells #[.slice af F.length cf] 27)) := (b.block (w16.heap.size) (Array.getElem?_eq_some_iff.1 Hb9.out).1).trans Hb9.out
        replace Hb11 : Hid (w21.heap[w17.heap.size]? = some (.cells #[.slice ag 0 cg] 27)) := (b.block (w17.heap.size) (Array.getElem?_eq_some_iff.1 Hb11.out).1).trans Hb11.out
        clear hk9
        clear b
        go_wp2_with (go_at_call 10; fail)
        refine (awake_of C _ (C.keep HE.out HB.out)).mono ?_
        rintro e xx ⟨rfl, b⟩
        have HBx : Hid (Below w.heap.size w xx) := below_step HB.out b
        clear b HB
        go_wp2
        go_ret
        exact ⟨rfl, HBx.out⟩
    · have HgL : Hid (¬ GoodP L) := hgl
      clear hgl
      by_cases hgr : GoodP R
      · have HgR : Hid (GoodP R) := hgr
        clear hgr
        go_wp2_with (go_at_call 11; fail)
        refine (C.of _ _ L (C.keep HE.out HB.out) HA.out (Nat.le_trans HL.out.1 (by decide)) (fun j hj => Nat.le_trans (HL.out.2 j hj) (by decide))).mono ?_
        rintro e w22 ⟨hr, b⟩
        rcases hr with ⟨hn, -⟩ | ⟨-, u, rfl, hf⟩
        case inl => exact absurd hn HgL.out
        replace HS : Hid (IsL w22 (.slice aS S.length cS_) S) := HS.out.below b
        replace HA : Hid (IsLL w22 (.slice al L.length cl) L) := HA.out.below b
        replace HR : Hid (IsLL w22 (.slice ar R.length cr) R) := HR.out.below b
        replace HB : Hid (Below w.heap.size w w22) := below_step HB.out b
        obtain ⟨af, cf, Vf, rfl, hrest⟩ := id hf
        have HFf : Hid (FV w22 (.agg #[.slice af 0 cf]) (([] : List (List Int)))) := hf
        clear hrest hf b
        go_upto_region 4 with fail
        obtain ⟨X9, hW⟩ : ∃ X9, X9 = w22.alloc (.cells #[.slice af 0 cf] 27) := ⟨_, rfl⟩
        rw [← hW]
        have b : Below w22.heap.size w22 X9 := by rw [hW]; exact below1 _ _
        have Hb9 : Hid (X9.heap[w22.heap.size]? = some (.cells #[.slice af 0 cf] 27)) := by show X9.heap[_]? = _; rw [hW]; exact heap_new1 _ _
        have HBx9 : Hid (w.heap.size ≤ w22.heap.size) := HB.out.size
        clear hW
        replace HS : Hid (IsL X9 (.slice aS S.length cS_) S) := HS.out.below b
        replace HA : Hid (IsLL X9 (.slice al L.length cl) L) := HA.out.below b
        replace HR : Hid (IsLL X9 (.slice ar R.length cr) R) := HR.out.below b
        replace HB : Hid (Below w.heap.size w X9) := below_step HB.out b
        replace HFf : Hid (FV X9 (.agg #[.slice af 0 cf]) (([] : List (List Int)))) := HFf.out.below b
        clear b
        go_wp2_with (go_at_call 11; fail)
        refine (C.of _ _ R (C.keep HE.out HB.out) HR.out (Nat.le_trans HRs.out.1 (by decide)) (fun j hj => Nat.le_trans (HRs.out.2 j hj) (by decide))).mono ?_
        rintro e w23 ⟨hr, b⟩
        rcases hr with ⟨-, u, G, rfl, hf, ho⟩ | ⟨hn, -⟩
        case inr => exact absurd HgR.out hn
        replace HS : Hid (IsL w23 (.slice aS S.length cS_) S) := HS.out.below b
        replace HA : Hid (IsLL w23 (.slice al L.length cl) L) := HA.out.below b
        replace HR : Hid (IsLL w23 (.slice ar R.length cr) R) := HR.out.below b
        replace HB : Hid (Below w.heap.size w w23) := below_step HB.out b
        replace HFf : Hid (FV w23 (.agg #[.slice af 0 cf]) (([] : List (List Int)))) := HFf.out.below b
        replace Hb9 : Hid (w23.heap[w22.heap.size]? = some (.cells #[.slice af 0 cf] 27)) := (b.block (w22.heap.size) (Array.getElem?_eq_some_iff.1 Hb9.out).1).trans Hb9.out
        obtain ⟨ag, cg, Vg, rfl, hrest⟩ := id hf
        have HOg : Hid (FamOf R G) := ho
        have HFg : Hid (FV w23 (.agg #[.slice ag G.length cg]) G) := hf
        clear hrest ho hf b
        go_upto_region 5 with fail
        obtain ⟨X11, hW⟩ : ∃ X11, X11 = w23.alloc (.cells #[.slice ag G.length cg] 27) := ⟨_, rfl⟩
        rw [← hW]
        have b : Below w23.heap.size w23 X11 := by rw [hW]; exact below1 _ _
        have Hb11 : Hid (X11.heap[w23.heap.size]? = some (.cells #[.slice ag G.length cg] 27)) := by show X11.heap[_]? = _; rw [hW]; exact heap_new1 _ _
        have HBx11 : Hid (w.heap.size ≤ w23.heap.size) := HB.out.size
        have dl9_11 : w22.heap.size < w23.heap.size := (Array.getElem?_eq_some_iff.1 Hb9.out).1
        clear hW
        replace HS : Hid (IsL X11 (.slice aS S.length cS_) S) := HS.out.below b
        replace HA : Hid (IsLL X11 (.slice al L.length cl) L) := HA.out.below b
        replace HR : Hid (IsLL X11 (.slice ar R.length cr) R) := HR.out.below b
        replace HB : Hid (Below w.heap.size w X11) := below_step HB.out b
        replace HFf : Hid (FV X11 (.agg #[.slice af 0 cf]) (([] : List (List Int)))) := HFf.out.below b
        replace HFg : Hid (FV X11 (.agg #[.slice ag G.length cg]) G) := HFg.out.below b
        replace Hb9 : Hid (X11.heap[w22.heap.size]? = some (.cells #[.slice af 0 cf] 27)) := (b.block (w22.heap.size) (Array.getElem?_eq_some_iff.1 Hb9.out).1).trans Hb9.out
        clear b
        go_wp2_with (go_at_call 12; fail)
        refine (agood_any _ _ L false HA.out ⟨fun h => (by cases h), fun h => absurd h HgL.out⟩).mono ?_
        rintro e w' ⟨rfl, hw⟩
        replace hw := hw.symm
        subst hw
        go_wp2_with (go_at_call 12; fail)
        refine (agood_any _ _ R true HR.out ⟨fun _ => HgR.out, fun _ => rfl⟩).mono ?_
        rintro e w' ⟨rfl, hw⟩
        replace hw := hw.symm
        subst hw
        go_wp2_with (go_at_call 14; fail)
        refine (sorted_all _ _ S HS.out (by have := HSl.out; omega)).mono ?_
        rintro e w24 ⟨⟨u1, R1, rfl, hq1, hq2, hq3, -, -⟩, b⟩
        replace HS : Hid (IsL w24 (.slice aS S.length cS_) S) := HS.out.below b
        replace HA : Hid (IsLL w24 (.slice al L.length cl) L) := HA.out.below b
        replace HR : Hid (IsLL w24 (.slice ar R.length cr) R) := HR.out.below b
        replace HB : Hid (Below w.heap.size w w24) := below_step HB.out b
        replace HFf : Hid (FV w24 (.agg #[.slice af 0 cf]) (([] : List (List Int)))) := HFf.out.below b
        replace HFg : Hid (FV w24 (.agg #[.slice ag G.length cg]) G) := HFg.out.below b
        replace Hb9 : Hid (w24.heap[w22.heap.size]? = some (.cells #[.slice af 0 cf] 27)) := (b.block (w22.heap.size) (Array.getElem?_eq_some_iff.1 Hb9.out).1).trans Hb9.out
        replace Hb11 : Hid (w24.heap[w23.heap.size]? = some (.cells #[.slice ag G.length cg] 27)) := (b.block (w23.heap.size) (Array.getElem?_eq_some_iff.1 Hb11.out).1).trans Hb11.out
        have HU1 : Hid (IsL w24 u1 R1) := hq1.isL
        have HRi : Hid (Rise R1 ∧ (Fo.sub R1 S ∧ Fo.sub S R1)) := ⟨hq2, hq3⟩
        clear hq1 hq2 hq3
        clear b
        go_wp2_with (go_at_call 15; fail)
        refine (rsorted_l _ _ S HS.out (by have := HSl.out; omega)).mono ?_
        rintro e w25 ⟨⟨u2, R2, rfl, hq1, hq2, hq3⟩, b⟩
        replace HS : Hid (IsL w25 (.slice aS S.length cS_) S) := HS.out.below b
        replace HU1 : Hid (IsL w25 u1 R1) := HU1.out.below b
        replace HA : Hid (IsLL w25 (.slice al L.length cl) L) := HA.out.below b
        replace HR : Hid (IsLL w25 (.slice ar R.length cr) R) := HR.out.below b
        replace HB : Hid (Below w.heap.size w w25) := below_step HB.out b
        replace HFf : Hid (FV w25 (.agg #[.slice af 0 cf]) (([] : List (List Int)))) := HFf.out.below b
        replace HFg : Hid (FV w25 (.agg #[.slice ag G.length cg]) G) := HFg.out.below b
        replace Hb9 : Hid (w25.heap[w22.heap.size]? = some (.cells #[.slice af 0 cf] 27)) := (b.block (w22.heap.size) (Array.getElem?_eq_some_iff.1 Hb9.out).1).trans Hb9.out
        replace Hb11 : Hid (w25.heap[w23.heap.size]? = some (.cells #[.slice ag G.length cg] 27)) := (b.block (w23.heap.size) (Array.getElem?_eq_some_iff.1 Hb11.out).1).trans Hb11.out
        obtain rfl : R2 = R1 := rise_ext hq2 HRi.out.1 (fun x hx => HRi.out.2.2 x (hq3.1 x hx)) (fun x hx => hq3.2 x (HRi.out.2.1 x hx))
        have HU2 : Hid (IsL w25 u2 R2) := hq1
        clear hq1 hq2 hq3 HRi
        clear b
        go_wp2_with (go_at_call 13; fail)
        refine (rints_any _ u1 u2 R2 R2 true HU1.out HU2.out ⟨fun _ => rfl, fun _ => rfl⟩).mono ?_
        rintro e w26 ⟨rfl, b⟩
        replace HS : Hid (IsL w26 (.slice aS S.length cS_) S) := HS.out.below b
        replace HU1 : Hid (IsL w26 u1 R2) := HU1.out.below b
        replace HU2 : Hid (IsL w26 u2 R2) := HU2.out.below b
        replace HA : Hid (IsLL w26 (.slice al L.length cl) L) := HA.out.below b
        replace HR : Hid (IsLL w26 (.slice ar R.length cr) R) := HR.out.below b
        replace HB : Hid (Below w.heap.size w w26) := below_step HB.out b
        replace HFf : Hid (FV w26 (.agg #[.slice af 0 cf]) (([] : List (List Int)))) := HFf.out.below b
        replace HFg : Hid (FV w26 (.agg #[.slice ag G.length cg]) G) := HFg.out.below b
        replace Hb9 : Hid (w26.heap[w22.heap.size]? = some (.cells #[.slice af 0 cf] 27)) := (b.block (w22.heap.size) (Array.getElem?_eq_some_iff.1 Hb9.out).1).trans Hb9.out
        replace Hb11 : Hid (w26.heap[w23.heap.size]? = some (.cells #[.slice ag G.length cg] 27)) := (b.block (w23.heap.size) (Array.getElem?_eq_some_iff.1 Hb11.out).1).trans Hb11.out
        clear b
        clear HU1 HU2
        have hk9 : w26.cell? ⟨w22.heap.size, 0, none⟩ = some (.slice af 0 cf) := by rw [cell_of_row w26 _ _ _ _ _ Hb9.out]; rfl
        go_wp2_with (go_at_call 16; fail)
        refine (C.len _ _ [] 0 (C.keep HE.out HB.out) HFf.out rfl).mono ?_
        rintro e w27 ⟨rfl, b⟩
        replace HS : Hid (IsL w27 (.slice aS S.length cS_) S) := HS.out.below b
        replace HA : Hid (IsLL w27 (.slice al L.length cl) L) := HA.out.below b
        replace HR : Hid (IsLL w27 (.slice ar R.length cr) R) := HR.out.below b
        replace HB : Hid (Below w.heap.size w w27) := below_step HB.out b
        replace HFf : Hid (FV w27 (.agg #[.slice af 0 cf]) (([] : List (List Int)))) := HFf.out.below b
        replace HFg : Hid (FV w27 (.agg #[.slice ag G.length cg]) G) := HFg.out.below b
        replace Hb9 : Hid (w27.heap[w22.heap.size]? = some (.cells #[.slice af 0 cf] 27)) := (b.block (w22.heap.size) (Array.getElem?_eq_some_iff.1 Hb9.out).1).trans Hb9.out
        replace Hb11 : Hid (w27.heap[w23.heap.size]? = some (.cells #[.slice ag G.length cg] 27)) := (b.block (w23.heap.size) (Array.getElem?_eq_some_iff.1 Hb11.out).1).trans Hb11.out
        clear hk9
        clear b
        go_wp2_with (go_at_call 10; fail)
        refine (awake_of C _ (C.keep HE.out HB.out)).mono ?_
        rintro e xx ⟨rfl, b⟩
        have HBx : Hid (Below w.heap.size w xx) := below_step HB.out b
        clear b HB
        go_wp2
        go_ret
        exact ⟨rfl, HBx.out⟩
      · have HgR : Hid (¬ GoodP R) := hgr
        clear hgr
        go_wp2_with (go_at_call 11; fail)
        refine (C.of _ _ L (C.keep HE.out HB.out) HA.out (Nat.le_trans HL.out.1 (by decide)) (fun j hj => Nat.le_trans (HL.out.2 j hj) (by decide))).mono ?_
        rintro e w28 ⟨hr, b⟩
        rcases hr with ⟨hn, -⟩ | ⟨-, u, rfl, hf⟩
        case inl => exact absurd hn HgL.out
        replace HS : Hid (IsL w28 (.slice aS S.length cS_) S) := HS.out.below b
        replace HA : Hid (IsLL w28 (.slice al L.length cl) L) := HA.out.below b
        replace HR : Hid (IsLL w28 (.slice ar R.length cr) R) := HR.out.below b
        replace HB : Hid (Below w.heap.size w w28) := below_step HB.out b
        obtain ⟨af, cf, Vf, rfl, hrest⟩ := id hf
        have HFf : Hid (FV w28 (.agg #[.slice af 0 cf]) (([] : List (List Int)))) := hf
        clear hrest hf b
        go_upto_region 4 with fail
        obtain ⟨X9, hW⟩ : ∃ X9, X9 = w28.alloc (.cells #[.slice af 0 cf] 27) := ⟨_, rfl⟩
        rw [← hW]
        have b : Below w28.heap.size w28 X9 := by rw [hW]; exact below1 _ _
        have Hb9 : Hid (X9.heap[w28.heap.size]? = some (.cells #[.slice af 0 cf] 27)) := by show X9.heap[_]? = _; rw [hW]; exact heap_new1 _ _
        have HBx9 : Hid (w.heap.size ≤ w28.heap.size) := HB.out.size
        clear hW
        replace HS : Hid (IsL X9 (.slice aS S.length cS_) S) := HS.out.below b
        replace HA : Hid (IsLL X9 (.slice al L.length cl) L) := HA.out.below b
        replace HR : Hid (IsLL X9 (.slice ar R.length cr) R) := HR.out.below b
        replace HB : Hid (Below w.heap.size w X9) := below_step HB.out b
        replace HFf : Hid (FV X9 (.agg #[.slice af 0 cf]) (([] : List (List Int)))) := HFf.out.below b
        clear b
        go_wp2_with (go_at_call 11; fail)
        refine (C.of _ _ R (C.keep HE.out HB.out) HR.out (Nat.le_trans HRs.out.1 (by decide)) (fun j hj => Nat.le_trans (HRs.out.2 j hj) (by decide))).mono ?_
        rintro e w29 ⟨hr, b⟩
        rcases hr with ⟨hn, -⟩ | ⟨-, u, rfl, hf⟩
        case inl => exact absurd hn HgR.out
        replace HS : Hid (IsL w29 (.slice aS S.length cS_) S) := HS.out.below b
        replace HA : Hid (IsLL w29 (.slice al L.length cl) L) := HA.out.below b
        replace HR : Hid (IsLL w29 (.slice ar R.length cr) R) := HR.out.below b
        replace HB : Hid (Below w.heap.size w w29) := below_step HB.out b
        replace HFf : Hid (FV w29 (.agg #[.slice af 0 cf]) (([] : List (List Int)))) := HFf.out.below b
        replace Hb9 : Hid (w29.heap[w28.heap.size]? = some (.cells #[.slice af 0 cf] 27)) := (b.block (w28.heap.size) (Array.getElem?_eq_some_iff.1 Hb9.out).1).trans Hb9.out
        obtain ⟨ag, cg, Vg, rfl, hrest⟩ := id hf
        have HFg : Hid (FV w29 (.agg #[.slice ag 0 cg]) (([] : List (List Int)))) := hf
        clear hrest hf b
        go_upto_region 5 with fail
        obtain ⟨X11, hW⟩ : ∃ X11, X11 = w29.alloc (.cells #[.slice ag 0 cg] 27) := ⟨_, rfl⟩
        rw [← hW]
        have b : Below w29.heap.size w29 X11 := by rw [hW]; exact below1 _ _
        have Hb11 : Hid (X11.heap[w29.heap.size]? = some (.cells #[.slice ag 0 cg] 27)) := by show X11.heap[_]? = _; rw [hW]; exact heap_new1 _ _
        have HBx11 : Hid (w.heap.size ≤ w29.heap.size) := HB.out.size
        have dl9_11 : w28.heap.size < w29.heap.size := (Array.getElem?_eq_some_iff.1 Hb9.out).1
        clear hW
        replace HS : Hid (IsL X11 (.slice aS S.length cS_) S) := HS.out.below b
        replace HA : Hid (IsLL X11 (.slice al L.length cl) L) := HA.out.below b
        replace HR : Hid (IsLL X11 (.slice ar R.length cr) R) := HR.out.below b
        replace HB : Hid (Below w.heap.size w X11) := below_step HB.out b
        replace HFf : Hid (FV X11 (.agg #[.slice af 0 cf]) (([] : List (List Int)))) := HFf.out.below b
        replace HFg : Hid (FV X11 (.agg #[.slice ag 0 cg]) (([] : List (List Int)))) := HFg.out.below b
        replace Hb9 : Hid (X11.heap[w28.heap.size]? = some (.cells #[.slice af 0 cf] 27)) := (b.block (w28.heap.size) (Array.getElem?_eq_some_iff.1 Hb9.out).1).trans Hb9.out
        clear b
        go_wp2_with (go_at_call 12; fail)
        refine (agood_any _ _ L false HA.out ⟨fun h => (by cases h), fun h => absurd h HgL.out⟩).mono ?_
        rintro e w' ⟨rfl, hw⟩
        replace hw := hw.symm
        subst hw
        go_wp2_with (go_at_call 12; fail)
        refine (agood_any _ _ R false HR.out ⟨fun h => (by cases h), fun h => absurd h HgR.out⟩).mono ?_
        rintro e w' ⟨rfl, hw⟩
        replace hw := hw.symm
        subst hw
        go_wp2_with (go_at_call 14; fail)
        refine (sorted_all _ _ S HS.out (by have := HSl.out; omega)).mono ?_
        rintro e w30 ⟨⟨u1, R1, rfl, hq1, hq2, hq3, -, -⟩, b⟩
        replace HS : Hid (IsL w30 (.slice aS S.length cS_) S) := HS.out.below b
        replace HA : Hid (IsLL w30 (.slice al L.length cl) L) := HA.out.below b
        replace HR : Hid (IsLL w30 (.slice ar R.length cr) R) := HR.out.below b
        replace HB : Hid (Below w.heap.size w w30) := below_step HB.out b
        replace HFf : Hid (FV w30 (.agg #[.slice af 0 cf]) (([] : List (List Int)))) := HFf.out.below b
        replace HFg : Hid (FV w30 (.agg #[.slice ag 0 cg]) (([] : List (List Int)))) := HFg.out.below b
        replace Hb9 : Hid (w30.heap[w28.heap.size]? = some (.cells #[.slice af 0 cf] 27)) := (b.block (w28.heap.size) (Array.getElem?_eq_some_iff.1 Hb9.out).1).trans Hb9.out
        replace Hb11 : Hid (w30.heap[w29.heap.size]? = some (.cells #[.slice ag 0 cg] 27)) := (b.block (w29.heap.size) (Array.getElem?_eq_some_iff.1 Hb11.out).1).trans Hb11.out
        have HU1 : Hid (IsL w30 u1 R1) := hq1.isL
        have HRi : Hid (Rise R1 ∧ (Fo.sub R1 S ∧ Fo.sub S R1)) := ⟨hq2, hq3⟩
        clear hq1 hq2 hq3
        clear b
        go_wp2_with (go_at_call 15; fail)
        refine (rsorted_l _ _ S HS.out (by have := HSl.out; omega)).mono ?_
        rintro e w31 ⟨⟨u2, R2, rfl, hq1, hq2, hq3⟩, b⟩
        replace HS : Hid (IsL w31 (.slice aS S.length cS_) S) := HS.out.below b
        replace HU1 : Hid (IsL w31 u1 R1) := HU1.out.below b
        replace HA : Hid (IsLL w31 (.slice al L.length cl) L) := HA.out.below b
        replace HR : Hid (IsLL w31 (.slice ar R.length cr) R) := HR.out.below b
        replace HB : Hid (Below w.heap.size w w31) := below_step HB.out b
        replace HFf : Hid (FV w31 (.agg #[.slice af 0 cf]) (([] : List (List Int)))) := HFf.out.below b
        replace HFg : Hid (FV w31 (.agg #[.slice ag 0 cg]) (([] : List (List Int)))) := HFg.out.below b
        replace Hb9 : Hid (w31.heap[w28.heap.size]? = some (.cells #[.slice af 0 cf] 27)) := (b.block (w28.heap.size) (Array.getElem?_eq_some_iff.1 Hb9.out).1).trans Hb9.out
        replace Hb11 : Hid (w31.heap[w29.heap.size]? = some (.cells #[.slice ag 0 cg] 27)) := (b.block (w29.heap.size) (Array.getElem?_eq_some_iff.1 Hb11.out).1).trans Hb11.out
        obtain rfl : R2 = R1 := rise_ext hq2 HRi.out.1 (fun x hx => HRi.out.2.2 x (hq3.1 x hx)) (fun x hx => hq3.2 x (HRi.out.2.1 x hx))
        have HU2 : Hid (IsL w31 u2 R2) := hq1
        clear hq1 hq2 hq3 HRi
        clear b
        go_wp2_with (go_at_call 13; fail)
        refine (rints_any _ u1 u2 R2 R2 true HU1.out HU2.out ⟨fun _ => rfl, fun _ => rfl⟩).mono ?_
        rintro e w32 ⟨rfl, b⟩
        replace HS : Hid (IsL w32 (.slice aS S.length cS_) S) := HS.out.below b
        replace HU1 : Hid (IsL w32 u1 R2) := HU1.out.below b
        replace HU2 : Hid (IsL w32 u2 R2) := HU2.out.below b
        replace HA : Hid (IsLL w32 (.slice al L.length cl) L) := HA.out.below b
        replace HR : Hid (IsLL w32 (.slice ar R.length cr) R) := HR.out.below b
        replace HB : Hid (Below w.heap.size w w32) := below_step HB.out b
        replace HFf : Hid (FV w32 (.agg #[.slice af 0 cf]) (([] : List (List Int)))) := HFf.out.below b
        replace HFg : Hid (FV w32 (.agg #[.slice ag 0 cg]) (([] : List (List Int)))) := HFg.out.below b
        replace Hb9 : Hid (w32.heap[w28.heap.size]? = some (.cells #[.slice af 0 cf] 27)) := (b.block (w28.heap.size) (Array.getElem?_eq_some_iff.1 Hb9.out).1).trans Hb9.out
        replace Hb11 : Hid (w32.heap[w29.heap.size]? = some (.cells #[.slice ag 0 cg] 27)) := (b.block (w29.heap.size) (Array.getElem?_eq_some_iff.1 Hb11.out).1).trans Hb11.out
        clear b
        clear HU1 HU2
        have hk9 : w32.cell? ⟨w28.heap.size, 0, none⟩ = some (.slice af 0 cf) := by rw [cell_of_row w32 _ _ _ _ _ Hb9.out]; rfl
        go_wp2_with (go_at_call 16; fail)
        refine (C.len _ _ [] 0 (C.keep HE.out HB.out) HFf.out rfl).mono ?_
        rintro e w33 ⟨rfl, b⟩
        replace HS : Hid (IsL w33 (.slice aS S.length cS_) S) := HS.out.below b
        replace HA : Hid (IsLL w33 (.slice al L.length cl) L) := HA.out.below b
        replace HR : Hid (IsLL w33 (.slice ar R.length cr) R) := HR.out.below b
        replace HB : Hid (Below w.heap.size w w33) := below_step HB.out b
        replace HFf : Hid (FV w33 (.agg #[.slice af 0 cf]) (([] : List (List Int)))) := HFf.out.below b
        replace HFg : Hid (FV w33 (.agg #[.slice ag 0 cg]) (([] : List (List Int)))) := HFg.out.below b
        replace Hb9 : Hid (w33.heap[w28.heap.size]? = some (.cells #[.slice af 0 cf] 27)) := (b.block (w28.heap.size) (Array.getElem?_eq_some_iff.1 Hb9.out).1).trans Hb9.out
        replace Hb11 : Hid (w33.heap[w29.heap.size]? = some (.cells #[.slice ag 0 cg] 27)) := (b.block (w29.heap.size) (Array.getElem?_eq_some_iff.1 Hb11.out).1).trans Hb11.out
        clear hk9
        clear b
        go_wp2_with (go_at_call 10; fail)
        refine (awake_of C _ (C.keep HE.out HB.out)).mono ?_
        rintro e xx ⟨rfl, b⟩
        have HBx : Hid (Below w.heap.size w xx) := below_step HB.out b
        clear b HB
        go_wp2
        go_ret
        exact ⟨rfl, HBx.out⟩
end Go.Proofs.Yteaajhpgmndomaa
