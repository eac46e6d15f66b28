/- The walk of AntiSets, out of what Subset, Sorted and awake answer. -/
import Derived.Test.YteaajhpgmndomaaSma
namespace Go.Proofs.Yteaajhpgmndomaa
open Go.RowKit Fo
set_option maxRecDepth 100000

/-- What anti's Subset and Sorted answer, and the laws' awake, where Env is what they read. -/
structure SetSays (Env : World → Prop) : Prop where
  keep : ∀ {w w' : World}, Env w → Below w.heap.size w w' → Env w'
  sub : ∀ (w : World) (v1 v2 : Value) (l m : List Int) (R : Bool), Env w → IsL w v1 l → IsL w v2 m → l.length ≤ 1000000 → m.length ≤ 1000000 → subB l m = R →
    Calls Try.prog 31 #[v1, v2] w fun e w' => e = .returned (.bool R) ∧ Below w.heap.size w w'
  srt : ∀ (w : World) (v : Value) (l : List Int), Env w → IsL w v l → l.length ≤ 100000 →
    Calls Try.prog 14 #[v] w fun e w' => (∃ u R, e = .returned u ∧ IsL w' u R ∧ Rise R ∧ (Fo.sub R l ∧ Fo.sub l R) ∧ R.length ≤ l.length) ∧ Below w.heap.size w w'
  awake : ∀ w, Env w → Calls Try.prog 10 #[] w fun e w' => e = .returned (.bool true) ∧ Below w.heap.size w w'
namespace Fo
theorem subB_yes {a b : List Int} (h : sub a b) : subB a b = true := subB_iff.2 h
theorem rise_gt {X : List Int} (h : Rise X) {i : Nat} (hi : i + 1 < X.length) : gt X i < gt X (i + 1) := by
  have := (List.pairwise_iff_getElem.1 h) i (i + 1) (by omega) hi (by omega)
  unfold gt
  rwa [List.getD_eq_getElem?_getD, List.getD_eq_getElem?_getD, List.getElem?_eq_getElem (by omega), List.getElem?_eq_getElem hi]
/-- Both together are the other just if the one is a part. -/
theorem both_iff {A B Y Z : List Int} (hY : Rise Y) (hZ : Rise Z) (h1 : sub Y B ∧ sub B Y) (h2 : sub Z (A ++ B) ∧ sub (A ++ B) Z) (r : Bool) (hr : subB A B = r) : r = true ↔ Z = Y := by
  rw [← hr, subB_iff]
  constructor
  · intro h
    refine rise_ext hZ hY (fun x hx => ?_) (fun x hx => h2.2 x (List.mem_append_right _ (h1.1 x hx)))
    rcases List.mem_append.1 (h2.1 x hx) with k | k
    · exact h1.2 x (h x k)
    · exact h1.2 x k
  · intro e x hx
    have := h2.2 x (List.mem_append_left _ hx)
    rw [e] at this
    exact h1.1 x this
theorem same_iff {A B X Y : List Int} (hX : Rise X) (hY : Rise Y) (h1 : sub X A ∧ sub A X) (h2 : sub Y B ∧ sub B Y) (r q : Bool) (hr : subB A B = r) (hq : subB B A = q) : (r && q) = true ↔ X = Y := by
  rw [Bool.and_eq_true, ← hr, ← hq, subB_iff, subB_iff]
  constructor
  · rintro ⟨h, k⟩
    exact rise_ext hX hY (fun x hx => h2.2 x (h x (h1.1 x hx))) (fun x hx => h1.2 x (k x (h2.1 x hx)))
  · rintro rfl
    exact ⟨fun x hx => h2.1 x (h1.2 x hx), fun x hx => h1.1 x (h2.2 x hx)⟩
end Fo
set_option maxHeartbeats 16000000 in
theorem sets_core {Env : World → Prop} (C : SetSays Env) (w : World) (va vb : Value) (A B : List Int) (h1 : IsL w va A) (h2 : IsL w vb B) (ha : A.length ≤ 60) (hb : B.length ≤ 60) (henv : Env w) :
    Calls Try.prog 7 #[va, vb] w fun e w' => e = .returned (.bool true) ∧ Below w.heap.size w w' := by
  have HA : Hid (IsL w va A) := h1
  have HBl : Hid (IsL w vb B) := h2
  have HE : Hid (Env w) := henv
  obtain ⟨a, c, rfl, hra⟩ := h1
  obtain ⟨b, d, rfl, hrb⟩ := h2
  have HRA : Hid (Rd w a A.length c (ivs (gt A))) := hra
  have HRB : Hid (Rd w b B.length d (ivs (gt B))) := hrb
  have hna : ¬ (60 : Int) < (A.length : Int) := by omega
  have hnb : ¬ (60 : Int) < (B.length : Int) := by omega
  have hc1 := hra.1
  have hd1 := hrb.1
  have hc2 := hra.2.1
  have hd2 := hrb.2.1
  clear hra hrb henv
  go_enter Try.func7, Try.ntmps7
  go_wp2_with (go_at_call 14; fail)
  refine (C.srt _ _ A HE.out HA.out (by omega)).mono ?_
  rintro e w1 ⟨⟨x, X, rfl, hx, hxr, hxs, hxl⟩, b1⟩
  go_wp2_with (go_at_call 14; fail)
  refine (C.srt _ _ B (C.keep HE.out b1) (HBl.out.below b1) (by omega)).mono ?_
  rintro e w2 ⟨⟨y, Y, rfl, hy, hyr, hys, hyl⟩, b2⟩
  have HW2 : Hid (Below w.heap.size w w2) := below_step b1 b2
  have HX2 : Hid (IsL w2 x X) := hx.below b2
  have HY2 : Hid (IsL w2 y Y) := hy
  have HXr : Hid (Rise X) := hxr
  have HXs : Hid (Fo.sub X A ∧ Fo.sub A X) := hxs
  have HYr : Hid (Rise Y) := hyr
  have HYs : Hid (Fo.sub Y B ∧ Fo.sub B Y) := hys
  have HXl : Hid (X.length ≤ 60) := Nat.le_trans hxl ha
  have HYl : Hid (Y.length ≤ 60) := Nat.le_trans hyl hb
  clear hx hy hxr hxs hyr hys b1 b2 hxl hyl
  have W1 := (below_refl w2).alloc (Nat.le_refl _) (.cells #[] 3)
  go_wp2_with (first
    | (at_builtin; refine wpList_app eInt rfl _ _ rfl (Ow.made 3 w2.heap.size w2 (fun _ => .int .i64 0) (Nat.le_refl _)) (by simp) ((HRA.out.below HW2.out).below W1) (ivs_one _ _) A.length (by omega) (by omega) (ivs (gt A)) (fun j hj => by unfold catV; rw [if_neg (by omega), Nat.sub_zero]) rfl rfl ?_; intro a3 c3 w3 hO3 hG3
       have HW3 : Hid (Below w2.heap.size w2 w3) := W1.grown hG3 (by simp) (fun k' hk' => own_le hk')
       have HO3 : Hid (Ow 3 w2.heap.size w3 (.slice a3 A.length c3) A.length (ivs (gt A))) := hO3
       clear hO3 hG3 W1)
    | (at_builtin; refine wpList_app eInt rfl _ _ rfl HO3.out HW3.out.size ((HRB.out.below HW2.out).below HW3.out) (ivs_one _ _) (A.length + B.length) rfl (by omega) (ivs (gt (A ++ B))) (fun j hj => by unfold catV ivs; rw [gt_app]; split <;> rfl) rfl rfl ?_; intro a4 c4 w4 hO4 hG4
       have HW4 : Hid (Below w2.heap.size w2 w4) := HW3.out.grown hG4 HW3.out.size (fun k' hk' => HO3.out.row k' hk')
       have HZ4 : Hid (IsL w4 (.slice a4 (A.length + B.length) c4) (A ++ B)) := (Ow.setInL (B := w2.heap.size) (l := A ++ B) (by rw [List.length_append]; exact hO4)).isL
       clear hO4 hG4 HO3 HW3)
    | (go_at_call 14; fail))
  refine (C.srt _ _ (A ++ B) (C.keep (C.keep HE.out HW2.out) HW4.out) HZ4.out (by rw [List.length_append]; omega)).mono ?_
  rintro e wb ⟨⟨z, Z, rfl, hz, hzr, hzs, hzl⟩, b5⟩
  have HWb2 : Hid (Below w2.heap.size w2 wb) := below_step HW4.out b5
  have HWb : Hid (Below w.heap.size w wb) := below_step HW2.out HWb2.out
  have HAb : Hid (IsL wb _ A) := HA.out.below HWb.out
  have HBb : Hid (IsL wb _ B) := HBl.out.below HWb.out
  have HXb : Hid (IsL wb x X) := HX2.out.below HWb2.out
  have HYb : Hid (IsL wb y Y) := HY2.out.below HWb2.out
  have HZb : Hid (IsL wb z Z) := hz
  have HZr : Hid (Rise Z) := hzr
  have HZs : Hid (Fo.sub Z (A ++ B) ∧ Fo.sub (A ++ B) Z) := hzs
  have HZl : Hid (Z.length ≤ 120) := by
    show _ ≤ _
    rw [List.length_append] at hzl; omega
  have HEb : Hid (Env wb) := C.keep HE.out HWb.out
  obtain ⟨ax, cx, rfl, hrx⟩ := id HXb.out
  have HRX : Hid (Rd wb ax X.length cx (ivs (gt X))) := hrx
  have hx1 := hrx.1
  have hx2 := hrx.2.1
  clear hz hzr hzs hzl b5 hrx HX2 HY2 HZ4 HW4 HW2 HWb2 HA HBl HE HRA HRB
  go_wp2
  go_loopw [8] (fun v wr => ∃ i : Nat, 1 ≤ i ∧ i ≤ X.length + 1 ∧ v = .int .i64 i ∧ Hid (Below wb.heap.size wb wr)) (fun v _ => X.length + 1 - (intOf v).toNat)
  case atStart => exact ⟨1, Nat.le_refl _, by omega, rfl, below_refl _⟩
  case round =>
    obtain ⟨i, hi1, hi, rfl, HW⟩ := hrel
    rename World => wr
    by_cases hlt : i < X.length
    · obtain ⟨q, rfl⟩ : ∃ q, i = q + 1 := ⟨i - 1, by omega⟩
      obtain ⟨ga, oa, rfl, hca⟩ := (HRX.out.below HW.out).at (by omega)
      have hci := hca q (by omega)
      have hcj := hca (q + 1) hlt
      have hgt : ¬ gt X (q + 1) ≤ gt X q := by have := rise_gt HXr.out hlt; omega
      unfold ivs at hci hcj
      have j1 : (0 : Int) ≤ (q : Int) := by omega
      have j2 : (q : Int) + 1 < (X.length : Int) := by omega
      have j3 : (q : Int) < (X.length : Int) := by omega
      clear hca
      go_wp2
      go_quiet (fail)
      go_wp2
      go_roundw
      case rel => exact ⟨q + 1 + 1, by omega, by omega, by go_num, below_drewN HW.out _⟩
      case measure => simp [intOf]; omega
    · have hge : ¬ (i : Int) < (X.length : Int) := by omega
      obtain ⟨r, hr⟩ : ∃ r, subB A B = r := ⟨_, rfl⟩
      obtain ⟨q, hq⟩ : ∃ q, subB B A = q := ⟨_, rfl⟩
      have HR : Hid (subB A B = r) := hr
      have HQ : Hid (subB B A = q) := hq
      have HI1 : Hid (Dc r (Z = Y)) := both_iff HYr.out HZr.out HYs.out HZs.out r hr
      have HI2 : Hid (Dc (r && q) (X = Y)) := same_iff HXr.out HYr.out HXs.out HYs.out r q hr hq
      have HSX : Hid (subB A X = true ∧ subB X A = true ∧ subB X Z = true ∧ subB Y Z = true) := ⟨subB_yes HXs.out.2, subB_yes HXs.out.1, subB_yes (fun x hx => HZs.out.2 x (List.mem_append_left _ (HXs.out.1 x hx))), subB_yes (fun x hx => HZs.out.2 x (List.mem_append_right _ (HYs.out.1 x hx)))⟩
      have ha1 : A.length ≤ 1000000 := by omega
      have hb1 : B.length ≤ 1000000 := by omega
      have HXL : Hid (X.length ≤ 1000000) := Nat.le_trans HXl.out (by decide)
      have HYL : Hid (Y.length ≤ 1000000) := Nat.le_trans HYl.out (by decide)
      have HZL : Hid (Z.length ≤ 1000000) := Nat.le_trans HZl.out (by decide)
      clear hr hq hi hi1 hge
      cases r
      · skip
        go_wp2_with (go_at_call 31; fail)
        refine (C.sub _ _ _ A X true (C.keep HEb.out HW.out) (by exact HAb.out.below HW.out) (by exact HXb.out.below HW.out) ha1 HXL.out HSX.out.1).mono ?_
        rintro e x1 ⟨rfl, b⟩
        have HW' : Hid (Below wb.heap.size wb x1) := below_step HW.out b
        clear b HW
        have HW := HW'
        clear HW'
        go_wp2_with (go_at_call 31; fail)
        refine (C.sub _ _ _ X A true (C.keep HEb.out HW.out) (by exact HXb.out.below HW.out) (by exact HAb.out.below HW.out) HXL.out ha1 HSX.out.2.1).mono ?_
        rintro e x2 ⟨rfl, b⟩
        have HW' : Hid (Below wb.heap.size wb x2) := below_step HW.out b
        clear b HW
        have HW := HW'
        clear HW'
        go_wp2_with (go_at_call 31; fail)
        refine (C.sub _ _ _ A B false (C.keep HEb.out HW.out) (by exact HAb.out.below HW.out) (by exact HBb.out.below HW.out) ha1 hb1 HR.out).mono ?_
        rintro e x3 ⟨rfl, b⟩
        have HW' : Hid (Below wb.heap.size wb x3) := below_step HW.out b
        clear b HW
        have HW := HW'
        clear HW'
        go_wp2_with (go_at_call 13; fail)
        refine (rints_any _ _ _ Z Y false (by exact HZb.out.below HW.out) (by exact HYb.out.below HW.out) HI1.out).mono ?_
        rintro e x4 ⟨rfl, b⟩
        have HW' : Hid (Below wb.heap.size wb x4) := below_step HW.out b
        clear b HW
        have HW := HW'
        clear HW'
        go_wp2_with (go_at_call 31; fail)
        refine (C.sub _ _ _ X Z true (C.keep HEb.out HW.out) (by exact HXb.out.below HW.out) (by exact HZb.out.below HW.out) HXL.out HZL.out HSX.out.2.2.1).mono ?_
        rintro e x5 ⟨rfl, b⟩
        have HW' : Hid (Below wb.heap.size wb x5) := below_step HW.out b
        clear b HW
        have HW := HW'
        clear HW'
        go_wp2_with (go_at_call 31; fail)
        refine (C.sub _ _ _ Y Z true (C.keep HEb.out HW.out) (by exact HYb.out.below HW.out) (by exact HZb.out.below HW.out) HYL.out HZL.out HSX.out.2.2.2).mono ?_
        rintro e x6 ⟨rfl, b⟩
        have HW' : Hid (Below wb.heap.size wb x6) := below_step HW.out b
        clear b HW
        have HW := HW'
        clear HW'
        go_wp2_with (go_at_call 31; fail)
        refine (C.sub _ _ _ A B false (C.keep HEb.out HW.out) (by exact HAb.out.below HW.out) (by exact HBb.out.below HW.out) ha1 hb1 HR.out).mono ?_
        rintro e x7 ⟨rfl, b⟩
        have HW' : Hid (Below wb.heap.size wb x7) := below_step HW.out b
        clear b HW
        have HW := HW'
        clear HW'
        go_wp2_with (go_at_call 13; fail)
        refine (rints_any _ _ _ X Y false (by exact HXb.out.below HW.out) (by exact HYb.out.below HW.out) HI2.out).mono ?_
        rintro e x8 ⟨rfl, b⟩
        have HW' : Hid (Below wb.heap.size wb x8) := below_step HW.out b
        clear b HW
        have HW := HW'
        clear HW'
        go_wp2_with (go_at_call 10; fail)
        refine (C.awake _ (C.keep HEb.out HW.out)).mono ?_
        rintro e x9 ⟨rfl, b⟩
        have HW' : Hid (Below wb.heap.size wb x9) := below_step HW.out b
        clear b HW
        have HW := HW'
        clear HW'
        go_wp2
        go_ret
        exact ⟨rfl, below_step HWb.out HW.out⟩
      · cases q
        · skip
          go_wp2_with (go_at_call 31; fail)
          refine (C.sub _ _ _ A X true (C.keep HEb.out HW.out) (by exact HAb.out.below HW.out) (by exact HXb.out.below HW.out) ha1 HXL.out HSX.out.1).mono ?_
          rintro e x1 ⟨rfl, b⟩
          have HW' : Hid (Below wb.heap.size wb x1) := below_step HW.out b
          clear b HW
          have HW := HW'
          clear HW'
          go_wp2_with (go_at_call 31; fail)
          refine (C.sub _ _ _ X A true (C.keep HEb.out HW.out) (by exact HXb.out.below HW.out) (by exact HAb.out.below HW.out) HXL.out ha1 HSX.out.2.1).mono ?_
          rintro e x2 ⟨rfl, b⟩
          have HW' : Hid (Below wb.heap.size wb x2) := below_step HW.out b
          clear b HW
          have HW := HW'
          clear HW'
          go_wp2_with (go_at_call 31; fail)
          refine (C.sub _ _ _ A B true (C.keep HEb.out HW.out) (by exact HAb.out.below HW.out) (by exact HBb.out.below HW.out) ha1 hb1 HR.out).mono ?_
          rintro e x3 ⟨rfl, b⟩
          have HW' : Hid (Below wb.heap.size wb x3) := below_step HW.out b
          clear b HW
          have HW := HW'
          clear HW'
          go_wp2_with (go_at_call 13; fail)
          refine (rints_any _ _ _ Z Y true (by exact HZb.out.below HW.out) (by exact HYb.out.below HW.out) HI1.out).mono ?_
          rintro e x4 ⟨rfl, b⟩
          have HW' : Hid (Below wb.heap.size wb x4) := below_step HW.out b
          clear b HW
          have HW := HW'
          clear HW'
          go_wp2_with (go_at_call 31; fail)
          refine (C.sub _ _ _ X Z true (C.keep HEb.out HW.out) (by exact HXb.out.below HW.out) (by exact HZb.out.below HW.out) HXL.out HZL.out HSX.out.2.2.1).mono ?_
          rintro e x5 ⟨rfl, b⟩
          have HW' : Hid (Below wb.heap.size wb x5) := below_step HW.out b
          clear b HW
          have HW := HW'
          clear HW'
          go_wp2_with (go_at_call 31; fail)
          refine (C.sub _ _ _ Y Z true (C.keep HEb.out HW.out) (by exact HYb.out.below HW.out) (by exact HZb.out.below HW.out) HYL.out HZL.out HSX.out.2.2.2).mono ?_
          rintro e x6 ⟨rfl, b⟩
          have HW' : Hid (Below wb.heap.size wb x6) := below_step HW.out b
          clear b HW
          have HW := HW'
          clear HW'
          go_wp2_with (go_at_call 31; fail)
          refine (C.sub _ _ _ A B true (C.keep HEb.out HW.out) (by exact HAb.out.below HW.out) (by exact HBb.out.below HW.out) ha1 hb1 HR.out).mono ?_
          rintro e x7 ⟨rfl, b⟩
          have HW' : Hid (Below wb.heap.size wb x7) := below_step HW.out b
          clear b HW
          have HW := HW'
          clear HW'
          go_wp2_with (go_at_call 31; fail)
          refine (C.sub _ _ _ B A false (C.keep HEb.out HW.out) (by exact HBb.out.below HW.out) (by exact HAb.out.below HW.out) hb1 ha1 HQ.out).mono ?_
          rintro e x8 ⟨rfl, b⟩
          have HW' : Hid (Below wb.heap.size wb x8) := below_step HW.out b
          clear b HW
          have HW := HW'
          clear HW'
          go_wp2_with (go_at_call 13; fail)
          refine (rints_any _ _ _ X Y false (by exact HXb.out.below HW.out) (by exact HYb.out.below HW.out) HI2.out).mono ?_
          rintro e x9 ⟨rfl, b⟩
          have HW' : Hid (Below wb.heap.size wb x9) := below_step HW.out b
          clear b HW
          have HW := HW'
          clear HW'
          go_wp2_with (go_at_call 10; fail)
          refine (C.awake _ (C.keep HEb.out HW.out)).mono ?_
          rintro e x10 ⟨rfl, b⟩
          have HW' : Hid (Below wb.heap.size wb x10) := below_step HW.out b
          clear b HW
          have HW := HW'
          clear HW'
          go_wp2
          go_ret
          exact ⟨rfl, below_step HWb.out HW.out⟩
        · skip
          go_wp2_with (go_at_call 31; fail)
          refine (C.sub _ _ _ A X true (C.keep HEb.out HW.out) (by exact HAb.out.below HW.out) (by exact HXb.out.below HW.out) ha1 HXL.out HSX.out.1).mono ?_
          rintro e x1 ⟨rfl, b⟩
          have HW' : Hid (Below wb.heap.size wb x1) := below_step HW.out b
          clear b HW
          have HW := HW'
          clear HW'
          go_wp2_with (go_at_call 31; fail)
          refine (C.sub _ _ _ X A true (C.keep HEb.out HW.out) (by exact HXb.out.below HW.out) (by exact HAb.out.below HW.out) HXL.out ha1 HSX.out.2.1).mono ?_
          rintro e x2 ⟨rfl, b⟩
          have HW' : Hid (Below wb.heap.size wb x2) := below_step HW.out b
          clear b HW
          have HW := HW'
          clear HW'
          go_wp2_with (go_at_call 31; fail)
          refine (C.sub _ _ _ A B true (C.keep HEb.out HW.out) (by exact HAb.out.below HW.out) (by exact HBb.out.below HW.out) ha1 hb1 HR.out).mono ?_
          rintro e x3 ⟨rfl, b⟩
          have HW' : Hid (Below wb.heap.size wb x3) := below_step HW.out b
          clear b HW
          have HW := HW'
          clear HW'
          go_wp2_with (go_at_call 13; fail)
          refine (rints_any _ _ _ Z Y true (by exact HZb.out.below HW.out) (by exact HYb.out.below HW.out) HI1.out).mono ?_
          rintro e x4 ⟨rfl, b⟩
          have HW' : Hid (Below wb.heap.size wb x4) := below_step HW.out b
          clear b HW
          have HW := HW'
          clear HW'
          go_wp2_with (go_at_call 31; fail)
          refine (C.sub _ _ _ X Z true (C.keep HEb.out HW.out) (by exact HXb.out.below HW.out) (by exact HZb.out.below HW.out) HXL.out HZL.out HSX.out.2.2.1).mono ?_
          rintro e x5 ⟨rfl, b⟩
          have HW' : Hid (Below wb.heap.size wb x5) := below_step HW.out b
          clear b HW
          have HW := HW'
          clear HW'
          go_wp2_with (go_at_call 31; fail)
          refine (C.sub _ _ _ Y Z true (C.keep HEb.out HW.out) (by exact HYb.out.below HW.out) (by exact HZb.out.below HW.out) HYL.out HZL.out HSX.out.2.2.2).mono ?_
          rintro e x6 ⟨rfl, b⟩
          have HW' : Hid (Below wb.heap.size wb x6) := below_step HW.out b
          clear b HW
          have HW := HW'
          clear HW'
          go_wp2_with (go_at_call 31; fail)
          refine (C.sub _ _ _ A B true (C.keep HEb.out HW.out) (by exact HAb.out.below HW.out) (by exact HBb.out.below HW.out) ha1 hb1 HR.out).mono ?_
          rintro e x7 ⟨rfl, b⟩
          have HW' : Hid (Below wb.heap.size wb x7) := below_step HW.out b
          clear b HW
          have HW := HW'
          clear HW'
          go_wp2_with (go_at_call 31; fail)
          refine (C.sub _ _ _ B A true (C.keep HEb.out HW.out) (by exact HBb.out.below HW.out) (by exact HAb.out.below HW.out) hb1 ha1 HQ.out).mono ?_
          rintro e x8 ⟨rfl, b⟩
          have HW' : Hid (Below wb.heap.size wb x8) := below_step HW.out b
          clear b HW
          have HW := HW'
          clear HW'
          go_wp2_with (go_at_call 13; fail)
          refine (rints_any _ _ _ X Y true (by exact HXb.out.below HW.out) (by exact HYb.out.below HW.out) HI2.out).mono ?_
          rintro e x9 ⟨rfl, b⟩
          have HW' : Hid (Below wb.heap.size wb x9) := below_step HW.out b
          clear b HW
          have HW := HW'
          clear HW'
          go_wp2_with (go_at_call 10; fail)
          refine (C.awake _ (C.keep HEb.out HW.out)).mono ?_
          rintro e x10 ⟨rfl, b⟩
          have HW' : Hid (Below wb.heap.size wb x10) := below_step HW.out b
          clear b HW
          have HW := HW'
          clear HW'
          go_wp2
          go_ret
          exact ⟨rfl, below_step HWb.out HW.out⟩
theorem sets_big {Env : World → Prop} (C : SetSays Env) (w : World) (a b : Option Addr) (n c m d : Nat) (henv : Env w) (h : 60 < n ∨ 60 < m) :
    Calls Try.prog 7 #[.slice a n c, .slice b m d] w fun e w' => e = .returned (.bool true) ∧ Below w.heap.size w w' := by
  have CA : Hid (Calls Try.prog 10 #[] w fun e w' => e = .returned (.bool true) ∧ Below w.heap.size w w') := C.awake w henv
  clear henv
  by_cases h1 : 60 < n
  · have h1' : (60 : Int) < (n : Int) := by omega
    clear h
    go_enter Try.func7, Try.ntmps7
    go_wp2_with (go_at_call 10; refine CA.out.mono ?_; rintro e w1 ⟨rfl, b1⟩)
    go_ret
    exact ⟨rfl, b1⟩
  · have h1' : ¬ (60 : Int) < (n : Int) := by omega
    have h2' : (60 : Int) < (m : Int) := by omega
    clear h
    go_enter Try.func7, Try.ntmps7
    go_wp2_with (go_at_call 10; refine CA.out.mono ?_; rintro e w1 ⟨rfl, b1⟩)
    go_ret
    exact ⟨rfl, b1⟩
/-- AntiSets, every way. -/
theorem sets_all {Env : World → Prop} (C : SetSays Env) (w : World) (va vb : Value) (A B : List Int) (h1 : IsL w va A) (h2 : IsL w vb B) (henv : Env w) :
    Calls Try.prog 7 #[va, vb] w fun e w' => e = .returned (.bool true) ∧ Below w.heap.size w w' := by
  by_cases h : A.length ≤ 60 ∧ B.length ≤ 60
  · exact sets_core C w va vb A B h1 h2 h.1 h.2 henv
  · obtain ⟨a, c, rfl, -⟩ := h1
    obtain ⟨b, d, rfl, -⟩ := h2
    exact sets_big C w a b _ c _ d henv (by omega)
end Go.Proofs.Yteaajhpgmndomaa
