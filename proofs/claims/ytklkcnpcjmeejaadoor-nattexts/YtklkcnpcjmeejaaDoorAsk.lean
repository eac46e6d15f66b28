/- The walk of NatAsks, out of what nat's functions answer. -/
import Derived.Test.YtklkcnpcjmeejaaDoorLaw
import Derived.Test.YtklkcnpcjmeejaaDoorSml
import Derived.Test.YtklkcnpcjmeejaaDoorFld
import Derived.Deep.RegionHeld3
namespace Go.Proofs.YtklkcnpcjmeejaaDoor
open Go.RowKit Fo
set_option maxRecDepth 100000

theorem below4 (w : World) (o1 o2 o3 : Obj) : Below w.heap.size w (((w.alloc o1).alloc o2).alloc o3) := below3 w o1 o2 o3
theorem same_cmp (C : NatSays) (w : World) (v1 v2 : Value) (X1 X2 : Option Nat) (h1 : NIn w v1 X1) (h2 : NIn w v2 X2) : Calls Tryd.prog 18 #[v1, v2] w fun e w' => e = .returned (.bool (ocmp X1 X2 == 0)) ∧ Below w.heap.size w w' := by
  have e : decide (X1 = X2) = (ocmp X1 X2 == 0) := by
    rw [Bool.eq_iff_iff]
    cases X1 <;> cases X2 <;> simp [ocmp]
    rename_i p q
    by_cases h : p < q
    · rw [if_pos h]; simp; omega
    · rw [if_neg h]; by_cases e : p = q
      · simp [e]
      · simp [e]
  have := C.same w v1 v2 X1 X2 h1 h2
  rw [e] at this
  exact this
set_option maxHeartbeats 16000000 in
theorem asks_core (C : NatSays) (i1 i2 : Bool) (a1 a2 : Option Addr) (n1 n2 c1 c2 m : Nat) (L1 : Nat → Nat) (w : World) (X1 X2 : Option Nat) (hm : m < 18446744073709551616)
    (cMay : ∀ w, Rd w a1 n1 c1 (u32s L1) → Calls Tryd.prog 19 #[.agg #[.bool i1, .slice a1 n1 c1]] w fun e w' => e = .returned (.bool (mayB i1 n1 L1)) ∧ Below w.heap.size w w')
    (henv : Env w) (h1 : NIn w (.agg #[.bool i1, .slice a1 n1 c1]) X1) (hr1 : Rd w a1 n1 c1 (u32s L1)) (h2 : NIn w (.agg #[.bool i2, .slice a2 n2 c2]) X2) (hl1 : n1 ≤ 100) (hl2 : n2 ≤ 100)
    (hb1 : ∀ N, X1 = some N → ln N ≤ 10000) (hb2 : ∀ N, X2 = some N → ln N ≤ 10000) (hA : ∀ N, oadd X1 X2 = some N → ln N ≤ 1000000) (hM : ∀ N, omul X1 X2 = some N → ln N ≤ 1000000) :
    Calls Tryd.prog 3 #[.agg #[.bool i1, .slice a1 n1 c1], .agg #[.bool i2, .slice a2 n2 c2], .int .u64 m] w fun e w' => e = .returned (.bool true) ∧ Below w.heap.size w w' := by
  have HEnv : Hid (Env w) := henv
  clear henv
  have H1' : Hid (NIn w (.agg #[.bool i1, .slice a1 n1 c1]) X1) := h1
  have H2' : Hid (NIn w (.agg #[.bool i2, .slice a2 n2 c2]) X2) := h2
  have HR1' : Hid (Rd w a1 n1 c1 (u32s L1)) := hr1
  have HL1 : Hid (∀ N, X1 = some N → ln N ≤ 10000) := hb1
  have HL2 : Hid (∀ N, X2 = some N → ln N ≤ 10000) := hb2
  have HA : Hid (∀ N, oadd X1 X2 = some N → ln N ≤ 1000000) := hA
  have HM : Hid (∀ N, omul X1 X2 = some N → ln N ≤ 1000000) := hM
  have HO : Hid (∀ N, some m = some N → ln N ≤ 1000000) := fun N e => by
    obtain rfl := Option.some.inj e
    exact Nat.le_trans (ln_word hm) (by decide)
  clear h1 h2 hr1 hb1 hb2 hA hM
  go_enter Tryd.func3, Tryd.ntmps3
  go_wp2_with (go_at_call 9; fail)
  obtain ⟨W0, hW0⟩ : ∃ W0, W0 = (((w.alloc (.cells #[.bool i1, .slice a1 n1 c1] 24)).alloc (.cells #[.bool i2, .slice a2 n2 c2] 24)).alloc (.cells #[.bool i1, .slice a1 n1 c1, .bool i2, .slice a2 n2 c2] 24)) := ⟨_, rfl⟩
  have HB0 : Hid (Below w.heap.size w W0) := by rw [hW0]; exact below3 w _ _ _
  have Hg1 : Hid (W0.heap[w.heap.size]? = some (.cells #[.bool i1, .slice a1 n1 c1] 24)) := by
    show W0.heap[w.heap.size]? = _
    rw [hW0, Below.heap_alloc _ _ _ (by simp; omega)]; exact heap_1st w _ _
  have Hg2 : Hid (W0.heap[w.heap.size + 1]? = some (.cells #[.bool i2, .slice a2 n2 c2] 24)) := by
    show W0.heap[w.heap.size + 1]? = _
    rw [hW0]; exact heap3_1 w _ _ _
  have c9 : Calls Tryd.prog 9 #[.slice (some ⟨w.heap.size + 1 + 1, 0, none⟩) 2 2] W0 fun e w' => e = .returned (.bool true) ∧ w' = W0 := by
    have hg : W0.heap[w.heap.size + 1 + 1]? = some (.cells #[.bool i1, .slice a1 n1 c1, .bool i2, .slice a2 n2 c2] 24) := by rw [hW0]; exact heap3_2 w _ _ _
    refine small_any (w.heap.size + 1 + 1) 2 (fun j => if j = 0 then a1 else a2) (fun j => if j = 0 then n1 else n2) (fun j => if j = 0 then c1 else c2) W0 (by decide) (by decide) true (fun j hj => ?_) (fun _ => rfl) (fun j hj h => ?_)
    · rw [cell_of_row W0 _ _ _ _ _ hg]
      match j, hj with
      | 0, _ => rfl
      | 1, _ => rfl
    · exfalso
      revert h
      show 100 < (if j = 0 then n1 else n2) → False
      split <;> omega
  rw [← hW0]
  have H1 : Hid (NIn W0 (.agg #[.bool i1, .slice a1 n1 c1]) X1) := H1'.out.below HB0.out
  have H2 : Hid (NIn W0 (.agg #[.bool i2, .slice a2 n2 c2]) X2) := H2'.out.below HB0.out
  have HR1 : Hid (Rd W0 a1 n1 c1 (u32s L1)) := HR1'.out.below HB0.out
  clear hW0 H1' H2' HR1'
  refine c9.mono ?_
  rintro e w' ⟨rfl, hw⟩
  replace hw := hw.symm
  subst hw
  clear c9
  have HW : Below W0.heap.size W0 W0 := below_refl W0
  obtain ⟨x0, x1⟩ := box_cell Hg1.out HW
  obtain ⟨x2, x3⟩ := box_cell Hg2.out HW
  have m0 : True := trivial
  go_upto_region 3 with fail
  go_region_held3 (fun w' => w'.cell? ⟨w.heap.size, 0, none⟩ = some (.bool i1) ∧ w'.cell? ⟨w.heap.size, 1, none⟩ = some (.slice a1 n1 c1) ∧ w'.cell? ⟨w.heap.size + 1, 0, none⟩ = some (.bool i2) ∧ w'.cell? ⟨w.heap.size + 1, 1, none⟩ = some (.slice a2 n2 c2)) (first | exact ⟨x0, x1, x2, x3⟩ | go_keep) (first
    | (clear m15; go_at_call 10; refine (C.awake _ (by exact HEnv.out.below (below_step HB0.out (by first | exact HW | exact HW.drew)))).mono ?_; rintro e w16 ⟨rfl, b16⟩; replace HW := below_step (by first | exact HW | exact HW.drew) b16; clear b16; obtain ⟨x0, x1⟩ := box_cell Hg1.out HW; obtain ⟨x2, x3⟩ := box_cell Hg2.out HW; have m16 : True := trivial)
    | (clear m14; go_at_call 11; refine (same_true _ _ _ (some m) (by exact o13) (by exact o14) HO.out).mono ?_; rintro e w15 ⟨rfl, b15⟩; replace o13 := Fo.NOut.below (by exact o13) b15; replace o14 := Fo.NOut.below (by exact o14) b15; replace HW := below_step (by first | exact HW | exact HW.drew) b15; clear b15; obtain ⟨x0, x1⟩ := box_cell Hg1.out HW; obtain ⟨x2, x3⟩ := box_cell Hg2.out HW; have m15 : True := trivial)
    | (clear m13; go_at_call 22; refine (rof_any m hm _).mono ?_; rintro e w14 ⟨⟨u14, rfl, o14⟩, b14⟩; replace o13 := Fo.NOut.below (by exact o13) b14; replace HW := below_step (by first | exact HW | exact HW.drew) b14; clear b14; obtain ⟨x0, x1⟩ := box_cell Hg1.out HW; obtain ⟨x2, x3⟩ := box_cell Hg2.out HW; have m14 : True := trivial)
    | (clear m12; go_at_call 21; refine (C.of m hm _).mono ?_; rintro e w13 ⟨⟨u13, rfl, o13⟩, b13⟩; replace HW := below_step (by first | exact HW | exact HW.drew) b13; clear b13; obtain ⟨x0, x1⟩ := box_cell Hg1.out HW; obtain ⟨x2, x3⟩ := box_cell Hg2.out HW; have m13 : True := trivial)
    | (clear m11; go_at_call 20; refine (rmay_any i1 a1 n1 c1 L1 _ (by exact HR1.out.below (by first | exact HW | exact HW.drew)) (by omega)).mono ?_; rintro e w12 ⟨rfl, b12⟩; replace HW := below_step (by first | exact HW | exact HW.drew) b12; clear b12; obtain ⟨x0, x1⟩ := box_cell Hg1.out HW; obtain ⟨x2, x3⟩ := box_cell Hg2.out HW; have m12 : True := trivial)
    | (clear m10; go_at_call 19; refine (cMay _ (by exact HR1.out.below (by first | exact HW | exact HW.drew))).mono ?_; rintro e w11 ⟨rfl, b11⟩; replace HW := below_step (by first | exact HW | exact HW.drew) b11; clear b11; obtain ⟨x0, x1⟩ := box_cell Hg1.out HW; obtain ⟨x2, x3⟩ := box_cell Hg2.out HW; have m11 : True := trivial)
    | (clear m9; go_at_call 17; refine (rcompare_any _ _ _ X1 X2 (by exact H1.out.below (by first | exact HW | exact HW.drew)) (by exact H2.out.below (by first | exact HW | exact HW.drew))).mono ?_; rintro e w10 ⟨rfl, b10⟩; replace HW := below_step (by first | exact HW | exact HW.drew) b10; clear b10; obtain ⟨x0, x1⟩ := box_cell Hg1.out HW; obtain ⟨x2, x3⟩ := box_cell Hg2.out HW; have m10 : True := trivial)
    | (clear m8; go_at_call 18; refine (same_cmp C _ _ _ X1 X2 (by exact H1.out.below (by first | exact HW | exact HW.drew)) (by exact H2.out.below (by first | exact HW | exact HW.drew))).mono ?_; rintro e w9 ⟨rfl, b9⟩; replace HW := below_step (by first | exact HW | exact HW.drew) b9; clear b9; obtain ⟨x0, x1⟩ := box_cell Hg1.out HW; obtain ⟨x2, x3⟩ := box_cell Hg2.out HW; have m9 : True := trivial)
    | (clear m7; go_at_call 17; refine (rcompare_any _ _ _ X1 X2 (by exact H1.out.below (by first | exact HW | exact HW.drew)) (by exact H2.out.below (by first | exact HW | exact HW.drew))).mono ?_; rintro e w8 ⟨rfl, b8⟩; replace HW := below_step (by first | exact HW | exact HW.drew) b8; clear b8; obtain ⟨x0, x1⟩ := box_cell Hg1.out HW; obtain ⟨x2, x3⟩ := box_cell Hg2.out HW; have m8 : True := trivial)
    | (clear m6; go_at_call 16; refine (C.cmp _ _ _ X1 X2 (by exact H1.out.below (by first | exact HW | exact HW.drew)) (by exact H2.out.below (by first | exact HW | exact HW.drew))).mono ?_; rintro e w7 ⟨rfl, b7⟩; replace HW := below_step (by first | exact HW | exact HW.drew) b7; clear b7; obtain ⟨x0, x1⟩ := box_cell Hg1.out HW; obtain ⟨x2, x3⟩ := box_cell Hg2.out HW; have m7 : True := trivial)
    | (clear m5; go_at_call 11; refine (same_true _ _ _ (omul X1 X2) (by exact o4) (by exact o5) HM.out).mono ?_; rintro e w6 ⟨rfl, b6⟩; replace o4 := Fo.NOut.below (by exact o4) b6; replace o5 := Fo.NOut.below (by exact o5) b6; replace HW := below_step (by first | exact HW | exact HW.drew) b6; clear b6; obtain ⟨x0, x1⟩ := box_cell Hg1.out HW; obtain ⟨x2, x3⟩ := box_cell Hg2.out HW; have m6 : True := trivial)
    | (clear m4; go_at_call 15; refine (rmul_any _ _ _ X1 X2 (by exact H1.out.below (by first | exact HW | exact HW.drew)) (by exact H2.out.below (by first | exact HW | exact HW.drew)) HL1.out HL2.out).mono ?_; rintro e w5 ⟨⟨u5, rfl, o5⟩, b5⟩; replace o4 := Fo.NOut.below (by exact o4) b5; replace HW := below_step (by first | exact HW | exact HW.drew) b5; clear b5; obtain ⟨x0, x1⟩ := box_cell Hg1.out HW; obtain ⟨x2, x3⟩ := box_cell Hg2.out HW; have m5 : True := trivial)
    | (clear m3; go_at_call 14; refine (C.mul _ _ _ X1 X2 (by exact H1.out.below (by first | exact HW | exact HW.drew)) (by exact H2.out.below (by first | exact HW | exact HW.drew)) HL1.out HL2.out).mono ?_; rintro e w4 ⟨⟨u4, rfl, o4⟩, b4⟩; replace HW := below_step (by first | exact HW | exact HW.drew) b4; clear b4; obtain ⟨x0, x1⟩ := box_cell Hg1.out HW; obtain ⟨x2, x3⟩ := box_cell Hg2.out HW; have m4 : True := trivial)
    | (clear m2; go_at_call 11; refine (same_true _ _ _ (oadd X1 X2) (by exact o1) (by exact o2) HA.out).mono ?_; rintro e w3 ⟨rfl, b3⟩; replace o1 := Fo.NOut.below (by exact o1) b3; replace o2 := Fo.NOut.below (by exact o2) b3; replace HW := below_step (by first | exact HW | exact HW.drew) b3; clear b3; obtain ⟨x0, x1⟩ := box_cell Hg1.out HW; obtain ⟨x2, x3⟩ := box_cell Hg2.out HW; have m3 : True := trivial)
    | (clear m1; go_at_call 13; refine (radd_any _ _ _ X1 X2 (by exact H1.out.below (by first | exact HW | exact HW.drew)) (by exact H2.out.below (by first | exact HW | exact HW.drew)) HL1.out HL2.out).mono ?_; rintro e w2 ⟨⟨u2, rfl, o2⟩, b2⟩; replace o1 := Fo.NOut.below (by exact o1) b2; replace HW := below_step (by first | exact HW | exact HW.drew) b2; clear b2; obtain ⟨x0, x1⟩ := box_cell Hg1.out HW; obtain ⟨x2, x3⟩ := box_cell Hg2.out HW; have m2 : True := trivial)
    | (clear m0; go_at_call 12; refine (C.add _ _ _ X1 X2 (by exact H1.out.below (by first | exact HW | exact HW.drew)) (by exact H2.out.below (by first | exact HW | exact HW.drew)) HL1.out HL2.out).mono ?_; rintro e w1 ⟨⟨u1, rfl, o1⟩, b1⟩; replace HW := below_step (by first | exact HW | exact HW.drew) b1; clear b1; obtain ⟨x0, x1⟩ := box_cell Hg1.out HW; obtain ⟨x2, x3⟩ := box_cell Hg2.out HW; have m1 : True := trivial)
    | (go_at_call 99; fail))
  go_wp2
  go_ret
  exact ⟨rfl, below_step HB0.out HW⟩
end Go.Proofs.YtklkcnpcjmeejaaDoor
