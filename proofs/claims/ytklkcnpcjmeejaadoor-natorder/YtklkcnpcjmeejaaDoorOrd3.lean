/- The walk of NatOrder where the first number is not above the second one, out of what nat's functions answer. -/
import Derived.Test.YtklkcnpcjmeejaaDoorAsk
import Derived.Test.YtklkcnpcjmeejaaDoorOpt
namespace Go.Proofs.YtklkcnpcjmeejaaDoor
open Go.RowKit Fo
set_option maxRecDepth 100000

set_option maxHeartbeats 32000000 in
theorem order_le (C : NatSays) (i1 i2 i3 : Bool) (a1 a2 a3 : Option Addr) (n1 n2 n3 c1 c2 c3 : Nat) (w : World) (X1 X2 X3 : Option Nat)
    (henv : Env w) (h1 : NIn w (.agg #[.bool i1, .slice a1 n1 c1]) X1) (h2 : NIn w (.agg #[.bool i2, .slice a2 n2 c2]) X2) (h3 : NIn w (.agg #[.bool i3, .slice a3 n3 c3]) X3) (hl1 : n1 ≤ 100) (hl2 : n2 ≤ 100) (hl3 : n3 ≤ 100)
    (hb1 : ∀ N, X1 = some N → ln N ≤ 100) (hb2 : ∀ N, X2 = some N → ln N ≤ 100) (hb3 : ∀ N, X3 = some N → ln N ≤ 100) (hq3 : ocmp X1 X2 = 0 ∨ ocmp X1 X2 = -1) :
    Calls Tryd.prog 6 #[.agg #[.bool i1, .slice a1 n1 c1], .agg #[.bool i2, .slice a2 n2 c2], .agg #[.bool i3, .slice a3 n3 c3]] w fun e w' => e = .returned (.bool true) ∧ Below w.heap.size w w' := by
  have HEnv : Hid (Env w) := henv
  clear henv
  have H1' : Hid (NIn w (.agg #[.bool i1, .slice a1 n1 c1]) X1) := h1
  have H2' : Hid (NIn w (.agg #[.bool i2, .slice a2 n2 c2]) X2) := h2
  have H3' : Hid (NIn w (.agg #[.bool i3, .slice a3 n3 c3]) X3) := h3
  have HB1 : Hid (∀ N, X1 = some N → ln N ≤ 100) := hb1
  have HB2 : Hid (∀ N, X2 = some N → ln N ≤ 100) := hb2
  have HB3 : Hid (∀ N, X3 = some N → ln N ≤ 100) := hb3
  have HL1 : Hid (∀ N, X1 = some N → ln N ≤ 10000) := fun N e => Nat.le_trans (hb1 N e) (by decide)
  have HL2 : Hid (∀ N, X2 = some N → ln N ≤ 10000) := fun N e => Nat.le_trans (hb2 N e) (by decide)
  have HL3 : Hid (∀ N, X3 = some N → ln N ≤ 10000) := fun N e => Nat.le_trans (hb3 N e) (by decide)
  have HS13 : Hid (Short 101 (oadd X1 X3)) := Short.add (k := 100) hb1 hb3
  have HS23 : Hid (Short 101 (oadd X2 X3)) := Short.add (k := 100) hb2 hb3
  have HP13 : Hid (Short 200 (omul X1 X3)) := Short.mul (j := 100) (k := 100) hb1 hb3
  have HP23 : Hid (Short 200 (omul X2 X3)) := Short.mul (j := 100) (k := 100) hb2 hb3
  have hg : 0 ≤ ocmp (oadd X1 X3) X1 := by
    have := (ocmp_le X1 (oadd X1 X3)).2 (ole_add X1 X3)
    rw [ocmp_swap] at this
    omega
  have HC : Hid (ocmp X1 X2 ≤ 0 → ocmp (oadd X1 X3) (oadd X2 X3) ≤ 0 ∧ ocmp (omul X1 X3) (omul X2 X3) ≤ 0 ∧ (ocmp X2 X3 ≤ 0 → ocmp X1 X3 ≤ 0)) := fun h =>
    ⟨(ocmp_le _ _).2 (ole_adds X3 ((ocmp_le _ _).1 h)), (ocmp_le _ _).2 (ole_muls X3 ((ocmp_le _ _).1 h)), fun k => (ocmp_le _ _).2 (ole_trans ((ocmp_le _ _).1 h) ((ocmp_le _ _).1 k))⟩
  clear h1 h2 h3 hb1 hb2 hb3
  go_enter Tryd.func6, Tryd.ntmps6
  go_wp2_with (go_at_call 9; fail)
  obtain ⟨W0, hW0⟩ : ∃ W0, W0 = ((((w.alloc (.cells #[.bool i1, .slice a1 n1 c1] 24)).alloc (.cells #[.bool i2, .slice a2 n2 c2] 24)).alloc (.cells #[.bool i3, .slice a3 n3 c3] 24)).alloc (.cells #[.bool i1, .slice a1 n1 c1, .bool i2, .slice a2 n2 c2, .bool i3, .slice a3 n3 c3] 24)) := ⟨_, rfl⟩
  have HB0 : Hid (Below w.heap.size w W0) := by rw [hW0]; exact (below3 w _ _ _).alloc (below3 w _ _ _).size _
  have Hg1 : Hid (W0.heap[w.heap.size]? = some (.cells #[.bool i1, .slice a1 n1 c1] 24)) := by
    show W0.heap[w.heap.size]? = _
    rw [hW0, Below.heap_alloc _ _ _ (by first | (simp; done) | (simp; omega)), Below.heap_alloc _ _ _ (by first | (simp; done) | (simp; omega))]; exact heap_1st w _ _
  have Hg2 : Hid (W0.heap[w.heap.size + 1]? = some (.cells #[.bool i2, .slice a2 n2 c2] 24)) := by
    show W0.heap[w.heap.size + 1]? = _
    rw [hW0, Below.heap_alloc _ _ _ (by first | (simp; done) | (simp; omega))]; exact heap3_1 w _ _ _
  have Hg3 : Hid (W0.heap[w.heap.size + 1 + 1]? = some (.cells #[.bool i3, .slice a3 n3 c3] 24)) := by
    show W0.heap[w.heap.size + 1 + 1]? = _
    rw [hW0, Below.heap_alloc _ _ _ (by first | (simp; done) | (simp; omega))]; exact heap3_2 w _ _ _
  have c9 : Calls Tryd.prog 9 #[.slice (some ⟨w.heap.size + 1 + 1 + 1, 0, none⟩) 3 3] W0 fun e w' => e = .returned (.bool true) ∧ w' = W0 := by
    have hg : W0.heap[w.heap.size + 1 + 1 + 1]? = some (.cells #[.bool i1, .slice a1 n1 c1, .bool i2, .slice a2 n2 c2, .bool i3, .slice a3 n3 c3] 24) := by
      rw [hW0, ← (show (((w.alloc (.cells #[.bool i1, .slice a1 n1 c1] 24)).alloc (.cells #[.bool i2, .slice a2 n2 c2] 24)).alloc (.cells #[.bool i3, .slice a3 n3 c3] 24)).heap.size = w.heap.size + 1 + 1 + 1 by simp), heap_alloc_new]
    refine small_any (w.heap.size + 1 + 1 + 1) 3 (fun j => if j = 0 then a1 else if j = 1 then a2 else a3) (fun j => if j = 0 then n1 else if j = 1 then n2 else n3) (fun j => if j = 0 then c1 else if j = 1 then c2 else c3) W0 (by decide) (by decide) true (fun j hj => ?_) (fun _ => rfl) (fun j hj h => ?_)
    · rw [cell_of_row W0 _ _ _ _ _ hg]
      match j, hj with
      | 0, _ => rfl
      | 1, _ => rfl
      | 2, _ => rfl
    · exfalso
      revert h
      show 100 < (if j = 0 then n1 else if j = 1 then n2 else n3) → False
      split
      · omega
      · split <;> omega
  rw [← hW0]
  have H1 : Hid (NIn W0 (.agg #[.bool i1, .slice a1 n1 c1]) X1) := H1'.out.below HB0.out
  have H2 : Hid (NIn W0 (.agg #[.bool i2, .slice a2 n2 c2]) X2) := H2'.out.below HB0.out
  have H3 : Hid (NIn W0 (.agg #[.bool i3, .slice a3 n3 c3]) X3) := H3'.out.below HB0.out
  clear hW0 H1' H2' H3'
  refine c9.mono ?_
  rintro e w' ⟨rfl, hw⟩
  replace hw := hw.symm
  subst hw
  clear c9
  have HW : Below W0.heap.size W0 W0 := below_refl W0
  obtain ⟨x0, x1⟩ := box_cell Hg1.out HW
  obtain ⟨x2, x3⟩ := box_cell Hg2.out HW
  obtain ⟨x4, x5⟩ := box_cell Hg3.out HW
  have m0 : True := trivial
  rcases hq3 with e12 | e12
  · have E12 : Hid (ocmp X1 X2 = 0) := e12
    obtain ⟨g2, g3, g4⟩ := HC.out (by rw [e12]; decide)
    clear e12
    by_cases hr : ocmp X2 X3 ≤ 0
    · have g5 := g4 hr
      have g6 : ¬ 0 < ocmp X1 X3 := by omega
      clear g4 HC
      go_upto_region 6 with (first
        | (clear m4; go_at_call 16; refine (C.cmp _ _ _ X1 X3 (by exact H1.out.below (by first | exact HW | exact HW.drew)) (by exact H3.out.below (by first | exact HW | exact HW.drew))).mono ?_; rintro e w5 ⟨rfl, b5⟩; replace HW := below_step (by first | exact HW | exact HW.drew) b5; clear b5; obtain ⟨x0, x1⟩ := box_cell Hg1.out HW; obtain ⟨x2, x3⟩ := box_cell Hg2.out HW; obtain ⟨x4, x5⟩ := box_cell Hg3.out HW; have m5 : True := trivial)
        | (clear m3; go_at_call 16; refine (C.cmp _ _ _ X2 X3 (by exact H2.out.below (by first | exact HW | exact HW.drew)) (by exact H3.out.below (by first | exact HW | exact HW.drew))).mono ?_; rintro e w4 ⟨rfl, b4⟩; replace HW := below_step (by first | exact HW | exact HW.drew) b4; clear b4; obtain ⟨x0, x1⟩ := box_cell Hg1.out HW; obtain ⟨x2, x3⟩ := box_cell Hg2.out HW; obtain ⟨x4, x5⟩ := box_cell Hg3.out HW; have m4 : True := trivial)
        | (clear m2; go_at_call 16; refine (cmp_self C _ _ X1 (by exact H1.out.below (by first | exact HW | exact HW.drew))).mono ?_; rintro e w3 ⟨rfl, b3⟩; replace HW := below_step (by first | exact HW | exact HW.drew) b3; clear b3; obtain ⟨x0, x1⟩ := box_cell Hg1.out HW; obtain ⟨x2, x3⟩ := box_cell Hg2.out HW; obtain ⟨x4, x5⟩ := box_cell Hg3.out HW; have m3 : True := trivial)
        | (clear m1; go_at_call 16; refine (cmp_back C _ _ _ X1 X2 (-(0)) (by rw [E12.out]; rfl) (by exact H1.out.below (by first | exact HW | exact HW.drew)) (by exact H2.out.below (by first | exact HW | exact HW.drew))).mono ?_; rintro e w2 ⟨rfl, b2⟩; replace HW := below_step (by first | exact HW | exact HW.drew) b2; clear b2; obtain ⟨x0, x1⟩ := box_cell Hg1.out HW; obtain ⟨x2, x3⟩ := box_cell Hg2.out HW; obtain ⟨x4, x5⟩ := box_cell Hg3.out HW; have m2 : True := trivial)
        | (clear m0; go_at_call 16; refine (cmp_at C _ _ _ X1 X2 (0) E12.out (by exact H1.out.below (by first | exact HW | exact HW.drew)) (by exact H2.out.below (by first | exact HW | exact HW.drew))).mono ?_; rintro e w1 ⟨rfl, b1⟩; replace HW := below_step (by first | exact HW | exact HW.drew) b1; clear b1; obtain ⟨x0, x1⟩ := box_cell Hg1.out HW; obtain ⟨x2, x3⟩ := box_cell Hg2.out HW; obtain ⟨x4, x5⟩ := box_cell Hg3.out HW; have m1 : True := trivial)
        | (go_at_call 99; fail))
      go_region_held3 (fun w' => w'.cell? ⟨w.heap.size, 0, none⟩ = some (.bool i1) ∧ w'.cell? ⟨w.heap.size, 1, none⟩ = some (.slice a1 n1 c1) ∧ w'.cell? ⟨w.heap.size + 1, 0, none⟩ = some (.bool i2) ∧ w'.cell? ⟨w.heap.size + 1, 1, none⟩ = some (.slice a2 n2 c2) ∧ w'.cell? ⟨w.heap.size + 1 + 1, 0, none⟩ = some (.bool i3) ∧ w'.cell? ⟨w.heap.size + 1 + 1, 1, none⟩ = some (.slice a3 n3 c3)) (first | exact ⟨x0, x1, x2, x3, x4, x5⟩ | go_keep) (first
        | (clear m13; go_at_call 10; refine (C.awake _ (by exact HEnv.out.below (below_step HB0.out (by first | exact HW | exact HW.drew)))).mono ?_; rintro e w14 ⟨rfl, b14⟩; replace HW := below_step (by first | exact HW | exact HW.drew) b14; clear b14; obtain ⟨x0, x1⟩ := box_cell Hg1.out HW; obtain ⟨x2, x3⟩ := box_cell Hg2.out HW; obtain ⟨x4, x5⟩ := box_cell Hg3.out HW; have m14 : True := trivial)
        | (clear m12; go_at_call 16; refine (C.cmp _ _ _ (omul X1 X3) (omul X2 X3) (by exact Fo.NOut.short (by exact o11) HP13.out (by decide)) (by exact Fo.NOut.short (by exact o12) HP23.out (by decide))).mono ?_; rintro e w13 ⟨rfl, b13⟩; replace o11 := Fo.NOut.below (by exact o11) b13; replace o12 := Fo.NOut.below (by exact o12) b13; replace HW := below_step (by first | exact HW | exact HW.drew) b13; clear b13; obtain ⟨x0, x1⟩ := box_cell Hg1.out HW; obtain ⟨x2, x3⟩ := box_cell Hg2.out HW; obtain ⟨x4, x5⟩ := box_cell Hg3.out HW; have m13 : True := trivial)
        | (clear m11; go_at_call 14; refine (C.mul _ _ _ X2 X3 (by exact H2.out.below (by first | exact HW | exact HW.drew)) (by exact H3.out.below (by first | exact HW | exact HW.drew)) HL2.out HL3.out).mono ?_; rintro e w12 ⟨⟨u12, rfl, o12⟩, b12⟩; replace o11 := Fo.NOut.below (by exact o11) b12; replace HW := below_step (by first | exact HW | exact HW.drew) b12; clear b12; obtain ⟨x0, x1⟩ := box_cell Hg1.out HW; obtain ⟨x2, x3⟩ := box_cell Hg2.out HW; obtain ⟨x4, x5⟩ := box_cell Hg3.out HW; have m12 : True := trivial)
        | (clear m10; go_at_call 14; refine (C.mul _ _ _ X1 X3 (by exact H1.out.below (by first | exact HW | exact HW.drew)) (by exact H3.out.below (by first | exact HW | exact HW.drew)) HL1.out HL3.out).mono ?_; rintro e w11 ⟨⟨u11, rfl, o11⟩, b11⟩; replace HW := below_step (by first | exact HW | exact HW.drew) b11; clear b11; obtain ⟨x0, x1⟩ := box_cell Hg1.out HW; obtain ⟨x2, x3⟩ := box_cell Hg2.out HW; obtain ⟨x4, x5⟩ := box_cell Hg3.out HW; have m11 : True := trivial)
        | (clear m9; go_at_call 16; refine (C.cmp _ _ _ (oadd X1 X3) (oadd X2 X3) (by exact Fo.NOut.short (by exact o8) HS13.out (by decide)) (by exact Fo.NOut.short (by exact o9) HS23.out (by decide))).mono ?_; rintro e w10 ⟨rfl, b10⟩; replace o8 := Fo.NOut.below (by exact o8) b10; replace o9 := Fo.NOut.below (by exact o9) b10; replace HW := below_step (by first | exact HW | exact HW.drew) b10; clear b10; obtain ⟨x0, x1⟩ := box_cell Hg1.out HW; obtain ⟨x2, x3⟩ := box_cell Hg2.out HW; obtain ⟨x4, x5⟩ := box_cell Hg3.out HW; have m10 : True := trivial)
        | (clear m8; go_at_call 12; refine (C.add _ _ _ X2 X3 (by exact H2.out.below (by first | exact HW | exact HW.drew)) (by exact H3.out.below (by first | exact HW | exact HW.drew)) HL2.out HL3.out).mono ?_; rintro e w9 ⟨⟨u9, rfl, o9⟩, b9⟩; replace o8 := Fo.NOut.below (by exact o8) b9; replace HW := below_step (by first | exact HW | exact HW.drew) b9; clear b9; obtain ⟨x0, x1⟩ := box_cell Hg1.out HW; obtain ⟨x2, x3⟩ := box_cell Hg2.out HW; obtain ⟨x4, x5⟩ := box_cell Hg3.out HW; have m9 : True := trivial)
        | (clear m7; go_at_call 12; refine (C.add _ _ _ X1 X3 (by exact H1.out.below (by first | exact HW | exact HW.drew)) (by exact H3.out.below (by first | exact HW | exact HW.drew)) HL1.out HL3.out).mono ?_; rintro e w8 ⟨⟨u8, rfl, o8⟩, b8⟩; replace HW := below_step (by first | exact HW | exact HW.drew) b8; clear b8; obtain ⟨x0, x1⟩ := box_cell Hg1.out HW; obtain ⟨x2, x3⟩ := box_cell Hg2.out HW; obtain ⟨x4, x5⟩ := box_cell Hg3.out HW; have m8 : True := trivial)
        | (clear m6; go_at_call 16; refine (C.cmp _ _ _ (oadd X1 X3) X1 (by exact Fo.NOut.short (by exact o6) HS13.out (by decide)) (by exact H1.out.below (by first | exact HW | exact HW.drew))).mono ?_; rintro e w7 ⟨rfl, b7⟩; replace o6 := Fo.NOut.below (by exact o6) b7; replace HW := below_step (by first | exact HW | exact HW.drew) b7; clear b7; obtain ⟨x0, x1⟩ := box_cell Hg1.out HW; obtain ⟨x2, x3⟩ := box_cell Hg2.out HW; obtain ⟨x4, x5⟩ := box_cell Hg3.out HW; have m7 : True := trivial)
        | (clear m5; go_at_call 12; refine (C.add _ _ _ X1 X3 (by exact H1.out.below (by first | exact HW | exact HW.drew)) (by exact H3.out.below (by first | exact HW | exact HW.drew)) HL1.out HL3.out).mono ?_; rintro e w6 ⟨⟨u6, rfl, o6⟩, b6⟩; replace HW := below_step (by first | exact HW | exact HW.drew) b6; clear b6; obtain ⟨x0, x1⟩ := box_cell Hg1.out HW; obtain ⟨x2, x3⟩ := box_cell Hg2.out HW; obtain ⟨x4, x5⟩ := box_cell Hg3.out HW; have m6 : True := trivial)
        | (go_at_call 99; fail))
      go_wp2
      go_ret
      exact ⟨rfl, below_step HB0.out HW⟩
    · clear g4 HC
      go_upto_region 6 with (first
        | (clear m3; go_at_call 16; refine (C.cmp _ _ _ X2 X3 (by exact H2.out.below (by first | exact HW | exact HW.drew)) (by exact H3.out.below (by first | exact HW | exact HW.drew))).mono ?_; rintro e w4 ⟨rfl, b4⟩; replace HW := below_step (by first | exact HW | exact HW.drew) b4; clear b4; obtain ⟨x0, x1⟩ := box_cell Hg1.out HW; obtain ⟨x2, x3⟩ := box_cell Hg2.out HW; obtain ⟨x4, x5⟩ := box_cell Hg3.out HW; have m4 : True := trivial)
        | (clear m2; go_at_call 16; refine (cmp_self C _ _ X1 (by exact H1.out.below (by first | exact HW | exact HW.drew))).mono ?_; rintro e w3 ⟨rfl, b3⟩; replace HW := below_step (by first | exact HW | exact HW.drew) b3; clear b3; obtain ⟨x0, x1⟩ := box_cell Hg1.out HW; obtain ⟨x2, x3⟩ := box_cell Hg2.out HW; obtain ⟨x4, x5⟩ := box_cell Hg3.out HW; have m3 : True := trivial)
        | (clear m1; go_at_call 16; refine (cmp_back C _ _ _ X1 X2 (-(0)) (by rw [E12.out]; rfl) (by exact H1.out.below (by first | exact HW | exact HW.drew)) (by exact H2.out.below (by first | exact HW | exact HW.drew))).mono ?_; rintro e w2 ⟨rfl, b2⟩; replace HW := below_step (by first | exact HW | exact HW.drew) b2; clear b2; obtain ⟨x0, x1⟩ := box_cell Hg1.out HW; obtain ⟨x2, x3⟩ := box_cell Hg2.out HW; obtain ⟨x4, x5⟩ := box_cell Hg3.out HW; have m2 : True := trivial)
        | (clear m0; go_at_call 16; refine (cmp_at C _ _ _ X1 X2 (0) E12.out (by exact H1.out.below (by first | exact HW | exact HW.drew)) (by exact H2.out.below (by first | exact HW | exact HW.drew))).mono ?_; rintro e w1 ⟨rfl, b1⟩; replace HW := below_step (by first | exact HW | exact HW.drew) b1; clear b1; obtain ⟨x0, x1⟩ := box_cell Hg1.out HW; obtain ⟨x2, x3⟩ := box_cell Hg2.out HW; obtain ⟨x4, x5⟩ := box_cell Hg3.out HW; have m1 : True := trivial)
        | (go_at_call 99; fail))
      go_region_held3 (fun w' => w'.cell? ⟨w.heap.size, 0, none⟩ = some (.bool i1) ∧ w'.cell? ⟨w.heap.size, 1, none⟩ = some (.slice a1 n1 c1) ∧ w'.cell? ⟨w.heap.size + 1, 0, none⟩ = some (.bool i2) ∧ w'.cell? ⟨w.heap.size + 1, 1, none⟩ = some (.slice a2 n2 c2) ∧ w'.cell? ⟨w.heap.size + 1 + 1, 0, none⟩ = some (.bool i3) ∧ w'.cell? ⟨w.heap.size + 1 + 1, 1, none⟩ = some (.slice a3 n3 c3)) (first | exact ⟨x0, x1, x2, x3, x4, x5⟩ | go_keep) (first
        | (clear m12; go_at_call 10; refine (C.awake _ (by exact HEnv.out.below (below_step HB0.out (by first | exact HW | exact HW.drew)))).mono ?_; rintro e w13 ⟨rfl, b13⟩; replace HW := below_step (by first | exact HW | exact HW.drew) b13; clear b13; obtain ⟨x0, x1⟩ := box_cell Hg1.out HW; obtain ⟨x2, x3⟩ := box_cell Hg2.out HW; obtain ⟨x4, x5⟩ := box_cell Hg3.out HW; have m13 : True := trivial)
        | (clear m11; go_at_call 16; refine (C.cmp _ _ _ (omul X1 X3) (omul X2 X3) (by exact Fo.NOut.short (by exact o10) HP13.out (by decide)) (by exact Fo.NOut.short (by exact o11) HP23.out (by decide))).mono ?_; rintro e w12 ⟨rfl, b12⟩; replace o10 := Fo.NOut.below (by exact o10) b12; replace o11 := Fo.NOut.below (by exact o11) b12; replace HW := below_step (by first | exact HW | exact HW.drew) b12; clear b12; obtain ⟨x0, x1⟩ := box_cell Hg1.out HW; obtain ⟨x2, x3⟩ := box_cell Hg2.out HW; obtain ⟨x4, x5⟩ := box_cell Hg3.out HW; have m12 : True := trivial)
        | (clear m10; go_at_call 14; refine (C.mul _ _ _ X2 X3 (by exact H2.out.below (by first | exact HW | exact HW.drew)) (by exact H3.out.below (by first | exact HW | exact HW.drew)) HL2.out HL3.out).mono ?_; rintro e w11 ⟨⟨u11, rfl, o11⟩, b11⟩; replace o10 := Fo.NOut.below (by exact o10) b11; replace HW := below_step (by first | exact HW | exact HW.drew) b11; clear b11; obtain ⟨x0, x1⟩ := box_cell Hg1.out HW; obtain ⟨x2, x3⟩ := box_cell Hg2.out HW; obtain ⟨x4, x5⟩ := box_cell Hg3.out HW; have m11 : True := trivial)
        | (clear m9; go_at_call 14; refine (C.mul _ _ _ X1 X3 (by exact H1.out.below (by first | exact HW | exact HW.drew)) (by exact H3.out.below (by first | exact HW | exact HW.drew)) HL1.out HL3.out).mono ?_; rintro e w10 ⟨⟨u10, rfl, o10⟩, b10⟩; replace HW := below_step (by first | exact HW | exact HW.drew) b10; clear b10; obtain ⟨x0, x1⟩ := box_cell Hg1.out HW; obtain ⟨x2, x3⟩ := box_cell Hg2.out HW; obtain ⟨x4, x5⟩ := box_cell Hg3.out HW; have m10 : True := trivial)
        | (clear m8; go_at_call 16; refine (C.cmp _ _ _ (oadd X1 X3) (oadd X2 X3) (by exact Fo.NOut.short (by exact o7) HS13.out (by decide)) (by exact Fo.NOut.short (by exact o8) HS23.out (by decide))).mono ?_; rintro e w9 ⟨rfl, b9⟩; replace o7 := Fo.NOut.below (by exact o7) b9; replace o8 := Fo.NOut.below (by exact o8) b9; replace HW := below_step (by first | exact HW | exact HW.drew) b9; clear b9; obtain ⟨x0, x1⟩ := box_cell Hg1.out HW; obtain ⟨x2, x3⟩ := box_cell Hg2.out HW; obtain ⟨x4, x5⟩ := box_cell Hg3.out HW; have m9 : True := trivial)
        | (clear m7; go_at_call 12; refine (C.add _ _ _ X2 X3 (by exact H2.out.below (by first | exact HW | exact HW.drew)) (by exact H3.out.below (by first | exact HW | exact HW.drew)) HL2.out HL3.out).mono ?_; rintro e w8 ⟨⟨u8, rfl, o8⟩, b8⟩; replace o7 := Fo.NOut.below (by exact o7) b8; replace HW := below_step (by first | exact HW | exact HW.drew) b8; clear b8; obtain ⟨x0, x1⟩ := box_cell Hg1.out HW; obtain ⟨x2, x3⟩ := box_cell Hg2.out HW; obtain ⟨x4, x5⟩ := box_cell Hg3.out HW; have m8 : True := trivial)
        | (clear m6; go_at_call 12; refine (C.add _ _ _ X1 X3 (by exact H1.out.below (by first | exact HW | exact HW.drew)) (by exact H3.out.below (by first | exact HW | exact HW.drew)) HL1.out HL3.out).mono ?_; rintro e w7 ⟨⟨u7, rfl, o7⟩, b7⟩; replace HW := below_step (by first | exact HW | exact HW.drew) b7; clear b7; obtain ⟨x0, x1⟩ := box_cell Hg1.out HW; obtain ⟨x2, x3⟩ := box_cell Hg2.out HW; obtain ⟨x4, x5⟩ := box_cell Hg3.out HW; have m7 : True := trivial)
        | (clear m5; go_at_call 16; refine (C.cmp _ _ _ (oadd X1 X3) X1 (by exact Fo.NOut.short (by exact o5) HS13.out (by decide)) (by exact H1.out.below (by first | exact HW | exact HW.drew))).mono ?_; rintro e w6 ⟨rfl, b6⟩; replace o5 := Fo.NOut.below (by exact o5) b6; replace HW := below_step (by first | exact HW | exact HW.drew) b6; clear b6; obtain ⟨x0, x1⟩ := box_cell Hg1.out HW; obtain ⟨x2, x3⟩ := box_cell Hg2.out HW; obtain ⟨x4, x5⟩ := box_cell Hg3.out HW; have m6 : True := trivial)
        | (clear m4; go_at_call 12; refine (C.add _ _ _ X1 X3 (by exact H1.out.below (by first | exact HW | exact HW.drew)) (by exact H3.out.below (by first | exact HW | exact HW.drew)) HL1.out HL3.out).mono ?_; rintro e w5 ⟨⟨u5, rfl, o5⟩, b5⟩; replace HW := below_step (by first | exact HW | exact HW.drew) b5; clear b5; obtain ⟨x0, x1⟩ := box_cell Hg1.out HW; obtain ⟨x2, x3⟩ := box_cell Hg2.out HW; obtain ⟨x4, x5⟩ := box_cell Hg3.out HW; have m5 : True := trivial)
        | (go_at_call 99; fail))
      go_wp2
      go_ret
      exact ⟨rfl, below_step HB0.out HW⟩
  · have E12 : Hid (ocmp X1 X2 = -1) := e12
    obtain ⟨g2, g3, g4⟩ := HC.out (by rw [e12]; decide)
    clear e12
    by_cases hr : ocmp X2 X3 ≤ 0
    · have g5 := g4 hr
      have g6 : ¬ 0 < ocmp X1 X3 := by omega
      clear g4 HC
      go_upto_region 6 with (first
        | (clear m4; go_at_call 16; refine (C.cmp _ _ _ X1 X3 (by exact H1.out.below (by first | exact HW | exact HW.drew)) (by exact H3.out.below (by first | exact HW | exact HW.drew))).mono ?_; rintro e w5 ⟨rfl, b5⟩; replace HW := below_step (by first | exact HW | exact HW.drew) b5; clear b5; obtain ⟨x0, x1⟩ := box_cell Hg1.out HW; obtain ⟨x2, x3⟩ := box_cell Hg2.out HW; obtain ⟨x4, x5⟩ := box_cell Hg3.out HW; have m5 : True := trivial)
        | (clear m3; go_at_call 16; refine (C.cmp _ _ _ X2 X3 (by exact H2.out.below (by first | exact HW | exact HW.drew)) (by exact H3.out.below (by first | exact HW | exact HW.drew))).mono ?_; rintro e w4 ⟨rfl, b4⟩; replace HW := below_step (by first | exact HW | exact HW.drew) b4; clear b4; obtain ⟨x0, x1⟩ := box_cell Hg1.out HW; obtain ⟨x2, x3⟩ := box_cell Hg2.out HW; obtain ⟨x4, x5⟩ := box_cell Hg3.out HW; have m4 : True := trivial)
        | (clear m2; go_at_call 16; refine (cmp_self C _ _ X1 (by exact H1.out.below (by first | exact HW | exact HW.drew))).mono ?_; rintro e w3 ⟨rfl, b3⟩; replace HW := below_step (by first | exact HW | exact HW.drew) b3; clear b3; obtain ⟨x0, x1⟩ := box_cell Hg1.out HW; obtain ⟨x2, x3⟩ := box_cell Hg2.out HW; obtain ⟨x4, x5⟩ := box_cell Hg3.out HW; have m3 : True := trivial)
        | (clear m1; go_at_call 16; refine (cmp_back C _ _ _ X1 X2 (-(-1)) (by rw [E12.out]; rfl) (by exact H1.out.below (by first | exact HW | exact HW.drew)) (by exact H2.out.below (by first | exact HW | exact HW.drew))).mono ?_; rintro e w2 ⟨rfl, b2⟩; replace HW := below_step (by first | exact HW | exact HW.drew) b2; clear b2; obtain ⟨x0, x1⟩ := box_cell Hg1.out HW; obtain ⟨x2, x3⟩ := box_cell Hg2.out HW; obtain ⟨x4, x5⟩ := box_cell Hg3.out HW; have m2 : True := trivial)
        | (clear m0; go_at_call 16; refine (cmp_at C _ _ _ X1 X2 (-1) E12.out (by exact H1.out.below (by first | exact HW | exact HW.drew)) (by exact H2.out.below (by first | exact HW | exact HW.drew))).mono ?_; rintro e w1 ⟨rfl, b1⟩; replace HW := below_step (by first | exact HW | exact HW.drew) b1; clear b1; obtain ⟨x0, x1⟩ := box_cell Hg1.out HW; obtain ⟨x2, x3⟩ := box_cell Hg2.out HW; obtain ⟨x4, x5⟩ := box_cell Hg3.out HW; have m1 : True := trivial)
        | (go_at_call 99; fail))
      go_region_held3 (fun w' => w'.cell? ⟨w.heap.size, 0, none⟩ = some (.bool i1) ∧ w'.cell? ⟨w.heap.size, 1, none⟩ = some (.slice a1 n1 c1) ∧ w'.cell? ⟨w.heap.size + 1, 0, none⟩ = some (.bool i2) ∧ w'.cell? ⟨w.heap.size + 1, 1, none⟩ = some (.slice a2 n2 c2) ∧ w'.cell? ⟨w.heap.size + 1 + 1, 0, none⟩ = some (.bool i3) ∧ w'.cell? ⟨w.heap.size + 1 + 1, 1, none⟩ = some (.slice a3 n3 c3)) (first | exact ⟨x0, x1, x2, x3, x4, x5⟩ | go_keep) (first
        | (clear m13; go_at_call 10; refine (C.awake _ (by exact HEnv.out.below (below_step HB0.out (by first | exact HW | exact HW.drew)))).mono ?_; rintro e w14 ⟨rfl, b14⟩; replace HW := below_step (by first | exact HW | exact HW.drew) b14; clear b14; obtain ⟨x0, x1⟩ := box_cell Hg1.out HW; obtain ⟨x2, x3⟩ := box_cell Hg2.out HW; obtain ⟨x4, x5⟩ := box_cell Hg3.out HW; have m14 : True := trivial)
        | (clear m12; go_at_call 16; refine (C.cmp _ _ _ (omul X1 X3) (omul X2 X3) (by exact Fo.NOut.short (by exact o11) HP13.out (by decide)) (by exact Fo.NOut.short (by exact o12) HP23.out (by decide))).mono ?_; rintro e w13 ⟨rfl, b13⟩; replace o11 := Fo.NOut.below (by exact o11) b13; replace o12 := Fo.NOut.below (by exact o12) b13; replace HW := below_step (by first | exact HW | exact HW.drew) b13; clear b13; obtain ⟨x0, x1⟩ := box_cell Hg1.out HW; obtain ⟨x2, x3⟩ := box_cell Hg2.out HW; obtain ⟨x4, x5⟩ := box_cell Hg3.out HW; have m13 : True := trivial)
        | (clear m11; go_at_call 14; refine (C.mul _ _ _ X2 X3 (by exact H2.out.below (by first | exact HW | exact HW.drew)) (by exact H3.out.below (by first | exact HW | exact HW.drew)) HL2.out HL3.out).mono ?_; rintro e w12 ⟨⟨u12, rfl, o12⟩, b12⟩; replace o11 := Fo.NOut.below (by exact o11) b12; replace HW := below_step (by first | exact HW | exact HW.drew) b12; clear b12; obtain ⟨x0, x1⟩ := box_cell Hg1.out HW; obtain ⟨x2, x3⟩ := box_cell Hg2.out HW; obtain ⟨x4, x5⟩ := box_cell Hg3.out HW; have m12 : True := trivial)
        | (clear m10; go_at_call 14; refine (C.mul _ _ _ X1 X3 (by exact H1.out.below (by first | exact HW | exact HW.drew)) (by exact H3.out.below (by first | exact HW | exact HW.drew)) HL1.out HL3.out).mono ?_; rintro e w11 ⟨⟨u11, rfl, o11⟩, b11⟩; replace HW := below_step (by first | exact HW | exact HW.drew) b11; clear b11; obtain ⟨x0, x1⟩ := box_cell Hg1.out HW; obtain ⟨x2, x3⟩ := box_cell Hg2.out HW; obtain ⟨x4, x5⟩ := box_cell Hg3.out HW; have m11 : True := trivial)
        | (clear m9; go_at_call 16; refine (C.cmp _ _ _ (oadd X1 X3) (oadd X2 X3) (by exact Fo.NOut.short (by exact o8) HS13.out (by decide)) (by exact Fo.NOut.short (by exact o9) HS23.out (by decide))).mono ?_; rintro e w10 ⟨rfl, b10⟩; replace o8 := Fo.NOut.below (by exact o8) b10; replace o9 := Fo.NOut.below (by exact o9) b10; replace HW := below_step (by first | exact HW | exact HW.drew) b10; clear b10; obtain ⟨x0, x1⟩ := box_cell Hg1.out HW; obtain ⟨x2, x3⟩ := box_cell Hg2.out HW; obtain ⟨x4, x5⟩ := box_cell Hg3.out HW; have m10 : True := trivial)
        | (clear m8; go_at_call 12; refine (C.add _ _ _ X2 X3 (by exact H2.out.below (by first | exact HW | exact HW.drew)) (by exact H3.out.below (by first | exact HW | exact HW.drew)) HL2.out HL3.out).mono ?_; rintro e w9 ⟨⟨u9, rfl, o9⟩, b9⟩; replace o8 := Fo.NOut.below (by exact o8) b9; replace HW := below_step (by first | exact HW | exact HW.drew) b9; clear b9; obtain ⟨x0, x1⟩ := box_cell Hg1.out HW; obtain ⟨x2, x3⟩ := box_cell Hg2.out HW; obtain ⟨x4, x5⟩ := box_cell Hg3.out HW; have m9 : True := trivial)
        | (clear m7; go_at_call 12; refine (C.add _ _ _ X1 X3 (by exact H1.out.below (by first | exact HW | exact HW.drew)) (by exact H3.out.below (by first | exact HW | exact HW.drew)) HL1.out HL3.out).mono ?_; rintro e w8 ⟨⟨u8, rfl, o8⟩, b8⟩; replace HW := below_step (by first | exact HW | exact HW.drew) b8; clear b8; obtain ⟨x0, x1⟩ := box_cell Hg1.out HW; obtain ⟨x2, x3⟩ := box_cell Hg2.out HW; obtain ⟨x4, x5⟩ := box_cell Hg3.out HW; have m8 : True := trivial)
        | (clear m6; go_at_call 16; refine (C.cmp _ _ _ (oadd X1 X3) X1 (by exact Fo.NOut.short (by exact o6) HS13.out (by decide)) (by exact H1.out.below (by first | exact HW | exact HW.drew))).mono ?_; rintro e w7 ⟨rfl, b7⟩; replace o6 := Fo.NOut.below (by exact o6) b7; replace HW := below_step (by first | exact HW | exact HW.drew) b7; clear b7; obtain ⟨x0, x1⟩ := box_cell Hg1.out HW; obtain ⟨x2, x3⟩ := box_cell Hg2.out HW; obtain ⟨x4, x5⟩ := box_cell Hg3.out HW; have m7 : True := trivial)
        | (clear m5; go_at_call 12; refine (C.add _ _ _ X1 X3 (by exact H1.out.below (by first | exact HW | exact HW.drew)) (by exact H3.out.below (by first | exact HW | exact HW.drew)) HL1.out HL3.out).mono ?_; rintro e w6 ⟨⟨u6, rfl, o6⟩, b6⟩; replace HW := below_step (by first | exact HW | exact HW.drew) b6; clear b6; obtain ⟨x0, x1⟩ := box_cell Hg1.out HW; obtain ⟨x2, x3⟩ := box_cell Hg2.out HW; obtain ⟨x4, x5⟩ := box_cell Hg3.out HW; have m6 : True := trivial)
        | (go_at_call 99; fail))
      go_wp2
      go_ret
      exact ⟨rfl, below_step HB0.out HW⟩
    · clear g4 HC
      go_upto_region 6 with (first
        | (clear m3; go_at_call 16; refine (C.cmp _ _ _ X2 X3 (by exact H2.out.below (by first | exact HW | exact HW.drew)) (by exact H3.out.below (by first | exact HW | exact HW.drew))).mono ?_; rintro e w4 ⟨rfl, b4⟩; replace HW := below_step (by first | exact HW | exact HW.drew) b4; clear b4; obtain ⟨x0, x1⟩ := box_cell Hg1.out HW; obtain ⟨x2, x3⟩ := box_cell Hg2.out HW; obtain ⟨x4, x5⟩ := box_cell Hg3.out HW; have m4 : True := trivial)
        | (clear m2; go_at_call 16; refine (cmp_self C _ _ X1 (by exact H1.out.below (by first | exact HW | exact HW.drew))).mono ?_; rintro e w3 ⟨rfl, b3⟩; replace HW := below_step (by first | exact HW | exact HW.drew) b3; clear b3; obtain ⟨x0, x1⟩ := box_cell Hg1.out HW; obtain ⟨x2, x3⟩ := box_cell Hg2.out HW; obtain ⟨x4, x5⟩ := box_cell Hg3.out HW; have m3 : True := trivial)
        | (clear m1; go_at_call 16; refine (cmp_back C _ _ _ X1 X2 (-(-1)) (by rw [E12.out]; rfl) (by exact H1.out.below (by first | exact HW | exact HW.drew)) (by exact H2.out.below (by first | exact HW | exact HW.drew))).mono ?_; rintro e w2 ⟨rfl, b2⟩; replace HW := below_step (by first | exact HW | exact HW.drew) b2; clear b2; obtain ⟨x0, x1⟩ := box_cell Hg1.out HW; obtain ⟨x2, x3⟩ := box_cell Hg2.out HW; obtain ⟨x4, x5⟩ := box_cell Hg3.out HW; have m2 : True := trivial)
        | (clear m0; go_at_call 16; refine (cmp_at C _ _ _ X1 X2 (-1) E12.out (by exact H1.out.below (by first | exact HW | exact HW.drew)) (by exact H2.out.below (by first | exact HW | exact HW.drew))).mono ?_; rintro e w1 ⟨rfl, b1⟩; replace HW := below_step (by first | exact HW | exact HW.drew) b1; clear b1; obtain ⟨x0, x1⟩ := box_cell Hg1.out HW; obtain ⟨x2, x3⟩ := box_cell Hg2.out HW; obtain ⟨x4, x5⟩ := box_cell Hg3.out HW; have m1 : True := trivial)
        | (go_at_call 99; fail))
      go_region_held3 (fun w' => w'.cell? ⟨w.heap.size, 0, none⟩ = some (.bool i1) ∧ w'.cell? ⟨w.heap.size, 1, none⟩ = some (.slice a1 n1 c1) ∧ w'.cell? ⟨w.heap.size + 1, 0, none⟩ = some (.bool i2) ∧ w'.cell? ⟨w.heap.size + 1, 1, none⟩ = some (.slice a2 n2 c2) ∧ w'.cell? ⟨w.heap.size + 1 + 1, 0, none⟩ = some (.bool i3) ∧ w'.cell? ⟨w.heap.size + 1 + 1, 1, none⟩ = some (.slice a3 n3 c3)) (first | exact ⟨x0, x1, x2, x3, x4, x5⟩ | go_keep) (first
        | (clear m12; go_at_call 10; refine (C.awake _ (by exact HEnv.out.below (below_step HB0.out (by first | exact HW | exact HW.drew)))).mono ?_; rintro e w13 ⟨rfl, b13⟩; replace HW := below_step (by first | exact HW | exact HW.drew) b13; clear b13; obtain ⟨x0, x1⟩ := box_cell Hg1.out HW; obtain ⟨x2, x3⟩ := box_cell Hg2.out HW; obtain ⟨x4, x5⟩ := box_cell Hg3.out HW; have m13 : True := trivial)
        | (clear m11; go_at_call 16; refine (C.cmp _ _ _ (omul X1 X3) (omul X2 X3) (by exact Fo.NOut.short (by exact o10) HP13.out (by decide)) (by exact Fo.NOut.short (by exact o11) HP23.out (by decide))).mono ?_; rintro e w12 ⟨rfl, b12⟩; replace o10 := Fo.NOut.below (by exact o10) b12; replace o11 := Fo.NOut.below (by exact o11) b12; replace HW := below_step (by first | exact HW | exact HW.drew) b12; clear b12; obtain ⟨x0, x1⟩ := box_cell Hg1.out HW; obtain ⟨x2, x3⟩ := box_cell Hg2.out HW; obtain ⟨x4, x5⟩ := box_cell Hg3.out HW; have m12 : True := trivial)
        | (clear m10; go_at_call 14; refine (C.mul _ _ _ X2 X3 (by exact H2.out.below (by first | exact HW | exact HW.drew)) (by exact H3.out.below (by first | exact HW | exact HW.drew)) HL2.out HL3.out).mono ?_; rintro e w11 ⟨⟨u11, rfl, o11⟩, b11⟩; replace o10 := Fo.NOut.below (by exact o10) b11; replace HW := below_step (by first | exact HW | exact HW.drew) b11; clear b11; obtain ⟨x0, x1⟩ := box_cell Hg1.out HW; obtain ⟨x2, x3⟩ := box_cell Hg2.out HW; obtain ⟨x4, x5⟩ := box_cell Hg3.out HW; have m11 : True := trivial)
        | (clear m9; go_at_call 14; refine (C.mul _ _ _ X1 X3 (by exact H1.out.below (by first | exact HW | exact HW.drew)) (by exact H3.out.below (by first | exact HW | exact HW.drew)) HL1.out HL3.out).mono ?_; rintro e w10 ⟨⟨u10, rfl, o10⟩, b10⟩; replace HW := below_step (by first | exact HW | exact HW.drew) b10; clear b10; obtain ⟨x0, x1⟩ := box_cell Hg1.out HW; obtain ⟨x2, x3⟩ := box_cell Hg2.out HW; obtain ⟨x4, x5⟩ := box_cell Hg3.out HW; have m10 : True := trivial)
        | (clear m8; go_at_call 16; refine (C.cmp _ _ _ (oadd X1 X3) (oadd X2 X3) (by exact Fo.NOut.short (by exact o7) HS13.out (by decide)) (by exact Fo.NOut.short (by exact o8) HS23.out (by decide))).mono ?_; rintro e w9 ⟨rfl, b9⟩; replace o7 := Fo.NOut.below (by exact o7) b9; replace o8 := Fo.NOut.below (by exact o8) b9; replace HW := below_step (by first | exact HW | exact HW.drew) b9; clear b9; obtain ⟨x0, x1⟩ := box_cell Hg1.out HW; obtain ⟨x2, x3⟩ := box_cell Hg2.out HW; obtain ⟨x4, x5⟩ := box_cell Hg3.out HW; have m9 : True := trivial)
        | (clear m7; go_at_call 12; refine (C.add _ _ _ X2 X3 (by exact H2.out.below (by first | exact HW | exact HW.drew)) (by exact H3.out.below (by first | exact HW | exact HW.drew)) HL2.out HL3.out).mono ?_; rintro e w8 ⟨⟨u8, rfl, o8⟩, b8⟩; replace o7 := Fo.NOut.below (by exact o7) b8; replace HW := below_step (by first | exact HW | exact HW.drew) b8; clear b8; obtain ⟨x0, x1⟩ := box_cell Hg1.out HW; obtain ⟨x2, x3⟩ := box_cell Hg2.out HW; obtain ⟨x4, x5⟩ := box_cell Hg3.out HW; have m8 : True := trivial)
        | (clear m6; go_at_call 12; refine (C.add _ _ _ X1 X3 (by exact H1.out.below (by first | exact HW | exact HW.drew)) (by exact H3.out.below (by first | exact HW | exact HW.drew)) HL1.out HL3.out).mono ?_; rintro e w7 ⟨⟨u7, rfl, o7⟩, b7⟩; replace HW := below_step (by first | exact HW | exact HW.drew) b7; clear b7; obtain ⟨x0, x1⟩ := box_cell Hg1.out HW; obtain ⟨x2, x3⟩ := box_cell Hg2.out HW; obtain ⟨x4, x5⟩ := box_cell Hg3.out HW; have m7 : True := trivial)
        | (clear m5; go_at_call 16; refine (C.cmp _ _ _ (oadd X1 X3) X1 (by exact Fo.NOut.short (by exact o5) HS13.out (by decide)) (by exact H1.out.below (by first | exact HW | exact HW.drew))).mono ?_; rintro e w6 ⟨rfl, b6⟩; replace o5 := Fo.NOut.below (by exact o5) b6; replace HW := below_step (by first | exact HW | exact HW.drew) b6; clear b6; obtain ⟨x0, x1⟩ := box_cell Hg1.out HW; obtain ⟨x2, x3⟩ := box_cell Hg2.out HW; obtain ⟨x4, x5⟩ := box_cell Hg3.out HW; have m6 : True := trivial)
        | (clear m4; go_at_call 12; refine (C.add _ _ _ X1 X3 (by exact H1.out.below (by first | exact HW | exact HW.drew)) (by exact H3.out.below (by first | exact HW | exact HW.drew)) HL1.out HL3.out).mono ?_; rintro e w5 ⟨⟨u5, rfl, o5⟩, b5⟩; replace HW := below_step (by first | exact HW | exact HW.drew) b5; clear b5; obtain ⟨x0, x1⟩ := box_cell Hg1.out HW; obtain ⟨x2, x3⟩ := box_cell Hg2.out HW; obtain ⟨x4, x5⟩ := box_cell Hg3.out HW; have m5 : True := trivial)
        | (go_at_call 99; fail))
      go_wp2
      go_ret
      exact ⟨rfl, below_step HB0.out HW⟩
end Go.Proofs.YtklkcnpcjmeejaaDoor
