/- The walk of NatOrder where the first number is above the second one. -/
import Derived.Test.YtklkcnpcjmeejaaDoorOrd3
namespace Go.Proofs.YtklkcnpcjmeejaaDoor
open Go.RowKit Fo
set_option maxRecDepth 100000

set_option maxHeartbeats 32000000 in
theorem order_gt (C : NatSays) (i1 i2 i3 : Bool) (a1 a2 a3 : Option Addr) (n1 n2 n3 c1 c2 c3 : Nat) (w : World) (X1 X2 X3 : Option Nat)
    (henv : Env w) (h1 : NIn w (.agg #[.bool i1, .slice a1 n1 c1]) X1) (h2 : NIn w (.agg #[.bool i2, .slice a2 n2 c2]) X2) (h3 : NIn w (.agg #[.bool i3, .slice a3 n3 c3]) X3) (hl1 : n1 ≤ 100) (hl2 : n2 ≤ 100) (hl3 : n3 ≤ 100)
    (hb1 : ∀ N, X1 = some N → ln N ≤ 100) (hb2 : ∀ N, X2 = some N → ln N ≤ 100) (hb3 : ∀ N, X3 = some N → ln N ≤ 100) (e12 : ocmp X1 X2 = 1) :
    Calls Tryd.prog 6 #[.agg #[.bool i1, .slice a1 n1 c1], .agg #[.bool i2, .slice a2 n2 c2], .agg #[.bool i3, .slice a3 n3 c3]] w fun e w' => e = .returned (.bool true) ∧ Below w.heap.size w w' := by
  have HEnv : Hid (Env w) := henv
  clear henv
  have H1' : Hid (NIn w (.agg #[.bool i1, .slice a1 n1 c1]) X1) := h1
  have H2' : Hid (NIn w (.agg #[.bool i2, .slice a2 n2 c2]) X2) := h2
  have H3' : Hid (NIn w (.agg #[.bool i3, .slice a3 n3 c3]) X3) := h3
  have HB1 : Hid (∀ N, X1 = some N → ln N ≤ 100) := hb1
  have HB2 : Hid (∀ N, X2 = some N → ln N ≤ 100) := hb2
  have HB3 : Hid (∀ N, X3 = some N → ln N ≤ 100) := hb3
  have HL1 : Hid (∀ N, X1 = some N → ln N ≤ 10000) := fun N e => Nat.le_trans (hb1 N e) (by decide)
  have HL2 : Hid (∀ N, X2 = some N → ln N ≤ 10000) := fun N e => Nat.le_trans (hb2 N e) (by decide)
  have HL3 : Hid (∀ N, X3 = some N → ln N ≤ 10000) := fun N e => Nat.le_trans (hb3 N e) (by decide)
  have HS13 : Hid (Short 101 (oadd X1 X3)) := Short.add (k := 100) hb1 hb3
  have HS23 : Hid (Short 101 (oadd X2 X3)) := Short.add (k := 100) hb2 hb3
  have HP13 : Hid (Short 200 (omul X1 X3)) := Short.mul (j := 100) (k := 100) hb1 hb3
  have HP23 : Hid (Short 200 (omul X2 X3)) := Short.mul (j := 100) (k := 100) hb2 hb3
  have hg : 0 ≤ ocmp (oadd X1 X3) X1 := by
    have := (ocmp_le X1 (oadd X1 X3)).2 (ole_add X1 X3)
    rw [ocmp_swap] at this
    omega
  have HC : Hid (ocmp X1 X2 ≤ 0 → ocmp (oadd X1 X3) (oadd X2 X3) ≤ 0 ∧ ocmp (omul X1 X3) (omul X2 X3) ≤ 0 ∧ (ocmp X2 X3 ≤ 0 → ocmp X1 X3 ≤ 0)) := fun h =>
    ⟨(ocmp_le _ _).2 (ole_adds X3 ((ocmp_le _ _).1 h)), (ocmp_le _ _).2 (ole_muls X3 ((ocmp_le _ _).1 h)), fun k => (ocmp_le _ _).2 (ole_trans ((ocmp_le _ _).1 h) ((ocmp_le _ _).1 k))⟩
  clear h1 h2 h3 hb1 hb2 hb3
  go_enter Tryd.func6, Tryd.ntmps6
  go_wp2_with (go_at_call 9; fail)
  obtain ⟨W0, hW0⟩ : ∃ W0, W0 = ((((w.alloc (.cells #[.bool i1, .slice a1 n1 c1] 24)).alloc (.cells #[.bool i2, .slice a2 n2 c2] 24)).alloc (.cells #[.bool i3, .slice a3 n3 c3] 24)).alloc (.cells #[.bool i1, .slice a1 n1 c1, .bool i2, .slice a2 n2 c2, .bool i3, .slice a3 n3 c3] 24)) := ⟨_, rfl⟩
  have HB0 : Hid (Below w.heap.size w W0) := by rw [hW0]; exact (below3 w _ _ _).alloc (below3 w _ _ _).size _
  have Hg1 : Hid (W0.heap[w.heap.size]? = some (.cells #[.bool i1, .slice a1 n1 c1] 24)) := by
    show W0.heap[w.heap.size]? = _
    rw [hW0, Below.heap_alloc _ _ _ (by first | (simp; done) | (simp; omega)), Below.heap_alloc _ _ _ (by first | (simp; done) | (simp; omega))]; exact heap_1st w _ _
  have Hg2 : Hid (W0.heap[w.heap.size + 1]? = some (.cells #[.bool i2, .slice a2 n2 c2] 24)) := by
    show W0.heap[w.heap.size + 1]? = _
    rw [hW0, Below.heap_alloc _ _ _ (by first | (simp; done) | (simp; omega))]; exact heap3_1 w _ _ _
  have Hg3 : Hid (W0.heap[w.heap.size + 1 + 1]? = some (.cells #[.bool i3, .slice a3 n3 c3] 24)) := by
    show W0.heap[w.heap.size + 1 + 1]? = _
    rw [hW0, Below.heap_alloc _ _ _ (by first | (simp; done) | (simp; omega))]; exact heap3_2 w _ _ _
  have c9 : Calls Tryd.prog 9 #[.slice (some ⟨w.heap.size + 1 + 1 + 1, 0, none⟩) 3 3] W0 fun e w' => e = .returned (.bool true) ∧ w' = W0 := by
    have hg : W0.heap[w.heap.size + 1 + 1 + 1]? = some (.cells #[.bool i1, .slice a1 n1 c1, .bool i2, .slice a2 n2 c2, .bool i3, .slice a3 n3 c3] 24) := by
      rw [hW0, ← (show (((w.alloc (.cells #[.bool i1, .slice a1 n1 c1] 24)).alloc (.cells #[.bool i2, .slice a2 n2 c2] 24)).alloc (.cells #[.bool i3, .slice a3 n3 c3] 24)).heap.size = w.heap.size + 1 + 1 + 1 by simp), heap_alloc_new]
    refine small_any (w.heap.size + 1 + 1 + 1) 3 (fun j => if j = 0 then a1 else if j = 1 then a2 else a3) (fun j => if j = 0 then n1 else if j = 1 then n2 else n3) (fun j => if j = 0 then c1 else if j = 1 then c2 else c3) W0 (by decide) (by decide) true (fun j hj => ?_) (fun _ => rfl) (fun j hj h => ?_)
    · rw [cell_of_row W0 _ _ _ _ _ hg]
      match j, hj with
      | 0, _ => rfl
      | 1, _ => rfl
      | 2, _ => rfl
    · exfalso
      revert h
      show 100 < (if j = 0 then n1 else if j = 1 then n2 else n3) → False
      split
      · omega
      · split <;> omega
  rw [← hW0]
  have H1 : Hid (NIn W0 (.agg #[.bool i1, .slice a1 n1 c1]) X1) := H1'.out.below HB0.out
  have H2 : Hid (NIn W0 (.agg #[.bool i2, .slice a2 n2 c2]) X2) := H2'.out.below HB0.out
  have H3 : Hid (NIn W0 (.agg #[.bool i3, .slice a3 n3 c3]) X3) := H3'.out.below HB0.out
  clear hW0 H1' H2' H3'
  refine c9.mono ?_
  rintro e w' ⟨rfl, hw⟩
  replace hw := hw.symm
  subst hw
  clear c9
  have HW : Below W0.heap.size W0 W0 := below_refl W0
  obtain ⟨x0, x1⟩ := box_cell Hg1.out HW
  obtain ⟨x2, x3⟩ := box_cell Hg2.out HW
  obtain ⟨x4, x5⟩ := box_cell Hg3.out HW
  have m0 : True := trivial
  have E12 : Hid (ocmp X1 X2 = 1) := e12
  clear e12
  go_upto_region 6 with (first
    | (clear m2; go_at_call 16; refine (cmp_self C _ _ X1 (by exact H1.out.below (by first | exact HW | exact HW.drew))).mono ?_; rintro e w3 ⟨rfl, b3⟩; replace HW := below_step (by first | exact HW | exact HW.drew) b3; clear b3 x0 x1 x2 x3 x4 x5; obtain ⟨x0, x1⟩ := box_cell Hg1.out HW; obtain ⟨x2, x3⟩ := box_cell Hg2.out HW; obtain ⟨x4, x5⟩ := box_cell Hg3.out HW; have m3 : True := trivial)
    | (clear m1; go_at_call 16; refine (cmp_back C _ _ _ X1 X2 (-(1)) (by rw [E12.out]; rfl) (by exact H1.out.below (by first | exact HW | exact HW.drew)) (by exact H2.out.below (by first | exact HW | exact HW.drew))).mono ?_; rintro e w2 ⟨rfl, b2⟩; replace HW := below_step (by first | exact HW | exact HW.drew) b2; clear b2 x0 x1 x2 x3 x4 x5; obtain ⟨x0, x1⟩ := box_cell Hg1.out HW; obtain ⟨x2, x3⟩ := box_cell Hg2.out HW; obtain ⟨x4, x5⟩ := box_cell Hg3.out HW; have m2 : True := trivial)
    | (clear m0; go_at_call 16; refine (cmp_at C _ _ _ X1 X2 1 E12.out (by exact H1.out.below (by first | exact HW | exact HW.drew)) (by exact H2.out.below (by first | exact HW | exact HW.drew))).mono ?_; rintro e w1 ⟨rfl, b1⟩; replace HW := below_step (by first | exact HW | exact HW.drew) b1; clear b1 x0 x1 x2 x3 x4 x5; obtain ⟨x0, x1⟩ := box_cell Hg1.out HW; obtain ⟨x2, x3⟩ := box_cell Hg2.out HW; obtain ⟨x4, x5⟩ := box_cell Hg3.out HW; have m1 : True := trivial)
    | (go_at_call 99; fail))
  refine wp_region_held_drew (S := (fun w' => w'.cell? ⟨w.heap.size, 0, none⟩ = some (.bool i1) ∧ w'.cell? ⟨w.heap.size, 1, none⟩ = some (.slice a1 n1 c1) ∧ w'.cell? ⟨w.heap.size + 1, 0, none⟩ = some (.bool i2) ∧ w'.cell? ⟨w.heap.size + 1, 1, none⟩ = some (.slice a2 n2 c2) ∧ w'.cell? ⟨w.heap.size + 1 + 1, 0, none⟩ = some (.bool i3) ∧ w'.cell? ⟨w.heap.size + 1 + 1, 1, none⟩ = some (.slice a3 n3 c3))) (by kernel_rfl) ?_ (fun hHeld => ?_)
  · (try dsimp only); first | exact ⟨x0, x1, x2, x3, x4, x5⟩ | go_keep
  refine wpAnyH_take (i := 0) (oi := { dst := some 46, op := Op.load 24 (Operand.tmp 3), type := 24, pos := "law.go:73", after := #[], guard := none }) (v := ?v0) rfl (by kernel_rfl) (by kernel_rfl) (by kernel_rfl) (fun _ _ _ h => h) (Or.inl ⟨by rfl, ?hy0⟩) (by assumption) ?rest0
  case hy0 => (intro w hSw; (try dsimp only at hSw); go_simp; (try with_reducible rfl))
  try simp only [Act.put, List.setIfInBounds_toArray, List.set_cons_zero, List.set_cons_succ]
  refine wpAnyH_take (i := 1) (oi := { dst := some 47, op := Op.load 24 (Operand.tmp 5), type := 24, pos := "law.go:73", after := #[], guard := none }) (v := ?v1) rfl (by kernel_rfl) (by kernel_rfl) (by kernel_rfl) (fun _ _ _ h => h) (Or.inl ⟨by rfl, ?hy1⟩) (by assumption) ?rest1
  case hy1 => (intro w hSw; (try dsimp only at hSw); go_simp; (try with_reducible rfl))
  try simp only [Act.put, List.setIfInBounds_toArray, List.set_cons_zero, List.set_cons_succ]
  refine wpAnyH_take (i := 3) (oi := { dst := some 49, op := Op.load 24 (Operand.tmp 3), type := 24, pos := "law.go:73", after := #[], guard := none }) (v := ?v3) rfl (by kernel_rfl) (by kernel_rfl) (by kernel_rfl) (fun _ _ _ h => h) (Or.inl ⟨by rfl, ?hy3⟩) (by assumption) ?rest3
  case hy3 => (intro w hSw; (try dsimp only at hSw); go_simp; (try with_reducible rfl))
  try simp only [Act.put, List.setIfInBounds_toArray, List.set_cons_zero, List.set_cons_succ]
  refine wpAnyH_ready (rs := [2]) (by kernel_rfl) (by simp) ?_
  refine AllReadyH.cons (o := { dst := some 48, op := Op.call { callee := Callee.value (Operand.func 12), args := #[Operand.tmp 46, Operand.tmp 47], argTypes := #[24, 24] }, type := 24, pos := "law.go:73", after := #[{ on := 0, ground := Ground.data }, { on := 1, ground := Ground.data }], guard := none }) rfl (fun K hK => ?_) AllReadyH.nil
  go_simp
  go_at_call 12
  refine (C.add _ _ _ X1 X3 (by exact H1.out.below (by first | exact HW | exact HW.drew)) (by exact H3.out.below (by first | exact HW | exact HW.drew)) HL1.out HL3.out).mono ?_
  rintro e wa ⟨⟨ua, rfl, oa⟩, ba⟩
  replace HW := below_step (by first | exact HW | exact HW.drew) ba
  clear ba
  clear x0 x1 x2 x3 x4 x5
  obtain ⟨x0, x1⟩ := box_cell Hg1.out HW
  obtain ⟨x2, x3⟩ := box_cell Hg2.out HW
  obtain ⟨x4, x5⟩ := box_cell Hg3.out HW
  refine hK.out _ _ ?_ (fun hHeldB => ?_)
  · (try dsimp only); first | exact ⟨x0, x1, x2, x3, x4, x5⟩ | go_keep
  clear hK K hHeld
  have hHeld := hHeldB
  clear hHeldB
  try simp only [Act.put, List.setIfInBounds_toArray, List.set_cons_zero, List.set_cons_succ]
  refine wpAnyH_ready (rs := [4]) (by kernel_rfl) (by simp) ?_
  refine AllReadyH.cons (o := { dst := some 50, op := Op.call { callee := Callee.value (Operand.func 16), args := #[Operand.tmp 48, Operand.tmp 49], argTypes := #[24, 24] }, type := 3, pos := "law.go:73", after := #[{ on := 2, ground := Ground.data }, { on := 3, ground := Ground.data }, { on := 2, ground := Ground.chain }], guard := none }) rfl (fun K hK => ?_) AllReadyH.nil
  go_simp
  go_at_call 16
  refine (C.cmp _ _ _ (oadd X1 X3) X1 (by exact Fo.NOut.short (by exact oa) HS13.out (by decide)) (by exact H1.out.below (by first | exact HW | exact HW.drew))).mono ?_
  rintro e wb ⟨rfl, bb⟩
  replace HW := below_step (by first | exact HW | exact HW.drew) bb
  clear bb
  clear x0 x1 x2 x3 x4 x5
  obtain ⟨x0, x1⟩ := box_cell Hg1.out HW
  obtain ⟨x2, x3⟩ := box_cell Hg2.out HW
  obtain ⟨x4, x5⟩ := box_cell Hg3.out HW
  refine hK.out _ _ ?_ (fun hHeldB => ?_)
  · (try dsimp only); first | exact ⟨x0, x1, x2, x3, x4, x5⟩ | go_keep
  clear hK K hHeld
  have hHeld := hHeldB
  clear hHeldB
  try simp only [Act.put, List.setIfInBounds_toArray, List.set_cons_zero, List.set_cons_succ]
  refine wpAnyH_take (i := 5) (oi := { dst := some 51, op := Op.binOp BinOp.geq 3 (Operand.tmp 50) (Operand.const (Value.int IntKind.i64 0)) 3, type := 4, pos := "law.go:73", after := #[{ on := 4, ground := Ground.data }], guard := none }) (v := ?v5) rfl (by kernel_rfl) (by kernel_rfl) (by kernel_rfl) (fun _ _ _ h => h) (Or.inl ⟨by rfl, ?hy5⟩) (by assumption) ?rest5
  case hy5 => (intro w hSw; (try dsimp only at hSw); go_simp; (try with_reducible rfl))
  try simp only [Act.put, List.setIfInBounds_toArray, List.set_cons_zero, List.set_cons_succ]
  refine wpAnyH_take (i := 6) (oi := { dst := some 52, op := Op.move (Operand.tmp 51), type := 4, pos := "law.go:73", after := #[{ on := 5, ground := Ground.data }, { on := 4, ground := Ground.chain }], guard := none }) (v := ?v6) rfl (by kernel_rfl) (by kernel_rfl) (by kernel_rfl) (fun _ _ _ h => h) (Or.inl ⟨by rfl, ?hy6⟩) (by assumption) ?rest6
  case hy6 => (intro w hSw; (try dsimp only at hSw); go_simp; (try with_reducible rfl))
  try simp only [Act.put, List.setIfInBounds_toArray, List.set_cons_zero, List.set_cons_succ]
  refine wpAnyH_take (i := 7) (oi := { dst := some 53, op := Op.move (Operand.tmp 7), type := 3, pos := "law.go:73", after := #[{ on := 6, ground := Ground.guard }], guard := some (6, true) }) (v := ?v7) rfl (by kernel_rfl) (by kernel_rfl) (by kernel_rfl) (fun _ _ _ h => h) (Or.inl ⟨by rfl, ?hy7⟩) (by assumption) ?rest7
  case hy7 => (intro w hSw; (try dsimp only at hSw); go_simp; (try with_reducible rfl))
  try simp only [Act.put, List.setIfInBounds_toArray, List.set_cons_zero, List.set_cons_succ]
  refine wpAnyH_take (i := 8) (oi := { dst := some 54, op := Op.binOp BinOp.gtr 3 (Operand.tmp 53) (Operand.const (Value.int IntKind.i64 0)) 3, type := 4, pos := "law.go:73", after := #[{ on := 7, ground := Ground.data }, { on := 6, ground := Ground.guard }], guard := some (6, true) }) (v := ?v8) rfl (by kernel_rfl) (by kernel_rfl) (by kernel_rfl) (fun _ _ _ h => h) (Or.inl ⟨by rfl, ?hy8⟩) (by assumption) ?rest8
  case hy8 => (intro w hSw; (try dsimp only at hSw); go_simp; (try with_reducible rfl))
  try simp only [Act.put, List.setIfInBounds_toArray, List.set_cons_zero, List.set_cons_succ]
  refine wpAnyH_take (i := 9) (oi := { dst := some 55, op := Op.move (Operand.tmp 54), type := 4, pos := "law.go:73", after := #[{ on := 8, ground := Ground.data }, { on := 6, ground := Ground.chain }, { on := 6, ground := Ground.guard }], guard := some (6, true) }) (v := ?v9) rfl (by kernel_rfl) (by kernel_rfl) (by kernel_rfl) (fun _ _ _ h => h) (Or.inl ⟨by rfl, ?hy9⟩) (by assumption) ?rest9
  case hy9 => (intro w hSw; (try dsimp only at hSw); go_simp; (try with_reducible rfl))
  try simp only [Act.put, List.setIfInBounds_toArray, List.set_cons_zero, List.set_cons_succ]
  refine wpAnyH_take (i := 10) (oi := { dst := some 56, op := Op.load 24 (Operand.tmp 3), type := 24, pos := "law.go:73", after := #[{ on := 9, ground := Ground.guard }], guard := some (9, false) }) (v := undef) rfl (by kernel_rfl) (by kernel_rfl) (by kernel_rfl) (fun _ _ _ h => h) (Or.inr ⟨by rfl, rfl⟩) (by assumption) ?_
  try simp only [Act.put, List.setIfInBounds_toArray, List.set_cons_zero, List.set_cons_succ]
  refine wpAnyH_take (i := 11) (oi := { dst := some 57, op := Op.load 24 (Operand.tmp 5), type := 24, pos := "law.go:73", after := #[{ on := 9, ground := Ground.guard }], guard := some (9, false) }) (v := undef) rfl (by kernel_rfl) (by kernel_rfl) (by kernel_rfl) (fun _ _ _ h => h) (Or.inr ⟨by rfl, rfl⟩) (by assumption) ?_
  try simp only [Act.put, List.setIfInBounds_toArray, List.set_cons_zero, List.set_cons_succ]
  refine wpAnyH_take (i := 12) (oi := { dst := some 58, op := Op.call { callee := Callee.value (Operand.func 12), args := #[Operand.tmp 56, Operand.tmp 57], argTypes := #[24, 24] }, type := 24, pos := "law.go:73", after := #[{ on := 10, ground := Ground.data }, { on := 11, ground := Ground.data }, { on := 9, ground := Ground.chain }, { on := 9, ground := Ground.guard }], guard := some (9, false) }) (v := undef) rfl (by kernel_rfl) (by kernel_rfl) (by kernel_rfl) (fun _ _ _ h => h) (Or.inr ⟨by rfl, rfl⟩) (by assumption) ?_
  try simp only [Act.put, List.setIfInBounds_toArray, List.set_cons_zero, List.set_cons_succ]
  refine wpAnyH_take (i := 13) (oi := { dst := some 59, op := Op.load 24 (Operand.tmp 4), type := 24, pos := "law.go:73", after := #[{ on := 9, ground := Ground.guard }], guard := some (9, false) }) (v := undef) rfl (by kernel_rfl) (by kernel_rfl) (by kernel_rfl) (fun _ _ _ h => h) (Or.inr ⟨by rfl, rfl⟩) (by assumption) ?_
  try simp only [Act.put, List.setIfInBounds_toArray, List.set_cons_zero, List.set_cons_succ]
  refine wpAnyH_take (i := 14) (oi := { dst := some 60, op := Op.load 24 (Operand.tmp 5), type := 24, pos := "law.go:73", after := #[{ on := 9, ground := Ground.guard }], guard := some (9, false) }) (v := undef) rfl (by kernel_rfl) (by kernel_rfl) (by kernel_rfl) (fun _ _ _ h => h) (Or.inr ⟨by rfl, rfl⟩) (by assumption) ?_
  try simp only [Act.put, List.setIfInBounds_toArray, List.set_cons_zero, List.set_cons_succ]
  refine wpAnyH_take (i := 15) (oi := { dst := some 61, op := Op.call { callee := Callee.value (Operand.func 12), args := #[Operand.tmp 59, Operand.tmp 60], argTypes := #[24, 24] }, type := 24, pos := "law.go:73", after := #[{ on := 13, ground := Ground.data }, { on := 14, ground := Ground.data }, { on := 12, ground := Ground.chain }, { on := 9, ground := Ground.guard }], guard := some (9, false) }) (v := undef) rfl (by kernel_rfl) (by kernel_rfl) (by kernel_rfl) (fun _ _ _ h => h) (Or.inr ⟨by rfl, rfl⟩) (by assumption) ?_
  try simp only [Act.put, List.setIfInBounds_toArray, List.set_cons_zero, List.set_cons_succ]
  refine wpAnyH_take (i := 16) (oi := { dst := some 62, op := Op.call { callee := Callee.value (Operand.func 16), args := #[Operand.tmp 58, Operand.tmp 61], argTypes := #[24, 24] }, type := 3, pos := "law.go:73", after := #[{ on := 12, ground := Ground.data }, { on := 15, ground := Ground.data }, { on := 15, ground := Ground.chain }, { on := 9, ground := Ground.guard }], guard := some (9, false) }) (v := undef) rfl (by kernel_rfl) (by kernel_rfl) (by kernel_rfl) (fun _ _ _ h => h) (Or.inr ⟨by rfl, rfl⟩) (by assumption) ?_
  try simp only [Act.put, List.setIfInBounds_toArray, List.set_cons_zero, List.set_cons_succ]
  refine wpAnyH_take (i := 17) (oi := { dst := some 63, op := Op.binOp BinOp.leq 3 (Operand.tmp 62) (Operand.const (Value.int IntKind.i64 0)) 3, type := 4, pos := "law.go:73", after := #[{ on := 16, ground := Ground.data }, { on := 9, ground := Ground.guard }], guard := some (9, false) }) (v := undef) rfl (by kernel_rfl) (by kernel_rfl) (by kernel_rfl) (fun _ _ _ h => h) (Or.inr ⟨by rfl, rfl⟩) (by assumption) ?_
  try simp only [Act.put, List.setIfInBounds_toArray, List.set_cons_zero, List.set_cons_succ]
  refine wpAnyH_take (i := 18) (oi := { dst := some 64, op := Op.pick (Operand.tmp 55) (Operand.const (Value.bool true)) (Operand.tmp 63), type := 4, pos := "law.go:73", after := #[{ on := 9, ground := Ground.data }, { on := 17, ground := Ground.data }, { on := 6, ground := Ground.guard }], guard := some (6, true) }) (v := ?v18) rfl (by kernel_rfl) (by kernel_rfl) (by kernel_rfl) (fun _ _ _ h => h) (Or.inl ⟨by rfl, ?hy18⟩) (by assumption) ?rest18
  case hy18 => (intro w hSw; (try dsimp only at hSw); go_simp; (try with_reducible rfl))
  try simp only [Act.put, List.setIfInBounds_toArray, List.set_cons_zero, List.set_cons_succ]
  refine wpAnyH_take (i := 19) (oi := { dst := some 65, op := Op.pick (Operand.tmp 52) (Operand.tmp 64) (Operand.const (Value.bool false)), type := 4, pos := "law.go:73", after := #[{ on := 6, ground := Ground.data }, { on := 18, ground := Ground.data }], guard := none }) (v := ?v19) rfl (by kernel_rfl) (by kernel_rfl) (by kernel_rfl) (fun _ _ _ h => h) (Or.inl ⟨by rfl, ?hy19⟩) (by assumption) ?rest19
  case hy19 => (intro w hSw; (try dsimp only at hSw); go_simp; (try with_reducible rfl))
  try simp only [Act.put, List.setIfInBounds_toArray, List.set_cons_zero, List.set_cons_succ]
  refine wpAnyH_take (i := 20) (oi := { dst := some 66, op := Op.move (Operand.tmp 65), type := 4, pos := "law.go:73", after := #[{ on := 19, ground := Ground.data }, { on := 16, ground := Ground.chain }], guard := none }) (v := ?v20) rfl (by kernel_rfl) (by kernel_rfl) (by kernel_rfl) (fun _ _ _ h => h) (Or.inl ⟨by rfl, ?hy20⟩) (by assumption) ?rest20
  case hy20 => (intro w hSw; (try dsimp only at hSw); go_simp; (try with_reducible rfl))
  try simp only [Act.put, List.setIfInBounds_toArray, List.set_cons_zero, List.set_cons_succ]
  refine wpAnyH_take (i := 21) (oi := { dst := some 67, op := Op.move (Operand.tmp 7), type := 3, pos := "law.go:73", after := #[{ on := 20, ground := Ground.guard }], guard := some (20, true) }) (v := ?v21) rfl (by kernel_rfl) (by kernel_rfl) (by kernel_rfl) (fun _ _ _ h => h) (Or.inl ⟨by rfl, ?hy21⟩) (by assumption) ?rest21
  case hy21 => (intro w hSw; (try dsimp only at hSw); go_simp; (try with_reducible rfl))
  try simp only [Act.put, List.setIfInBounds_toArray, List.set_cons_zero, List.set_cons_succ]
  refine wpAnyH_take (i := 22) (oi := { dst := some 68, op := Op.binOp BinOp.gtr 3 (Operand.tmp 67) (Operand.const (Value.int IntKind.i64 0)) 3, type := 4, pos := "law.go:73", after := #[{ on := 21, ground := Ground.data }, { on := 20, ground := Ground.guard }], guard := some (20, true) }) (v := ?v22) rfl (by kernel_rfl) (by kernel_rfl) (by kernel_rfl) (fun _ _ _ h => h) (Or.inl ⟨by rfl, ?hy22⟩) (by assumption) ?rest22
  case hy22 => (intro w hSw; (try dsimp only at hSw); go_simp; (try with_reducible rfl))
  try simp only [Act.put, List.setIfInBounds_toArray, List.set_cons_zero, List.set_cons_succ]
  refine wpAnyH_take (i := 23) (oi := { dst := some 69, op := Op.move (Operand.tmp 68), type := 4, pos := "law.go:73", after := #[{ on := 22, ground := Ground.data }, { on := 20, ground := Ground.chain }, { on := 20, ground := Ground.guard }], guard := some (20, true) }) (v := ?v23) rfl (by kernel_rfl) (by kernel_rfl) (by kernel_rfl) (fun _ _ _ h => h) (Or.inl ⟨by rfl, ?hy23⟩) (by assumption) ?rest23
  case hy23 => (intro w hSw; (try dsimp only at hSw); go_simp; (try with_reducible rfl))
  try simp only [Act.put, List.setIfInBounds_toArray, List.set_cons_zero, List.set_cons_succ]
  refine wpAnyH_take (i := 24) (oi := { dst := some 70, op := Op.load 24 (Operand.tmp 3), type := 24, pos := "law.go:73", after := #[{ on := 23, ground := Ground.guard }], guard := some (23, false) }) (v := undef) rfl (by kernel_rfl) (by kernel_rfl) (by kernel_rfl) (fun _ _ _ h => h) (Or.inr ⟨by rfl, rfl⟩) (by assumption) ?_
  try simp only [Act.put, List.setIfInBounds_toArray, List.set_cons_zero, List.set_cons_succ]
  refine wpAnyH_take (i := 25) (oi := { dst := some 71, op := Op.load 24 (Operand.tmp 5), type := 24, pos := "law.go:73", after := #[{ on := 23, ground := Ground.guard }], guard := some (23, false) }) (v := undef) rfl (by kernel_rfl) (by kernel_rfl) (by kernel_rfl) (fun _ _ _ h => h) (Or.inr ⟨by rfl, rfl⟩) (by assumption) ?_
  try simp only [Act.put, List.setIfInBounds_toArray, List.set_cons_zero, List.set_cons_succ]
  refine wpAnyH_take (i := 26) (oi := { dst := some 72, op := Op.call { callee := Callee.value (Operand.func 14), args := #[Operand.tmp 70, Operand.tmp 71], argTypes := #[24, 24] }, type := 24, pos := "law.go:73", after := #[{ on := 24, ground := Ground.data }, { on := 25, ground := Ground.data }, { on := 23, ground := Ground.chain }, { on := 23, ground := Ground.guard }], guard := some (23, false) }) (v := undef) rfl (by kernel_rfl) (by kernel_rfl) (by kernel_rfl) (fun _ _ _ h => h) (Or.inr ⟨by rfl, rfl⟩) (by assumption) ?_
  try simp only [Act.put, List.setIfInBounds_toArray, List.set_cons_zero, List.set_cons_succ]
  refine wpAnyH_take (i := 27) (oi := { dst := some 73, op := Op.load 24 (Operand.tmp 4), type := 24, pos := "law.go:73", after := #[{ on := 23, ground := Ground.guard }], guard := some (23, false) }) (v := undef) rfl (by kernel_rfl) (by kernel_rfl) (by kernel_rfl) (fun _ _ _ h => h) (Or.inr ⟨by rfl, rfl⟩) (by assumption) ?_
  try simp only [Act.put, List.setIfInBounds_toArray, List.set_cons_zero, List.set_cons_succ]
  refine wpAnyH_take (i := 28) (oi := { dst := some 74, op := Op.load 24 (Operand.tmp 5), type := 24, pos := "law.go:73", after := #[{ on := 23, ground := Ground.guard }], guard := some (23, false) }) (v := undef) rfl (by kernel_rfl) (by kernel_rfl) (by kernel_rfl) (fun _ _ _ h => h) (Or.inr ⟨by rfl, rfl⟩) (by assumption) ?_
  try simp only [Act.put, List.setIfInBounds_toArray, List.set_cons_zero, List.set_cons_succ]
  refine wpAnyH_take (i := 29) (oi := { dst := some 75, op := Op.call { callee := Callee.value (Operand.func 14), args := #[Operand.tmp 73, Operand.tmp 74], argTypes := #[24, 24] }, type := 24, pos := "law.go:73", after := #[{ on := 27, ground := Ground.data }, { on := 28, ground := Ground.data }, { on := 26, ground := Ground.chain }, { on := 23, ground := Ground.guard }], guard := some (23, false) }) (v := undef) rfl (by kernel_rfl) (by kernel_rfl) (by kernel_rfl) (fun _ _ _ h => h) (Or.inr ⟨by rfl, rfl⟩) (by assumption) ?_
  try simp only [Act.put, List.setIfInBounds_toArray, List.set_cons_zero, List.set_cons_succ]
  refine wpAnyH_take (i := 30) (oi := { dst := some 76, op := Op.call { callee := Callee.value (Operand.func 16), args := #[Operand.tmp 72, Operand.tmp 75], argTypes := #[24, 24] }, type := 3, pos := "law.go:73", after := #[{ on := 26, ground := Ground.data }, { on := 29, ground := Ground.data }, { on := 29, ground := Ground.chain }, { on := 23, ground := Ground.guard }], guard := some (23, false) }) (v := undef) rfl (by kernel_rfl) (by kernel_rfl) (by kernel_rfl) (fun _ _ _ h => h) (Or.inr ⟨by rfl, rfl⟩) (by assumption) ?_
  try simp only [Act.put, List.setIfInBounds_toArray, List.set_cons_zero, List.set_cons_succ]
  refine wpAnyH_take (i := 31) (oi := { dst := some 77, op := Op.binOp BinOp.leq 3 (Operand.tmp 76) (Operand.const (Value.int IntKind.i64 0)) 3, type := 4, pos := "law.go:73", after := #[{ on := 30, ground := Ground.data }, { on := 23, ground := Ground.guard }], guard := some (23, false) }) (v := undef) rfl (by kernel_rfl) (by kernel_rfl) (by kernel_rfl) (fun _ _ _ h => h) (Or.inr ⟨by rfl, rfl⟩) (by assumption) ?_
  try simp only [Act.put, List.setIfInBounds_toArray, List.set_cons_zero, List.set_cons_succ]
  refine wpAnyH_take (i := 32) (oi := { dst := some 78, op := Op.pick (Operand.tmp 69) (Operand.const (Value.bool true)) (Operand.tmp 77), type := 4, pos := "law.go:73", after := #[{ on := 23, ground := Ground.data }, { on := 31, ground := Ground.data }, { on := 20, ground := Ground.guard }], guard := some (20, true) }) (v := ?v32) rfl (by kernel_rfl) (by kernel_rfl) (by kernel_rfl) (fun _ _ _ h => h) (Or.inl ⟨by rfl, ?hy32⟩) (by assumption) ?rest32
  case hy32 => (intro w hSw; (try dsimp only at hSw); go_simp; (try with_reducible rfl))
  try simp only [Act.put, List.setIfInBounds_toArray, List.set_cons_zero, List.set_cons_succ]
  refine wpAnyH_take (i := 33) (oi := { dst := some 79, op := Op.pick (Operand.tmp 66) (Operand.tmp 78) (Operand.const (Value.bool false)), type := 4, pos := "law.go:73", after := #[{ on := 20, ground := Ground.data }, { on := 32, ground := Ground.data }], guard := none }) (v := ?v33) rfl (by kernel_rfl) (by kernel_rfl) (by kernel_rfl) (fun _ _ _ h => h) (Or.inl ⟨by rfl, ?hy33⟩) (by assumption) ?rest33
  case hy33 => (intro w hSw; (try dsimp only at hSw); go_simp; (try with_reducible rfl))
  try simp only [Act.put, List.setIfInBounds_toArray, List.set_cons_zero, List.set_cons_succ]
  refine wpAnyH_take (i := 34) (oi := { dst := some 80, op := Op.move (Operand.tmp 79), type := 4, pos := "law.go:73", after := #[{ on := 33, ground := Ground.data }, { on := 30, ground := Ground.chain }], guard := none }) (v := ?v34) rfl (by kernel_rfl) (by kernel_rfl) (by kernel_rfl) (fun _ _ _ h => h) (Or.inl ⟨by rfl, ?hy34⟩) (by assumption) ?rest34
  case hy34 => (intro w hSw; (try dsimp only at hSw); go_simp; (try with_reducible rfl))
  try simp only [Act.put, List.setIfInBounds_toArray, List.set_cons_zero, List.set_cons_succ]
  refine wpAnyH_ready (rs := [35]) (by kernel_rfl) (by simp) ?_
  refine AllReadyH.cons (o := { dst := some 81, op := Op.call { callee := Callee.value (Operand.func 10), args := #[], argTypes := #[] }, type := 4, pos := "law.go:73", after := #[{ on := 34, ground := Ground.chain }, { on := 34, ground := Ground.guard }], guard := some (34, true) }) rfl (fun K hK => ?_) AllReadyH.nil
  go_simp
  go_at_call 10
  refine (C.awake _ (by exact HEnv.out.below (below_step HB0.out (by first | exact HW | exact HW.drew)))).mono ?_
  rintro e wc ⟨rfl, bc⟩
  replace HW := below_step (by first | exact HW | exact HW.drew) bc
  clear bc
  clear x0 x1 x2 x3 x4 x5
  obtain ⟨x0, x1⟩ := box_cell Hg1.out HW
  obtain ⟨x2, x3⟩ := box_cell Hg2.out HW
  obtain ⟨x4, x5⟩ := box_cell Hg3.out HW
  refine hK.out _ _ ?_ (fun hHeldB => ?_)
  · (try dsimp only); first | exact ⟨x0, x1, x2, x3, x4, x5⟩ | go_keep
  clear hK K hHeld
  have hHeld := hHeldB
  clear hHeldB
  try simp only [Act.put, List.setIfInBounds_toArray, List.set_cons_zero, List.set_cons_succ]
  refine wpAnyH_take (i := 36) (oi := { dst := some 82, op := Op.pick (Operand.tmp 80) (Operand.tmp 81) (Operand.const (Value.bool false)), type := 4, pos := "law.go:73", after := #[{ on := 34, ground := Ground.data }, { on := 35, ground := Ground.data }], guard := none }) (v := ?v36) rfl (by kernel_rfl) (by kernel_rfl) (by kernel_rfl) (fun _ _ _ h => h) (Or.inl ⟨by rfl, ?hy36⟩) (by assumption) ?rest36
  case hy36 => (intro w hSw; (try dsimp only at hSw); go_simp; (try with_reducible rfl))
  try simp only [Act.put, List.setIfInBounds_toArray, List.set_cons_zero, List.set_cons_succ]
  refine wpAnyH_take (i := 37) (oi := { dst := some 6, op := Op.assign (Operand.tmp 82), type := 4, pos := "law.go:73", after := #[{ on := 36, ground := Ground.data }, { on := 35, ground := Ground.chain }, { on := 0, ground := Ground.phase }, { on := 1, ground := Ground.phase }, { on := 2, ground := Ground.phase }, { on := 3, ground := Ground.phase }, { on := 4, ground := Ground.phase }, { on := 5, ground := Ground.phase }, { on := 6, ground := Ground.phase }, { on := 7, ground := Ground.phase }, { on := 8, ground := Ground.phase }, { on := 9, ground := Ground.phase }, { on := 10, ground := Ground.phase }, { on := 11, ground := Ground.phase }, { on := 12, ground := Ground.phase }, { on := 13, ground := Ground.phase }, { on := 14, ground := Ground.phase }, { on := 15, ground := Ground.phase }, { on := 16, ground := Ground.phase }, { on := 17, ground := Ground.phase }, { on := 18, ground := Ground.phase }, { on := 19, ground := Ground.phase }, { on := 20, ground := Ground.phase }, { on := 21, ground := Ground.phase }, { on := 22, ground := Ground.phase }, { on := 23, ground := Ground.phase }, { on := 24, ground := Ground.phase }, { on := 25, ground := Ground.phase }, { on := 26, ground := Ground.phase }, { on := 27, ground := Ground.phase }, { on := 28, ground := Ground.phase }, { on := 29, ground := Ground.phase }, { on := 30, ground := Ground.phase }, { on := 31, ground := Ground.phase }, { on := 32, ground := Ground.phase }, { on := 33, ground := Ground.phase }, { on := 34, ground := Ground.phase }, { on := 35, ground := Ground.phase }, { on := 36, ground := Ground.phase }], guard := none }) (v := ?v37) rfl (by kernel_rfl) (by kernel_rfl) (by kernel_rfl) (fun _ _ _ h => h) (Or.inl ⟨by rfl, ?hy37⟩) (by assumption) ?rest37
  case hy37 => (intro w hSw; (try dsimp only at hSw); go_simp; (try with_reducible rfl))
  try simp only [Act.put, List.setIfInBounds_toArray, List.set_cons_zero, List.set_cons_succ]
  refine wpAnyH_done (by kernel_rfl) ?_ _
  go_wp2
  go_ret
  exact ⟨rfl, below_step HB0.out HW⟩
end Go.Proofs.YtklkcnpcjmeejaaDoor
