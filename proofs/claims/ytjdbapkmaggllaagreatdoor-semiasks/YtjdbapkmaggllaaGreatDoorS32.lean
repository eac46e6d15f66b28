/- lesser: the lesser of two numbers, in memory of its own. -/
import Derived.Test.YtjdbapkmaggllaaGreatDoorS31
import Derived.Deep.RegionHeld3
namespace Go.Proofs.YtjdbapkmaggllaaGreatDoor
open Go.RowKit Fo
set_option maxRecDepth 100000

namespace Fo
def omin (X Y : Option Nat) : Option Nat := if ocmp Y X < 0 then Y else X
end Fo
theorem oadd_zero (X : Option Nat) : oadd X (some 0) = X := by cases X <;> rfl
theorem add_zero_at (w : World) (v1 v2 : Value) (X : Option Nat) (h1 : NIn w v1 X) (h2 : NOut w v2 (some 0)) (hX : Short 10000 X) :
    Calls Tryz.prog 63 #[v1, v2] w fun e w' => (∃ u, e = .returned u ∧ NOut w' u X) ∧ Below w.heap.size w w' := by
  have := add_any w v1 v2 X (some 0) h1 (h2.nin fun N e => by obtain rfl := Option.some.inj e; rw [ln_zero]; decide) hX (fun N e => by obtain rfl := Option.some.inj e; rw [ln_zero]; decide)
  rwa [oadd_zero] at this
theorem compare_to (w : World) (v1 v2 : Value) (X1 X2 : Option Nat) (q : Int) (h1 : NIn w v1 X1) (h2 : NIn w v2 X2) (e : ocmp X1 X2 = q) : Calls Tryz.prog 45 #[v1, v2] w fun e w' => e = .returned (.int .i64 q) ∧ Below w.heap.size w w' := by
  rw [← e]; exact compare_any w v1 v2 X1 X2 h1 h2
theorem cell_set_other (w : World) (g o b k : Nat) (x : Value) (hb : b ≠ g) : (w.setCell ⟨g, o, none⟩ x).cell? ⟨b, k, none⟩ = w.cell? ⟨b, k, none⟩ := by
  unfold World.cell?
  rw [Below.heap_setCell w ⟨g, o, none⟩ x b (by exact hb)]
set_option maxHeartbeats 8000000 in
theorem lesser_lt (w : World) (v1 v2 : Value) (X1 X2 : Option Nat) (q : Int) (h1 : NIn w v1 X1) (h2 : NIn w v2 X2) (s1 : Short 10000 X2) (eq : ocmp X2 X1 = q) (hq : q < 0) :
    Calls Tryz.prog 64 #[v1, v2] w fun e w' => (∃ u, e = .returned u ∧ NOut w' u X2) ∧ Below w.heap.size w w' := by
  have H1' := h1
  have H2' := h2
  obtain ⟨i1, a1, n1, c1, L1, rfl, -, -, -, -⟩ := h1
  obtain ⟨i2, a2, n2, c2, L2, rfl, -, -, -, -⟩ := h2
  obtain ⟨W0, hW0⟩ : ∃ W0, W0 = (((w.alloc (.cells #[.bool i1, .slice a1 n1 c1] 24)).alloc (.cells #[.bool i2, .slice a2 n2 c2] 24)).alloc (.cells #[.bool false, .slice none 0 0] 24)) := ⟨_, rfl⟩
  have HB0 : Hid (Below w.heap.size w W0) := by rw [hW0]; exact below3 w _ _ _
  have hg1 : W0.heap[w.heap.size]? = some (.cells #[.bool i1, .slice a1 n1 c1] 24) := by rw [hW0]; exact heap_at3_0 w _ _ _
  have hg2 : W0.heap[w.heap.size + 1]? = some (.cells #[.bool i2, .slice a2 n2 c2] 24) := by rw [hW0]; exact heap_at3_1 w _ _ _
  have hg3 : W0.heap[w.heap.size + 1 + 1]? = some (.cells #[.bool false, .slice none 0 0] 24) := by rw [hW0]; exact heap_at3_2 w _ _ _
  have SZ : Hid (w.heap.size + 1 + 1 < W0.heap.size) := by show w.heap.size + 1 + 1 < W0.heap.size; rw [hW0]; simp
  have H1 : Hid (NIn W0 (.agg #[.bool i1, .slice a1 n1 c1]) X1) := H1'.below HB0.out
  have H2 : Hid (NIn W0 (.agg #[.bool i2, .slice a2 n2 c2]) X2) := H2'.below HB0.out
  have S1 : Hid (Short 10000 X2) := s1
  have EQ : Hid (ocmp X2 X1 = q) := eq
  clear s1 eq H1' H2'
  go_enter Tryz.func64, Tryz.ntmps64
  go_wp2_with (go_at_call 45; fail)
  rw [← hW0]
  clear hW0
  refine (compare_to _ _ _ X2 X1 q (by exact H2.out) (by exact H1.out) EQ.out).mono ?_
  rintro e w1 ⟨rfl, b1⟩
  replace hg1 := (b1.block (w.heap.size) (by have := SZ.out; omega)).trans hg1
  replace hg2 := (b1.block (w.heap.size + 1) (by have := SZ.out; omega)).trans hg2
  replace hg3 := (b1.block (w.heap.size + 1 + 1) (by have := SZ.out; omega)).trans hg3
  have HB1 : Hid (Below w.heap.size w w1) := below_step HB0.out b1
  have H1n : Hid (NIn w1 (.agg #[.bool i1, .slice a1 n1 c1]) X1) := H1.out.below b1
  have H2n : Hid (NIn w1 (.agg #[.bool i2, .slice a2 n2 c2]) X2) := H2.out.below b1
  have SZ1 : Hid (w.heap.size + 1 + 1 < w1.heap.size) := Nat.lt_of_lt_of_le SZ.out b1.size
  clear H1 H2 HB0 b1 SZ
  obtain ⟨z0, z1, z2, z3, z4, z5⟩ := box_facts hg1
  obtain ⟨y0, y1, -, -, -, -⟩ := box_facts hg2
  have Hg1 : Hid (w1.heap[w.heap.size]? = _) := hg1
  have Hg2 : Hid (w1.heap[w.heap.size + 1]? = _) := hg2
  have Hg3 : Hid (w1.heap[w.heap.size + 1 + 1]? = _) := hg3
  clear hg1 hg2 hg3
  go_upto_region 3 with fail
  obtain ⟨W1, hW1⟩ : ∃ W1, W1 = (w1.setCell ⟨w.heap.size, 0, none⟩ (.bool i2)).setCell ⟨w.heap.size, 1, none⟩ (.slice a2 n2 c2) := ⟨_, rfl⟩
  rw [← hW1]
  have HB : Hid (Below w.heap.size w W1) := by rw [hW1]; exact (HB1.out.setCell (Nat.le_refl _) _).setCell (Nat.le_refl _) _
  have HN : Hid (NIn W1 (.agg #[.bool i2, .slice a2 n2 c2]) X2) := by
    show NIn W1 _ _
    obtain ⟨i, a, n, c, L, e, hr, hL, hn, hX⟩ := H2n.out
    refine ⟨i, a, n, c, L, e, ?_, hL, hn, hX⟩
    rw [hW1]; exact (hr.off Hg1.out 0 _).off (set_block Hg1.out) 1 _
  have hk0 : W1.cell? ⟨w.heap.size, 0, none⟩ = some (.bool i2) := by rw [hW1]; simp [go_sem, z4]
  have hk1 : W1.cell? ⟨w.heap.size, 1, none⟩ = some (.slice a2 n2 c2) := by rw [hW1]; exact z5 _ _
  have Hg : Hid (W1.heap[w.heap.size + 1 + 1]? = some (.cells #[.bool false, .slice none 0 0] 24)) := by
    show W1.heap[w.heap.size + 1 + 1]? = _
    rw [hW1, Below.heap_setCell _ _ _ _ (by show w.heap.size + 1 + 1 ≠ w.heap.size; omega), Below.heap_setCell _ _ _ _ (by show w.heap.size + 1 + 1 ≠ w.heap.size; omega)]; exact Hg3.out
  have Hc : Hid (∃ c, W1.heap[w.heap.size]? = some (.cells #[.bool i2, c] 24) ∧ c = .slice a2 n2 c2) := by
    refine ⟨.slice a2 n2 c2, ?_, rfl⟩
    rw [hW1]
    simp [World.setCell, Array.getElem?_modify, Hg1.out]
  have SZ : Hid (w.heap.size + 1 + 1 < W1.heap.size) := by show w.heap.size + 1 + 1 < W1.heap.size; rw [hW1]; simpa using SZ1.out
  clear hW1 z0 z1 z2 z3 z4 z5 y0 y1 Hg1 Hg2 Hg3 H1n H2n HB1 SZ1 hq
  obtain ⟨cc, hcc, rfl⟩ := Hc.out
  have Hcc : Hid (W1.heap[w.heap.size]? = _) := hcc
  clear Hc hcc
  have HW : Below W1.heap.size W1 W1 := below_refl W1
  refine wp_region_held_drew (S := (fun w' => w'.cell? ⟨w.heap.size, 0, none⟩ = some (.bool i2) ∧ w'.cell? ⟨w.heap.size, 1, none⟩ = some (.slice a2 n2 c2))) (by kernel_rfl) ?_ (fun hHeld => ?_)
  · (try dsimp only); first | exact ⟨hk0, hk1⟩ | go_keep
  refine wpAnyH_take (i := 0) (oi := { dst := some 10, op := Op.load 24 (Operand.tmp 2), type := 24, pos := "semi.go:135", after := #[], guard := none }) (v := ?vu57) rfl (by kernel_rfl) (by kernel_rfl) (by kernel_rfl) (fun _ _ _ h => h) (Or.inl ⟨by rfl, ?hyu57⟩) (by assumption) ?restu57
  case hyu57 => (intro w hSw; (try dsimp only at hSw); go_simp; (try with_reducible rfl))
  try simp only [Act.put, List.setIfInBounds_toArray, List.set_cons_zero, List.set_cons_succ]
  refine wpAnyH_ready (rs := [1]) (by kernel_rfl) (by simp) ?_
  refine AllReadyH.cons (o := { dst := some 11, op := Op.call { callee := Callee.value (Operand.func 33), args := #[Operand.const (Value.int IntKind.u64 0)], argTypes := #[55] }, type := 24, pos := "semi.go:135", after := #[], guard := none }) rfl (fun K hK => ?_) AllReadyH.nil
  go_simp
  go_at_call 33
  refine (of_any 0 (by decide) _).mono ?_
  rintro e w2 ⟨⟨u2, rfl, o2⟩, b⟩
  replace HW := below_step (by first | exact HW | exact HW.drew) b
  clear b hk0 hk1
  obtain ⟨hk0, hk1⟩ := box_cell Hcc.out HW
  refine hK.out _ _ ?_ (fun hHeldB => ?_)
  · (try dsimp only); first | exact ⟨hk0, hk1⟩ | go_keep
  clear hK K hHeld
  have hHeld := hHeldB
  clear hHeldB
  try simp only [Act.put, List.setIfInBounds_toArray, List.set_cons_zero, List.set_cons_succ]
  refine wpAnyH_ready (rs := [2]) (by kernel_rfl) (by simp) ?_
  refine AllReadyH.cons (o := { dst := some 12, op := Op.call { callee := Callee.value (Operand.func 63), args := #[Operand.tmp 10, Operand.tmp 11], argTypes := #[24, 24] }, type := 24, pos := "semi.go:135", after := #[{ on := 0, ground := Ground.data }, { on := 1, ground := Ground.data }, { on := 1, ground := Ground.chain }], guard := none }) rfl (fun K hK => ?_) AllReadyH.nil
  go_simp
  go_at_call 63
  refine (add_zero_at _ _ _ X2 (by exact HN.out.below (by first | exact HW | exact HW.drew)) (by exact o2) S1.out).mono ?_
  rintro e w3 ⟨⟨u3, rfl, o3⟩, b⟩
  replace HW := below_step (by first | exact HW | exact HW.drew) b
  clear b hk0 hk1
  obtain ⟨hk0, hk1⟩ := box_cell Hcc.out HW
  obtain ⟨i, a, n, c, rfl, -, -, -⟩ := o3.form
  replace o3 : Hid (NOut _ _ _) := o3
  have hgr := (HW.block (w.heap.size + 1 + 1) SZ.out).trans Hg.out
  obtain ⟨r0, r1, r2, r3, r4, r5⟩ := box_facts hgr
  have Hgr : Hid (w3.heap[w.heap.size + 1 + 1]? = _) := hgr
  clear hgr
  refine hK.out _ _ ?_ (fun hHeldB => ?_)
  · (try dsimp only); first | exact ⟨hk0, hk1⟩ | go_keep
  clear hK K hHeld
  have hHeld := hHeldB
  clear hHeldB
  try simp only [Act.put, List.setIfInBounds_toArray, List.set_cons_zero, List.set_cons_succ]
  refine wpAnyH_ready (rs := [3]) (by kernel_rfl) (by simp) ?_
  refine AllReadyH.cons (o := { dst := none, op := Op.store 24 (Operand.tmp 4) (Operand.tmp 12), type := 0, pos := "semi.go:135", after := #[{ on := 2, ground := Ground.data }, { on := 2, ground := Ground.chain }, { on := 0, ground := Ground.phase }, { on := 1, ground := Ground.phase }, { on := 2, ground := Ground.phase }], guard := none }) rfl (fun K hK => ?_) AllReadyH.nil
  go_simp
  
  refine hK.out _ _ ?_ (fun hHeldB => ?_)
  · (try dsimp only); (refine ⟨?_, ?_⟩ <;> (rw [cell_set_other _ _ _ _ _ _ (by omega), cell_set_other _ _ _ _ _ _ (by omega)]; assumption))
  clear hK K hHeld
  have hHeld := hHeldB
  clear hHeldB
  try simp only [Act.put, List.setIfInBounds_toArray, List.set_cons_zero, List.set_cons_succ]
  refine wpAnyH_done (by kernel_rfl) ?_ _
  go_wp2
  refine bodyPost_ret (v := .agg #[.bool i, .slice a n c]) (by simp [results, Tryz.results64, go_sem, r4, r5]) rfl ?_
  exact ⟨⟨_, rfl, o3.out.set Hgr.out _ _⟩, ((below_step HB.out HW).setCell (by show w.heap.size ≤ w.heap.size + 1 + 1; omega) _).setCell (by show w.heap.size ≤ w.heap.size + 1 + 1; omega) _⟩
set_option maxHeartbeats 8000000 in
theorem lesser_ge (w : World) (v1 v2 : Value) (X1 X2 : Option Nat) (q : Int) (h1 : NIn w v1 X1) (h2 : NIn w v2 X2) (s1 : Short 10000 X1) (eq : ocmp X2 X1 = q) (hq : ¬ q < 0) :
    Calls Tryz.prog 64 #[v1, v2] w fun e w' => (∃ u, e = .returned u ∧ NOut w' u X1) ∧ Below w.heap.size w w' := by
  have H1' := h1
  have H2' := h2
  obtain ⟨i1, a1, n1, c1, L1, rfl, -, -, -, -⟩ := h1
  obtain ⟨i2, a2, n2, c2, L2, rfl, -, -, -, -⟩ := h2
  obtain ⟨W0, hW0⟩ : ∃ W0, W0 = (((w.alloc (.cells #[.bool i1, .slice a1 n1 c1] 24)).alloc (.cells #[.bool i2, .slice a2 n2 c2] 24)).alloc (.cells #[.bool false, .slice none 0 0] 24)) := ⟨_, rfl⟩
  have HB0 : Hid (Below w.heap.size w W0) := by rw [hW0]; exact below3 w _ _ _
  have hg1 : W0.heap[w.heap.size]? = some (.cells #[.bool i1, .slice a1 n1 c1] 24) := by rw [hW0]; exact heap_at3_0 w _ _ _
  have hg2 : W0.heap[w.heap.size + 1]? = some (.cells #[.bool i2, .slice a2 n2 c2] 24) := by rw [hW0]; exact heap_at3_1 w _ _ _
  have hg3 : W0.heap[w.heap.size + 1 + 1]? = some (.cells #[.bool false, .slice none 0 0] 24) := by rw [hW0]; exact heap_at3_2 w _ _ _
  have SZ : Hid (w.heap.size + 1 + 1 < W0.heap.size) := by show w.heap.size + 1 + 1 < W0.heap.size; rw [hW0]; simp
  have H1 : Hid (NIn W0 (.agg #[.bool i1, .slice a1 n1 c1]) X1) := H1'.below HB0.out
  have H2 : Hid (NIn W0 (.agg #[.bool i2, .slice a2 n2 c2]) X2) := H2'.below HB0.out
  have S1 : Hid (Short 10000 X1) := s1
  have EQ : Hid (ocmp X2 X1 = q) := eq
  clear s1 eq H1' H2'
  go_enter Tryz.func64, Tryz.ntmps64
  go_wp2_with (go_at_call 45; fail)
  rw [← hW0]
  clear hW0
  refine (compare_to _ _ _ X2 X1 q (by exact H2.out) (by exact H1.out) EQ.out).mono ?_
  rintro e w1 ⟨rfl, b1⟩
  replace hg1 := (b1.block (w.heap.size) (by have := SZ.out; omega)).trans hg1
  replace hg2 := (b1.block (w.heap.size + 1) (by have := SZ.out; omega)).trans hg2
  replace hg3 := (b1.block (w.heap.size + 1 + 1) (by have := SZ.out; omega)).trans hg3
  have HB1 : Hid (Below w.heap.size w w1) := below_step HB0.out b1
  have H1n : Hid (NIn w1 (.agg #[.bool i1, .slice a1 n1 c1]) X1) := H1.out.below b1
  have H2n : Hid (NIn w1 (.agg #[.bool i2, .slice a2 n2 c2]) X2) := H2.out.below b1
  have SZ1 : Hid (w.heap.size + 1 + 1 < w1.heap.size) := Nat.lt_of_lt_of_le SZ.out b1.size
  clear H1 H2 HB0 b1 SZ
  obtain ⟨z0, z1, z2, z3, z4, z5⟩ := box_facts hg1
  obtain ⟨y0, y1, -, -, -, -⟩ := box_facts hg2
  have Hg1 : Hid (w1.heap[w.heap.size]? = _) := hg1
  have Hg2 : Hid (w1.heap[w.heap.size + 1]? = _) := hg2
  have Hg3 : Hid (w1.heap[w.heap.size + 1 + 1]? = _) := hg3
  clear hg1 hg2 hg3
  go_upto_region 3 with fail
  obtain ⟨W1, hW1⟩ : ∃ W1, W1 = w1 := ⟨_, rfl⟩
  rw [← hW1]
  have HB : Hid (Below w.heap.size w W1) := by rw [hW1]; exact HB1.out
  have HN : Hid (NIn W1 (.agg #[.bool i1, .slice a1 n1 c1]) X1) := by rw [hW1]; exact H1n.out
  have hk0 : W1.cell? ⟨w.heap.size, 0, none⟩ = some (.bool i1) := by rw [hW1]; exact z0
  have hk1 : W1.cell? ⟨w.heap.size, 1, none⟩ = some (.slice a1 n1 c1) := by rw [hW1]; exact z1
  have Hg : Hid (W1.heap[w.heap.size + 1 + 1]? = some (.cells #[.bool false, .slice none 0 0] 24)) := by rw [hW1]; exact Hg3.out
  have Hc : Hid (∃ c, W1.heap[w.heap.size]? = some (.cells #[.bool i1, c] 24) ∧ c = .slice a1 n1 c1) := by rw [hW1]; exact ⟨_, Hg1.out, rfl⟩
  have SZ : Hid (w.heap.size + 1 + 1 < W1.heap.size) := by rw [hW1]; exact SZ1.out
  clear hW1 z0 z1 z2 z3 z4 z5 y0 y1 Hg1 Hg2 Hg3 H1n H2n HB1 SZ1 hq
  obtain ⟨cc, hcc, rfl⟩ := Hc.out
  have Hcc : Hid (W1.heap[w.heap.size]? = _) := hcc
  clear Hc hcc
  have HW : Below W1.heap.size W1 W1 := below_refl W1
  refine wp_region_held_drew (S := (fun w' => w'.cell? ⟨w.heap.size, 0, none⟩ = some (.bool i1) ∧ w'.cell? ⟨w.heap.size, 1, none⟩ = some (.slice a1 n1 c1))) (by kernel_rfl) ?_ (fun hHeld => ?_)
  · (try dsimp only); first | exact ⟨hk0, hk1⟩ | go_keep
  refine wpAnyH_take (i := 0) (oi := { dst := some 10, op := Op.load 24 (Operand.tmp 2), type := 24, pos := "semi.go:135", after := #[], guard := none }) (v := ?vu58) rfl (by kernel_rfl) (by kernel_rfl) (by kernel_rfl) (fun _ _ _ h => h) (Or.inl ⟨by rfl, ?hyu58⟩) (by assumption) ?restu58
  case hyu58 => (intro w hSw; (try dsimp only at hSw); go_simp; (try with_reducible rfl))
  try simp only [Act.put, List.setIfInBounds_toArray, List.set_cons_zero, List.set_cons_succ]
  refine wpAnyH_ready (rs := [1]) (by kernel_rfl) (by simp) ?_
  refine AllReadyH.cons (o := { dst := some 11, op := Op.call { callee := Callee.value (Operand.func 33), args := #[Operand.const (Value.int IntKind.u64 0)], argTypes := #[55] }, type := 24, pos := "semi.go:135", after := #[], guard := none }) rfl (fun K hK => ?_) AllReadyH.nil
  go_simp
  go_at_call 33
  refine (of_any 0 (by decide) _).mono ?_
  rintro e w2 ⟨⟨u2, rfl, o2⟩, b⟩
  replace HW := below_step (by first | exact HW | exact HW.drew) b
  clear b hk0 hk1
  obtain ⟨hk0, hk1⟩ := box_cell Hcc.out HW
  refine hK.out _ _ ?_ (fun hHeldB => ?_)
  · (try dsimp only); first | exact ⟨hk0, hk1⟩ | go_keep
  clear hK K hHeld
  have hHeld := hHeldB
  clear hHeldB
  try simp only [Act.put, List.setIfInBounds_toArray, List.set_cons_zero, List.set_cons_succ]
  refine wpAnyH_ready (rs := [2]) (by kernel_rfl) (by simp) ?_
  refine AllReadyH.cons (o := { dst := some 12, op := Op.call { callee := Callee.value (Operand.func 63), args := #[Operand.tmp 10, Operand.tmp 11], argTypes := #[24, 24] }, type := 24, pos := "semi.go:135", after := #[{ on := 0, ground := Ground.data }, { on := 1, ground := Ground.data }, { on := 1, ground := Ground.chain }], guard := none }) rfl (fun K hK => ?_) AllReadyH.nil
  go_simp
  go_at_call 63
  refine (add_zero_at _ _ _ X1 (by exact HN.out.below (by first | exact HW | exact HW.drew)) (by exact o2) S1.out).mono ?_
  rintro e w3 ⟨⟨u3, rfl, o3⟩, b⟩
  replace HW := below_step (by first | exact HW | exact HW.drew) b
  clear b hk0 hk1
  obtain ⟨hk0, hk1⟩ := box_cell Hcc.out HW
  obtain ⟨i, a, n, c, rfl, -, -, -⟩ := o3.form
  replace o3 : Hid (NOut _ _ _) := o3
  have hgr := (HW.block (w.heap.size + 1 + 1) SZ.out).trans Hg.out
  obtain ⟨r0, r1, r2, r3, r4, r5⟩ := box_facts hgr
  have Hgr : Hid (w3.heap[w.heap.size + 1 + 1]? = _) := hgr
  clear hgr
  refine hK.out _ _ ?_ (fun hHeldB => ?_)
  · (try dsimp only); first | exact ⟨hk0, hk1⟩ | go_keep
  clear hK K hHeld
  have hHeld := hHeldB
  clear hHeldB
  try simp only [Act.put, List.setIfInBounds_toArray, List.set_cons_zero, List.set_cons_succ]
  refine wpAnyH_ready (rs := [3]) (by kernel_rfl) (by simp) ?_
  refine AllReadyH.cons (o := { dst := none, op := Op.store 24 (Operand.tmp 4) (Operand.tmp 12), type := 0, pos := "semi.go:135", after := #[{ on := 2, ground := Ground.data }, { on := 2, ground := Ground.chain }, { on := 0, ground := Ground.phase }, { on := 1, ground := Ground.phase }, { on := 2, ground := Ground.phase }], guard := none }) rfl (fun K hK => ?_) AllReadyH.nil
  go_simp
  
  refine hK.out _ _ ?_ (fun hHeldB => ?_)
  · (try dsimp only); (refine ⟨?_, ?_⟩ <;> (rw [cell_set_other _ _ _ _ _ _ (by omega), cell_set_other _ _ _ _ _ _ (by omega)]; assumption))
  clear hK K hHeld
  have hHeld := hHeldB
  clear hHeldB
  try simp only [Act.put, List.setIfInBounds_toArray, List.set_cons_zero, List.set_cons_succ]
  refine wpAnyH_done (by kernel_rfl) ?_ _
  go_wp2
  refine bodyPost_ret (v := .agg #[.bool i, .slice a n c]) (by simp [results, Tryz.results64, go_sem, r4, r5]) rfl ?_
  exact ⟨⟨_, rfl, o3.out.set Hgr.out _ _⟩, ((below_step HB.out HW).setCell (by show w.heap.size ≤ w.heap.size + 1 + 1; omega) _).setCell (by show w.heap.size ≤ w.heap.size + 1 + 1; omega) _⟩
end Go.Proofs.YtjdbapkmaggllaaGreatDoor
