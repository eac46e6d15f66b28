/- AntiRules' own functions plus, times and same. -/
import Derived.Test.YteaajhpgmndomaaFsy
import Derived.Test.YteaajhpgmndomaaAnx
namespace Go.Proofs.Yteaajhpgmndomaa
open Go.RowKit Fo
set_option maxRecDepth 100000

theorem box1_facts {w : World} {g : Nat} {x : Value} {t : TypeId} (hg : w.heap[g]? = some (.cells #[x] t)) :
    w.cell? ⟨g, 0, none⟩ = some x ∧ w.frozen? ⟨g, 0, none⟩ = false ∧ ∀ u, (w.setCell ⟨g, 0, none⟩ u).cell? ⟨g, 0, none⟩ = some u := by
  have h0 : w.cell? ⟨g, 0, none⟩ = some x := by simp [World.cell?, hg]
  exact ⟨h0, by simp [World.frozen?, hg], fun u => World.cell?_setCell_same' w _ u (by rw [h0]; rfl)⟩
theorem aplus_any {Env : World → Prop} (C : FamSays Env) (w : World) (v1 v2 : Value) (F G R : List (List Int)) (henv : Env w) (h1 : FV w v1 F) (h2 : FV w v2 G) (f1 : Fam F) (f2 : Fam G) (ho : FamOf (F ++ G) R) (hov : ovB R 5000 = false) :
    Calls Try.prog 26 #[v1, v2] w fun e w' => (∃ u, e = .returned u ∧ FV w' u R) ∧ Below w.heap.size w w' := by
  have H1' := h1
  have H2' := h2
  obtain ⟨a1, c1, V1, rfl, -⟩ := h1
  obtain ⟨a2, c2, V2, rfl, -⟩ := h2
  obtain ⟨W0, hW0⟩ : ∃ W0, W0 = ((w.alloc (.cells #[.slice a1 F.length c1] 27)).alloc (.cells #[.slice a2 G.length c2] 27)).alloc (.cells #[.slice none 0 0] 27) := ⟨_, rfl⟩
  have HB0 : Hid (Below w.heap.size w W0) := by rw [hW0]; exact ((below1 w _).alloc (by simp) _).alloc (by simp <;> omega) _
  have hgr0 : W0.heap[w.heap.size + 1 + 1]? = some (.cells #[.slice none 0 0] 27) := by
    rw [hW0]
    have := heap_new1 ((w.alloc (.cells #[.slice a1 F.length c1] 27)).alloc (.cells #[.slice a2 G.length c2] 27)) (.cells #[.slice none 0 0] 27)
    simpa using this
  have Hgr : Hid (W0.heap[w.heap.size + 1 + 1]? = some (.cells #[.slice none 0 0] 27)) := hgr0
  have H1 : Hid (FV W0 (.agg #[.slice a1 F.length c1]) F) := H1'.below HB0.out
  have H2 : Hid (FV W0 (.agg #[.slice a2 G.length c2]) G) := H2'.below HB0.out
  have HE : Hid (Env W0) := C.keep henv HB0.out
  have HF1 : Hid (Fam F) := f1
  have HF2 : Hid (Fam G) := f2
  have HO : Hid (FamOf (F ++ G) R) := ho
  have HOV : Hid (ovB R 5000 = false) := hov
  clear H1' H2' f1 f2 ho hov henv hgr0
  go_enter Try.func26, Try.ntmps26
  go_wp2_with (go_at_call 23; fail)
  rw [← hW0]
  clear hW0
  refine (C.plus _ _ _ F G R 5000 HE.out H1.out H2.out HF1.out HF2.out HO.out).mono ?_
  rintro e w1 ⟨hr, b⟩
  rcases hr with ⟨-, u, rfl, hf⟩ | ⟨hn, -⟩
  case inr => exfalso; revert hn; rw [HOV.out]; decide
  obtain ⟨a3, c3, V3, rfl, hrest⟩ := id hf
  clear hrest
  obtain ⟨W1, hW1⟩ : ∃ W1, W1 = w1.alloc (.cells #[.slice a3 R.length c3] 27) := ⟨_, rfl⟩
  have b1 : Below w1.heap.size w1 W1 := by rw [hW1]; exact below1 _ _
  have hgr := (b1.block (w.heap.size + 1 + 1) (Nat.lt_of_lt_of_le (Array.getElem?_eq_some_iff.1 Hgr.out).1 b.size)).trans ((b.block _ (Array.getElem?_eq_some_iff.1 Hgr.out).1).trans Hgr.out)
  have hgv : W1.heap[w1.heap.size]? = some (.cells #[.slice a3 R.length c3] 27) := by rw [hW1]; exact heap_new1 _ _
  obtain ⟨z0, f0, s0⟩ := box1_facts hgr
  obtain ⟨q0, -, -⟩ := box1_facts hgv
  have HGR : Hid (W1.heap[w.heap.size + 1 + 1]? = some (.cells #[.slice none 0 0] 27)) := hgr
  have HF3 : Hid (FV W1 (.agg #[.slice a3 R.length c3]) R) := hf.below b1
  have HB1 : Hid (Below w.heap.size w W1) := below_step (below_step HB0.out b) b1
  clear hgr hgv b b1 hf HB0 Hgr
  go_upto_region 2 with fail
  rw [← hW1]
  clear hW1
  go_wp2
  refine bodyPost_ret (v := .agg #[.slice a3 R.length c3]) (by simp [results, Try.results26, go_sem, s0]) rfl ?_
  exact ⟨⟨_, rfl, HF3.out.put HGR.out _⟩, HB1.out.setCell (by show w.heap.size ≤ w.heap.size + 1 + 1; omega) _⟩
theorem atimes_any {Env : World → Prop} (C : FamSays Env) (w : World) (v1 v2 : Value) (F G R : List (List Int)) (henv : Env w) (h1 : FV w v1 F) (h2 : FV w v2 G) (f1 : Fam F) (f2 : Fam G) (ho : FamOf (unionsL F G) R) (hov : ovB R 5000 = false) (hx : F.length * G.length ≤ 20000 ∧ (∀ j, j < F.length → (gs F j).length ≤ 5000) ∧ ∀ j, j < G.length → (gs G j).length ≤ 5000) :
    Calls Try.prog 27 #[v1, v2] w fun e w' => (∃ u, e = .returned u ∧ FV w' u R) ∧ Below w.heap.size w w' := by
  have H1' := h1
  have H2' := h2
  obtain ⟨a1, c1, V1, rfl, -⟩ := h1
  obtain ⟨a2, c2, V2, rfl, -⟩ := h2
  obtain ⟨W0, hW0⟩ : ∃ W0, W0 = ((w.alloc (.cells #[.slice a1 F.length c1] 27)).alloc (.cells #[.slice a2 G.length c2] 27)).alloc (.cells #[.slice none 0 0] 27) := ⟨_, rfl⟩
  have HB0 : Hid (Below w.heap.size w W0) := by rw [hW0]; exact ((below1 w _).alloc (by simp) _).alloc (by simp <;> omega) _
  have hgr0 : W0.heap[w.heap.size + 1 + 1]? = some (.cells #[.slice none 0 0] 27) := by
    rw [hW0]
    have := heap_new1 ((w.alloc (.cells #[.slice a1 F.length c1] 27)).alloc (.cells #[.slice a2 G.length c2] 27)) (.cells #[.slice none 0 0] 27)
    simpa using this
  have Hgr : Hid (W0.heap[w.heap.size + 1 + 1]? = some (.cells #[.slice none 0 0] 27)) := hgr0
  have H1 : Hid (FV W0 (.agg #[.slice a1 F.length c1]) F) := H1'.below HB0.out
  have H2 : Hid (FV W0 (.agg #[.slice a2 G.length c2]) G) := H2'.below HB0.out
  have HE : Hid (Env W0) := C.keep henv HB0.out
  have HF1 : Hid (Fam F) := f1
  have HF2 : Hid (Fam G) := f2
  have HO : Hid (FamOf (unionsL F G) R) := ho
  have HOV : Hid (ovB R 5000 = false) := hov
  have HX : Hid (F.length * G.length ≤ 20000 ∧ (∀ j, j < F.length → (gs F j).length ≤ 5000) ∧ ∀ j, j < G.length → (gs G j).length ≤ 5000) := hx
  clear H1' H2' f1 f2 ho hov henv hgr0 hx
  go_enter Try.func27, Try.ntmps27
  go_wp2_with (go_at_call 24; fail)
  rw [← hW0]
  clear hW0
  refine (C.times _ _ _ F G R 5000 HE.out H1.out H2.out HF1.out HF2.out HO.out HX.out.1 HX.out.2.1 HX.out.2.2).mono ?_
  rintro e w1 ⟨hr, b⟩
  rcases hr with ⟨-, u, rfl, hf⟩ | ⟨hn, -⟩
  case inr => exfalso; revert hn; rw [HOV.out]; decide
  obtain ⟨a3, c3, V3, rfl, hrest⟩ := id hf
  clear hrest
  obtain ⟨W1, hW1⟩ : ∃ W1, W1 = w1.alloc (.cells #[.slice a3 R.length c3] 27) := ⟨_, rfl⟩
  have b1 : Below w1.heap.size w1 W1 := by rw [hW1]; exact below1 _ _
  have hgr := (b1.block (w.heap.size + 1 + 1) (Nat.lt_of_lt_of_le (Array.getElem?_eq_some_iff.1 Hgr.out).1 b.size)).trans ((b.block _ (Array.getElem?_eq_some_iff.1 Hgr.out).1).trans Hgr.out)
  have hgv : W1.heap[w1.heap.size]? = some (.cells #[.slice a3 R.length c3] 27) := by rw [hW1]; exact heap_new1 _ _
  obtain ⟨z0, f0, s0⟩ := box1_facts hgr
  obtain ⟨q0, -, -⟩ := box1_facts hgv
  have HGR : Hid (W1.heap[w.heap.size + 1 + 1]? = some (.cells #[.slice none 0 0] 27)) := hgr
  have HF3 : Hid (FV W1 (.agg #[.slice a3 R.length c3]) R) := hf.below b1
  have HB1 : Hid (Below w.heap.size w W1) := below_step (below_step HB0.out b) b1
  clear hgr hgv b b1 hf HB0 Hgr
  go_upto_region 2 with fail
  rw [← hW1]
  clear hW1
  go_wp2
  refine bodyPost_ret (v := .agg #[.slice a3 R.length c3]) (by simp [results, Try.results27, go_sem, s0]) rfl ?_
  exact ⟨⟨_, rfl, HF3.out.put HGR.out _⟩, HB1.out.setCell (by show w.heap.size ≤ w.heap.size + 1 + 1; omega) _⟩
theorem asame_any {Env : World → Prop} (C : FamSays Env) (w : World) (v1 v2 : Value) (F G : List (List Int)) (R : Bool) (henv : Env w) (h1 : FV w v1 F) (h2 : FV w v2 G) (hR : R = true ↔ F = G) :
    Calls Try.prog 28 #[v1, v2] w fun e w' => e = .returned (.bool R) ∧ Below w.heap.size w w' := by
  have H1' := h1
  have H2' := h2
  obtain ⟨a1, c1, V1, rfl, -⟩ := h1
  obtain ⟨a2, c2, V2, rfl, -⟩ := h2
  obtain ⟨W0, hWe⟩ : ∃ W0, W0 = (w.alloc (.cells #[.slice a1 F.length c1] 27)).alloc (.cells #[.slice a2 G.length c2] 27) := ⟨_, rfl⟩
  have HB0 : Hid (Below w.heap.size w W0) := by rw [hWe]; exact (below1 w _).alloc (by simp) _
  have Hg1 : Hid (W0.heap[w.heap.size]? = some (.cells #[.slice a1 F.length c1] 27)) := by show W0.heap[_]? = _; rw [hWe]; exact heap_new2 w _ _
  have Hg2 : Hid (W0.heap[w.heap.size + 1]? = some (.cells #[.slice a2 G.length c2] 27)) := by
    show W0.heap[_]? = _
    rw [hWe]
    have := heap_new1 (w.alloc (.cells #[.slice a1 F.length c1] 27)) (.cells #[.slice a2 G.length c2] 27)
    simpa using this
  have H1 : Hid (FV W0 (.agg #[.slice a1 F.length c1]) F) := H1'.below HB0.out
  have H2 : Hid (FV W0 (.agg #[.slice a2 G.length c2]) G) := H2'.below HB0.out
  have HE : Hid (Env W0) := C.keep henv HB0.out
  have HRr : Hid (R = true ↔ F = G) := hR
  clear H1' H2' henv hR
  go_enter Try.func28, Try.ntmps28
  go_upto_region 1 with fail
  rw [← hWe]
  clear hWe
  have HW0 : Below W0.heap.size W0 W0 := below_refl _
  
  refine wp_region_held_drew (S := (fun w' => Below W0.heap.size W0 w')) (by kernel_rfl) ?_ (fun hHeld => ?_)
  · (try dsimp only); first | exact HW0 | exact HW0.drew
  refine wpAnyH_take (i := 0) (oi := { dst := some 5, op := Op.load 27 (Operand.tmp 2), type := 27, pos := "law.go:97", after := #[], guard := none }) (v := ?vu251) rfl (by kernel_rfl) (by kernel_rfl) (by kernel_rfl) (fun _ _ _ h => h) (Or.inl ⟨by rfl, ?hyu251⟩) (by assumption) ?restu251
  case hyu251 => (intro w hSw; (try dsimp only at hSw); have q1 := (box1_facts ((hSw.block _ (Array.getElem?_eq_some_iff.1 Hg1.out).1).trans Hg1.out)).1; have q2 := (box1_facts ((hSw.block _ (Array.getElem?_eq_some_iff.1 Hg2.out).1).trans Hg2.out)).1; go_simp; (try with_reducible rfl))
  try simp only [Act.put, List.setIfInBounds_toArray, List.set_cons_zero, List.set_cons_succ]
  refine wpAnyH_take (i := 2) (oi := { dst := some 7, op := Op.load 27 (Operand.tmp 3), type := 27, pos := "law.go:97", after := #[], guard := none }) (v := ?vu252) rfl (by kernel_rfl) (by kernel_rfl) (by kernel_rfl) (fun _ _ _ h => h) (Or.inl ⟨by rfl, ?hyu252⟩) (by assumption) ?restu252
  case hyu252 => (intro w hSw; (try dsimp only at hSw); have q1 := (box1_facts ((hSw.block _ (Array.getElem?_eq_some_iff.1 Hg1.out).1).trans Hg1.out)).1; have q2 := (box1_facts ((hSw.block _ (Array.getElem?_eq_some_iff.1 Hg2.out).1).trans Hg2.out)).1; go_simp; (try with_reducible rfl))
  try simp only [Act.put, List.setIfInBounds_toArray, List.set_cons_zero, List.set_cons_succ]
  refine wpAnyH_ready (rs := [1]) (by kernel_rfl) (by simp) ?_
  refine AllReadyH.cons (o := { dst := some 6, op := Op.call { callee := Callee.value (Operand.func 19), args := #[Operand.tmp 5], argTypes := #[27] }, type := 22, pos := "law.go:97", after := #[{ on := 0, ground := Ground.data }], guard := none }) rfl (fun K hK => ?_) AllReadyH.nil
  go_simp
  go_at_call 19
  refine (C.sets _ _ F (C.keep HE.out (by first | exact HW0 | exact HW0.drew)) (H1.out.below (by first | exact HW0 | exact HW0.drew))).mono ?_
  rintro e z1 ⟨⟨y1, rfl, hy1⟩, b⟩
  have HY1z : Hid (IsLL z1 y1 F) := hy1
  replace HW0 := below_step (by first | exact HW0 | exact HW0.drew) b
  clear b hy1
  refine hK.out _ _ ?_ (fun hHeldB => ?_)
  · (try dsimp only); exact HW0
  clear hK K hHeld
  have hHeld := hHeldB
  clear hHeldB
  try simp only [Act.put, List.setIfInBounds_toArray, List.set_cons_zero, List.set_cons_succ]
  refine wpAnyH_ready (rs := [3]) (by kernel_rfl) (by simp) ?_
  refine AllReadyH.cons (o := { dst := some 8, op := Op.call { callee := Callee.value (Operand.func 19), args := #[Operand.tmp 7], argTypes := #[27] }, type := 22, pos := "law.go:97", after := #[{ on := 2, ground := Ground.data }, { on := 1, ground := Ground.chain }], guard := none }) rfl (fun K hK => ?_) AllReadyH.nil
  go_simp
  go_at_call 19
  refine (C.sets _ _ G (C.keep HE.out (by first | exact HW0 | exact HW0.drew)) (H2.out.below (by first | exact HW0 | exact HW0.drew))).mono ?_
  rintro e z2 ⟨⟨y2, rfl, hy2⟩, b⟩
  have HY1 : Hid (IsLL z2 y1 F) := HY1z.out.below b
  clear HY1z
  have HY2 : Hid (IsLL z2 y2 G) := hy2
  replace HW0 := below_step (by first | exact HW0 | exact HW0.drew) b
  clear b hy2
  refine hK.out _ _ ?_ (fun hHeldB => ?_)
  · (try dsimp only); exact HW0
  clear hK K hHeld
  have hHeld := hHeldB
  clear hHeldB
  try simp only [Act.put, List.setIfInBounds_toArray, List.set_cons_zero, List.set_cons_succ]
  refine wpAnyH_ready (rs := [4]) (by kernel_rfl) (by simp) ?_
  refine AllReadyH.cons (o := { dst := some 9, op := Op.call { callee := Callee.value (Operand.func 18), args := #[Operand.tmp 6, Operand.tmp 8], argTypes := #[22, 22] }, type := 4, pos := "law.go:97", after := #[{ on := 1, ground := Ground.data }, { on := 3, ground := Ground.data }, { on := 3, ground := Ground.chain }], guard := none }) rfl (fun K hK => ?_) AllReadyH.nil
  go_simp
  go_at_call 18
  refine (rlists_any _ y1 y2 F G R HY1.out HY2.out HRr.out).mono ?_
  rintro e z3 ⟨rfl, b⟩
  replace HW0 := below_step (by first | exact HW0 | exact HW0.drew) b
  clear b
  refine hK.out _ _ ?_ (fun hHeldB => ?_)
  · (try dsimp only); exact HW0
  clear hK K hHeld
  have hHeld := hHeldB
  clear hHeldB
  try simp only [Act.put, List.setIfInBounds_toArray, List.set_cons_zero, List.set_cons_succ]
  refine wpAnyH_take (i := 5) (oi := { dst := some 4, op := Op.assign (Operand.tmp 9), type := 4, pos := "law.go:97", after := #[{ on := 4, ground := Ground.data }, { on := 4, ground := Ground.chain }, { on := 0, ground := Ground.phase }, { on := 1, ground := Ground.phase }, { on := 2, ground := Ground.phase }, { on := 3, ground := Ground.phase }, { on := 4, ground := Ground.phase }], guard := none }) (v := ?vu253) rfl (by kernel_rfl) (by kernel_rfl) (by kernel_rfl) (fun _ _ _ h => h) (Or.inl ⟨by rfl, ?hyu253⟩) (by assumption) ?restu253
  case hyu253 => (intro w hSw; (try dsimp only at hSw); go_simp; (try with_reducible rfl))
  try simp only [Act.put, List.setIfInBounds_toArray, List.set_cons_zero, List.set_cons_succ]
  refine wpAnyH_done (by kernel_rfl) ?_ _
  go_wp2
  go_ret
  exact ⟨rfl, below_step HB0.out (by first | exact HW0 | exact HW0.drew)⟩
end Go.Proofs.Yteaajhpgmndomaa
