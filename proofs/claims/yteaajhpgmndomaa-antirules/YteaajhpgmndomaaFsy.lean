/- What anti's families answer; the laws' awake out of it. (A Family is a struct of one field: its sets.) -/
import Derived.Test.YteaajhpgmndomaaSts
namespace Go.Proofs.Yteaajhpgmndomaa
open Go.RowKit Fo
set_option maxRecDepth 100000

theorem heap_new1 (w : World) (o : Obj) : (w.alloc o).heap[w.heap.size]? = some o := heap_alloc_new _ _
theorem heap_new2 (w : World) (o1 o2 : Obj) : ((w.alloc o1).alloc o2).heap[w.heap.size]? = some o1 := by rw [Below.heap_alloc _ _ _ (by simp)]; exact heap_alloc_new _ _
theorem heap_new3 (w : World) (o1 o2 o3 : Obj) : (((w.alloc o1).alloc o2).alloc o3).heap[w.heap.size]? = some o1 := by rw [Below.heap_alloc _ _ _ (by simp <;> omega)]; exact heap_new2 w _ _
theorem row_rd {w : World} {g n : Nat} {cs : Array Value} {t : TypeId} {V : Nat → Value} (hg : w.heap[g]? = some (.cells cs t)) (hn : n ≤ 1000) (hV : ∀ j, j < n → cs[j]? = some (V j)) : Rd w (some ⟨g, 0, none⟩) n n V :=
  ⟨Nat.le_refl _, by omega, Or.inr ⟨g, 0, rfl, fun j hj => by rw [Nat.zero_add, cell_of_row w g j _ _ _ hg]; exact hV j hj⟩⟩
namespace Fo
/-- A family in memory. -/
def FV (w : World) (v : Value) (F : List (List Int)) : Prop := ∃ a c V, v = .agg #[.slice a F.length c] ∧ Rd w a F.length c V ∧ (∀ j, j < F.length → SetIn w (V j) (gs F j)) ∧ (F.length = 0 ∨ ∃ b off cur fr, a = some ⟨b, off, none⟩ ∧ w.heap[b]? = some (.cells cur 23 fr)) ∧ F.length ≤ 5000 ∧ (∀ j, j < F.length → (gs F j).length ≤ 10000) ∧ ∀ a, a ∈ F → Rise a
theorem FV.below {w w1 : World} {v : Value} {F : List (List Int)} (h : FV w v F) (hb : Below w.heap.size w w1) : FV w1 v F := by
  obtain ⟨a, c, V, e, hr, hs, ht, hl⟩ := h
  refine ⟨a, c, V, e, hr.below hb, fun j hj => (hs j hj).below hb, ?_, hl⟩
  rcases ht with ht | ⟨b, off, cur, fr, ea, hc⟩
  · exact Or.inl ht
  · exact Or.inr ⟨b, off, cur, fr, ea, by rw [hb.block b (Array.getElem?_eq_some_iff.1 hc).1]; exact hc⟩
/-- A family stays where a variable of a Family is written. -/
theorem FV.put {w : World} {v : Value} {F : List (List Int)} {g : Nat} {cs : Array Value} {fr0 : Nat × Nat} (h : FV w v F) (hg : w.heap[g]? = some (.cells cs 27 fr0)) (u : Value) : FV (w.setCell ⟨g, 0, none⟩ u) v F := by
  obtain ⟨a, c, V, e, ⟨hr1, hr2, hr3⟩, hs, ht, hl⟩ := h
  have far : ∀ (b : Nat) (cur : Array Value) (t : TypeId) (fr : Nat × Nat), t ≠ 27 → w.heap[b]? = some (.cells cur t fr) → (w.setCell ⟨g, 0, none⟩ u).heap[b]? = w.heap[b]? := fun b cur t fr hne hb => by
    refine Below.heap_setCell w ⟨g, 0, none⟩ u b (fun e => ?_)
    have e' : b = g := e
    subst e'
    rw [hg] at hb
    injection hb with hb
    injection hb with _ hb
    exact hne hb.symm
  refine ⟨a, c, V, e, ⟨hr1, hr2, ?_⟩, fun j hj => (hs j hj).keep fun b cur fr hb => far b cur _ fr (by decide) hb, ?_, hl⟩
  · rcases ht with h0 | ⟨b, off, cur, fr, ea, hc⟩
    · exact Or.inl h0
    · rcases hr3 with h0 | ⟨b2, off2, ea2, hcc⟩
      · exact Or.inl h0
      · obtain ⟨rfl, rfl⟩ : b2 = b ∧ off2 = off := by rw [ea] at ea2; simpa [eq_comm] using ea2
        exact Or.inr ⟨b2, off2, ea2, fun j hj => by have := hcc j hj; unfold World.cell? at this ⊢; rw [far b2 cur _ fr (by decide) hc]; exact this⟩
  · rcases ht with h0 | ⟨b, off, cur, fr, ea, hc⟩
    · exact Or.inl h0
    · exact Or.inr ⟨b, off, cur, fr, ea, by rw [far b cur _ fr (by decide) hc]; exact hc⟩
theorem FV.isLL {w : World} {v : Value} {F : List (List Int)} (h : FV w v F) : ∃ x, v = .agg #[x] ∧ IsLL w x F := by
  obtain ⟨a, c, V, e, hr, hs, -⟩ := h
  exact ⟨_, e, a, c, V, rfl, hr, fun j hj => (hs j hj).isL⟩
def OfR (w' : World) (e : Ending) (L : List (List Int)) : Prop := (GoodP L ∧ ∃ u F, e = .returned (.tuple #[u, .int .i64 0]) ∧ FV w' u F ∧ FamOf L F) ∨ (¬ GoodP L ∧ ∃ u, e = .returned (.tuple #[u, .int .i64 1]) ∧ FV w' u [])
def ovB (R : List (List Int)) (b : Int) : Bool := decide (b < (R.length : Int)) || decide (5000 < R.length)
def BudR (w' : World) (e : Ending) (R : List (List Int)) (b : Int) : Prop := (ovB R b = false ∧ ∃ u, e = .returned (.tuple #[u, .int .i64 0]) ∧ FV w' u R) ∨ (ovB R b = true ∧ ∃ u, e = .returned (.tuple #[u, .int .i64 10]) ∧ FV w' u [])
end Fo
/-- What anti's functions of families answer. -/
structure FamSays (Env : World → Prop) : Prop where
  keep : ∀ {w w' : World}, Env w → Below w.heap.size w w' → Env w'
  sub : ∀ (w : World) (v1 v2 : Value) (l m : List Int) (R : Bool), Env w → IsL w v1 l → IsL w v2 m → l.length ≤ 1000000 → m.length ≤ 1000000 → subB l m = R →
    Calls Try.prog 31 #[v1, v2] w fun e w' => e = .returned (.bool R) ∧ Below w.heap.size w w'
  of : ∀ (w : World) (v : Value) (L : List (List Int)), Env w → IsLL w v L → L.length ≤ 1000 → (∀ j, j < L.length → (gs L j).length ≤ 1000) →
    Calls Try.prog 11 #[v] w fun e w' => OfR w' e L ∧ Below w.heap.size w w'
  sets : ∀ (w : World) (v : Value) (F : List (List Int)), Env w → FV w v F → Calls Try.prog 19 #[v] w fun e w' => (∃ u, e = .returned u ∧ IsLL w' u F) ∧ Below w.heap.size w w'
  has : ∀ (w : World) (v s : Value) (F : List (List Int)) (S : List Int) (R : Bool), Env w → FV w v F → IsL w s S → S.length ≤ 1000000 → (R = true ↔ Fo.has F S) →
    Calls Try.prog 20 #[v, s] w fun e w' => e = .returned (.bool R) ∧ Below w.heap.size w w'
  len : ∀ (w : World) (v : Value) (F : List (List Int)) (n : Int), Env w → FV w v F → (F.length : Int) = n → Calls Try.prog 16 #[v] w fun e w' => e = .returned (.int .i64 n) ∧ Below w.heap.size w w'
  plus : ∀ (w : World) (v1 v2 : Value) (F G R : List (List Int)) (b : Int), Env w → FV w v1 F → FV w v2 G → Fam F → Fam G → FamOf (F ++ G) R →
    Calls Try.prog 23 #[v1, v2, .int .i64 b] w fun e w' => BudR w' e R b ∧ Below w.heap.size w w'
  times : ∀ (w : World) (v1 v2 : Value) (F G R : List (List Int)) (b : Int), Env w → FV w v1 F → FV w v2 G → Fam F → Fam G → FamOf (unionsL F G) R → F.length * G.length ≤ 20000 → (∀ j, j < F.length → (gs F j).length ≤ 5000) → (∀ j, j < G.length → (gs G j).length ≤ 5000) →
    Calls Try.prog 24 #[v1, v2, .int .i64 b] w fun e w' => BudR w' e R b ∧ Below w.heap.size w w'
  one : ∀ (w : World), Env w → Calls Try.prog 29 #[] w fun e w' => (∃ u, e = .returned u ∧ FV w' u [[]]) ∧ Below w.heap.size w w'
  zero : ∀ (w : World), Env w → Calls Try.prog 30 #[] w fun e w' => (∃ u, e = .returned u ∧ FV w' u []) ∧ Below w.heap.size w w'
namespace Fo
theorem awk_fam : FamOf [[2, 1, 2], [1]] [[1]] := by
  refine ⟨⟨fun a ha => ?_, by simp⟩, fun s => ?_⟩
  · rw [List.mem_singleton.1 ha]; unfold Rise; simp
  · unfold has sub
    constructor
    · rintro ⟨a, ha, hs⟩
      rw [List.mem_singleton.1 ha] at hs
      exact ⟨[1], by simp, hs⟩
    · rintro ⟨a, ha, hs⟩
      refine ⟨[1], by simp, fun x hx => ?_⟩
      rw [List.mem_singleton.1 hx]
      rcases List.mem_cons.1 ha with e | e
      · rw [e] at hs; exact hs 1 (by simp)
      · rw [List.mem_singleton.1 e] at hs; exact hs 1 (by simp)
theorem awk_good : GoodP [[2, 1, 2], [1]] := by
  intro i hi j hj
  match i, hi with
  | 0, _ =>
    match j, hj with
    | 0, _ => decide
    | 1, _ => decide
    | 2, _ => decide
  | 1, _ =>
    match j, hj with
    | 0, _ => decide
end Fo
set_option maxHeartbeats 16000000 in
/-- THE LAWS' AWAKE. -/
theorem awake_of {Env : World → Prop} (C : FamSays Env) (w : World) (henv : Env w) : Calls Try.prog 10 #[] w fun e w' => e = .returned (.bool true) ∧ Below w.heap.size w w' := by
  have HE : Hid (Env w) := henv
  obtain ⟨W0, hW0⟩ : ∃ W0, W0 = ((w.alloc (.cells #[.int .i64 2, .int .i64 1, .int .i64 2] 3)).alloc (.cells #[.int .i64 1] 3)).alloc (.cells #[.slice (some ⟨w.heap.size, 0, none⟩) 3 3, .slice (some ⟨w.heap.size + 1, 0, none⟩) 1 1] 23) := ⟨_, rfl⟩
  have HB0 : Hid (Below w.heap.size w W0) := by rw [hW0]; exact ((below1 w _).alloc (by simp) _).alloc (by simp <;> omega) _
  have HL0 : Hid (IsLL W0 (.slice (some ⟨w.heap.size + 1 + 1, 0, none⟩) 2 2) [[2, 1, 2], [1]]) := by
    have e0 : W0.heap[w.heap.size]? = some (.cells #[.int .i64 2, .int .i64 1, .int .i64 2] 3) := by rw [hW0]; exact heap_new3 w _ _ _
    have e1 : W0.heap[w.heap.size + 1]? = some (.cells #[.int .i64 1] 3) := by
      rw [hW0]
      have := heap_new2 (w.alloc (.cells #[.int .i64 2, .int .i64 1, .int .i64 2] 3)) (.cells #[.int .i64 1] 3) (.cells #[.slice (some ⟨w.heap.size, 0, none⟩) 3 3, .slice (some ⟨w.heap.size + 1, 0, none⟩) 1 1] 23)
      simpa using this
    have e2 : W0.heap[w.heap.size + 1 + 1]? = some (.cells #[.slice (some ⟨w.heap.size, 0, none⟩) 3 3, .slice (some ⟨w.heap.size + 1, 0, none⟩) 1 1] 23) := by
      rw [hW0]
      have := heap_new1 ((w.alloc (.cells #[.int .i64 2, .int .i64 1, .int .i64 2] 3)).alloc (.cells #[.int .i64 1] 3)) (.cells #[.slice (some ⟨w.heap.size, 0, none⟩) 3 3, .slice (some ⟨w.heap.size + 1, 0, none⟩) 1 1] 23)
      simpa using this
    refine ⟨_, _, fun j => if j = 0 then .slice (some ⟨w.heap.size, 0, none⟩) 3 3 else .slice (some ⟨w.heap.size + 1, 0, none⟩) 1 1, rfl, row_rd e2 (by decide) (fun j hj => ?_), fun j hj => ?_⟩
    · match j, hj with
      | 0, _ => rfl
      | 1, _ => rfl
    · match j, hj with
      | 0, _ =>
        refine ⟨_, _, rfl, row_rd e0 (by decide) (fun i hi => ?_)⟩
        match i, hi with
        | 0, _ => rfl
        | 1, _ => rfl
        | 2, _ => rfl
      | 1, _ =>
        refine ⟨_, _, rfl, row_rd e1 (by decide) (fun i hi => ?_)⟩
        match i, hi with
        | 0, _ => rfl
  have HE0 : Hid (Env W0) := C.keep henv HB0.out
  clear henv
  go_enter Try.func10, Try.ntmps10
  go_wp2_with (go_at_call 11; fail)
  rw [← hW0]
  clear hW0
  refine (C.of _ _ _ HE0.out HL0.out (by decide) (fun j hj => by match j, hj with | 0, _ => decide | 1, _ => decide)).mono ?_
  rintro e w1 ⟨hr, b⟩
  rcases hr with ⟨-, u, F, rfl, hf, ho⟩ | ⟨hn, -⟩
  case inr => exact absurd awk_good hn
  obtain rfl : F = [[1]] := famOf_fun ho awk_fam
  obtain ⟨a, c, V, rfl, hrest⟩ := id hf
  clear hrest
  obtain ⟨W1, hW1⟩ : ∃ W1, W1 = w1.alloc (.cells #[.slice a 1 c] 27) := ⟨_, rfl⟩
  have HB1 : Hid (Below w.heap.size w W1) := by rw [hW1]; exact (below_step HB0.out b).alloc (below_step HB0.out b).size _
  have HF1 : Hid (FV W1 (.agg #[.slice a 1 c]) [[1]]) := by show FV W1 _ _; rw [hW1]; exact hf.below (below1 _ _)
  have hg1 : W1.heap[w1.heap.size]? = some (.cells #[.slice a 1 c] 27) := by rw [hW1]; exact heap_new1 _ _
  have hcf : W1.cell? ⟨w1.heap.size, 0, none⟩ = some (.slice a 1 c) := by rw [cell_of_row W1 _ _ _ _ _ hg1]; rfl
  clear hf ho b hg1 HL0 HE0 HB0
  go_wp2_with (go_at_call 19; fail)
  rw [← hW1]
  clear hW1
  refine (C.sets _ _ [[1]] (C.keep HE.out HB1.out) HF1.out).mono ?_
  rintro e w2 ⟨⟨u, rfl, hl⟩, b⟩
  obtain ⟨W2, hW2⟩ : ∃ W2, W2 = (w2.alloc (.cells #[.int .i64 1] 3)).alloc (.cells #[.slice (some ⟨w2.heap.size, 0, none⟩) 1 1] 23) := ⟨_, rfl⟩
  have b2 : Below w2.heap.size w2 W2 := by rw [hW2]; exact (below1 w2 _).alloc (by simp) _
  have HB2 : Hid (Below w.heap.size w W2) := below_step (below_step HB1.out b) b2
  have HU2 : Hid (IsLL W2 u [[1]]) := hl.below b2
  have HV2 : Hid (IsLL W2 (.slice (some ⟨w2.heap.size + 1, 0, none⟩) 1 1) [[1]]) := by
    have e0 : W2.heap[w2.heap.size]? = some (.cells #[.int .i64 1] 3) := by rw [hW2]; exact heap_new2 w2 _ _
    have e1 : W2.heap[w2.heap.size + 1]? = some (.cells #[.slice (some ⟨w2.heap.size, 0, none⟩) 1 1] 23) := by
      rw [hW2]
      have := heap_new1 (w2.alloc (.cells #[.int .i64 1] 3)) (.cells #[.slice (some ⟨w2.heap.size, 0, none⟩) 1 1] 23)
      simpa using this
    refine ⟨_, _, fun _ => .slice (some ⟨w2.heap.size, 0, none⟩) 1 1, rfl, row_rd e1 (by decide) (fun j hj => ?_), fun j hj => ?_⟩
    · match j, hj with
      | 0, _ => rfl
    · match j, hj with
      | 0, _ =>
        refine ⟨_, _, rfl, row_rd e0 (by decide) (fun i hi => ?_)⟩
        match i, hi with
        | 0, _ => rfl
  clear hl b b2 HF1 HB1 hcf
  go_wp2_with (go_at_call 18; fail)
  rw [← hW2]
  clear hW2
  refine (rlists_any _ u _ [[1]] [[1]] true HU2.out HV2.out ⟨fun _ => rfl, fun _ => rfl⟩).mono ?_
  rintro e w3 ⟨rfl, b⟩
  have HB3 : Hid (Below w.heap.size w w3) := below_step HB2.out b
  clear b HU2 HV2 HB2
  go_wp2_with (go_at_call 29; fail)
  refine (C.one _ (C.keep HE.out HB3.out)).mono ?_
  rintro e w4 ⟨⟨u4, rfl, hf⟩, b⟩
  have HB4 : Hid (Below w.heap.size w w4) := below_step HB3.out b
  have HF4 : Hid (FV w4 u4 [[]]) := hf
  clear b hf HB3
  go_wp2_with (go_at_call 16; fail)
  refine (C.len _ _ [[]] 1 (C.keep HE.out HB4.out) HF4.out rfl).mono ?_
  rintro e w5 ⟨rfl, b⟩
  have HB5 : Hid (Below w.heap.size w w5) := below_step HB4.out b
  clear b HF4 HB4
  go_wp2_with (go_at_call 30; fail)
  refine (C.zero _ (C.keep HE.out HB5.out)).mono ?_
  rintro e w6 ⟨⟨u6, rfl, hf⟩, b⟩
  have HB6 : Hid (Below w.heap.size w w6) := below_step HB5.out b
  have HF6 : Hid (FV w6 u6 []) := hf
  clear b hf HB5
  go_wp2_with (go_at_call 16; fail)
  refine (C.len _ _ [] 0 (C.keep HE.out HB6.out) HF6.out rfl).mono ?_
  rintro e w7 ⟨rfl, b⟩
  have HB7 : Hid (Below w.heap.size w w7) := below_step HB6.out b
  clear b HF6 HB6
  go_wp2_with (go_at_call 31; fail)
  refine (C.sub _ _ _ [] [] true (C.keep HE.out HB7.out) ⟨none, 0, rfl, Rd.empty _ _ _ (by decide) _⟩ ⟨none, 0, rfl, Rd.empty _ _ _ (by decide) _⟩ (by decide) (by decide) rfl).mono ?_
  rintro e w8 ⟨rfl, b⟩
  have HB8 : Hid (Below w.heap.size w w8) := below_step HB7.out b
  clear b HB7
  go_wp2
  go_ret
  exact ⟨rfl, HB8.out⟩
end Go.Proofs.Yteaajhpgmndomaa
