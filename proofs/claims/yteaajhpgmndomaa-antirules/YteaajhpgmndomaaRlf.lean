/- AntiRules' plus, times and same, in the words of what families stand for. -/
import Derived.Test.YteaajhpgmndomaaCrl
namespace Go.Proofs.Yteaajhpgmndomaa
open Go.RowKit Fo
set_option maxRecDepth 100000

namespace Fo
theorem fam_self {F : List (List Int)} (h : Fam F) : FamOf F F := ⟨h, fun _ => Iff.rfl⟩
/-- A family in memory that stands for p, of at most n sets of at most m numbers. -/
def FP (w : World) (v : Value) (p : List Int → Prop) (n m : Nat) : Prop := ∃ F, FV w v F ∧ Fam F ∧ (∀ s, has F s ↔ p s) ∧ F.length ≤ n ∧ ∀ j, j < F.length → (gs F j).length ≤ m
theorem FP.below {w w1 : World} {v : Value} {p : List Int → Prop} {n m : Nat} (h : FP w v p n m) (hb : Below w.heap.size w w1) : FP w1 v p n m := by
  obtain ⟨F, h, k⟩ := h
  exact ⟨F, h.below hb, k⟩
theorem ovB_no {R : List (List Int)} (h : R.length ≤ 5000) : ovB R 5000 = false := by
  unfold ovB
  rw [Bool.or_eq_false_iff]
  exact ⟨decide_eq_false (by omega), decide_eq_false (by omega)⟩
theorem gs_app_le {F G : List (List Int)} {m m' : Nat} (h : ∀ j, j < F.length → (gs F j).length ≤ m) (k : ∀ j, j < G.length → (gs G j).length ≤ m') : ∀ j, j < (F ++ G).length → (gs (F ++ G) j).length ≤ max m m' := fun j hj => by
  have hm : gs (F ++ G) j ∈ F ++ G := gs_mem.2 ⟨j, hj, rfl⟩
  rcases List.mem_append.1 hm with q | q
  · obtain ⟨i, hi, e⟩ := gs_mem.1 q
    rw [← e]; exact Nat.le_trans (h i hi) (Nat.le_max_left _ _)
  · obtain ⟨i, hi, e⟩ := gs_mem.1 q
    rw [← e]; exact Nat.le_trans (k i hi) (Nat.le_max_right _ _)
theorem gs_uni_le {F G : List (List Int)} {m m' : Nat} (h : ∀ j, j < F.length → (gs F j).length ≤ m) (k : ∀ j, j < G.length → (gs G j).length ≤ m') : ∀ j, j < (unionsL F G).length → (gs (unionsL F G) j).length ≤ m + m' := fun j hj => by
  have hm : gs (unionsL F G) j ∈ unionsL F G := gs_mem.2 ⟨j, hj, rfl⟩
  generalize gs (unionsL F G) j = c at hm ⊢
  unfold unionsL at hm
  obtain ⟨a, ha, hc⟩ := List.mem_flatMap.1 hm
  obtain ⟨b, hb, rfl⟩ := List.mem_map.1 hc
  obtain ⟨i, hi, e⟩ := gs_mem.1 ha
  obtain ⟨l, hl, e'⟩ := gs_mem.1 hb
  rw [List.length_append, ← e, ← e']
  exact Nat.add_le_add (h i hi) (k l hl)
theorem uni_len : ∀ (F G : List (List Int)), (unionsL F G).length = F.length * G.length
  | [], G => by simp [unionsL]
  | a :: F, G => by
    have := uni_len F G
    unfold unionsL at this ⊢
    rw [List.flatMap_cons, List.length_append, this, List.length_map, List.length_cons, Nat.add_mul, Nat.one_mul, Nat.add_comm]
end Fo
theorem rplus_any {Env : World → Prop} (C : FamSays Env) (w : World) (v1 v2 : Value) (p q : List Int → Prop) (n m n' m' : Nat) (henv : Env w) (h1 : FP w v1 p n m) (h2 : FP w v2 q n' m') (hn : n + n' ≤ 5000) :
    Calls Try.prog 26 #[v1, v2] w fun e w' => (∃ u, e = .returned u ∧ FP w' u (fun s => p s ∨ q s) (n + n') (max m m')) ∧ Below w.heap.size w w' := by
  obtain ⟨F, hF, fF, pF, lF, sF⟩ := h1
  obtain ⟨G, hG, fG, pG, lG, sG⟩ := h2
  obtain ⟨R, hR⟩ := fam_ex (F ++ G)
  have hl : R.length ≤ n + n' := Nat.le_trans (fam_len hR) (by rw [List.length_append]; omega)
  refine (aplus_any C w v1 v2 F G R henv hF hG fF fG hR (ovB_no (by omega))).mono ?_
  rintro e w' ⟨⟨u, rfl, hu⟩, b⟩
  exact ⟨⟨u, rfl, R, hu, hR.1, fun s => by rw [hR.2 s, has_app, pF s, pG s], hl, fam_sets hR (gs_app_le sF sG)⟩, b⟩
theorem rtimes_any {Env : World → Prop} (C : FamSays Env) (w : World) (v1 v2 : Value) (p q : List Int → Prop) (n m n' m' : Nat) (henv : Env w) (h1 : FP w v1 p n m) (h2 : FP w v2 q n' m') (hn : n * n' ≤ 5000) (hm : m ≤ 5000) (hm' : m' ≤ 5000) :
    Calls Try.prog 27 #[v1, v2] w fun e w' => (∃ u, e = .returned u ∧ FP w' u (fun s => p s ∧ q s) (n * n') (m + m')) ∧ Below w.heap.size w w' := by
  obtain ⟨F, hF, fF, pF, lF, sF⟩ := h1
  obtain ⟨G, hG, fG, pG, lG, sG⟩ := h2
  obtain ⟨R, hR⟩ := fam_ex (unionsL F G)
  have hmul : F.length * G.length ≤ n * n' := Nat.mul_le_mul lF lG
  have hl : R.length ≤ n * n' := Nat.le_trans (fam_len hR) (by rw [uni_len]; exact hmul)
  refine (atimes_any C w v1 v2 F G R henv hF hG fF fG hR (ovB_no (by omega)) ⟨by omega, fun j hj => Nat.le_trans (sF j hj) hm, fun j hj => Nat.le_trans (sG j hj) hm'⟩).mono ?_
  rintro e w' ⟨⟨u, rfl, hu⟩, b⟩
  exact ⟨⟨u, rfl, R, hu, hR.1, fun s => by rw [hR.2 s, has_unions, pF s, pG s], hl, fam_sets hR (gs_uni_le sF sG)⟩, b⟩
theorem rsame_any {Env : World → Prop} (C : FamSays Env) (w : World) (v1 v2 : Value) (p q : List Int → Prop) (n m n' m' : Nat) (henv : Env w) (h1 : FP w v1 p n m) (h2 : FP w v2 q n' m') (h : ∀ s, p s ↔ q s) :
    Calls Try.prog 28 #[v1, v2] w fun e w' => e = .returned (.bool true) ∧ Below w.heap.size w w' := by
  obtain ⟨F, hF, fF, pF, -⟩ := h1
  obtain ⟨G, hG, fG, pG, -⟩ := h2
  exact asame_any C w v1 v2 F G true henv hF hG ⟨fun _ => fam_ext fF fG fun s => (pF s).trans ((h s).trans (pG s).symm), fun _ => rfl⟩
theorem rone_any {Env : World → Prop} (C : FamSays Env) (w : World) (henv : Env w) : Calls Try.prog 29 #[] w fun e w' => (∃ u, e = .returned u ∧ FP w' u (fun _ => True) 1 0) ∧ Below w.heap.size w w' := by
  refine (C.one w henv).mono ?_
  rintro e w' ⟨⟨u, rfl, hu⟩, b⟩
  exact ⟨⟨u, rfl, _, hu, fam_one, fun s => ⟨fun _ => trivial, fun _ => has_one s⟩, Nat.le_refl _, fun j hj => by match j, hj with | 0, _ => exact Nat.le_refl _⟩, b⟩
theorem rzero_any {Env : World → Prop} (C : FamSays Env) (w : World) (henv : Env w) : Calls Try.prog 30 #[] w fun e w' => (∃ u, e = .returned u ∧ FP w' u (fun _ => False) 0 0) ∧ Below w.heap.size w w' := by
  refine (C.zero w henv).mono ?_
  rintro e w' ⟨⟨u, rfl, hu⟩, b⟩
  exact ⟨⟨u, rfl, _, hu, fam_nil.1, fun s => ⟨fun h => has_nil s h, fun h => h.elim⟩, Nat.le_refl _, fun j hj => absurd hj (by simp)⟩, b⟩
theorem rlen0_any {Env : World → Prop} (C : FamSays Env) (w : World) (v : Value) (p : List Int → Prop) (n m : Nat) (henv : Env w) (h : FP w v p n m) (hp : ∀ s, ¬ p s) : Calls Try.prog 16 #[v] w fun e w' => e = .returned (.int .i64 0) ∧ Below w.heap.size w w' := by
  obtain ⟨F, hF, fF, pF, -⟩ := h
  refine C.len w v F 0 henv hF ?_
  cases F with
  | nil => rfl
  | cons a F => exact absurd ((pF a).1 ⟨a, List.mem_cons_self .., sub_refl a⟩) (hp a)
end Go.Proofs.Yteaajhpgmndomaa
