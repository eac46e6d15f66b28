/- The document's own Least. -/
import Derived.Test.YteaajhpgmndomaaSet
namespace Go.Proofs.Yteaajhpgmndomaa
open Go.RowKit Fo
set_option maxRecDepth 100000

noncomputable def eSet : Elt Try.prog 22 23 := ⟨Try.t23, .slice none 0 0, 24, Try.underlying22, by kernel_rfl, by kernel_rfl, by kernel_rfl, by kernel_rfl, rfl, by decide⟩
namespace Fo
def gs (F : List (List Int)) (j : Nat) : List Int := F.getD j []
theorem gs_mem {F : List (List Int)} {a : List Int} : a ∈ F ↔ ∃ j, j < F.length ∧ gs F j = a := by
  rw [List.mem_iff_getElem]
  constructor
  · rintro ⟨j, hj, e⟩
    exact ⟨j, hj, by unfold gs; rw [List.getD_eq_getElem?_getD, List.getElem?_eq_getElem hj]; exact e⟩
  · rintro ⟨j, hj, e⟩
    refine ⟨j, hj, ?_⟩
    unfold gs at e
    rwa [List.getD_eq_getElem?_getD, List.getElem?_eq_getElem hj] at e
theorem gs_at {F : List (List Int)} {j : Nat} (hj : j < F.length) : gs F j = F[j] := by
  unfold gs; rw [List.getD_eq_getElem?_getD, List.getElem?_eq_getElem hj]; rfl
theorem gs_app_l {F G : List (List Int)} {j : Nat} (h : j < F.length) : gs (F ++ G) j = gs F j := by
  unfold gs; rw [List.getD_eq_getElem?_getD, List.getD_eq_getElem?_getD, List.getElem?_append_left h]
theorem gs_app_r {F G : List (List Int)} {j : Nat} (h : F.length ≤ j) : gs (F ++ G) j = gs G (j - F.length) := by
  unfold gs; rw [List.getD_eq_getElem?_getD, List.getD_eq_getElem?_getD, List.getElem?_append_right h]
def subB (a b : List Int) : Bool := a.all fun x => b.contains x
theorem subB_iff {a b : List Int} : subB a b = true ↔ sub a b := by
  unfold subB sub
  simp [List.all_eq_true]
/-- Lists of numbers in a list. -/
def IsLL (w : World) (v : Value) (F : List (List Int)) : Prop := ∃ a c V, v = .slice a F.length c ∧ Rd w a F.length c V ∧ ∀ j, j < F.length → IsL w (V j) (gs F j)
theorem IsLL.below {w w1 : World} {v : Value} {F : List (List Int)} (h : IsLL w v F) (hb : Below w.heap.size w w1) : IsLL w1 v F := by
  obtain ⟨a, c, V, e, hr, hs⟩ := h
  exact ⟨a, c, V, e, hr.below hb, fun j hj => (hs j hj).below hb⟩
/-- A family that a call has made. -/
def FamIn (B : Nat) (w : World) (v : Value) (F : List (List Int)) : Prop := ∃ V, Ow 23 B w v F.length V ∧ ∀ j, j < F.length → SetIn w (V j) (gs F j)
theorem FamIn.isLL {B : Nat} {w : World} {v : Value} {F : List (List Int)} (h : FamIn B w v F) : IsLL w v F := by
  obtain ⟨V, ho, hs⟩ := h
  obtain ⟨a, c, e, hr⟩ := ho.rd
  exact ⟨a, c, V, e, hr, fun j hj => (hs j hj).isL⟩
theorem FamIn.below {B : Nat} {w w1 : World} {v : Value} {F : List (List Int)} (h : FamIn B w v F) (hb : Below w.heap.size w w1) : FamIn B w1 v F := by
  obtain ⟨V, ho, hs⟩ := h
  exact ⟨V, ho.below hb, fun j hj => (hs j hj).below hb⟩
def insV (V : Nat → Value) (p : Nat) (u : Value) (j : Nat) : Value := if j < p then V j else if j = p then u else V (j - 1)
def midV (V : Nat → Value) (N : Nat) (z : Value) (k j : Nat) : Value := if j ≤ k then (if j < N then V j else z) else V (j - 1)
theorem catV_mid (V : Nat → Value) (N : Nat) (z : Value) (j : Nat) (hj : j < N + 1) : catV V N (fun _ => z) j = midV V N z N j := by
  unfold catV midV
  by_cases h : j < N
  · simp only [h, if_true, if_pos (show j ≤ N by omega)]
  · simp only [h, if_false, if_pos (show j ≤ N by omega)]
theorem midV_step (V : Nat → Value) (N : Nat) (z : Value) (k j : Nat) (hk : 0 < k) (hkN : k ≤ N) : updV (midV V N z k) k (midV V N z k (k - 1)) j = midV V N z (k - 1) j := by
  have hx : midV V N z k (k - 1) = V (k - 1) := by unfold midV; rw [if_pos (by omega), if_pos (by omega)]
  rw [hx]
  unfold updV midV
  by_cases e : j = k
  · subst e; rw [if_pos rfl, if_neg (by omega)]
  · rw [if_neg e]
    by_cases h : j ≤ k
    · rw [if_pos h, if_pos (show j ≤ k - 1 by omega)]
    · rw [if_neg h, if_neg (show ¬ j ≤ k - 1 by omega)]
theorem midV_end (V : Nat → Value) (N : Nat) (z : Value) (p j : Nat) (hp : p ≤ N) (u : Value) : updV (midV V N z p) p u j = insV V p u j := by
  unfold updV midV insV
  by_cases e : j = p
  · subst e; rw [if_pos rfl, if_neg (by omega), if_pos rfl]
  · rw [if_neg e]
    by_cases h : j < p
    · rw [if_pos (by omega), if_pos (by omega), if_pos h]
    · rw [if_neg (by omega), if_neg h, if_neg e]
/-- Those that are left, step by step. -/
def rest (X : List Int) (F : List (List Int)) : List (List Int) := F.filter fun a => !subB X a
theorem take_more {F : List (List Int)} {k : Nat} (hk : k < F.length) : F.take (k + 1) = F.take k ++ [gs F k] := by
  rw [List.take_add_one, List.getElem?_eq_getElem hk, gs_at hk]; rfl
theorem rest_more {X : List Int} {F : List (List Int)} {k : Nat} (hk : k < F.length) : rest X (F.take (k + 1)) = rest X (F.take k) ++ (if subB X (gs F k) then [] else [gs F k]) := by
  rw [take_more hk]
  unfold rest
  rw [List.filter_append, List.filter_cons, List.filter_nil]
  cases subB X (gs F k) <;> rfl
theorem ins_len (G : List (List Int)) (p : Nat) (X : List Int) (hp : p ≤ G.length) : (G.take p ++ X :: G.drop p).length = G.length + 1 := by
  simp; omega
theorem ins_gs (G : List (List Int)) (p : Nat) (X : List Int) (hp : p ≤ G.length) (j : Nat) : gs (G.take p ++ X :: G.drop p) j = if j < p then gs G j else if j = p then X else gs G (j - 1) := by
  have ht : (G.take p).length = p := by simp; omega
  by_cases h : j < p
  · rw [if_pos h, gs_app_l (by omega)]
    unfold gs; rw [List.getD_eq_getElem?_getD, List.getD_eq_getElem?_getD, List.getElem?_take_of_lt h]
  · rw [if_neg h, gs_app_r (by omega), ht]
    by_cases e : j = p
    · rw [if_pos e, e, Nat.sub_self]; rfl
    · rw [if_neg e]
      obtain ⟨q, rfl⟩ : ∃ q, j = p + q + 1 := ⟨j - p - 1, by omega⟩
      rw [show p + q + 1 - p = q + 1 by omega, show p + q + 1 - 1 = p + q by omega]
      unfold gs; rw [List.getD_eq_getElem?_getD, List.getD_eq_getElem?_getD, List.getElem?_cons_succ, List.getElem?_drop]
/-- A set is put in its place among those that are left. -/
theorem fam_put {l F : List (List Int)} {X y : List Int} {p : Nat} (h : FamOf l F) (hX : Rise X) (hXy : sub X y ∧ sub y X) (hk : ¬ ∃ j, j < F.length ∧ sub (gs F j) X) (hp : p ≤ (rest X F).length)
    (h1 : ∀ j, p ≤ j → j < (rest X F).length → lessL X (gs (rest X F) j)) (h2 : p = 0 ∨ ¬ lessL X (gs (rest X F) (p - 1))) : FamOf (l ++ [y]) ((rest X F).take p ++ X :: (rest X F).drop p) := by
  have hG : (rest X F).Pairwise (fun a b => lessL a b ∧ ¬ sub a b ∧ ¬ sub b a) := h.1.2.sublist List.filter_sublist
  have hm : ∀ a, a ∈ rest X F ↔ a ∈ F ∧ ¬ sub X a := fun a => by
    unfold rest
    rw [List.mem_filter, ← subB_iff]
    cases subB X a <;> simp
  refine fam_in h hX hXy (fun ⟨a, ha, hs⟩ => hk ?_) (fun a => ?_) ?_ (fun a ha => ?_) (fun a ha => ?_)
  · obtain ⟨j, hj, e⟩ := gs_mem.1 ha
    exact ⟨j, hj, e ▸ hs⟩
  · rw [List.take_append_drop]; exact hm a
  · rw [List.take_append_drop]; exact hG
  · rcases h2 with h2 | h2
    · subst h2; simp at ha
    · have hpos : 0 < p := by
        rcases Nat.eq_zero_or_pos p with h0 | h0
        · subst h0; simp at ha
        · exact h0
      have hq : p - 1 < (rest X F).length := by omega
      have hlast : lessL (gs (rest X F) (p - 1)) X := by
        rcases less_total X (gs (rest X F) (p - 1)) with k | k | k
        · exact absurd k h2
        · exfalso
          have := (hm _).1 (gs_mem.2 ⟨p - 1, hq, rfl⟩)
          rw [← k] at this
          exact this.2 (sub_refl X)
        · exact k
      obtain ⟨j, hj, e⟩ := List.mem_iff_getElem.1 ha
      have hjp : j < p := by rw [List.length_take] at hj; omega
      have e' : gs (rest X F) j = a := by
        rw [gs_at (by omega)]
        rw [List.getElem_take] at e
        exact e
      by_cases ej : j = p - 1
      · rw [← e', ej]; exact hlast
      · have := (List.pairwise_iff_getElem.1 hG) j (p - 1) (by omega) hq (by omega)
        rw [← gs_at (by omega), ← gs_at hq, e'] at this
        exact less_trans this.1 hlast
  · obtain ⟨j, hj, e⟩ := List.mem_iff_getElem.1 ha
    rw [List.getElem_drop] at e
    rw [List.length_drop] at hj
    have := h1 (p + j) (by omega) (by omega)
    rw [gs_at (by omega), e] at this
    exact this
end Fo
end Go.Proofs.Yteaajhpgmndomaa
