/- Every list of lists has its family. -/
import Derived.Test.YteaajhpgmndomaaLea
namespace Go.Proofs.Yteaajhpgmndomaa
namespace Fo
theorem rise_ex : ∀ y : List Int, ∃ X, Rise X ∧ sub X y ∧ sub y X
  | [] => ⟨[], List.Pairwise.nil, fun _ h => h, fun _ h => h⟩
  | x :: y => by
    obtain ⟨X, hX, h1, h2⟩ := rise_ex y
    refine ⟨X.filter (fun z => decide (z < x)) ++ x :: X.filter (fun z => decide (x < z)), ?_, fun z hz => ?_, fun z hz => ?_⟩
    · unfold Rise at hX ⊢
      rw [List.pairwise_append, List.pairwise_cons]
      refine ⟨hX.sublist List.filter_sublist, ⟨fun b hb => by simpa using (List.mem_filter.1 hb).2, hX.sublist List.filter_sublist⟩, fun a ha b hb => ?_⟩
      have ha' : a < x := by simpa using (List.mem_filter.1 ha).2
      rcases List.mem_cons.1 hb with e | e
      · rw [e]; exact ha'
      · have : x < b := by simpa using (List.mem_filter.1 e).2
        omega
    · rcases List.mem_append.1 hz with k | k
      · exact List.mem_cons_of_mem _ (h1 z (List.mem_filter.1 k).1)
      · rcases List.mem_cons.1 k with k | k
        · rw [k]; exact List.mem_cons_self ..
        · exact List.mem_cons_of_mem _ (h1 z (List.mem_filter.1 k).1)
    · rcases List.mem_cons.1 hz with k | k
      · rw [k]; simp
      · have := h2 z k
        rcases Int.lt_trichotomy z x with e | e | e
        · exact List.mem_append_left _ (List.mem_filter.2 ⟨this, by simpa using e⟩)
        · rw [e]; simp
        · exact List.mem_append_right _ (List.mem_cons_of_mem _ (List.mem_filter.2 ⟨this, by simpa using e⟩))
theorem fam_step {l R : List (List Int)} (h : FamOf l R) (y : List Int) : ∃ R', FamOf (l ++ [y]) R' := by
  classical
  obtain ⟨X, hX, h1, h2⟩ := rise_ex y
  by_cases hk : has R X
  · exact ⟨R, fam_over h ⟨h1, h2⟩ hk⟩
  · refine ⟨_, fam_in (pre := R.filter fun a => decide (lessL a X ∧ ¬ sub X a)) (post := R.filter fun a => decide (lessL X a ∧ ¬ sub X a)) h hX ⟨h1, h2⟩ hk (fun a => ?_) ?_ (fun a ha => ?_) (fun a ha => ?_)⟩
    · rw [List.mem_append, List.mem_filter, List.mem_filter, decide_eq_true_eq, decide_eq_true_eq]
      constructor
      · rintro (⟨h, -, k⟩ | ⟨h, -, k⟩)
        · exact ⟨h, k⟩
        · exact ⟨h, k⟩
      · rintro ⟨ha, k⟩
        rcases less_total a X with e | e | e
        · exact Or.inl ⟨ha, e, k⟩
        · exact absurd (e ▸ sub_refl X) k
        · exact Or.inr ⟨ha, e, k⟩
    · rw [List.pairwise_append]
      refine ⟨h.1.2.sublist List.filter_sublist, h.1.2.sublist List.filter_sublist, fun a ha b hb => ?_⟩
      rw [List.mem_filter, decide_eq_true_eq] at ha hb
      have hl := less_trans ha.2.1 hb.2.1
      refine ⟨hl, fun hs => ?_, fun hs => ?_⟩
      · have := fam_apart h.1 ha.1 hb.1 hs
        rw [this] at hl; exact less_irr _ hl
      · have := fam_apart h.1 hb.1 ha.1 hs
        rw [this] at hl; exact less_irr _ hl
    · rw [List.mem_filter, decide_eq_true_eq] at ha; exact ha.2.1
    · rw [List.mem_filter, decide_eq_true_eq] at ha; exact ha.2.1
theorem fam_ex (l : List (List Int)) : ∃ R, FamOf l R := by
  have : ∀ i, i ≤ l.length → ∃ R, FamOf (l.take i) R := fun i => by
    induction i with
    | zero => exact fun _ => ⟨[], fam_nil⟩
    | succ i ih =>
      intro hi
      obtain ⟨R, h⟩ := ih (by omega)
      rw [take_more (by omega)]
      exact fam_step h _
  have h := this l.length (Nat.le_refl _)
  rwa [List.take_length] at h
/-- A family of so many lists has no more sets. -/
theorem fam_len {l R : List (List Int)} (h : FamOf l R) : R.length ≤ l.length := by
  classical
  -- each set of the family is one of the lists', and unlike sets are of unlike lists
  have key : ∀ (R : List (List Int)), R.Pairwise (fun a b => lessL a b ∧ ¬ sub a b ∧ ¬ sub b a) → ∀ l : List (List Int), (∀ a, a ∈ R → ∃ x, x ∈ l ∧ sub x a ∧ sub a x) → R.length ≤ l.length := by
    intro R
    induction R with
    | nil => intro _ _ _; exact Nat.zero_le _
    | cons a R ih =>
      intro hp l hl
      rw [List.pairwise_cons] at hp
      obtain ⟨x, hx, hxa⟩ := hl a (List.mem_cons_self ..)
      have := ih hp.2 (l.erase x) (fun b hb => by
        obtain ⟨y, hy, hyb⟩ := hl b (List.mem_cons_of_mem _ hb)
        refine ⟨y, ?_, hyb⟩
        have hne : y ≠ x := fun e => by
          subst e
          exact (hp.1 b hb).2.1 (sub_trans hxa.2 hyb.1)
        exact (List.mem_erase_of_ne hne).2 hy)
      rw [List.length_erase_of_mem hx] at this
      have hpos := List.length_pos_of_mem hx
      rw [List.length_cons]; omega
  exact key R h.1.2 l fun a ha => famOf_mem h ha
theorem rise_len : ∀ {a x : List Int}, Rise a → sub a x → a.length ≤ x.length
  | [], _, _, _ => Nat.zero_le _
  | z :: a, x, h, hs => by
    unfold Rise at h
    rw [List.pairwise_cons] at h
    have hz := hs z (List.mem_cons_self ..)
    have := rise_len (a := a) (x := x.erase z) h.2 (fun y hy => by
      have hne : y ≠ z := fun e => by have := h.1 y hy; omega
      exact (List.mem_erase_of_ne hne).2 (hs y (List.mem_cons_of_mem _ hy)))
    rw [List.length_erase_of_mem hz] at this
    have hpos := List.length_pos_of_mem hz
    rw [List.length_cons]; omega
/-- No set of a family has more numbers than the lists have. -/
theorem fam_sets {L F : List (List Int)} (h : FamOf L F) {m : Nat} (hl : ∀ j, j < L.length → (gs L j).length ≤ m) : ∀ j, j < F.length → (gs F j).length ≤ m := fun j hj => by
  have hm : gs F j ∈ F := gs_mem.2 ⟨j, hj, rfl⟩
  obtain ⟨x, hx, -, h2⟩ := famOf_mem h hm
  obtain ⟨k, hk, e⟩ := gs_mem.1 hx
  exact Nat.le_trans (rise_len (h.1.1 _ hm) h2) (by rw [← e]; exact hl k hk)
end Fo
end Go.Proofs.Yteaajhpgmndomaa
