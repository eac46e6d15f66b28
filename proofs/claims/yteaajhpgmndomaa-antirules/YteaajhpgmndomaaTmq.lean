/- Times. -/
import Derived.Test.YteaajhpgmndomaaAuw
namespace Go.Proofs.Yteaajhpgmndomaa
open Go.RowKit Fo
set_option maxRecDepth 100000

namespace Fo
theorem sortL_ex : ∀ M : List (List Int), ∃ S : List (List Int), S.Perm M ∧ S.Pairwise fun a b => ¬ lessL b a
  | [] => ⟨[], List.Perm.refl _, List.Pairwise.nil⟩
  | x :: M => by
    obtain ⟨S, hp, hs⟩ := sortL_ex M
    have key : ∀ S : List (List Int), (S.Pairwise fun a b => ¬ lessL b a) → ∃ T : List (List Int), T.Perm (x :: S) ∧ T.Pairwise fun a b => ¬ lessL b a := by
      intro S
      induction S with
      | nil => intro _; exact ⟨[x], List.Perm.refl _, List.pairwise_singleton _ _⟩
      | cons y S ih =>
        intro h
        rw [List.pairwise_cons] at h
        by_cases e : lessL y x
        · obtain ⟨T, hp, ht⟩ := ih h.2
          refine ⟨y :: T, (hp.cons y).trans (List.Perm.swap x y S), List.pairwise_cons.2 ⟨fun z hz => ?_, ht⟩⟩
          rcases List.mem_cons.1 (hp.mem_iff.1 hz) with q | q
          · rw [q]; intro k; exact less_irr y (less_trans e k)
          · exact h.1 z q
        · refine ⟨x :: y :: S, List.Perm.refl _, List.pairwise_cons.2 ⟨fun z hz => ?_, List.pairwise_cons.2 h⟩⟩
          rcases List.mem_cons.1 hz with q | q
          · rw [q]; exact e
          · intro k
            rcases less_total y z with a | a | a
            · exact e (less_trans a k)
            · exact e (a ▸ k)
            · exact h.1 z q a
    obtain ⟨T, h1, h2⟩ := key S hs
    exact ⟨T, h1.trans (hp.cons x), h2⟩
/-- As many as the product has. -/
theorem prod_len {F G U R : List (List Int)} (hF : Fam F) (hG : Fam G) (hU : UnL (outL F G) (outL G F) U) (hR : FamOf (unionsL F G) R) : (adds [] (inL F G ++ inL G F ++ U)).length = R.length := by
  obtain ⟨S, hp, hs⟩ := sortL_ex (adds [] (inL F G ++ inL G F ++ U))
  rw [← famOf_fun (prod_fam hF hG hU hp hs) hR, hp.length_eq]
theorem unl_ex {F G : List (List Int)} (hF : Fam F) (hG : Fam G) : ∃ U, UnL (outL F G) (outL G F) U := by
  obtain ⟨U, h⟩ := (UO.zero (outL F G) (outL G F)).rest (fun a ha => hF.1 a (mem_outL.1 ha).1) (fun a ha => hG.1 a (mem_outL.1 ha).1)
  exact ⟨_, h⟩
/-- A panic in a function that defers: what of the frame counts. -/
def PQ (a : Act) (ch0 : List PanicEntry) (Fin : World → Prop) (ch : List PanicEntry) (a' : Act) (w' : World) : Prop :=
  ch = ch0 ∧ a'.tmps.getD 6 undef = a.tmps.getD 6 undef ∧ a'.tmps.getD 7 undef = a.tmps.getD 7 undef ∧ a'.defers = a.defers ∧ Fin w'
theorem pq_put {a : Act} {ch0 : List PanicEntry} {Fin : World → Prop} {ch : List PanicEntry} {a' : Act} {w' : World} {d : Nat} {v : Value} (h6 : d ≠ 6) (h7 : d ≠ 7) (h : PQ a ch0 Fin ch (a'.put (some d) v) w') : PQ a ch0 Fin ch a' w' := by
  obtain ⟨h1, h2, h3, h4, h5⟩ := h
  refine ⟨h1, ?_, ?_, h4, h5⟩
  · rw [← h2]; simp [Act.put, h6]
  · rw [← h3]; simp [Act.put, h7]
theorem wp_swap {P : Program} {c : Code} {Q : Exit → Act → World → Prop} {a : Act} {w : World} (ch0 : List PanicEntry) (Fin : World → Prop) (h1 : ∀ a' w', PQ a ch0 Fin ch0 a' w' → Q (.panic ch0) a' w')
    (h2 : c.wp P (fun e a' w' => match e with | .panic ch => PQ a ch0 Fin ch a' w' | e => Q e a' w') a w) : c.wp P Q a w :=
  Code.wp_mono (fun e a' w' h => by
    cases e
    case panic ch => obtain rfl : ch = ch0 := h.1; exact h1 _ _ h
    all_goals exact h) h2
end Fo
end Go.Proofs.Yteaajhpgmndomaa
