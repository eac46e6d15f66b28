/- Sets that are kept one by one, unless one that is kept is a part: what is kept in the end. Free of any program. -/
import Derived.Test.YteaajhpgmndomaaAnx
namespace Go.Proofs.Yteaajhpgmndomaa
namespace Fo
open Classical in
/-- One set more is kept, if none that is kept is a part of it. -/
noncomputable def addL (K : List (List Int)) (s : List Int) : List (List Int) := if has K s then K else K ++ [s]
/-- One after the other. -/
noncomputable def adds (K L : List (List Int)) : List (List Int) := L.foldl addL K
theorem addL_yes {K : List (List Int)} {s : List Int} (h : has K s) : addL K s = K := by unfold addL; rw [if_pos h]
theorem addL_no {K : List (List Int)} {s : List Int} (h : ¬ has K s) : addL K s = K ++ [s] := by unfold addL; rw [if_neg h]
theorem adds_nil (K : List (List Int)) : adds K [] = K := rfl
theorem adds_cons (K : List (List Int)) (s : List Int) (L : List (List Int)) : adds K (s :: L) = adds (addL K s) L := rfl
theorem adds_append (K L M : List (List Int)) : adds K (L ++ M) = adds (adds K L) M := List.foldl_append
theorem adds_snoc (K L : List (List Int)) (s : List Int) : adds K (L ++ [s]) = addL (adds K L) s := by rw [adds_append]; rfl
theorem addL_len (K : List (List Int)) (s : List Int) : K.length ≤ (addL K s).length := by
  by_cases h : has K s
  · rw [addL_yes h]; exact Nat.le_refl _
  · rw [addL_no h, List.length_append]; omega
theorem addL_len1 (K : List (List Int)) (s : List Int) : (addL K s).length ≤ K.length + 1 := by
  by_cases h : has K s
  · rw [addL_yes h]; omega
  · rw [addL_no h, List.length_append]; simp
theorem adds_len : ∀ (L K : List (List Int)), K.length ≤ (adds K L).length
  | [], K => Nat.le_refl _
  | s :: L, K => by rw [adds_cons]; exact Nat.le_trans (addL_len K s) (adds_len L _)
theorem adds_len1 : ∀ (L K : List (List Int)), (adds K L).length ≤ K.length + L.length
  | [], K => Nat.le_refl _
  | s :: L, K => by rw [adds_cons]; have := adds_len1 L (addL K s); have := addL_len1 K s; rw [List.length_cons]; omega
theorem has_single (x s : List Int) : has [x] s ↔ sub x s := by
  constructor
  · rintro ⟨a, ha, hs⟩; rw [List.mem_singleton.1 ha] at hs; exact hs
  · intro h; exact ⟨x, List.mem_singleton.2 rfl, h⟩
theorem has_cons (x : List Int) (L : List (List Int)) (s : List Int) : has (x :: L) s ↔ sub x s ∨ has L s := by
  rw [show x :: L = [x] ++ L from rfl, has_app, has_single]
theorem addL_has (K : List (List Int)) (x t : List Int) : has (addL K x) t ↔ has K t ∨ sub x t := by
  by_cases h : has K x
  · rw [addL_yes h]
    exact ⟨Or.inl, fun k => k.elim id fun q => has_mono h q⟩
  · rw [addL_no h, has_app, has_single]
theorem adds_has : ∀ (L K : List (List Int)) (t : List Int), has (adds K L) t ↔ has K t ∨ has L t
  | [], K, t => by rw [adds_nil]; exact ⟨Or.inl, fun h => h.elim id fun q => absurd q (has_nil t)⟩
  | s :: L, K, t => by rw [adds_cons, adds_has L, addL_has, has_cons, or_assoc]
theorem addL_mem {K : List (List Int)} {s x : List Int} (h : x ∈ addL K s) : x ∈ K ∨ x = s := by
  by_cases k : has K s
  · rw [addL_yes k] at h; exact Or.inl h
  · rw [addL_no k] at h
    rcases List.mem_append.1 h with q | q
    · exact Or.inl q
    · exact Or.inr (List.mem_singleton.1 q)
theorem adds_mem : ∀ {L K : List (List Int)} {x : List Int}, x ∈ adds K L → x ∈ K ∨ x ∈ L
  | [], _, _, h => Or.inl h
  | s :: L, K, x, h => by
    rw [adds_cons] at h
    rcases adds_mem h with k | k
    · rcases addL_mem k with q | q
      · exact Or.inl q
      · exact Or.inr (q ▸ List.mem_cons_self ..)
    · exact Or.inr (List.mem_cons_of_mem _ k)
/-- None a part of another one. -/
def Anti (K : List (List Int)) : Prop := K.Pairwise fun a b => ¬ sub a b ∧ ¬ sub b a
theorem adds_anti : ∀ {L K : List (List Int)}, Anti K → (∀ x, x ∈ K → ∀ y, y ∈ L → sub y x → sub x y) → L.Pairwise (fun x y => sub y x → sub x y) → Anti (adds K L)
  | [], _, h, _, _ => h
  | s :: L, K, h, hk, hp => by
    rw [List.pairwise_cons] at hp
    rw [adds_cons]
    refine adds_anti ?_ (fun x hx y hy => ?_) hp.2
    · by_cases k : has K s
      · rw [addL_yes k]; exact h
      · rw [addL_no k]
        unfold Anti
        rw [List.pairwise_append]
        refine ⟨h, List.pairwise_singleton _ _, fun a ha b hb => ?_⟩
        rw [List.mem_singleton.1 hb]
        have h1 : ¬ sub a s := fun q => k ⟨a, ha, q⟩
        exact ⟨h1, fun q => h1 (hk a ha s (List.mem_cons_self ..) q)⟩
    · rcases addL_mem hx with q | q
      · exact hk x q y (List.mem_cons_of_mem _ hy)
      · rw [q]; exact hp.1 y hy
theorem sub_len {a b : List Int} (hb : Rise b) (h : sub b a) (hl : a.length ≤ b.length) : sub a b := by
  -- b is a part of a with as many numbers
  have key : ∀ {b a : List Int}, Rise b → sub b a → a.length ≤ b.length → ∀ x, x ∈ a → x ∈ b := by
    intro b
    induction b with
    | nil => intro a _ _ hl x hx; cases a with
      | nil => exact hx
      | cons y a => simp at hl
    | cons z b ih =>
      intro a hb hs hl x hx
      unfold Rise at hb
      rw [List.pairwise_cons] at hb
      have hz := hs z (List.mem_cons_self ..)
      by_cases e : x = z
      · rw [e]; exact List.mem_cons_self ..
      · have hpos := List.length_pos_of_mem hz
        refine List.mem_cons_of_mem _ (ih (a := a.erase z) hb.2 (fun y hy => ?_) ?_ x ((List.mem_erase_of_ne e).2 hx))
        · have hne : y ≠ z := fun e => by have := hb.1 y hy; omega
          exact (List.mem_erase_of_ne hne).2 (hs y (List.mem_cons_of_mem _ hy))
        · rw [List.length_erase_of_mem hz]; rw [List.length_cons] at hl; omega
  exact key hb h hl
/-- By rising size: what is kept is kept. -/
theorem anti_sized {L : List (List Int)} (hr : ∀ a, a ∈ L → Rise a) (hl : L.Pairwise fun a b => a.length ≤ b.length) : L.Pairwise fun x y => sub y x → sub x y := by
  refine List.Pairwise.imp_of_mem (fun {a b} _ hb h k => ?_) hl
  exact sub_len (hr b hb) k h
/-- What is kept, put in order, is a family. -/
theorem fam_sorted {K K' : List (List Int)} (hr : ∀ a, a ∈ K → Rise a) (ha : Anti K) (hp : K'.Perm K) (hs : K'.Pairwise fun a b => ¬ lessL b a) : Fam K' := by
  refine ⟨fun a h => hr a (hp.mem_iff.1 h), ?_⟩
  have h2 : Anti K' := hp.symm.pairwise ha fun h => ⟨h.2, h.1⟩
  refine (h2.and hs).imp fun {a b} h => ⟨?_, h.1⟩
  rcases less_total a b with k | k | k
  · exact k
  · exact absurd (k ▸ sub_refl a) h.1.1
  · exact absurd k h.2
theorem has_perm {K K' : List (List Int)} (hp : K'.Perm K) (s : List Int) : has K' s ↔ has K s := by
  constructor
  · rintro ⟨a, ha, hs⟩; exact ⟨a, hp.mem_iff.1 ha, hs⟩
  · rintro ⟨a, ha, hs⟩; exact ⟨a, hp.mem_iff.2 ha, hs⟩
theorem anti_nil : Anti [] := List.Pairwise.nil
/-- The sum: sets by rising size, one after the other, put in order. -/
theorem sum_fam {l S K' : List (List Int)} (hr : ∀ a, a ∈ S → Rise a) (hl : S.Pairwise fun a b => a.length ≤ b.length) (hS : ∀ s, has S s ↔ has l s) (hp : K'.Perm (adds [] S)) (hs : K'.Pairwise fun a b => ¬ lessL b a) : FamOf l K' := by
  refine ⟨fam_sorted (fun a h => ?_) (adds_anti anti_nil (fun x hx => by cases hx) (anti_sized hr hl)) hp hs, fun s => ?_⟩
  · rcases adds_mem h with k | k
    · cases k
    · exact hr a k
  · rw [has_perm hp, adds_has, hS]
    exact ⟨fun h => h.elim (fun q => absurd q (has_nil s)) id, Or.inr⟩
open Classical in
/-- Those of a family that have one of another one's as a part; and the rest. -/
noncomputable def inL (F G : List (List Int)) : List (List Int) := F.filter fun s => decide (has G s)
open Classical in
noncomputable def outL (F G : List (List Int)) : List (List Int) := F.filter fun s => decide (¬ has G s)
open Classical in
theorem mem_inL {F G : List (List Int)} {s : List Int} : s ∈ inL F G ↔ s ∈ F ∧ has G s := by unfold inL; rw [List.mem_filter, decide_eq_true_eq]
open Classical in
theorem mem_outL {F G : List (List Int)} {s : List Int} : s ∈ outL F G ↔ s ∈ F ∧ ¬ has G s := by unfold outL; rw [List.mem_filter, decide_eq_true_eq]
/-- The unions of what is left, by rising size. -/
structure UnL (l r U : List (List Int)) : Prop where
  rise : ∀ u, u ∈ U → Rise u
  of : ∀ u, u ∈ U → ∃ a b, a ∈ l ∧ b ∈ r ∧ sub u (a ++ b) ∧ sub (a ++ b) u
  all : ∀ a b, a ∈ l → b ∈ r → ∃ u, u ∈ U ∧ sub u (a ++ b)
  sized : U.Pairwise fun a b => a.length ≤ b.length
theorem fam_pw {F : List (List Int)} (h : Fam F) : F.Pairwise fun x y => sub y x → sub x y := by
  exact h.2.imp fun {a b} k q => absurd q k.2.2
/-- The product. -/
theorem prod_fam {F G U K' : List (List Int)} (hF : Fam F) (hG : Fam G) (hU : UnL (outL F G) (outL G F) U) (hp : K'.Perm (adds [] (inL F G ++ inL G F ++ U))) (hs : K'.Pairwise fun a b => ¬ lessL b a) : FamOf (unionsL F G) K' := by
  have hmem : ∀ a, a ∈ inL F G ++ inL G F ++ U → Rise a := fun a h => by
    rcases List.mem_append.1 h with k | k
    · rcases List.mem_append.1 k with q | q
      · exact hF.1 a (mem_inL.1 q).1
      · exact hG.1 a (mem_inL.1 q).1
    · exact hU.rise a k
  have hpw : (inL F G ++ inL G F ++ U).Pairwise fun x y => sub y x → sub x y := by
    rw [List.pairwise_append, List.pairwise_append]
    refine ⟨⟨(fam_pw hF).sublist List.filter_sublist, (fam_pw hG).sublist List.filter_sublist, fun x hx y hy k => ?_⟩, anti_sized hU.rise hU.sized, fun x hx y hy k => ?_⟩
    · obtain ⟨a, ha, hay⟩ := (mem_inL.1 hy).2
      have e := fam_apart hF ha (mem_inL.1 hx).1 (sub_trans hay k)
      rw [← e]; exact hay
    · obtain ⟨a, b, ha, hb, -, h2⟩ := hU.of y hy
      rcases List.mem_append.1 hx with q | q
      · have e := fam_apart hF (mem_outL.1 ha).1 (mem_inL.1 q).1 (fun z hz => k z (h2 z (List.mem_append_left _ hz)))
        rw [e] at ha
        exact absurd (mem_inL.1 q).2 (mem_outL.1 ha).2
      · have e := fam_apart hG (mem_outL.1 hb).1 (mem_inL.1 q).1 (fun z hz => k z (h2 z (List.mem_append_right _ hz)))
        rw [e] at hb
        exact absurd (mem_inL.1 q).2 (mem_outL.1 hb).2
  refine ⟨fam_sorted (fun a h => ?_) (adds_anti anti_nil (fun x hx => by cases hx) hpw) hp hs, fun s => ?_⟩
  · rcases adds_mem h with k | k
    · cases k
    · exact hmem a k
  · rw [has_perm hp, adds_has, has_unions, has_app, has_app]
    constructor
    · rintro (h | (h | h) | h)
      · exact absurd h (has_nil s)
      · obtain ⟨a, ha, hs⟩ := h
        exact ⟨⟨a, (mem_inL.1 ha).1, hs⟩, has_mono (mem_inL.1 ha).2 hs⟩
      · obtain ⟨a, ha, hs⟩ := h
        exact ⟨has_mono (mem_inL.1 ha).2 hs, ⟨a, (mem_inL.1 ha).1, hs⟩⟩
      · obtain ⟨u, hu, hs⟩ := h
        obtain ⟨a, b, ha, hb, -, h2⟩ := hU.of u hu
        exact ⟨⟨a, (mem_outL.1 ha).1, fun z hz => hs z (h2 z (List.mem_append_left _ hz))⟩, ⟨b, (mem_outL.1 hb).1, fun z hz => hs z (h2 z (List.mem_append_right _ hz))⟩⟩
    · rintro ⟨⟨a, ha, hsa⟩, ⟨b, hb, hsb⟩⟩
      by_cases h1 : has G a
      · exact Or.inr (Or.inl (Or.inl ⟨a, mem_inL.2 ⟨ha, h1⟩, hsa⟩))
      · by_cases h2 : has F b
        · exact Or.inr (Or.inl (Or.inr ⟨b, mem_inL.2 ⟨hb, h2⟩, hsb⟩))
        · obtain ⟨u, hu, h⟩ := hU.all a b (mem_outL.2 ⟨ha, h1⟩) (mem_outL.2 ⟨hb, h2⟩)
          refine Or.inr (Or.inr ⟨u, hu, fun z hz => ?_⟩)
          rcases List.mem_append.1 (h z hz) with q | q
          · exact hsa z q
          · exact hsb z q
end Fo
end Go.Proofs.Yteaajhpgmndomaa
