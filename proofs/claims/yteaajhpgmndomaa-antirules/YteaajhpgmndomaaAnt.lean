/- Families of sets that need not more: what they stand for says what they are. -/
namespace Go.Proofs.Yteaajhpgmndomaa
namespace Fo
/-- Each number of one list is in the other. -/
def sub (a b : List Int) : Prop := ∀ x, x ∈ a → x ∈ b
/-- One of the lists is a part. -/
def has (F : List (List Int)) (s : List Int) : Prop := ∃ a, a ∈ F ∧ sub a s
/-- Rising, none twice. -/
def Rise (a : List Int) : Prop := a.Pairwise (· < ·)
/-- The first number in which two lists differ. -/
def lexL : List Int → List Int → Prop
  | x :: a, y :: b => x < y ∨ (x = y ∧ lexL a b)
  | _, _ => False
/-- The order of sets. -/
def lessL (a b : List Int) : Prop := a.length < b.length ∨ (a.length = b.length ∧ lexL a b)
/-- A family: rising sets in order, none a part of another one. -/
def Fam (F : List (List Int)) : Prop := (∀ a, a ∈ F → Rise a) ∧ F.Pairwise (fun a b => lessL a b ∧ ¬ sub a b ∧ ¬ sub b a)
/-- The family of lists. -/
def FamOf (l R : List (List Int)) : Prop := Fam R ∧ ∀ s, has R s ↔ has l s

theorem sub_refl (a : List Int) : sub a a := fun _ h => h
theorem sub_trans {a b c : List Int} (h : sub a b) (k : sub b c) : sub a c := fun x hx => k x (h x hx)
theorem has_mono {F : List (List Int)} {s t : List Int} (h : has F s) (k : sub s t) : has F t := by
  obtain ⟨a, ha, hs⟩ := h
  exact ⟨a, ha, sub_trans hs k⟩
theorem lex_irr : ∀ a : List Int, ¬ lexL a a
  | [], h => h
  | x :: a, h => by
    rcases h with h | ⟨-, h⟩
    · omega
    · exact lex_irr a h
theorem lex_trans : ∀ {a b c : List Int}, lexL a b → lexL b c → lexL a c
  | x :: a, y :: b, z :: c, h, k => by
    rcases h with h | ⟨h, h'⟩ <;> rcases k with k | ⟨k, k'⟩
    · exact Or.inl (by omega)
    · exact Or.inl (by omega)
    · exact Or.inl (by omega)
    · exact Or.inr ⟨by omega, lex_trans h' k'⟩
  | [], _, _, h, _ => h.elim
  | _ :: _, [], _, h, _ => h.elim
  | _ :: _, _ :: _, [], _, k => k.elim
theorem lex_total : ∀ {a b : List Int}, a.length = b.length → lexL a b ∨ a = b ∨ lexL b a
  | [], [], _ => Or.inr (Or.inl rfl)
  | x :: a, y :: b, h => by
    rcases Int.lt_trichotomy x y with k | k | k
    · exact Or.inl (Or.inl k)
    · rcases lex_total (a := a) (b := b) (by simpa using h) with e | e | e
      · exact Or.inl (Or.inr ⟨k, e⟩)
      · exact Or.inr (Or.inl (by rw [k, e]))
      · exact Or.inr (Or.inr (Or.inr ⟨k.symm, e⟩))
    · exact Or.inr (Or.inr (Or.inl k))
  | [], _ :: _, h => by simp at h
  | _ :: _, [], h => by simp at h
theorem less_irr (a : List Int) : ¬ lessL a a := by
  rintro (h | ⟨-, h⟩)
  · omega
  · exact lex_irr a h
theorem less_trans {a b c : List Int} (h : lessL a b) (k : lessL b c) : lessL a c := by
  rcases h with h | ⟨h, h'⟩ <;> rcases k with k | ⟨k, k'⟩
  · exact Or.inl (by omega)
  · exact Or.inl (by omega)
  · exact Or.inl (by omega)
  · exact Or.inr ⟨by omega, lex_trans h' k'⟩
theorem less_total (a b : List Int) : lessL a b ∨ a = b ∨ lessL b a := by
  rcases Nat.lt_trichotomy a.length b.length with h | h | h
  · exact Or.inl (Or.inl h)
  · rcases lex_total h with e | e | e
    · exact Or.inl (Or.inr ⟨h, e⟩)
    · exact Or.inr (Or.inl e)
    · exact Or.inr (Or.inr (Or.inr ⟨h.symm, e⟩))
  · exact Or.inr (Or.inr (Or.inl h))
/-- Lists in order with the same members are the same. -/
theorem pw_ext {α : Type} {r : α → α → Prop} (irr : ∀ a, ¬ r a a) (tr : ∀ a b c, r a b → r b c → r a c) : ∀ {F G : List α}, F.Pairwise r → G.Pairwise r → (∀ a, a ∈ F ↔ a ∈ G) → F = G
  | [], [], _, _, _ => rfl
  | [], b :: G, _, _, h => absurd ((h b).2 (List.mem_cons_self ..)) (by simp)
  | a :: F, [], _, _, h => absurd ((h a).1 (List.mem_cons_self ..)) (by simp)
  | a :: F, b :: G, hF, hG, h => by
    rw [List.pairwise_cons] at hF hG
    have e : a = b := by
      rcases List.mem_cons.1 ((h a).1 (List.mem_cons_self ..)) with k | k
      · exact k
      · rcases List.mem_cons.1 ((h b).2 (List.mem_cons_self ..)) with q | q
        · exact q.symm
        · exact absurd (tr _ _ _ (hG.1 a k) (hF.1 b q)) (irr b)
    subst e
    rw [pw_ext irr tr hF.2 hG.2 (fun x => ?_)]
    constructor
    · intro hx
      rcases List.mem_cons.1 ((h x).1 (List.mem_cons_of_mem _ hx)) with k | k
      · exact absurd (k ▸ hF.1 x hx) (irr a)
      · exact k
    · intro hx
      rcases List.mem_cons.1 ((h x).2 (List.mem_cons_of_mem _ hx)) with k | k
      · exact absurd (k ▸ hG.1 x hx) (irr a)
      · exact k
theorem rise_ext {a b : List Int} (ha : Rise a) (hb : Rise b) (h : sub a b) (k : sub b a) : a = b :=
  pw_ext (r := fun x y : Int => x < y) (fun a => Int.lt_irrefl a) (fun _ _ _ h k => Int.lt_trans h k) ha hb fun x => ⟨h x, k x⟩
theorem fam_apart {F : List (List Int)} (h : Fam F) {a b : List Int} (ha : a ∈ F) (hb : b ∈ F) (hs : sub a b) : a = b := by
  have key : ∀ {G : List (List Int)}, G.Pairwise (fun a b => lessL a b ∧ ¬ sub a b ∧ ¬ sub b a) → a ∈ G → b ∈ G → a = b := by
    intro G
    induction G with
    | nil => intro _ h; cases h
    | cons g G ih =>
      intro hp ha hb
      rw [List.pairwise_cons] at hp
      rcases List.mem_cons.1 ha with e | e <;> rcases List.mem_cons.1 hb with f | f
      · rw [e, f]
      · subst e; exact absurd hs (hp.1 b f).2.1
      · subst f; exact absurd hs (hp.1 a e).2.2
      · exact ih hp.2 e f
  exact key h.2 ha hb
/-- What a family stands for says what it is. -/
theorem fam_ext {F G : List (List Int)} (hF : Fam F) (hG : Fam G) (h : ∀ s, has F s ↔ has G s) : F = G := by
  have key : ∀ {F G : List (List Int)}, Fam F → Fam G → (∀ s, has F s ↔ has G s) → ∀ a, a ∈ F → a ∈ G := by
    intro F G hF hG h a ha
    obtain ⟨b, hb, hba⟩ := (h a).1 ⟨a, ha, sub_refl a⟩
    obtain ⟨c, hc, hcb⟩ := (h b).2 ⟨b, hb, sub_refl b⟩
    have e := fam_apart hF hc ha (sub_trans hcb hba)
    subst e
    rwa [rise_ext (hF.1 c ha) (hG.1 b hb) hcb hba]
  exact pw_ext (r := lessL) less_irr (fun _ _ _ h k => less_trans h k) (hF.2.imp fun h => h.1) (hG.2.imp fun h => h.1) fun a => ⟨key hF hG h a, key hG hF (fun s => (h s).symm) a⟩
theorem famOf_fun {l R R' : List (List Int)} (h : FamOf l R) (h' : FamOf l R') : R = R' := fam_ext h.1 h'.1 fun s => (h.2 s).trans (h'.2 s).symm
/-- Each set of the family of lists was put in. -/
theorem famOf_mem {l R : List (List Int)} (h : FamOf l R) {a : List Int} (ha : a ∈ R) : ∃ x, x ∈ l ∧ sub x a ∧ sub a x := by
  obtain ⟨x, hx, hxa⟩ := (h.2 a).1 ⟨a, ha, sub_refl a⟩
  obtain ⟨c, hc, hcx⟩ := (h.2 x).2 ⟨x, hx, sub_refl x⟩
  have e := fam_apart h.1 hc ha (sub_trans hcx hxa)
  subst e
  exact ⟨x, hx, hxa, hcx⟩
/-- One set more: it is swallowed. -/
theorem fam_over {l R : List (List Int)} {x y : List Int} (h : FamOf l R) (hxy : sub x y ∧ sub y x) (hk : has R x) : FamOf (l ++ [y]) R := by
  refine ⟨h.1, fun s => ?_⟩
  rw [h.2 s]
  constructor
  · rintro ⟨a, ha, hs⟩
    exact ⟨a, List.mem_append_left _ ha, hs⟩
  · rintro ⟨a, ha, hs⟩
    rcases List.mem_append.1 ha with k | k
    · exact ⟨a, k, hs⟩
    · obtain rfl := List.mem_singleton.1 k
      exact (h.2 s).1 (has_mono hk (sub_trans hxy.1 hs))
/-- One set more: it is put in its place, those that it is a part of go. -/
theorem fam_in {l R pre post : List (List Int)} {x y : List Int} (h : FamOf l R) (hx : Rise x) (hxy : sub x y ∧ sub y x) (hk : ¬ has R x)
    (hm : ∀ a, a ∈ pre ++ post ↔ a ∈ R ∧ ¬ sub x a) (hp : (pre ++ post).Pairwise (fun a b => lessL a b ∧ ¬ sub a b ∧ ¬ sub b a)) (h1 : ∀ a, a ∈ pre → lessL a x) (h2 : ∀ a, a ∈ post → lessL x a) : FamOf (l ++ [y]) (pre ++ x :: post) := by
  have hi : ∀ a, a ∈ pre ++ post → ¬ sub a x ∧ ¬ sub x a := fun a ha => ⟨fun hs => hk ⟨a, ((hm a).1 ha).1, hs⟩, ((hm a).1 ha).2⟩
  rw [List.pairwise_append] at hp
  refine ⟨⟨fun a ha => ?_, ?_⟩, fun s => ?_⟩
  · rcases List.mem_append.1 ha with k | k
    · exact h.1.1 a ((hm a).1 (List.mem_append_left _ k)).1
    · rcases List.mem_cons.1 k with k | k
      · rw [k]; exact hx
      · exact h.1.1 a ((hm a).1 (List.mem_append_right _ k)).1
  · rw [List.pairwise_append, List.pairwise_cons]
    refine ⟨hp.1, ⟨fun b hb => ⟨h2 b hb, (hi b (List.mem_append_right _ hb)).2, (hi b (List.mem_append_right _ hb)).1⟩, hp.2.1⟩, fun a ha b hb => ?_⟩
    rcases List.mem_cons.1 hb with k | k
    · rw [k]; exact ⟨h1 a ha, (hi a (List.mem_append_left _ ha)).1, (hi a (List.mem_append_left _ ha)).2⟩
    · exact hp.2.2 a ha b k
  · have e : has (pre ++ x :: post) s ↔ has R s ∨ sub x s := by
      constructor
      · rintro ⟨a, ha, hs⟩
        rcases List.mem_append.1 ha with k | k
        · exact Or.inl ⟨a, ((hm a).1 (List.mem_append_left _ k)).1, hs⟩
        · rcases List.mem_cons.1 k with k | k
          · rw [k] at hs; exact Or.inr hs
          · exact Or.inl ⟨a, ((hm a).1 (List.mem_append_right _ k)).1, hs⟩
      · rintro (⟨a, ha, hs⟩ | hs)
        · by_cases k : sub x a
          · exact ⟨x, by simp, sub_trans k hs⟩
          · rcases List.mem_append.1 ((hm a).2 ⟨ha, k⟩) with q | q
            · exact ⟨a, List.mem_append_left _ q, hs⟩
            · exact ⟨a, by simp [q], hs⟩
        · exact ⟨x, by simp, hs⟩
    rw [e, h.2 s]
    constructor
    · rintro (⟨a, ha, hs⟩ | hs)
      · exact ⟨a, List.mem_append_left _ ha, hs⟩
      · exact ⟨y, by simp, sub_trans hxy.2 hs⟩
    · rintro ⟨a, ha, hs⟩
      rcases List.mem_append.1 ha with k | k
      · exact Or.inl ⟨a, k, hs⟩
      · obtain rfl := List.mem_singleton.1 k
        exact Or.inr (sub_trans hxy.1 hs)
theorem fam_nil : FamOf [] [] := ⟨⟨fun a h => (by cases h), List.Pairwise.nil⟩, fun _ => Iff.rfl⟩
theorem fam_one : Fam [[]] := ⟨fun a h => by rw [List.mem_singleton.1 h]; exact List.Pairwise.nil, by simp⟩
theorem has_nil (s : List Int) : ¬ has [] s := by rintro ⟨a, h, -⟩; cases h
theorem has_one (s : List Int) : has [[]] s := ⟨[], List.mem_singleton.2 rfl, fun x h => by cases h⟩
theorem has_app (l r : List (List Int)) (s : List Int) : has (l ++ r) s ↔ has l s ∨ has r s := by
  constructor
  · rintro ⟨a, ha, hs⟩
    rcases List.mem_append.1 ha with k | k
    · exact Or.inl ⟨a, k, hs⟩
    · exact Or.inr ⟨a, k, hs⟩
  · rintro (⟨a, ha, hs⟩ | ⟨a, ha, hs⟩)
    · exact ⟨a, List.mem_append_left _ ha, hs⟩
    · exact ⟨a, List.mem_append_right _ ha, hs⟩
/-- All unions of one of each. -/
def unionsL (l r : List (List Int)) : List (List Int) := l.flatMap fun a => r.map fun b => a ++ b
theorem has_unions (l r : List (List Int)) (s : List Int) : has (unionsL l r) s ↔ has l s ∧ has r s := by
  unfold unionsL
  constructor
  · rintro ⟨c, hc, hs⟩
    obtain ⟨a, ha, hc⟩ := List.mem_flatMap.1 hc
    obtain ⟨b, hb, rfl⟩ := List.mem_map.1 hc
    exact ⟨⟨a, ha, fun x hx => hs x (List.mem_append_left _ hx)⟩, ⟨b, hb, fun x hx => hs x (List.mem_append_right _ hx)⟩⟩
  · rintro ⟨⟨a, ha, hs⟩, ⟨b, hb, ht⟩⟩
    refine ⟨a ++ b, List.mem_flatMap.2 ⟨a, ha, List.mem_map.2 ⟨b, hb, rfl⟩⟩, fun x hx => ?_⟩
    rcases List.mem_append.1 hx with k | k
    · exact hs x k
    · exact ht x k
end Fo
end Go.Proofs.Yteaajhpgmndomaa
