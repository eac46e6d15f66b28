/- A set is put into a tree. -/
import Derived.Test.YteaajhpgmndomaaThp
namespace Go.Proofs.Yteaajhpgmndomaa
open Go.RowKit Fo
set_option maxRecDepth 100000

namespace Fo
/-- A number put in at a place. -/
def insL (l : List Int) (i : Nat) (x : Int) : List Int := l.take i ++ x :: l.drop i
theorem insL_len (l : List Int) {i : Nat} (x : Int) (hi : i ≤ l.length) : (insL l i x).length = l.length + 1 := by
  unfold insL
  rw [List.length_append, List.length_cons, List.length_take, List.length_drop]; omega
theorem gt_insL (l : List Int) {i : Nat} (x : Int) (hi : i ≤ l.length) (j : Nat) : gt (insL l i x) j = if j < i then gt l j else if j = i then x else gt l (j - 1) := by
  unfold insL gt
  rw [List.getD_eq_getElem?_getD, List.getD_eq_getElem?_getD, List.getD_eq_getElem?_getD]
  by_cases h : j < i
  · rw [if_pos h, List.getElem?_append_left (by rw [List.length_take]; omega), List.getElem?_take_of_lt h]
  · rw [if_neg h, List.getElem?_append_right (by rw [List.length_take]; omega), List.length_take, Nat.min_eq_left hi]
    by_cases h2 : j = i
    · rw [if_pos h2, h2, Nat.sub_self]; rfl
    · rw [if_neg h2, show j - i = (j - 1 - i) + 1 by omega, List.getElem?_cons_succ, List.getElem?_drop, show i + (j - 1 - i) = j - 1 by omega]
theorem mem_insL (l : List Int) (i : Nat) (x y : Int) : y ∈ insL l i x ↔ y = x ∨ y ∈ l := by
  unfold insL
  rw [List.mem_append, List.mem_cons]
  have h : y ∈ l ↔ y ∈ l.take i ∨ y ∈ l.drop i := by rw [← List.mem_append, List.take_append_drop]
  rw [h]
  constructor
  · rintro (h | h | h)
    · exact Or.inr (Or.inl h)
    · exact Or.inl h
    · exact Or.inr (Or.inr h)
  · rintro (h | h | h)
    · exact Or.inr (Or.inl h)
    · exact Or.inl h
    · exact Or.inr (Or.inr h)
theorem rise_insL {l : List Int} (h : Rise l) (x : Int) (hx : ¬ x ∈ l) : Rise (insL l (lo l x) x) := by
  obtain ⟨h1, h2⟩ := lo_split h x
  unfold insL Rise
  rw [List.pairwise_append, List.pairwise_cons]
  have hlt : ∀ a, a ∈ l.take (lo l x) → a < x := fun a ha => by
    obtain ⟨j, hj, e⟩ := gt_mem.1 ha
    rw [List.length_take] at hj
    have e2 : gt (l.take (lo l x)) j = gt l j := by unfold gt; rw [List.getD_eq_getElem?_getD, List.getD_eq_getElem?_getD, List.getElem?_take_of_lt (by omega)]
    rw [e2] at e
    have := h1 j (by omega)
    omega
  have hgt : ∀ b, b ∈ l.drop (lo l x) → x < b := fun b hb => by
    obtain ⟨j, hj, e⟩ := gt_mem.1 hb
    rw [List.length_drop] at hj
    rw [gt_drop] at e
    have := h2 (lo l x + j) (by omega) (by omega)
    have hne : ¬ b = x := fun k => hx (k ▸ List.mem_of_mem_drop hb)
    omega
  refine ⟨List.Pairwise.sublist (List.take_sublist _ l) h, ⟨hgt, List.Pairwise.sublist (List.drop_sublist _ l) h⟩, fun a ha b hb => ?_⟩
  have k1 := hlt a ha
  rcases List.mem_cons.1 hb with e | e
  · omega
  · have := hgt b e; omega
theorem snoc_inj {p q : List Int} {x y : Int} (h : p ++ [x] = q ++ [y]) : p = q ∧ x = y := by
  have := List.append_inj' h rfl
  exact ⟨this.1, by simpa using this.2⟩
theorem Ow.blk {E : TypeId} {B : Nat} {w : World} {v : Value} {n : Nat} {V : Nat → Value} (h : Ow E B w v n V) {g : Nat} (hg : v.ownBlock = some g) : ∃ cur, w.heap[g]? = some (.cells cur E) := by
  rcases h.2 with ⟨rfl, -⟩ | ⟨g', cap, cur, rfl, -, hgg, -⟩
  · cases hg
  · obtain rfl : g' = g := by simpa [Value.ownBlock] using hg
    exact ⟨cur, hgg⟩
open Classical in
/-- What blocks are for, behind an insertion. -/
noncomputable def ownI (own : Nat → Option (List Int × Nat)) (p : List Int) (x : Int) (nb : Nat) (nv kv : Value) (b : Nat) : Option (List Int × Nat) :=
  if b = nb then some (p ++ [x], 0) else if nv.ownBlock = some b then some (p, 1) else if kv.ownBlock = some b then some (p, 2) else own b
open Classical in
noncomputable def blkI (blk : List Int → Nat) (p : List Int) (x : Int) (nb : Nat) (q : List Int) : Nat := if q = p ++ [x] then nb else blk q
/-- One next number more at a node. -/
theorem TIn.insert {w w' : World} {own : Nat → Option (List Int × Nat)} {blk : List Int → Nat} {D : List Int → Prop} {en : List Int → Bool} {N : Nat} (T : TIn w own blk D en N) {p nums : List Int} {x : Int} {nb : Nat} {nv kv : Value} (hp : D p) (hx : ¬ D (p ++ [x])) (hrx : Rise (p ++ [x]))
    (hnr : Rise nums) (hnm : ∀ y, y ∈ nums ↔ D (p ++ [y])) (hnl : nums.length ≤ N) (hnb : w.heap.size ≤ nb) (hnb2 : nb < w'.heap.size) (hsz : w.heap.size ≤ w'.heap.size)
    (hb : w'.heap[blk p]? = some (.cells #[.bool (en p), nv, kv] 62))
    (hN : Ow 3 0 w' nv (nums.length + 1) (insW (ivs (gt nums)) (lo nums x) (.int .i64 x)))
    (hK : Ow 59 0 w' kv (nums.length + 1) (insW (fun j => .pointer (some ⟨blk (p ++ [gt nums j]), 0, none⟩)) (lo nums x) (.pointer (some ⟨nb, 0, none⟩))))
    (gN : ∀ g, nv.ownBlock = some g → own g = some (p, 1) ∨ w.heap.size ≤ g) (gK : ∀ g, kv.ownBlock = some g → own g = some (p, 2) ∨ w.heap.size ≤ g)
    (hnew : w'.heap[nb]? = some (.cells #[.bool false, .slice none 0 0, .slice none 0 0] 62))
    (hkeep : ∀ b, b < w.heap.size → (∀ k, own b ≠ some (p, k)) → w'.heap[b]? = w.heap[b]?) :
    TIn w' (ownI own p x nb nv kv) (blkI blk p x nb) (fun q => D q ∨ q = p ++ [x]) en (N + 1) := by
  have hxn : ¬ x ∈ nums := fun h => hx ((hnm x).1 h)
  have hloN : lo nums x ≤ nums.length := lo_le nums x
  have hne : p ≠ p ++ [x] := fun e => by have := congrArg List.length e; simp at this
  have nNb : nv.ownBlock ≠ some nb := fun e => by
    obtain ⟨cur, h⟩ := hN.blk e
    rw [hnew] at h; injection h with h; injection h with _ h; exact absurd h (by decide)
  have nKb : kv.ownBlock ≠ some nb := fun e => by
    obtain ⟨cur, h⟩ := hK.blk e
    rw [hnew] at h; injection h with h; injection h with _ h; exact absurd h (by decide)
  have nNK : ∀ g, nv.ownBlock = some g → kv.ownBlock ≠ some g := fun g e1 e2 => by
    obtain ⟨c1, h1⟩ := hN.blk e1
    obtain ⟨c2, h2⟩ := hK.blk e2
    rw [h1] at h2; injection h2 with h2; injection h2 with _ h2; exact absurd h2 (by decide)
  have far : ∀ q, q ≠ p → ∀ b k, own b = some (q, k) → ownI own p x nb nv kv b = some (q, k) := fun q hq b k e => by
    have hlt := T.lt b (by rw [e]; simp)
    unfold ownI
    rw [if_neg (by omega), if_neg (fun h => ?_), if_neg (fun h => ?_)]
    · exact e
    · rcases gK b h with h | h
      · rw [e] at h; injection h with h; injection h with h; exact hq h
      · omega
    · rcases gN b h with h | h
      · rw [e] at h; injection h with h; injection h with h; exact hq h
      · omega
  have blkO : ∀ q, q ≠ p ++ [x] → blkI blk p x nb q = blk q := fun q hq => by unfold blkI; rw [if_neg hq]
  have blkN : blkI blk p x nb (p ++ [x]) = nb := by unfold blkI; rw [if_pos rfl]
  refine ⟨fun b hbn => ?_, Or.inl T.root, fun q y hq => ?_, fun q hq => ?_, fun q hq => Or.inl (T.dom q hq), fun q hq => ?_⟩
  · unfold ownI at hbn
    by_cases h1 : b = nb
    · rw [h1]; exact hnb2
    · rw [if_neg h1] at hbn
      by_cases h2 : nv.ownBlock = some b
      · exact lt_of_heap (hN.blk h2).choose_spec
      · rw [if_neg h2] at hbn
        by_cases h3 : kv.ownBlock = some b
        · exact lt_of_heap (hK.blk h3).choose_spec
        · rw [if_neg h3] at hbn
          exact Nat.lt_of_lt_of_le (T.lt b hbn) hsz
  · rcases hq with hq | hq
    · exact Or.inl (T.pre q y hq)
    · rw [(snoc_inj hq).1]; exact Or.inl hp
  · rcases hq with hq | hq
    · exact T.rise q hq
    · rw [hq]; exact hrx
  · by_cases hqp : q = p
    · subst hqp
      have hown : own (blk q) = some (q, 0) := (T.nd q hp).1
      have hblt := T.lt (blk q) (by rw [hown]; simp)
      refine ⟨?_, nv, kv, insL nums (lo nums x) x, ?_, ?_, ?_, fun g hg => ?_, fun g hg => ?_, rise_insL hnr x hxn, fun y => ?_, by rw [insL_len _ _ hloN]; omega⟩
      · rw [blkO q hne]
        unfold ownI
        rw [if_neg (by omega), if_neg (fun h => ?_), if_neg (fun h => ?_)]
        · exact hown
        · rcases gK _ h with h | h
          · rw [hown] at h; injection h with h; injection h with _ h; exact absurd h (by decide)
          · omega
        · rcases gN _ h with h | h
          · rw [hown] at h; injection h with h; injection h with _ h; exact absurd h (by decide)
          · omega
      · rw [blkO q hne]; exact hb
      · rw [insL_len _ _ hloN]
        refine hN.congr fun j hj => ?_
        unfold insW ivs
        rw [gt_insL _ _ hloN]
        by_cases h1 : j < lo nums x
        · rw [if_pos h1, if_pos h1]
        · rw [if_neg h1, if_neg h1]
          by_cases h2 : j = lo nums x
          · rw [if_pos h2, if_pos h2]
          · rw [if_neg h2, if_neg h2]
      · rw [insL_len _ _ hloN]
        refine hK.congr fun j hj => ?_
        unfold insW
        show _ = Value.pointer (some ⟨blkI blk q x nb (q ++ [gt (insL nums (lo nums x) x) j]), 0, none⟩)
        rw [gt_insL _ _ hloN]
        by_cases h1 : j < lo nums x
        · rw [if_pos h1, if_pos h1, blkO]
          intro e
          have e2 := (snoc_inj e).2
          exact hxn (e2 ▸ gt_mem.2 ⟨j, by omega, rfl⟩)
        · rw [if_neg h1, if_neg h1]
          by_cases h2 : j = lo nums x
          · rw [if_pos h2, if_pos h2, blkN]
          · rw [if_neg h2, if_neg h2, blkO]
            intro e
            have e2 := (snoc_inj e).2
            exact hxn (e2 ▸ gt_mem.2 ⟨j - 1, by omega, rfl⟩)
      · unfold ownI
        rw [if_neg (fun e : g = nb => nNb (e ▸ hg)), if_pos hg]
      · unfold ownI
        rw [if_neg (fun e : g = nb => nKb (e ▸ hg)), if_neg (fun e => nNK g e hg), if_pos hg]
      · rw [mem_insL, hnm]
        constructor
        · rintro (h | h)
          · exact Or.inr (by rw [h])
          · exact Or.inl h
        · rintro (h | h)
          · exact Or.inr h
          · exact Or.inl (snoc_inj h).2
    · rcases hq with hq | hq
      · have hqx : q ≠ p ++ [x] := fun e => hx (e ▸ hq)
        obtain ⟨ho, nv0, kv0, nums0, hb0, h1, h2, h3, h4, h5, h6, h7⟩ := T.nd q hq
        have kp : ∀ b k, own b = some (q, k) → w'.heap[b]? = w.heap[b]? := fun b k e => hkeep b (T.lt b (by rw [e]; simp)) fun k' e' => by rw [e] at e'; injection e' with e'; injection e' with e'; exact hqp e'
        have keep : ∀ {E : TypeId} {v : Value} {n : Nat} {V : Nat → Value} {k : Nat}, Ow E 0 w v n V → (∀ g, v.ownBlock = some g → own g = some (q, k)) → Ow E 0 w' v n V := fun ho hg => by
          refine ⟨ho.1, ?_⟩
          rcases ho.2 with hn | ⟨g, cap, cur, e, hb0, hgg, rest⟩
          · exact Or.inl hn
          · exact Or.inr ⟨g, cap, cur, e, hb0, (kp g _ (hg g (by rw [e]; rfl))).trans hgg, rest⟩
        refine ⟨by rw [blkO q hqx]; exact far q hqp _ _ ho, nv0, kv0, nums0, by rw [blkO q hqx]; exact (kp _ _ ho).trans hb0, keep h1 h3, (keep h2 h4).congr fun j hj => ?_, fun g hg => far q hqp g _ (h3 g hg), fun g hg => far q hqp g _ (h4 g hg), h5, fun y => ?_, by omega⟩
        · rw [blkO]
          intro e
          exact hqp (snoc_inj e).1
        · rw [h6]
          exact ⟨Or.inl, fun h => h.elim id fun e => absurd (snoc_inj e).1 hqp⟩
      · subst hq
        refine ⟨by rw [blkN]; unfold ownI; rw [if_pos rfl], .slice none 0 0, .slice none 0 0, [], ?_, Ow.nil _ _ _ _, Ow.nil _ _ _ _, fun g hg => (by cases hg), fun g hg => (by cases hg), List.Pairwise.nil, fun y => ?_, Nat.zero_le _⟩
        · rw [blkN]
          have hen : en (p ++ [x]) = false := by
            cases h : en (p ++ [x])
            · rfl
            · exact absurd (T.dom _ h) hx
          rw [hen]; exact hnew
        · constructor
          · intro h; cases h
          · rintro (h | h)
            · exact absurd (T.pre _ _ h) hx
            · exact absurd (snoc_inj h).1 (fun e => by have := congrArg List.length e; simp at this)
/-- A node is marked as a set. -/
theorem TIn.mark {w : World} {own : Nat → Option (List Int × Nat)} {blk : List Int → Nat} {D : List Int → Prop} {en : List Int → Bool} {N : Nat} (T : TIn w own blk D en N) {s : List Int} (hs : D s) :
    TIn (w.setCell ⟨blk s, 0, none⟩ (.bool true)) own blk D (fun p => en p || decide (p = s)) N := by
  obtain ⟨ho0, nv0, kv0, nums0, hb0, -⟩ := T.nd s hs
  have hk : ∀ b, b ≠ blk s → (w.setCell ⟨blk s, 0, none⟩ (.bool true)).heap[b]? = w.heap[b]? := fun b hb => Below.heap_setCell w _ _ b hb
  refine ⟨fun b hb => by simpa using T.lt b hb, T.root, T.pre, T.rise, fun p hp => ?_, fun p hp => ?_⟩
  · rcases Bool.or_eq_true_iff.1 hp with h | h
    · exact T.dom p h
    · rw [of_decide_eq_true h]; exact hs
  · obtain ⟨ho, nv, kv, nums, hb, h1, h2, h3, h4, h5, h6, h7⟩ := T.nd p hp
    have keep : ∀ {E : TypeId} {v : Value} {n : Nat} {V : Nat → Value} {k : Nat}, k ≠ 0 → Ow E 0 w v n V → (∀ g, v.ownBlock = some g → own g = some (p, k)) → Ow E 0 (w.setCell ⟨blk s, 0, none⟩ (.bool true)) v n V := fun hk0 ho hg => by
      refine ⟨ho.1, ?_⟩
      rcases ho.2 with hn | ⟨g, cap, cur, e, hbb, hgg, rest⟩
      · exact Or.inl hn
      · refine Or.inr ⟨g, cap, cur, e, hbb, (hk g fun e2 => ?_).trans hgg, rest⟩
        have := hg g (by rw [e]; rfl)
        rw [e2, ho0] at this
        injection this with this; injection this with _ this; exact hk0 this.symm
    refine ⟨ho, nv, kv, nums, ?_, keep (by decide) h1 h3, keep (by decide) h2 h4, h3, h4, h5, h6, h7⟩
    by_cases e : p = s
    · subst e
      simp [World.setCell, Array.getElem?_modify, hb]
    · have hne : blk p ≠ blk s := fun h => by
        rw [h, ho0] at ho; injection ho with ho; injection ho with ho; exact e ho.symm
      rw [hk _ hne, hb]
      simp [e]
end Fo
end Go.Proofs.Yteaajhpgmndomaa
