/- Sets in memory, as lists of numbers; Subset, lessSet and Sorted on them. -/
import Derived.Test.YteaajhpgmndomaaSrt
import Derived.Test.YteaajhpgmndomaaAnt
namespace Go.Proofs.Yteaajhpgmndomaa
open Go.RowKit Fo
set_option maxRecDepth 100000

namespace Fo
def gt (l : List Int) (j : Nat) : Int := l.getD j 0
def lst (K : Nat → Int) (n : Nat) : List Int := (List.range n).map K
theorem lst_len (K : Nat → Int) (n : Nat) : (lst K n).length = n := by simp [lst]
theorem gt_lst (K : Nat → Int) (n j : Nat) (h : j < n) : gt (lst K n) j = K j := by
  unfold gt lst
  rw [List.getD_eq_getElem?_getD, List.getElem?_map, List.getElem?_range h]; rfl
theorem gt_mem {l : List Int} {x : Int} : x ∈ l ↔ ∃ j, j < l.length ∧ gt l j = x := by
  rw [List.mem_iff_getElem]
  constructor
  · rintro ⟨j, hj, e⟩
    exact ⟨j, hj, by unfold gt; rw [List.getD_eq_getElem?_getD, List.getElem?_eq_getElem hj]; exact e⟩
  · rintro ⟨j, hj, e⟩
    refine ⟨j, hj, ?_⟩
    unfold gt at e
    rwa [List.getD_eq_getElem?_getD, List.getElem?_eq_getElem hj] at e
theorem lst_mem {K : Nat → Int} {n : Nat} {x : Int} : x ∈ lst K n ↔ ∃ j, j < n ∧ K j = x := by
  unfold lst
  rw [List.mem_map]
  constructor
  · rintro ⟨j, hj, e⟩
    exact ⟨j, List.mem_range.1 hj, e⟩
  · rintro ⟨j, hj, e⟩
    exact ⟨j, List.mem_range.2 hj, e⟩
theorem sb_sub {l m : List Int} : sb (gt l) l.length (gt m) m.length ↔ sub l m := by
  constructor
  · intro h x hx
    obtain ⟨j, hj, e⟩ := gt_mem.1 hx
    obtain ⟨k, hk, e2⟩ := h j hj
    exact gt_mem.2 ⟨k, hk, e2.symm.trans e⟩
  · intro h i hi
    obtain ⟨k, hk, e⟩ := gt_mem.1 (h (gt l i) (gt_mem.2 ⟨i, hi, rfl⟩))
    exact ⟨k, hk, e.symm⟩
theorem lx_lex : ∀ (l m : List Int), l.length = m.length → (lx (gt l) (gt m) l.length ↔ lexL l m)
  | [], [], _ => ⟨fun ⟨i, h, _⟩ => absurd h (by simp), fun h => h.elim⟩
  | [], _ :: _, h => by simp at h
  | _ :: _, [], h => by simp at h
  | x :: l, y :: m, h => by
    have ih := lx_lex l m (by simpa using h)
    unfold lexL
    rw [← ih]
    constructor
    · rintro ⟨i, hi, hl, he⟩
      match i with
      | 0 => exact Or.inl hl
      | i + 1 => exact Or.inr ⟨he 0 (by omega), i, by simpa using hi, hl, fun j hj => he (j + 1) (by omega)⟩
    · rintro (hl | ⟨e, i, hi, hl, he⟩)
      · exact ⟨0, by simp, hl, fun j hj => absurd hj (by omega)⟩
      · refine ⟨i + 1, by simpa using hi, hl, fun j hj => ?_⟩
        match j with
        | 0 => exact e
        | j + 1 => exact he j (by omega)
theorem ls_less {l m : List Int} : lsK (gt l) l.length (gt m) m.length ↔ lessL l m := by
  unfold lsK lessL
  constructor
  · rintro (h | ⟨h, k⟩)
    · exact Or.inl h
    · exact Or.inr ⟨h, (lx_lex l m h).1 k⟩
  · rintro (h | ⟨h, k⟩)
    · exact Or.inl h
    · exact Or.inr ⟨h, (lx_lex l m h).2 k⟩
/-- A list of numbers that is read. -/
def IsL (w : World) (v : Value) (l : List Int) : Prop := ∃ a c, v = .slice a l.length c ∧ Rd w a l.length c (ivs (gt l))
/-- A set in a block of numbers. -/
def SetIn (w : World) (v : Value) (l : List Int) : Prop :=
  ∃ a c, v = .slice a l.length c ∧ Rd w a l.length c (ivs (gt l)) ∧ (l.length = 0 ∨ ∃ b off cur fr, a = some ⟨b, off, none⟩ ∧ w.heap[b]? = some (.cells cur 3 fr))
theorem SetIn.isL {w : World} {v : Value} {l : List Int} (h : SetIn w v l) : IsL w v l := by
  obtain ⟨a, c, e, hr, -⟩ := h
  exact ⟨a, c, e, hr⟩
theorem IsL.below {w w1 : World} {v : Value} {l : List Int} (h : IsL w v l) (hb : Below w.heap.size w w1) : IsL w1 v l := by
  obtain ⟨a, c, e, hr⟩ := h
  exact ⟨a, c, e, hr.below hb⟩
theorem SetIn.below {w w1 : World} {v : Value} {l : List Int} (h : SetIn w v l) (hb : Below w.heap.size w w1) : SetIn w1 v l := by
  obtain ⟨a, c, e, hr, ht⟩ := h
  refine ⟨a, c, e, hr.below hb, ?_⟩
  rcases ht with ht | ⟨b, off, cur, fr, ea, hc⟩
  · exact Or.inl ht
  · exact Or.inr ⟨b, off, cur, fr, ea, by rw [hb.block b (Array.getElem?_eq_some_iff.1 hc).1]; exact hc⟩
/-- A set stays where another block is written. -/
theorem SetIn.keep {w w1 : World} {v : Value} {l : List Int} (h : SetIn w v l) (hk : ∀ (b : Nat) (cur : Array Value) (fr : Nat × Nat), w.heap[b]? = some (Obj.cells cur 3 fr) → w1.heap[b]? = w.heap[b]?) : SetIn w1 v l := by
  obtain ⟨a, c, e, ⟨hr1, hr2, hr3⟩, ht⟩ := h
  rcases ht with ht | ⟨b, off, cur, fr, ea, hc⟩
  · exact ⟨a, c, e, ⟨hr1, hr2, Or.inl ht⟩, Or.inl ht⟩
  · have hb := hk b cur fr hc
    refine ⟨a, c, e, ⟨hr1, hr2, ?_⟩, Or.inr ⟨b, off, cur, fr, ea, hb.trans hc⟩⟩
    rcases hr3 with h0 | ⟨b2, off2, ea2, hcc⟩
    · exact Or.inl h0
    · obtain ⟨rfl, rfl⟩ : b2 = b ∧ off2 = off := by rw [ea] at ea2; simpa [eq_comm] using ea2
      exact Or.inr ⟨b2, off2, ea2, fun j hj => by have := hcc j hj; unfold World.cell? at this ⊢; rw [hb]; exact this⟩
theorem Ow.setIn {B : Nat} {w : World} {v : Value} {n : Nat} {K : Nat → Int} (h : Ow 3 B w v n (ivs K)) : SetIn w v (lst K n) := by
  obtain ⟨a, c, rfl, hr⟩ := h.rd
  refine ⟨a, c, by rw [lst_len], ?_, ?_⟩
  · rw [lst_len]
    exact hr.congr fun j hj => by unfold ivs; rw [gt_lst K n j hj]
  · rw [lst_len]
    rcases h.2 with ⟨-, h0⟩ | ⟨g, cap, cur, e, hb, hg, -⟩
    · exact Or.inl h0
    · exact Or.inr ⟨g, 0, cur, _, by simpa using (Value.slice.inj e).1, hg⟩
theorem IsL.ofK {w : World} {a : Option Addr} {n c : Nat} {K : Nat → Int} (h : Rd w a n c (ivs K)) : IsL w (.slice a n c) (lst K n) :=
  ⟨a, c, by rw [lst_len], by rw [lst_len]; exact h.congr fun j hj => by unfold ivs; rw [gt_lst K n j hj]⟩
end Fo
theorem rsub_list (w : World) (v1 v2 : Value) (l m : List Int) (R : Bool) (h1 : IsL w v1 l) (h2 : IsL w v2 m) (hl : l.length ≤ 1000000000) (hm : m.length ≤ 1000000000) (hR : R = true ↔ sub l m) :
    Calls Try.prog 38 #[v1, v2] w fun e w' => e = .returned (.bool R) ∧ Below w.heap.size w w' := by
  obtain ⟨a, c, rfl, h1⟩ := h1
  obtain ⟨b, d, rfl, h2⟩ := h2
  refine rsub_any a b _ c _ d _ _ w R h1 h2 hl hm (fun h => ((hR.2 (sb_sub.1 h)).symm)) (fun i hi hn => ?_)
  cases hr : R
  · rfl
  · obtain ⟨k, hk, e⟩ := sb_sub.2 (hR.1 hr) i hi
    exact absurd e (hn k hk)
theorem rless_list (w : World) (v1 v2 : Value) (l m : List Int) (R : Bool) (h1 : IsL w v1 l) (h2 : IsL w v2 m) (hR : R = true ↔ lessL l m) :
    Calls Try.prog 39 #[v1, v2] w fun e w' => e = .returned (.bool R) ∧ Below w.heap.size w w' := by
  obtain ⟨a, c, rfl, h1⟩ := h1
  obtain ⟨b, d, rfl, h2⟩ := h2
  exact rless_any a b _ c _ d _ _ w R h1 h2 (hR.trans ls_less.symm)
theorem rsorted_list (w : World) (v : Value) (l : List Int) (h : IsL w v l) (hl : l.length ≤ 100000) :
    Calls Try.prog 15 #[v] w fun e w' => (∃ u R, e = .returned u ∧ SetIn w' u R ∧ Rise R ∧ (sub R l ∧ sub l R) ∧ R.length ≤ l.length) ∧ Below w.heap.size w w' := by
  obtain ⟨a, c, rfl, h⟩ := h
  refine (rsorted_any a _ c _ w h hl).mono fun e w' ⟨⟨u, N, R, he, hN, ho, hs⟩, b⟩ => ⟨⟨u, lst R N, he, ho.setIn, ?_, ⟨fun x hx => ?_, fun x hx => ?_⟩, by rw [lst_len]; exact hN⟩, b⟩
  · unfold Rise lst
    rw [List.pairwise_map]
    refine List.Pairwise.imp_of_mem (R := fun a b => a < b) (fun {p q} _ hq hpq => hs.1 p q hpq (List.mem_range.1 hq)) List.pairwise_lt_range
  · exact gt_mem.2 ((hs.2 x).1 (lst_mem.1 hx))
  · exact lst_mem.2 ((hs.2 x).2 (gt_mem.1 hx))
end Go.Proofs.Yteaajhpgmndomaa
