/- addUnions: the rounds. -/
import Derived.Test.YteaajhpgmndomaaUsz
namespace Go.Proofs.Yteaajhpgmndomaa
open Go.RowKit Fo
set_option maxRecDepth 100000

namespace Fo
/-- The union of a pair. -/
def uniK (l r : List (List Int)) (k : Nat) : List Int := uniL (gs l (k / r.length)) (gs r (k % r.length))
theorem szs_eq (l r : List (List Int)) (k : Nat) : szs l r k = (uniK l r k).length := rfl
theorem pair_lt {l r : List (List Int)} {k : Nat} (h : k < l.length * r.length) : k / r.length < l.length ∧ k % r.length < r.length := by
  have h0 : 0 < r.length := by
    rcases Nat.eq_zero_or_pos r.length with q | q
    · rw [q, Nat.mul_zero] at h; omega
    · exact q
  exact ⟨(Nat.div_lt_iff_lt_mul h0).2 h, Nat.mod_lt _ h0⟩
/-- The unions that have come by size n, and of those of size n the first q. -/
structure UO (l r : List (List Int)) (n q : Nat) (U : List (List Int)) : Prop where
  of : ∀ u, u ∈ U → ∃ k, k < l.length * r.length ∧ u = uniK l r k
  sized : U.Pairwise fun a b => a.length ≤ b.length
  top : ∀ u, u ∈ U → u.length ≤ n
  all : ∀ k, k < l.length * r.length → (szs l r k < n ∨ (k < q ∧ szs l r k = n)) → uniK l r k ∈ U
theorem UO.zero (l r : List (List Int)) : UO l r 0 0 [] := ⟨fun u h => (by cases h), List.Pairwise.nil, fun u h => (by cases h), fun k _ h => (by rcases h with h | h <;> omega)⟩
theorem UO.skip {l r U : List (List Int)} {n q : Nat} (h : UO l r n q U) (hne : szs l r q ≠ n) : UO l r n (q + 1) U :=
  ⟨h.of, h.sized, h.top, fun k hk hc => h.all k hk (hc.imp id fun ⟨a, b⟩ => ⟨by
    rcases Nat.lt_or_ge k q with x | x
    · exact x
    · obtain rfl : k = q := by omega
      exact absurd b hne, b⟩)⟩
theorem UO.put {l r U : List (List Int)} {n q : Nat} (h : UO l r n q U) (hq : q < l.length * r.length) (he : szs l r q = n) : UO l r n (q + 1) (U ++ [uniK l r q]) := by
  refine ⟨fun u hu => ?_, ?_, fun u hu => ?_, fun k hk hc => ?_⟩
  · rcases List.mem_append.1 hu with k | k
    · exact h.of u k
    · exact ⟨q, hq, List.mem_singleton.1 k⟩
  · rw [List.pairwise_append]
    refine ⟨h.sized, List.pairwise_singleton _ _, fun a ha b hb => ?_⟩
    rw [List.mem_singleton.1 hb, ← szs_eq, he]
    exact h.top a ha
  · rcases List.mem_append.1 hu with k | k
    · exact h.top u k
    · rw [List.mem_singleton.1 k, ← szs_eq, he]; exact Nat.le_refl _
  · by_cases e : k = q
    · subst e; exact List.mem_append_right _ (List.mem_singleton.2 rfl)
    · exact List.mem_append_left _ (h.all k hk (hc.imp id fun ⟨a, b⟩ => ⟨by omega, b⟩))
theorem UO.next {l r U : List (List Int)} {n m : Nat} (h : UO l r n (l.length * r.length) U) (hm : n < m) (hx : ∀ k, k < l.length * r.length → n < szs l r k → m ≤ szs l r k) : UO l r m 0 U :=
  ⟨h.of, h.sized, fun u hu => Nat.le_of_lt (Nat.lt_of_le_of_lt (h.top u hu) hm), fun k hk hc => h.all k hk (by
    rcases hc with c | c
    · by_cases e : n < szs l r k
      · have := hx k hk e; omega
      · omega
    · omega)⟩
theorem unl_of {l r U : List (List Int)} (hl : ∀ a, a ∈ l → Rise a) (hr : ∀ a, a ∈ r → Rise a) (h1 : ∀ u, u ∈ U → ∃ k, k < l.length * r.length ∧ u = uniK l r k) (h2 : U.Pairwise fun a b => a.length ≤ b.length) (h3 : ∀ k, k < l.length * r.length → uniK l r k ∈ U) : UnL l r U := by
  have hp : ∀ k, k < l.length * r.length → gs l (k / r.length) ∈ l ∧ gs r (k % r.length) ∈ r := fun k hk => ⟨gs_mem.2 ⟨_, (pair_lt hk).1, rfl⟩, gs_mem.2 ⟨_, (pair_lt hk).2, rfl⟩⟩
  refine ⟨fun u hu => ?_, fun u hu => ?_, fun a b ha hb => ?_, h2⟩
  · obtain ⟨k, hk, rfl⟩ := h1 u hu
    exact uni_rise _ _ (hl _ (hp k hk).1) (hr _ (hp k hk).2)
  · obtain ⟨k, hk, rfl⟩ := h1 u hu
    exact ⟨_, _, (hp k hk).1, (hp k hk).2, fun z hz => List.mem_append.2 ((uni_mem _ _ z).1 hz), fun z hz => (uni_mem _ _ z).2 (List.mem_append.1 hz)⟩
  · obtain ⟨i, hi, rfl⟩ := gs_mem.1 ha
    obtain ⟨j, hj, rfl⟩ := gs_mem.1 hb
    have hk : i * r.length + j < l.length * r.length := by
      have : (i + 1) * r.length ≤ l.length * r.length := Nat.mul_le_mul_right _ hi
      rw [Nat.add_mul, Nat.one_mul] at this
      omega
    refine ⟨_, h3 _ hk, fun z hz => ?_⟩
    have h0 : 0 < r.length := by omega
    unfold uniK at hz
    rw [Nat.mul_comm, Nat.mul_add_div h0, Nat.mul_add_mod, Nat.div_eq_of_lt hj, Nat.mod_eq_of_lt hj, Nat.add_zero] at hz
    exact List.mem_append.2 ((uni_mem _ _ z).1 hz)
theorem UO.done {l r U : List (List Int)} {n : Nat} (h : UO l r n 0 U) (hl : ∀ a, a ∈ l → Rise a) (hr : ∀ a, a ∈ r → Rise a) (hn : ∀ k, k < l.length * r.length → szs l r k < n) : UnL l r U :=
  unl_of hl hr h.of h.sized fun k hk => h.all k hk (Or.inl (hn k hk))
theorem sort_ex : ∀ M : List (List Int), ∃ S : List (List Int), S.Perm M ∧ S.Pairwise fun a b => a.length ≤ b.length
  | [] => ⟨[], List.Perm.refl _, List.Pairwise.nil⟩
  | x :: M => by
    obtain ⟨S, hp, hs⟩ := sort_ex M
    have key : ∀ S : List (List Int), (S.Pairwise fun a b => a.length ≤ b.length) → ∃ T : List (List Int), T.Perm (x :: S) ∧ T.Pairwise fun a b => a.length ≤ b.length := by
      intro S
      induction S with
      | nil => intro _; exact ⟨[x], List.Perm.refl _, List.pairwise_singleton _ _⟩
      | cons y S ih =>
        intro h
        rw [List.pairwise_cons] at h
        by_cases e : x.length ≤ y.length
        · refine ⟨x :: y :: S, List.Perm.refl _, List.pairwise_cons.2 ⟨fun z hz => ?_, List.pairwise_cons.2 h⟩⟩
          rcases List.mem_cons.1 hz with q | q
          · rw [q]; exact e
          · exact Nat.le_trans e (h.1 z q)
        · obtain ⟨T, hp, ht⟩ := ih h.2
          refine ⟨y :: T, (hp.cons y).trans (List.Perm.swap x y S), List.pairwise_cons.2 ⟨fun z hz => ?_, ht⟩⟩
          rcases List.mem_cons.1 (hp.mem_iff.1 hz) with q | q
          · rw [q]; omega
          · exact h.1 z q
    obtain ⟨T, h1, h2⟩ := key S hs
    exact ⟨T, h1.trans (hp.cons x), h2⟩
/-- What is still to come can come. -/
theorem UO.rest {l r U : List (List Int)} {n q : Nat} (h : UO l r n q U) (hl : ∀ a, a ∈ l → Rise a) (hr : ∀ a, a ∈ r → Rise a) : ∃ rest, UnL l r (U ++ rest) := by
  obtain ⟨S, hp, hs⟩ := sort_ex (((List.range (l.length * r.length)).map (uniK l r)).filter fun u => decide (n ≤ u.length))
  have hm : ∀ u, u ∈ S ↔ (∃ k, k < l.length * r.length ∧ uniK l r k = u) ∧ n ≤ u.length := fun u => by
    rw [hp.mem_iff, List.mem_filter, List.mem_map, decide_eq_true_eq]
    simp only [List.mem_range]
  refine ⟨S, unl_of hl hr (fun u hu => ?_) ?_ fun k hk => ?_⟩
  · rcases List.mem_append.1 hu with a | a
    · exact h.of u a
    · obtain ⟨⟨k, hk, e⟩, -⟩ := (hm u).1 a
      exact ⟨k, hk, e.symm⟩
  · rw [List.pairwise_append]
    exact ⟨h.sized, hs, fun a ha b hb => Nat.le_trans (h.top a ha) ((hm b).1 hb).2⟩
  · by_cases e : szs l r k < n
    · exact List.mem_append_left _ (h.all k hk (Or.inl e))
    · refine List.mem_append_right _ ((hm _).2 ⟨⟨k, hk, rfl⟩, ?_⟩)
      rw [← szs_eq]; omega
/-- Behind the rounds. -/
def AuR (F : Nat → Prop) (most : Int) (KK l r : List (List Int)) (kp : Value) (w : World) (e : Ending) (w' : World) : Prop :=
  ∃ U, UnL l r U ∧ ((e = .returned (.tuple #[]) ∧ ((adds KK U).length : Int) ≤ most ∧ KIn (newF F w w') w' kp most (adds KK U)) ∨ (e = pB ∧ most < ((adds KK U).length : Int))) ∧ Kp F w w'
/-- A row's beginning is a row. -/
theorem Ow.head0 {E : TypeId} {B : Nat} {w : World} {a : Option Addr} {n c : Nat} {V : Nat → Value} (h : Ow E B w (.slice a n c) n V) : Ow E B w (.slice a 0 c) 0 V := by
  obtain ⟨h1, h2⟩ := h
  refine ⟨by rw [fl_len], ?_⟩
  rcases h2 with ⟨h2, h3⟩ | ⟨g, cap, cur, e, hb, hg, hnc, hcm, hcs, ht⟩
  · left
    simp only [Value.slice.injEq] at h2
    obtain ⟨rfl, -, rfl⟩ := h2
    exact ⟨rfl, rfl⟩
  · simp only [Value.slice.injEq, true_and] at e
    obtain ⟨rfl, rfl⟩ := e
    exact Or.inr ⟨g, c, cur, rfl, hb, hg, Nat.zero_le _, hcm, hcs, by simp [fl]⟩
end Fo
end Go.Proofs.Yteaajhpgmndomaa
