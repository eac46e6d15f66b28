/- Trees of sets in memory: a node a beginning; what BinarySearch tells of a set. -/
import Derived.Test.YteaajhpgmndomaaIns
namespace Go.Proofs.Yteaajhpgmndomaa
open Go.RowKit Fo
set_option maxRecDepth 100000

namespace Fo
/-- How many numbers of a set are less. -/
def lo (l : List Int) (x : Int) : Nat := l.countP (· < x)
theorem lo_le (l : List Int) (x : Int) : lo l x ≤ l.length := List.countP_le_length
theorem lo_split : ∀ {l : List Int}, Rise l → ∀ x, (∀ j, j < lo l x → gt l j < x) ∧ ∀ j, lo l x ≤ j → j < l.length → x ≤ gt l j
  | [], _, x => ⟨fun j h => absurd h (by simp [lo]), fun j _ h => absurd h (by simp)⟩
  | y :: l, h, x => by
    obtain ⟨h1, h2⟩ := lo_split (rise_tail h) x
    by_cases k : y < x
    · have e : lo (y :: l) x = lo l x + 1 := by unfold lo; rw [List.countP_cons_of_pos (by simpa using k)]
      rw [e]
      refine ⟨fun j hj => ?_, fun j hj hl => ?_⟩
      · cases j with
        | zero => exact k
        | succ j => exact h1 j (by omega)
      · cases j with
        | zero => omega
        | succ j => exact h2 j (by omega) (by simpa using hl)
    · have e0 : lo l x = 0 := by
        unfold lo
        rw [List.countP_eq_zero]
        intro z hz
        have := rise_head h z hz
        simp; omega
      have e : lo (y :: l) x = 0 := by
        have e1 : lo (y :: l) x = lo l x := by unfold lo; rw [List.countP_cons_of_neg (by simpa using k)]
        rw [e1, e0]
      rw [e]
      refine ⟨fun j hj => absurd hj (by omega), fun j _ hl => ?_⟩
      cases j with
      | zero => show x ≤ y; omega
      | succ j => exact h2 j (by omega) (by simpa using hl)
theorem lo_mem {l : List Int} (h : Rise l) (x : Int) : x ∈ l ↔ lo l x < l.length ∧ gt l (lo l x) = x := by
  obtain ⟨h1, h2⟩ := lo_split h x
  constructor
  · intro hx
    obtain ⟨j, hj, e⟩ := gt_mem.1 hx
    have hj1 : lo l x ≤ j := by
      by_cases k : j < lo l x
      · have := h1 j k; omega
      · omega
    have hlt : lo l x < l.length := by omega
    refine ⟨hlt, ?_⟩
    have := h2 (lo l x) (Nat.le_refl _) hlt
    rcases Nat.lt_or_eq_of_le hj1 with q | q
    · have hr := (List.pairwise_iff_getElem.1 h) (lo l x) j hlt hj q
      have e1 : gt l (lo l x) = l[lo l x] := by unfold gt; rw [List.getD_eq_getElem?_getD, List.getElem?_eq_getElem hlt]; rfl
      have e2 : gt l j = l[j] := by unfold gt; rw [List.getD_eq_getElem?_getD, List.getElem?_eq_getElem hj]; rfl
      omega
    · rw [q]; exact e
  · rintro ⟨hlt, e⟩
    exact gt_mem.2 ⟨_, hlt, e⟩
theorem rise_drop {l : List Int} (h : Rise l) (i : Nat) : Rise (l.drop i) := List.Pairwise.sublist (List.drop_sublist i l) h
theorem gt_drop (l : List Int) (i j : Nat) : gt (l.drop i) j = gt l (i + j) := by
  unfold gt
  rw [List.getD_eq_getElem?_getD, List.getD_eq_getElem?_getD, List.getElem?_drop]
/-- A list without its first numbers, at a slice of it. -/
theorem IsL.dropAt {w : World} {a : Option Addr} {l : List Int} {c : Nat} (h : IsL w (.slice a l.length c) l) (i n k : Nat) (hn : n = l.length - i) (hk : k = c - i) (hi : i ≤ l.length) {a' : Option Addr} (ha : i < l.length → ∀ b off, a = some ⟨b, off, none⟩ → a' = some ⟨b, off + i, none⟩) : IsL w (.slice a' n k) (l.drop i) := by
  obtain ⟨a0, c0, e, hr⟩ := h
  obtain ⟨rfl, rfl⟩ : a = a0 ∧ c = c0 := by simpa using e
  have hlen : (l.drop i).length = n := by rw [List.length_drop, hn]
  refine ⟨a', k, by rw [hlen], ?_⟩
  rw [hlen]
  have h1 := hr.1
  have h2 := hr.2.1
  by_cases hlt : i < l.length
  · obtain ⟨b, off, rfl, hc⟩ := hr.at (by omega)
    rw [ha hlt b off rfl]
    exact hr.tail i n k (by omega) (by omega) (fun j => by unfold ivs; rw [gt_drop])
  · have h0 : n = 0 := by omega
    subst h0
    exact Rd.empty _ _ _ (by omega) _
end Fo
/-- slices.BinarySearch, of a set. -/
theorem bs_any (w : World) (v : Value) (l : List Int) (x : Int) (h : IsL w v l) (hs : Rise l) (hl : l.length ≤ 1000000000) (r : Bool) (hr : r = true ↔ x ∈ l) (p : Nat) (hp : p = lo l x) :
    Calls Try.prog 77 #[v, .int .i64 x] w fun e w' => e = .returned (.tuple #[.int .i64 p, .bool r]) ∧ Drw w w' := by
  obtain ⟨a, c, rfl, hrd⟩ := h
  subst hp
  have hc : l.contains x = r := by
    cases r
    · cases h : l.contains x
      · rfl
      · have := hr.2 (by simpa using h); cases this
    · have := hr.1 rfl; simpa using this
  by_cases h0 : l.length = 0
  · have hl0 : l = [] := List.length_eq_zero_iff.1 h0
    subst hl0
    refine (Try.slices_BinarySearch_int_empty a c x w).mono ?_
    rintro e w' ⟨rfl, rfl⟩
    refine ⟨?_, Drw.refl _⟩
    rw [← hc]; rfl
  · obtain ⟨b, off, rfl, hcell⟩ := hrd.at (by omega)
    refine (Try.slices_BinarySearch_int b off l.length c l x w (Nat.le_refl _) (by omega) hcell (by rw [List.take_length]; exact hs.imp fun h => Int.le_of_lt h)).mono ?_
    rintro e w' ⟨rfl, q, rfl⟩
    refine ⟨?_, q, rfl⟩
    rw [List.take_length, hc]; rfl
namespace Fo
/-- A tree in memory: D are the beginnings that it has, en tells which are sets; own tells of each block what it is for; no node has more than N next numbers. -/
structure TIn (w : World) (own : Nat → Option (List Int × Nat)) (blk : List Int → Nat) (D : List Int → Prop) (en : List Int → Bool) (N : Nat) : Prop where
  lt : ∀ b, own b ≠ none → b < w.heap.size
  root : D []
  pre : ∀ p x, D (p ++ [x]) → D p
  rise : ∀ p, D p → Rise p
  dom : ∀ p, en p = true → D p
  nd : ∀ p, D p → own (blk p) = some (p, 0) ∧ ∃ nv kv nums, w.heap[blk p]? = some (.cells #[.bool (en p), nv, kv] 62) ∧
    Ow 3 0 w nv nums.length (ivs (gt nums)) ∧ Ow 59 0 w kv nums.length (fun j => .pointer (some ⟨blk (p ++ [gt nums j]), 0, none⟩)) ∧
    (∀ g, nv.ownBlock = some g → own g = some (p, 1)) ∧ (∀ g, kv.ownBlock = some g → own g = some (p, 2)) ∧ Rise nums ∧ (∀ x, x ∈ nums ↔ D (p ++ [x])) ∧ nums.length ≤ N
/-- A tree lies where its blocks lie. -/
theorem TIn.kp {F : Nat → Prop} {w w' : World} {own : Nat → Option (List Int × Nat)} {blk : List Int → Nat} {D : List Int → Prop} {en : List Int → Bool} {N : Nat} (h : TIn w own blk D en N) (hk : Kp F w w') (hf : ∀ b, own b ≠ none → ¬ F b) : TIn w' own blk D en N := by
  refine ⟨fun b hb => Nat.lt_of_lt_of_le (h.lt b hb) hk.size, h.root, h.pre, h.rise, h.dom, fun p hp => ?_⟩
  obtain ⟨ho, nv, kv, nums, hb, h1, h2, h3, h4, h5⟩ := h.nd p hp
  have keep : ∀ {E : TypeId} {v : Value} {n : Nat} {V : Nat → Value} {k : Nat}, Ow E 0 w v n V → (∀ g, v.ownBlock = some g → own g = some (p, k)) → Ow E 0 w' v n V := fun ho hg => by
    refine ⟨ho.1, ?_⟩
    rcases ho.2 with hn | ⟨g, cap, cur, e, hb0, hgg, rest⟩
    · exact Or.inl hn
    · refine Or.inr ⟨g, cap, cur, e, hb0, hk.heap hgg (hf g ?_), rest⟩
      rw [hg g (by rw [e]; rfl)]; simp
  exact ⟨ho, nv, kv, nums, hk.heap hb (hf _ (by rw [ho]; simp)), keep h1 h3, keep h2 h4, h3, h4, h5⟩
theorem TIn.below {w w' : World} {own : Nat → Option (List Int × Nat)} {blk : List Int → Nat} {D : List Int → Prop} {en : List Int → Bool} {N : Nat} (h : TIn w own blk D en N) (hb : Below w.heap.size w w') : TIn w' own blk D en N :=
  h.kp (Kp.of_below (F := fun _ => False) hb) fun _ _ k => k
theorem TIn.more {w : World} {own : Nat → Option (List Int × Nat)} {blk : List Int → Nat} {D : List Int → Prop} {en : List Int → Bool} {N M : Nat} (h : TIn w own blk D en N) (hm : N ≤ M) : TIn w own blk D en M := by
  refine ⟨h.lt, h.root, h.pre, h.rise, h.dom, fun p hp => ?_⟩
  obtain ⟨ho, nv, kv, nums, hb, h1, h2, h3, h4, h5, h6, h7⟩ := h.nd p hp
  exact ⟨ho, nv, kv, nums, hb, h1, h2, h3, h4, h5, h6, Nat.le_trans h7 hm⟩
theorem TIn.pref {w : World} {own : Nat → Option (List Int × Nat)} {blk : List Int → Nat} {D : List Int → Prop} {en : List Int → Bool} {N : Nat} (h : TIn w own blk D en N) (p : List Int) : ∀ q, D (p ++ q) → D p := by
  have key : ∀ n q, q.length = n → D (p ++ q) → D p := by
    intro n
    induction n with
    | zero => intro q hq hd; rw [List.length_eq_zero_iff.1 hq, List.append_nil] at hd; exact hd
    | succ n ih =>
      intro q hq hd
      rcases List.eq_nil_or_concat q with e | ⟨q', x, e⟩
      · rw [e] at hq; simp at hq
      · rw [e, List.concat_eq_append] at hd hq
        rw [← List.append_assoc] at hd
        exact ih q' (by simpa using hq) (h.pre _ _ hd)
  exact fun q hd => key _ q rfl hd
end Fo
end Go.Proofs.Yteaajhpgmndomaa
