/- The walk of AntiAsks, out of what families and sets answer. -/
import Derived.Test.YteaajhpgmndomaaFas
import Derived.Test.YteaajhpgmndomaaAnx
import Derived.Test.YteaajhpgmndomaaUni
namespace Go.Proofs.Yteaajhpgmndomaa
open Go.RowKit Fo
set_option maxRecDepth 100000

theorem rleast_ll (w : World) (v : Value) (Fs : List (List Int)) (h : IsLL w v Fs) (hn : Fs.length ≤ 100000) (hl : ∀ j, j < Fs.length → (gs Fs j).length ≤ 100000) :
    Calls Try.prog 17 #[v] w fun e w' => (∃ u R, e = .returned u ∧ FamIn w.heap.size w' u R ∧ FamOf Fs R ∧ R.length ≤ Fs.length) ∧ Below w.heap.size w w' := by
  obtain ⟨a, c, V, rfl, hr, hs⟩ := h
  exact rleast_any w a c V Fs hr hs hn hl
theorem rhas_ll (w : World) (v1 v : Value) (F : List (List Int)) (s : List Int) (R : Bool) (h : IsLL w v1 F) (h2 : IsL w v s) (hl : ∀ j, j < F.length → (gs F j).length ≤ 1000000000) (hm : s.length ≤ 1000000000) (hR : R = true ↔ has F s) :
    Calls Try.prog 21 #[v1, v] w fun e w' => e = .returned (.bool R) ∧ Below w.heap.size w w' := by
  obtain ⟨a, c, V, rfl, hr, hs⟩ := h
  exact rhas_any w a c V F v s R hr hs h2 hl hm hR
theorem rsorted_l (w : World) (v : Value) (l : List Int) (h : IsL w v l) (hn : l.length ≤ 100000) :
    Calls Try.prog 15 #[v] w fun e w' => (∃ u R, e = .returned u ∧ IsL w' u R ∧ Rise R ∧ (Fo.sub R l ∧ Fo.sub l R)) ∧ Below w.heap.size w w' := by
  obtain ⟨a, c, rfl, hr⟩ := h
  refine (rsorted_any a l.length c (gt l) w hr hn).mono ?_
  rintro e w' ⟨⟨u, N, R, he, hN, ho, h1, h2⟩, hb⟩
  have hm : ∀ x, x ∈ lst R N ↔ ∃ j, j < N ∧ R j = x := fun x => by unfold lst; simp
  obtain ⟨a', c', rfl, hrd⟩ := ho.rd
  refine ⟨⟨_, lst R N, he, IsL.ofK hrd, ?_, fun x hx => ?_, fun x hx => ?_⟩, hb⟩
  · unfold Rise lst
    rw [List.pairwise_map]
    exact List.Pairwise.imp_of_mem (fun {p q} hp hq hpq => h1 p q hpq (List.mem_range.1 hq)) List.pairwise_lt_range
  · exact gt_mem.2 ((h2 x).1 ((hm x).1 hx))
  · exact (hm x).2 ((h2 x).2 (gt_mem.1 hx))
namespace Fo
theorem FV.lens {w : World} {v : Value} {F : List (List Int)} (h : FV w v F) : ∀ j, j < F.length → (gs F j).length ≤ 10000 := by
  obtain ⟨a, c, V, e, hr, hs, ht, hl, hn, -⟩ := h
  exact hn
theorem IsLL.app {w : World} {B : Nat} {a : Option Addr} {c : Nat} {F G : List (List Int)} {V1 V2 : Nat → Value} (h : Ow 23 B w (.slice a (F.length + G.length) c) (F.length + G.length) (catV V1 F.length V2)) (h1 : ∀ j, j < F.length → IsL w (V1 j) (gs F j)) (h2 : ∀ j, j < G.length → IsL w (V2 j) (gs G j)) : IsLL w (.slice a (F.length + G.length) c) (F ++ G) := by
  refine ⟨a, c, catV V1 F.length V2, by rw [List.length_append], by rw [List.length_append]; exact h.rd1, fun j hj => ?_⟩
  rw [List.length_append] at hj
  rw [gs_cat]
  unfold catV
  by_cases e : j < F.length
  · rw [if_pos e, if_pos e]; exact h1 j e
  · rw [if_neg e, if_neg e]; exact h2 _ (by omega)
end Fo
end Go.Proofs.Yteaajhpgmndomaa
