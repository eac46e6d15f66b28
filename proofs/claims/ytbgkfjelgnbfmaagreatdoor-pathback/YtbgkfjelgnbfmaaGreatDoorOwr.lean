/- Rows that the call has made: their cells read and written; one cell as a row. Free of any program. -/
import Derived.Test.YtbgkfjelgnbfmaaGreatDoorRow
import Derived.WalkKit
import Derived.WalkLawsBesides
import Derived.OwnWalk
namespace Go.Proofs.YtbgkfjelgnbfmaaGreatDoor
open Go.RowKit Fo
set_option maxRecDepth 100000

theorem ret_bool {a b : Bool} (h : a = b) : Ending.returned (.bool a) = .returned (.bool b) := by rw [h]
theorem ret_int {k : IntKind} {a b : Int} (h : a = b) : Ending.returned (.int k a) = .returned (.int k b) := by rw [h]
namespace Fo
/-- A list in which one place is another one. -/
def updV (V : Nat → Value) (p : Nat) (u : Value) (j : Nat) : Value := if j = p then u else V j
theorem Ow.cells {E : TypeId} {B : Nat} {w : World} {a : Option Addr} {n c : Nat} {V : Nat → Value} (h : Ow E B w (.slice a n c) n V) (h0 : 0 < n) :
    ∃ g, a = some ⟨g, 0, none⟩ ∧ B ≤ g ∧ (∀ j, j < n → w.cell? ⟨g, j, none⟩ = some (V j)) ∧ (∀ j, w.frozen? ⟨g, j, none⟩ = false) := by
  have hr := h.rd1
  obtain ⟨b, off, ea, hc⟩ := hr.at h0
  rcases h.2 with ⟨h', -⟩ | ⟨g, cap, cur, e, hb, hg, -⟩
  · rw [ea] at h'; cases h'
  · have e1 : a = some ⟨g, 0, none⟩ := by simpa using (Value.slice.inj e).1
    rw [e1] at ea
    obtain ⟨rfl, rfl⟩ : g = b ∧ 0 = off := by simpa using ea
    exact ⟨g, e1, hb, fun j hj => by have := hc j hj; rwa [Nat.zero_add] at this, fun j => by simp [World.frozen?, hg]⟩
theorem fl_updV (V : Nat → Value) (n p : Nat) (u : Value) (hp : p < n) : (fl V n).set p u = fl (updV V p u) n := by
  apply List.ext_getElem?
  intro j
  rw [List.getElem?_set]
  by_cases hj : j < n
  · rw [fl_get (updV V p u) n j hj, fl_len]
    unfold updV
    by_cases e : p = j
    · subst e; simp [hp]
    · rw [if_neg e, if_neg (fun h => e h.symm), fl_get V n j hj]
  · rw [List.getElem?_eq_none (l := fl (updV V p u) n) (by rw [fl_len]; omega), fl_len, if_neg (by omega)]
    exact List.getElem?_eq_none (by rw [fl_len]; omega)
theorem Ow.put {E : TypeId} {B : Nat} {w : World} {g n cap : Nat} {V : Nat → Value} (h : Ow E B w (.slice (some ⟨g, 0, none⟩) n cap) n V) (p : Nat) (u : Value) (hp : p < n) :
    Ow E B (w.setCell ⟨g, p, none⟩ u) (.slice (some ⟨g, 0, none⟩) n cap) n (updV V p u) := by
  obtain ⟨h1, h2⟩ := h
  refine ⟨by rw [fl_len, Nat.mul_one], ?_⟩
  rcases h2 with ⟨h2, -⟩ | ⟨g', cap', cur, e, hb, hg, hnc, hcm, hcs, ht⟩
  · cases h2
  · obtain ⟨rfl, rfl⟩ : g = g' ∧ cap = cap' := by simpa using e
    refine Or.inr ⟨g, cap, cur.setIfInBounds p u, rfl, hb, by simp [World.setCell, Array.getElem?_modify, hg], hnc, hcm, by simpa using hcs, ?_⟩
    rw [← fl_updV V n p u hp, ← ht, Array.toList_setIfInBounds, List.take_set]
theorem Ow.drewN {E : TypeId} {B : Nat} {w : World} {v : Value} {n : Nat} {V : Nat → Value} (h : Ow E B w v n V) (k : Nat) : Ow E B (w.drewN k) v n V := h.kept fun _ _ => rfl
theorem Ow.mono {E : TypeId} {B B' : Nat} {w : World} {v : Value} {n : Nat} {V : Nat → Value} (h : Ow E B w v n V) (hB : B' ≤ B) : Ow E B' w v n V := by
  refine ⟨h.1, ?_⟩
  rcases h.2 with hn | ⟨g, cap, cur, e, hb, rest⟩
  · exact Or.inl hn
  · exact Or.inr ⟨g, cap, cur, e, Nat.le_trans hB hb, rest⟩
/-- Rows are of a block from B on: the world behind has at least so many. -/
theorem Ow.lt {E : TypeId} {B : Nat} {w : World} {g n cap : Nat} {V : Nat → Value} (h : Ow E B w (.slice (some ⟨g, 0, none⟩) n cap) n V) : B ≤ g := (World.ownsRow.lt h g rfl).1
end Fo
theorem one_cell (w : World) (E : TypeId) (u : Value) : Rd (w.alloc (.cells #[u] E)) (some ⟨w.heap.size, 0, none⟩) 1 1 fun _ => u := by
  refine ⟨Nat.le_refl _, by decide, Or.inr ⟨_, _, rfl, fun j hj => ?_⟩⟩
  obtain rfl : j = 0 := by omega
  rw [World.cell?_alloc_new]; rfl
end Go.Proofs.YtbgkfjelgnbfmaaGreatDoor
