/- Lists of numbers, and lists of those, as arguments, opened. -/
import Derived.Test.YteaajhpgmndomaaLea
import Derived.ProofKit
import Derived.OpenShut
import Derived.Deep.Slices
namespace Go.Proofs.Yteaajhpgmndomaa
open Go.ChangeShapes Go.WideShapes Go.ChangeAt Go.RowKit Fo
set_option maxRecDepth 100000

theorem laidOut : laidOutB Try.prog = true := by kernel_rfl
theorem int_of_trod {H : Type} {enc : TypeId × Value → H} {w : World} {base : Nat} {sp : Nat → Bool} {held : Bool} {n : Nat} {v : Value} {x : DataW H × List MemPlace}
    (h : DataW.trod enc Try.prog w base sp held n 3 [v] = some x) : ∃ b : Int, v = .int .i64 b ∧ -9223372036854775808 ≤ b ∧ b ≤ 9223372036854775807 := by
  cases n with
  | zero => simp [DataW.trod] at h
  | succ n =>
    simp only [DataW.trod, Try.underlying3] at h
    cases v <;> simp at h
    rename_i k b
    obtain ⟨⟨rfl, hw⟩, -⟩ := h
    simp [Lit.wf, IntKind.min, IntKind.max, IntKind.signed, IntKind.bits] at hw
    exact ⟨b, rfl, hw⟩
namespace Fo
def lsts (X : Nat → List Int) (n : Nat) : List (List Int) := (List.range n).map X
theorem lsts_len (X : Nat → List Int) (n : Nat) : (lsts X n).length = n := by simp [lsts]
theorem gs_lsts (X : Nat → List Int) (n j : Nat) (h : j < n) : gs (lsts X n) j = X j := by
  unfold gs lsts
  rw [List.getD_eq_getElem?_getD, List.getElem?_map, List.getElem?_range h]; rfl
end Fo
theorem open_ints {H : Type} {enc : TypeId × Value → H} {W : World} {fuel : Nat} {cs : List Value} {x : DataW H × List MemPlace}
    (hf : DataW.trod enc Try.prog W 0 (fun _ => true) true fuel 23 cs = some x) : ∃ v l, cs = [v] ∧ IsL W v l := by
  rcases Deep.open_slice1 Try.underlying23 (by kernel_rfl) hf with ⟨hcs, -⟩ | ⟨a, len, cap, m, n, V, D, Pl, hcs, -, hl, hm, hmm, -, hV⟩
  · exact ⟨_, [], hcs, none, 0, rfl, Rd.empty _ _ _ (by decide) _⟩
  · by_cases h0 : len = 0
    · subst h0
      exact ⟨_, [], hcs, some a, cap, rfl, Rd.empty _ _ _ (by unfold maxLen at hm; omega) _⟩
    simp only [if_true] at hmm
    subst hmm
    obtain ⟨b, off, spot⟩ := a
    have hspot : spot = none := by simpa [Addr.add] using World.cell?_spot (hV 0 (by omega)).1
    subst hspot
    have hX : ∀ j, ∃ y : Int, j < len → V j = .int .i64 y := fun j => by
      by_cases hj : j < len
      · obtain ⟨y, e, -⟩ := int_of_trod (hV j (by omega)).2
        exact ⟨y, fun _ => e⟩
      · exact ⟨0, fun h => absurd h hj⟩
    refine ⟨_, lst (fun j => Classical.choose (hX j)) len, hcs, IsL.ofK ⟨hl, by unfold maxLen at hm; omega, Or.inr ⟨b, off, rfl, fun j hj => ?_⟩⟩⟩
    unfold ivs
    rw [← Classical.choose_spec (hX j) hj, ← add_off]
    exact (hV j (by omega)).1
theorem open_lists {H : Type} {enc : TypeId × Value → H} {W : World} {fuel : Nat} {cs : List Value} {x : DataW H × List MemPlace}
    (hf : DataW.trod enc Try.prog W 0 (fun _ => true) true fuel 22 cs = some x) : ∃ v F, cs = [v] ∧ IsLL W v F := by
  rcases Deep.open_slice1 Try.underlying22 (by kernel_rfl) hf with ⟨hcs, -⟩ | ⟨a, len, cap, m, n, V, D, Pl, hcs, -, hl, hm, hmm, -, hV⟩
  · exact ⟨_, [], hcs, none, 0, fun _ => .slice none 0 0, rfl, Rd.empty _ _ _ (by decide) _, fun j h => absurd h (by simp)⟩
  · by_cases h0 : len = 0
    · subst h0
      exact ⟨_, [], hcs, some a, cap, fun _ => .slice none 0 0, rfl, Rd.empty _ _ _ (by unfold maxLen at hm; omega) _, fun j h => absurd h (by simp)⟩
    simp only [if_true] at hmm
    subst hmm
    obtain ⟨b, off, spot⟩ := a
    have hspot : spot = none := by simpa [Addr.add] using World.cell?_spot (hV 0 (by omega)).1
    subst hspot
    have hX : ∀ j, ∃ y : List Int, j < len → IsL W (V j) y := fun j => by
      by_cases hj : j < len
      · obtain ⟨v, l, e, h⟩ := open_ints (hV j (by omega)).2
        obtain rfl : V j = v := by simpa using e
        exact ⟨l, fun _ => h⟩
      · exact ⟨[], fun h => absurd h hj⟩
    refine ⟨_, lsts (fun j => Classical.choose (hX j)) len, hcs, some ⟨b, off, none⟩, m, V, by rw [lsts_len], ?_, fun j hj => ?_⟩
    · rw [lsts_len]
      exact ⟨hl, by unfold maxLen at hm; omega, Or.inr ⟨b, off, rfl, fun j hj => by rw [← add_off]; exact (hV j (by omega)).1⟩⟩
    · rw [lsts_len] at hj
      rw [gs_lsts _ _ _ hj]
      exact Classical.choose_spec (hX j) hj
end Go.Proofs.Yteaajhpgmndomaa
