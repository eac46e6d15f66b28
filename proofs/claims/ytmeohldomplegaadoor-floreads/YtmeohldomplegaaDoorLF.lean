/- A list of numbers as an argument, opened. -/
import Derived.Test.YtmeohldomplegaaDoorL
import Derived.Deep.Slices
namespace Go.Proofs.YtmeohldomplegaaDoor
open Go.ChangeShapes Go.WideShapes Go.ChangeAt Go.RowKit Fo
set_option maxRecDepth 100000

theorem laidOut : laidOutB Tryd.prog = true := by kernel_rfl
theorem float_of_trod {H : Type} {enc : TypeId × Value → H} {w : World} {base : Nat} {sp : Nat → Bool} {held : Bool} {n : Nat} {v : Value} {x : DataW H × List MemPlace}
    (h : DataW.trod enc Tryd.prog w base sp held n 22 [v] = some x) : ∃ b, v = .float .f64 b ∧ b < 18446744073709551616 := by
  cases n with
  | zero => simp [DataW.trod] at h
  | succ n =>
    simp only [DataW.trod, Tryd.underlying22] at h
    cases v <;> simp at h
    rename_i k b
    obtain ⟨⟨rfl, hw⟩, -⟩ := h
    exact ⟨b, rfl, float_lt hw⟩

/-- A list of numbers, opened: nil, or so many cells that hold them. -/
theorem open_floats {H : Type} {enc : TypeId × Value → H} {W : World} {fuel : Nat} {a0 : Option Addr} {len cap : Nat} {x : DataW H × List MemPlace}
    (hf : DataW.trod enc Tryd.prog W 0 (fun _ => true) true fuel 35 (Value.slice a0 len cap).cells.toList = some x) :
    (len = 0) ∨ ∃ (b off : Nat) (X : Nat → Nat), a0 = some ⟨b, off, none⟩ ∧ len ≤ cap ∧ cap ≤ 9223372036854775807 ∧ (∀ j, X j < 18446744073709551616) ∧ ∀ j, j < len → W.cell? ⟨b, off + j, none⟩ = some (.float .f64 (X j)) := by
  by_cases h0 : len = 0
  · exact Or.inl h0
  right
  rcases Deep.open_slice1 Tryd.underlying35 (by kernel_rfl) hf with ⟨hcs, -⟩ | ⟨a, len', cap', m, n, V, D, Pl, hcs, -, hl, hm, hmm, -, hV⟩
  · simp [Value.cells] at hcs; omega
  · simp [Value.cells] at hcs
    obtain ⟨rfl, rfl, rfl⟩ := hcs
    simp only [if_true] at hmm
    subst hmm
    obtain ⟨b, off, spot⟩ := a
    have hspot : spot = none := by simpa [Addr.add] using World.cell?_spot (hV 0 (by omega)).1
    subst hspot
    have hX : ∀ j, ∃ y, y < 18446744073709551616 ∧ (j < len → V j = .float .f64 y) := fun j => by
      by_cases hj : j < len
      · obtain ⟨y, e, hy⟩ := float_of_trod (hV j (by omega)).2
        exact ⟨y, hy, fun _ => e⟩
      · exact ⟨0, by decide, fun h => absurd h hj⟩
    refine ⟨b, off, fun j => Classical.choose (hX j), rfl, hl, by unfold maxLen at hm; omega, fun j => (Classical.choose_spec (hX j)).1, fun j hj => ?_⟩
    rw [← (Classical.choose_spec (hX j)).2 hj, ← add_plain]
    exact (hV j (by omega)).1
end Go.Proofs.YtmeohldomplegaaDoor
