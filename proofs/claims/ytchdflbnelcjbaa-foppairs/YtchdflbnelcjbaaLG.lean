/- A list of integers, and an integer, as arguments, opened. -/
import Derived.Test.YtchdflbnelcjbaaLE
import Derived.Test.YtchdflbnelcjbaaL
namespace Go.Proofs.Ytchdflbnelcjbaa
open Go.ChangeShapes Go.WideShapes Go.ChangeAt Go.RowKit Fo
set_option maxRecDepth 100000

theorem i64_wf {n : Int} (h : (Lit.int .i64 n).wf = true) : -9223372036854775808 ≤ n ∧ n ≤ 9223372036854775807 := by
  simp [Lit.wf, IntKind.min, IntKind.max, IntKind.signed, IntKind.bits] at h
  omega
theorem int_of_trod {H : Type} {enc : TypeId × Value → H} {w : World} {base : Nat} {sp : Nat → Bool} {held : Bool} {n : Nat} {v : Value} {x : DataW H × List MemPlace}
    (h : DataW.trod enc Try.prog w base sp held n 3 [v] = some x) : ∃ b, v = .int .i64 b ∧ -9223372036854775808 ≤ b ∧ b ≤ 9223372036854775807 := by
  cases n with
  | zero => simp [DataW.trod] at h
  | succ n =>
    simp only [DataW.trod, Try.underlying3] at h
    cases v <;> simp at h
    rename_i k b
    obtain ⟨⟨rfl, hw⟩, -⟩ := h
    exact ⟨b, rfl, i64_wf hw⟩
theorem open_ints {H : Type} {enc : TypeId × Value → H} {W : World} {fuel : Nat} {a0 : Option Addr} {len cap : Nat} {x : DataW H × List MemPlace}
    (hf : DataW.trod enc Try.prog W 0 (fun _ => true) true fuel 38 (Value.slice a0 len cap).cells.toList = some x) :
    ∃ X, Si W a0 len cap X := by
  rcases Deep.open_slice1 Try.underlying38 (by kernel_rfl) hf with ⟨hcs, -⟩ | ⟨a, len', cap', m, n, V, D, Pl, hcs, -, hl, hm, hmm, -, hV⟩
  · simp [Value.cells] at hcs
    obtain ⟨-, rfl, rfl⟩ := hcs
    exact ⟨fun _ => 0, Nat.le_refl _, by decide, fun _ => ⟨by show _ ≤ (0 : Int); decide, by show (0 : Int) ≤ _; decide⟩, Or.inl rfl⟩
  · simp [Value.cells] at hcs
    obtain ⟨rfl, rfl, rfl⟩ := hcs
    by_cases h0 : len = 0
    · exact ⟨fun _ => 0, hl, by unfold maxLen at hm; omega, fun _ => ⟨by show _ ≤ (0 : Int); decide, by show (0 : Int) ≤ _; decide⟩, Or.inl h0⟩
    simp only [if_true] at hmm
    subst hmm
    obtain ⟨b, off, spot⟩ := a
    have hspot : spot = none := by simpa [Addr.add] using World.cell?_spot (hV 0 (by omega)).1
    subst hspot
    have hX : ∀ j, ∃ y : Int, (-9223372036854775808 ≤ y ∧ y ≤ 9223372036854775807) ∧ (j < len → V j = .int .i64 y) := fun j => by
      by_cases hj : j < len
      · obtain ⟨y, e, hy⟩ := int_of_trod (hV j (by omega)).2
        exact ⟨y, hy, fun _ => e⟩
      · exact ⟨0, by decide, fun h => absurd h hj⟩
    refine ⟨fun j => Classical.choose (hX j), hl, by unfold maxLen at hm; omega, fun j => (Classical.choose_spec (hX j)).1, Or.inr ⟨b, off, rfl, fun j hj => ?_⟩⟩
    rw [← (Classical.choose_spec (hX j)).2 hj, ← add_plain]
    exact (hV j (by omega)).1
end Go.Proofs.Ytchdflbnelcjbaa
