/- Bytes as an argument, opened. -/
import Derived.Test.YtklkcnpcjmeejaaDoorOpn
import Derived.Test.YtklkcnpcjmeejaaDoorIsd
namespace Go.Proofs.YtklkcnpcjmeejaaDoor
open Go.ChangeShapes Go.WideShapes Go.ChangeAt Go.RowKit Fo
set_option maxRecDepth 100000

theorem u8_of_trod {H : Type} {enc : TypeId × Value → H} {w : World} {base : Nat} {sp : Nat → Bool} {held : Bool} {n : Nat} {v : Value} {x : DataW H × List MemPlace}
    (h : DataW.trod enc Tryd.prog w base sp held n 5 [v] = some x) : ∃ b : Nat, v = .int .u8 (b : Int) ∧ b < 256 := by
  cases n with
  | zero => simp [DataW.trod] at h
  | succ n =>
    simp only [DataW.trod, Tryd.underlying5] at h
    cases v <;> simp at h
    rename_i k b
    obtain ⟨⟨rfl, hw⟩, -⟩ := h
    simp [Lit.wf, IntKind.min, IntKind.max, IntKind.signed, IntKind.bits] at hw
    exact ⟨b.toNat, by congr 1; omega, by omega⟩
theorem open_bytes {H : Type} {enc : TypeId × Value → H} {W : World} {fuel : Nat} {a : Option Addr} {n c : Nat} {x : DataW H × List MemPlace}
    (hf : DataW.trod enc Tryd.prog W 0 (fun _ => true) true fuel 34 (Value.slice a n c).cells.toList = some x) :
    ∃ L, Rd W a n c (u8s L) ∧ ∀ j, L j < 256 := by
  have h0 : ∀ j : Nat, (fun _ : Nat => 0) j < 256 := fun _ => by show 0 < 256; decide
  rcases Deep.open_slice1 Tryd.underlying34 (by kernel_rfl) hf with ⟨hcs, -⟩ | ⟨ad, len, cap, m, k, V, D, Pl, hcs, -, hl, hm, hmm, -, hV⟩
  · have e : Value.slice a n c = .slice none 0 0 := by simpa [Value.cells] using hcs
    obtain ⟨rfl, rfl, rfl⟩ : a = none ∧ n = 0 ∧ c = 0 := by simpa using e
    exact ⟨fun _ => 0, Rd.empty _ _ _ (by decide) _, h0⟩
  · have e : Value.slice a n c = .slice (some ad) len cap := by simpa [Value.cells] using hcs
    obtain ⟨rfl, rfl, rfl⟩ : a = some ad ∧ n = len ∧ c = cap := by simpa using e
    by_cases hz : n = 0
    · exact ⟨fun _ => 0, ⟨hl, by unfold maxLen at hm; omega, Or.inl hz⟩, h0⟩
    simp only [if_true] at hmm
    subst hmm
    obtain ⟨b, off, spot⟩ := ad
    have hspot : spot = none := by simpa [Addr.add] using World.cell?_spot (hV 0 (by omega)).1
    subst hspot
    have hX : ∀ j, ∃ y : Nat, y < 256 ∧ (j < n → V j = .int .u8 (y : Int)) := fun j => by
      by_cases hj : j < n
      · obtain ⟨y, e, hy⟩ := u8_of_trod (hV j (by omega)).2
        exact ⟨y, hy, fun _ => e⟩
      · exact ⟨0, by decide, fun h => absurd h hj⟩
    refine ⟨fun j => Classical.choose (hX j), ⟨hl, by unfold maxLen at hm; omega, Or.inr ⟨b, off, rfl, fun j hj => ?_⟩⟩, fun j => (Classical.choose_spec (hX j)).1⟩
    unfold u8s
    rw [← (Classical.choose_spec (hX j)).2 hj, ← add_off]
    exact (hV j (by omega)).1
end Go.Proofs.YtklkcnpcjmeejaaDoor
