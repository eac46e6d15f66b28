/- A number as an argument, opened; and that it is as it was. -/
import Derived.Test.YtjdbapkmaggllaaDoorMem
import Derived.ProofKit
import Derived.OpenShut
import Derived.Deep.Slices
namespace Go.Proofs.YtjdbapkmaggllaaDoor
open Go.ChangeShapes Go.WideShapes Go.ChangeAt Go.RowKit Fo
set_option maxRecDepth 100000

theorem laidOut : laidOutB Tryd.prog = true := by kernel_rfl
theorem u32_of_trod {H : Type} {enc : TypeId × Value → H} {w : World} {base : Nat} {sp : Nat → Bool} {held : Bool} {n : Nat} {v : Value} {x : DataW H × List MemPlace}
    (h : DataW.trod enc Tryd.prog w base sp held n 59 [v] = some x) : ∃ b : Nat, v = .int .u32 (b : Int) ∧ b < 4294967296 := by
  cases n with
  | zero => simp [DataW.trod] at h
  | succ n =>
    simp only [DataW.trod, Tryd.underlying59] at h
    cases v <;> simp at h
    rename_i k b
    obtain ⟨⟨rfl, hw⟩, -⟩ := h
    simp [Lit.wf, IntKind.min, IntKind.max, IntKind.signed, IntKind.bits] at hw
    exact ⟨b.toNat, by congr 1; omega, by omega⟩
theorem open_u32s {H : Type} {enc : TypeId × Value → H} {W : World} {fuel : Nat} {cs : List Value} {x : DataW H × List MemPlace}
    (hf : DataW.trod enc Tryd.prog W 0 (fun _ => true) true fuel 22 cs = some x) :
    ∃ a n c L, cs = [.slice a n c] ∧ Rd W a n c (u32s L) ∧ ∀ j, L j < 4294967296 := by
  rcases Deep.open_slice1 Tryd.underlying22 (by kernel_rfl) hf with ⟨hcs, -⟩ | ⟨a, len, cap, m, n, V, D, Pl, hcs, -, hl, hm, hmm, -, hV⟩
  · exact ⟨none, 0, 0, fun _ => 0, hcs, Rd.empty _ _ _ (by decide) _, fun _ => Nat.lt_of_lt_of_le Nat.zero_lt_one (by decide)⟩
  · by_cases h0 : len = 0
    · exact ⟨some a, len, cap, fun _ => 0, hcs, ⟨hl, by unfold maxLen at hm; omega, Or.inl h0⟩, fun _ => Nat.lt_of_lt_of_le Nat.zero_lt_one (by decide)⟩
    simp only [if_true] at hmm
    subst hmm
    obtain ⟨b, off, spot⟩ := a
    have hspot : spot = none := by simpa [Addr.add] using World.cell?_spot (hV 0 (by omega)).1
    subst hspot
    have hX : ∀ j, ∃ y : Nat, y < 4294967296 ∧ (j < len → V j = .int .u32 (y : Int)) := fun j => by
      by_cases hj : j < len
      · obtain ⟨y, e, hy⟩ := u32_of_trod (hV j (by omega)).2
        exact ⟨y, hy, fun _ => e⟩
      · exact ⟨0, by decide, fun h => absurd h hj⟩
    refine ⟨some ⟨b, off, none⟩, len, _, fun j => Classical.choose (hX j), hcs, ⟨hl, by unfold maxLen at hm; omega, Or.inr ⟨b, off, rfl, fun j hj => ?_⟩⟩, fun j => (Classical.choose_spec (hX j)).1⟩
    unfold u32s
    rw [← (Classical.choose_spec (hX j)).2 hj, ← add_off]
    exact (hV j (by omega)).1
/-- A number that comes in. -/
theorem open_nat {H : Type} {enc : TypeId × Value → H} {W : World} {base : Nat} {fuel : Nat} {v : Value} {x : DataW H × List MemPlace} (hv : Value.okWide Tryd.prog W .any base 24 v)
    (hf : DataW.trod enc Tryd.prog W 0 (fun _ => true) true fuel 24 v.cells.toList = some x) :
    ∃ i a n c L, v = .agg #[.bool i, .slice a n c] ∧ Rd W a n c (u32s L) ∧ ∀ j, L j < 4294967296 := by
  obtain ⟨cs, rfl, -⟩ := okWide_struct Tryd.underlying24 hv
  obtain ⟨y0, y1, n, -, hlen, h0, h1⟩ := trod_struct2 Tryd.underlying24 hf
  obtain ⟨l⟩ := cs
  have hl2 : l.length = 2 := hlen
  match l, hl2 with
  | [p, q], _ =>
    have e1 : DataW.trod enc Tryd.prog W 0 (fun _ => true) true n 22 [q] = some y1 := h1
    have e0 : DataW.trod enc Tryd.prog W 0 (fun _ => true) true n 4 [p] = some y0 := h0
    obtain ⟨a, k, c, L, e, hr, hL⟩ := open_u32s e1
    obtain rfl : q = .slice a k c := by simpa using e
    obtain ⟨i, rfl⟩ : ∃ i, p = .bool i := by
      cases n with
      | zero => simp [DataW.trod] at e0
      | succ n =>
        simp only [DataW.trod, Tryd.underlying4] at e0
        cases p <;> simp at e0
        exact ⟨_, rfl⟩
    exact ⟨i, a, k, c, L, rfl, hr, hL⟩
theorem nat_stays {H : Type} {enc : TypeId × Value → H} {W W' : World} {v : Value} {d : DataW H} {p : List MemPlace} (sp : Nat → Bool)
    (h : DataW.Trod enc Tryd.prog W 0 (fun _ => true) true 24 v d p) (hs : ∀ x ∈ p, W.sameAt W' x) (hsp : ∀ x ∈ p, sp x.block = true) : DataW.Trod enc Tryd.prog W' 0 sp true 24 v d p :=
  WideElems.Trod_stays laidOut (by kernel_rfl) (of_decide_eq_true (by kernel_rfl)) h hs hsp
end Go.Proofs.YtjdbapkmaggllaaDoor
