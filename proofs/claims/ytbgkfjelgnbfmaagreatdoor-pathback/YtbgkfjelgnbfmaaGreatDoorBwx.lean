/- How calls that leave something end: one behind another. -/
import Derived.Test.YtbgkfjelgnbfmaaGreatDoorBaw
namespace Go.Proofs.YtbgkfjelgnbfmaaGreatDoor
open Go.RowKit Fo
set_option maxRecDepth 100000

namespace Fo
theorem Lft.trans {α : Type} {S : (Nat → Prop) → World → α → Prop} {F G H : Nat → Prop} {w w1 w2 : World} {y z : α} (h : Lft S F w y G w1) (k : Lft S G w1 z H w2) : Lft S F w z H w2 :=
  ⟨k.1, fun b hb => (k.2.1 b hb).elim (h.2.1 b) fun q => Or.inr (Nat.le_trans h.2.2.size q), h.2.2.trans k.2.2 fun b hb hg => (h.2.1 b hg).elim id fun q => by omega⟩
theorem Lft.of_below {α : Type} {S : (Nat → Prop) → World → α → Prop} {F : Nat → Prop} {w w1 w2 : World} {z : α} {H : Nat → Prop} (hb : Below w.heap.size w w1) (k : Lft S F w1 z H w2) : Lft S F w z H w2 :=
  ⟨k.1, fun b hb' => (k.2.1 b hb').imp id fun q => Nat.le_trans hb.size q, (Kp.of_below (F := F) hb).trans k.2.2 fun _ _ h => h⟩
theorem EnIn.lower {lo lo' : Nat} {F : Nat → Prop} {w : World} {r : En} {e : Ending} (h : EnIn lo F w r e) (hl : lo' ≤ lo) : EnIn lo' F w r e := by
  rcases h with h | ⟨v, old, h1, h2, h3⟩
  · exact Or.inl h
  · refine Or.inr ⟨v, old, h1, h2, ?_⟩
    cases r with
    | bail c a =>
      obtain ⟨b, e, hb, hf, hlo⟩ := h3
      exact ⟨b, e, hb, hf, Nat.le_trans hl hlo⟩
    | ret => exact h3
    | num n => exact h3
    | nilB => exact h3
theorem Fins.of_below {α : Type} {S : (Nat → Prop) → World → α → Prop} {F : Nat → Prop} {w w1 : World} {r : En} {y : α} {e : Ending} {w2 : World} (hb : Below w.heap.size w w1) (h : Fins S F w1 r y e w2) : Fins S F w r y e w2 := by
  obtain ⟨G, hl, he⟩ := h
  exact ⟨G, hl.of_below hb, he.lower hb.size⟩
theorem Fins.trans {α : Type} {S : (Nat → Prop) → World → α → Prop} {F G : Nat → Prop} {w w1 : World} {r : En} {y z : α} {e : Ending} {w2 : World} (h : Lft S F w y G w1) (k : Fins S G w1 r z e w2) : Fins S F w r z e w2 := by
  obtain ⟨H, hl, he⟩ := k
  exact ⟨H, h.trans hl, he.lower h.2.2.size⟩
theorem EnIn.grow {lo : Nat} {w : World} {r : En} {e : Ending} {G F : Nat → Prop} (h : EnIn lo G w r e) (hF : ∀ b, F b → b < lo) : EnIn lo F w r e := by
  rcases h with h | ⟨v, old, h1, h2, h3⟩
  · exact Or.inl h
  · refine Or.inr ⟨v, old, h1, h2, ?_⟩
    cases r with
    | bail c a =>
      obtain ⟨b, e, hb, hf, hlo⟩ := h3
      exact ⟨b, e, hb, fun k => by have := hF b k; omega, hlo⟩
    | ret => exact h3
    | num n => exact h3
    | nilB => exact h3
end Fo
end Go.Proofs.YtbgkfjelgnbfmaaGreatDoor
