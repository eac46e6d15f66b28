/- The laws' awake, out of what bail answers. -/
import Derived.Test.YtbgkfjelgnbfmaaGreatDoorBcl
import Derived.Shelf.Abstract
namespace Go.Proofs.YtbgkfjelgnbfmaaGreatDoor
open Go.RowKit Fo
set_option maxRecDepth 100000
set_option linter.unusedSimpArgs false

namespace Fo
/-- Nothing is in memory that is asked for. -/
def NoS (F : Nat → Prop) (_ : World) (_ : Unit) : Prop := ∀ b, ¬ F b
theorem nos_st : StF NoS := ⟨fun h _ _ => h, fun h b k => absurd k (h b)⟩
theorem nos (w : World) : NoS (fun _ => False) w () := fun _ h => h
theorem Lft.nos_below {w w' : World} {G : Nat → Prop} (h : Lft NoS (fun _ => False) w () G w') : Below w.heap.size w w' := h.2.2.below (Nat.le_refl _) fun _ _ h => h
theorem EnIn.of_no {lo : Nat} {w : World} {r : En} {e : Ending} {G : Nat → Prop} (h : EnIn lo (fun _ => False) w r e) (hG : ∀ b, G b → b < lo) : EnIn lo G w r e := by
  rcases h with h | ⟨v, old, h1, h2, h3⟩
  · exact Or.inl h
  · refine Or.inr ⟨v, old, h1, h2, ?_⟩
    cases r with
    | bail c a =>
      obtain ⟨b, e, hb, hf, hlo⟩ := h3
      exact ⟨b, e, hb, fun k => by have := hG b k; omega, hlo⟩
    | ret => exact h3
    | num n => exact h3
    | nilB => exact h3
/-- A world in which only new blocks came holds what it held. -/
theorem StF.below {α : Type} {S : (Nat → Prop) → World → α → Prop} (hS : StF S) {F : Nat → Prop} {w w' : World} {x : α} (h : S F w x) (hb : Below w.heap.size w w') : S F w' x := hS.frame h (Kp.of_below (F := fun _ => False) hb) fun _ _ h => h
theorem StF.lft {α : Type} {S : (Nat → Prop) → World → α → Prop} (hS : StF S) {F : Nat → Prop} {w w' : World} {x : α} (h : S F w x) (hb : Below w.heap.size w w') : Lft S F w x F w' := ⟨hS.below h hb, fun _ h => Or.inl h, Kp.of_below hb⟩
end Fo
end Go.Proofs.YtbgkfjelgnbfmaaGreatDoor
