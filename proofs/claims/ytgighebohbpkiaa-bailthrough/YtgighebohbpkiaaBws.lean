/- The law's world in memory: what was noted, and the meter. -/
import Derived.Test.YtgighebohbpkiaaBwt
namespace Go.Proofs.Ytgighebohbpkiaa
open Go.RowKit Fo
set_option maxRecDepth 100000
set_option linter.unusedSimpArgs false

namespace Fo
theorem Lft.trans {α : Type} {S : (Nat → Prop) → World → α → Prop} {F G H : Nat → Prop} {w w1 w2 : World} {y z : α} (h : Lft S F w y G w1) (k : Lft S G w1 z H w2) : Lft S F w z H w2 :=
  ⟨k.1, fun b hb => (k.2.1 b hb).elim (h.2.1 b) fun q => Or.inr (Nat.le_trans h.2.2.size q), h.2.2.trans k.2.2 fun b hb hg => (h.2.1 b hg).elim id fun q => by omega⟩
theorem Lft.of_below {α : Type} {S : (Nat → Prop) → World → α → Prop} {F : Nat → Prop} {w w1 w2 : World} {z : α} {H : Nat → Prop} (hb : Below w.heap.size w w1) (k : Lft S F w1 z H w2) : Lft S F w z H w2 :=
  ⟨k.1, fun b hb' => (k.2.1 b hb').imp id fun q => Nat.le_trans hb.size q, (Kp.of_below (F := F) hb).trans k.2.2 fun _ _ h => h⟩
theorem EnIn.lower {lo lo' : Nat} {F : Nat → Prop} {w : World} {r : En} {e : Ending} (h : EnIn lo F w r e) (hl : lo' ≤ lo) : EnIn lo' F w r e := by
  rcases h with h | ⟨v, old, h1, h2, h3⟩
  · exact Or.inl h
  · refine Or.inr ⟨v, old, h1, h2, ?_⟩
    cases r with
    | bail c a =>
      obtain ⟨b, e, hb, hf, hlo⟩ := h3
      exact ⟨b, e, hb, hf, Nat.le_trans hl hlo⟩
    | ret => exact h3
    | num n => exact h3
    | nilB => exact h3
theorem Fins.of_below {α : Type} {S : (Nat → Prop) → World → α → Prop} {F : Nat → Prop} {w w1 : World} {r : En} {y : α} {e : Ending} {w2 : World} (hb : Below w.heap.size w w1) (h : Fins S F w1 r y e w2) : Fins S F w r y e w2 := by
  obtain ⟨G, hl, he⟩ := h
  exact ⟨G, hl.of_below hb, he.lower hb.size⟩
theorem Fins.trans {α : Type} {S : (Nat → Prop) → World → α → Prop} {F G : Nat → Prop} {w w1 : World} {r : En} {y z : α} {e : Ending} {w2 : World} (h : Lft S F w y G w1) (k : Fins S G w1 r z e w2) : Fins S F w r z e w2 := by
  obtain ⟨H, hl, he⟩ := k
  exact ⟨H, h.trans hl, he.lower h.2.2.size⟩
/-- The law's world, with its parts. -/
structure WX (M : (Nat → Prop) → World → Value → Int → Prop) (lo bw : Nat) (F : Nat → Prop) (w : World) (x : St) (a : Option Addr) (c : Nat) (p : Option Addr) (FM : Nat → Prop) : Prop where
  hb : w.heap[bw]? = some (.cells #[.slice a x.notes.length c, .pointer p] 32)
  ow : Ow 3 0 w (.slice a x.notes.length c) x.notes.length (ivs (gt x.notes))
  row : ∀ g, (Value.slice a x.notes.length c).ownBlock = some g → F g ∧ ¬ FM g
  m : M FM w (.pointer p) x.left
  sub : ∀ b, FM b → F b
  nb : ¬ FM bw
  own : F bw
  lt : ∀ b, F b → b < w.heap.size
  lo : ∀ b, F b → lo ≤ b
def WS (M : (Nat → Prop) → World → Value → Int → Prop) (lo bw : Nat) (F : Nat → Prop) (w : World) (x : St) : Prop := ∃ a c p FM, WX M lo bw F w x a c p FM
theorem ws_st {M : (Nat → Prop) → World → Value → Int → Prop} (D : MeterSays M) (lo bw : Nat) : StF (WS M lo bw) := by
  refine ⟨fun h hk hG => ?_, fun h => ?_⟩
  · obtain ⟨a, c, p, FM, h⟩ := h
    exact ⟨a, c, p, FM, hk.heap h.hb (hG _ h.own), h.ow.kp hk fun g hg => hG g (h.row g hg).1, h.row, D.frame h.m hk fun b hb => hG b (h.sub b hb), h.sub, h.nb, h.own, fun b hb => Nat.lt_of_lt_of_le (h.lt b hb) hk.size, h.lo⟩
  · obtain ⟨a, c, p, FM, h⟩ := h
    exact h.lt
theorem ws_put {M : (Nat → Prop) → World → Value → Int → Prop} (D : MeterSays M) {lo bw : Nat} {F FM : Nat → Prop} {w w7 : World} {x : St} {a a7 p : Option Addr} {c c7 N g7 : Nat} {l : List Int} (hlo : lo ≤ w.heap.size) (h : WX M lo bw F w x a c p FM) (hN : N = x.notes.length + l.length)
    (hO7 : Ow 3 0 w7 (.slice a7 N c7) N (ivs (gt (x.notes ++ l)))) (hK7 : Kp (fun b => (Value.slice a x.notes.length c).ownBlock = some b) w w7) (hg7 : w.heap.size ≤ g7) (hA7 : (Value.slice a7 N c7).ownBlock = (Value.slice a x.notes.length c).ownBlock ∨ (Value.slice a7 N c7).ownBlock = some g7) :
    w7.heap[bw]? = some (.cells #[.slice a x.notes.length c, .pointer p] 32) ∧ ∃ G, Lft (WS M lo bw) F w (x.note l) G (w7.setCell ⟨bw, 0, none⟩ (.slice a7 N c7)) := by
  have hne : ¬ (Value.slice a x.notes.length c).ownBlock = some bw := fun e => (h.ow.far h.hb (by decide) _ e) rfl
  have k7 := hK7.heap h.hb hne
  refine ⟨k7, ?_⟩
  have hz : (w7.setCell ⟨bw, 0, none⟩ (.slice a7 N c7)).heap.size = w7.heap.size := by simp [World.setCell]
  have hlt7 := hK7.size
  have hks : Kp (fun b => b = bw) w7 (w7.setCell ⟨bw, 0, none⟩ (.slice a7 N c7)) := (Kp.refl (fun b => b = bw) w7).set (Or.inl rfl) _
  have hKF : Kp F w w7 := hK7.mono fun b _ e => (h.row b e).1
  refine ⟨fun b => F b ∨ (w.heap.size ≤ b ∧ b < w7.heap.size), ⟨⟨a7, c7, p, FM, ?_, ?_, fun g hg => ?_, ?_, fun b hb => Or.inl (h.sub b hb), h.nb, Or.inl h.own, fun b hb => ?_, fun b hb => ?_⟩, fun b hb => hb.imp id And.left, hKF.set (Or.inl h.own) _⟩⟩
  · have hl : (x.note l).notes.length = N := by simp [St.note, hN]
    rw [hl]
    simp [World.setCell, Array.getElem?_modify, k7]
  · have hl : (x.note l).notes.length = N := by simp [St.note, hN]
    rw [hl]
    exact hO7.kp hks fun g hg e => (hO7.far k7 (by decide) g hg) e
  · have hl : (x.note l).notes.length = N := by simp [St.note, hN]
    rw [hl] at hg
    rcases hA7 with e | e
    · rw [e] at hg
      exact ⟨Or.inl (h.row g hg).1, (h.row g hg).2⟩
    · have h1 := hO7.ltb g hg
      have h2 : g7 = g := by rw [e] at hg; simpa using hg
      exact ⟨Or.inr ⟨by omega, h1⟩, fun k => by have := D.lt h.m g k; omega⟩
  · refine D.frame (D.frame h.m hK7 fun b hb e => (h.row b e).2 hb) hks fun b hb e => h.nb (e ▸ hb)
  · rw [hz]
    rcases hb with k | k
    · exact Nat.lt_of_lt_of_le (h.lt b k) hlt7
    · exact k.2
  · rcases hb with k | k
    · exact h.lo b k
    · omega
theorem ws_use {M : (Nat → Prop) → World → Value → Int → Prop} {lo bw : Nat} {F FM : Nat → Prop} {w w' : World} {x : St} {a p : Option Addr} {c : Nat} {l : Int} (h : WX M lo bw F w x a c p FM) (hk : Kp FM w w') (hm : M FM w' (.pointer p) l) : Lft (WS M lo bw) F w ⟨x.notes, l⟩ F w' :=
  ⟨⟨a, c, p, FM, hk.heap h.hb h.nb, h.ow.kp hk fun g hg => (h.row g hg).2, h.row, hm, h.sub, h.nb, h.own, fun b hb => Nat.lt_of_lt_of_le (h.lt b hb) hk.size, h.lo⟩, fun _ h => Or.inl h, hk.mono fun b _ hb => h.sub b hb⟩
theorem EnIn.grow {lo : Nat} {w : World} {r : En} {e : Ending} {G F : Nat → Prop} (h : EnIn lo G w r e) (hF : ∀ b, F b → b < lo) : EnIn lo F w r e := by
  rcases h with h | ⟨v, old, h1, h2, h3⟩
  · exact Or.inl h
  · refine Or.inr ⟨v, old, h1, h2, ?_⟩
    cases r with
    | bail c a =>
      obtain ⟨b, e, hb, hf, hlo⟩ := h3
      exact ⟨b, e, hb, fun k => by have := hF b k; omega, hlo⟩
    | ret => exact h3
    | num n => exact h3
    | nilB => exact h3
theorem kf_no {M : (Nat → Prop) → World → Value → Int → Prop} {lo bw : Nat} {F FM : Nat → Prop} {w : World} {x : St} {a p : Option Addr} {c : Nat} (h : WX M lo bw F w x a c p FM) {blk : Nat} {cs : Array Value} {T : TypeId} {fr : Nat × Nat} (hq : w.heap[blk]? = some (.cells cs T fr)) (h1 : T ≠ 3) (h2 : T ≠ 32) :
    ¬ ((Value.slice a x.notes.length c).ownBlock = some blk ∨ blk = bw) := by
  rintro (e | rfl)
  · exact (h.ow.far hq h1 _ e) rfl
  · have := h.hb
    rw [hq] at this
    injection this with this
    injection this with _ this
    exact h2 this
end Fo
theorem row_rd {w : World} {g n : Nat} {cs : Array Value} {t : TypeId} {V : Nat → Value} (hg : w.heap[g]? = some (.cells cs t)) (hn : n ≤ 1000) (hV : ∀ j, j < n → cs[j]? = some (V j)) : Rd w (some ⟨g, 0, none⟩) n n V :=
  ⟨Nat.le_refl _, by omega, Or.inr ⟨g, 0, rfl, fun j hj => by rw [Nat.zero_add, cell_of_row w g j _ _ _ hg]; exact hV j hj⟩⟩
end Go.Proofs.Ytgighebohbpkiaa
