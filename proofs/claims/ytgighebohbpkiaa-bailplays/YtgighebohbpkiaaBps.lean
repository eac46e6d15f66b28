/- The law's plain side in memory: what was noted, and what is left. -/
import Derived.Test.YtgighebohbpkiaaBws
namespace Go.Proofs.Ytgighebohbpkiaa
open Go.RowKit Fo
set_option maxRecDepth 100000
set_option linter.unusedSimpArgs false
set_option linter.unusedVariables false

namespace Fo
def enV : En → Value
  | .ret => .agg #[.int .i64 0, .int .i64 0, .int .i64 0]
  | .bail c a => .agg #[.int .i64 1, .int .i64 c, .int .i64 a]
  | .num n => .agg #[.int .i64 2, .int .i64 0, .int .i64 n]
  | .nilB => .agg #[.int .i64 0, .int .i64 0, .int .i64 0]
/-- The plain side, with its parts. -/
structure PX (lo pb : Nat) (F : Nat → Prop) (w : World) (x : St) (a : Option Addr) (c : Nat) : Prop where
  hb : w.heap[pb]? = some (.cells #[.slice a x.notes.length c, .int .i64 x.left] 35)
  ow : Ow 3 0 w (.slice a x.notes.length c) x.notes.length (ivs (gt x.notes))
  row : ∀ g, (Value.slice a x.notes.length c).ownBlock = some g → F g
  own : F pb
  lt : ∀ b, F b → b < w.heap.size
  lo : ∀ b, F b → lo ≤ b
def PS (lo pb : Nat) (F : Nat → Prop) (w : World) (x : St) : Prop := ∃ a c, PX lo pb F w x a c
theorem ps_st (lo pb : Nat) : StF (PS lo pb) := by
  refine ⟨fun h hk hG => ?_, fun h => ?_⟩
  · obtain ⟨a, c, h⟩ := h
    exact ⟨a, c, hk.heap h.hb (hG _ h.own), h.ow.kp hk fun g hg => hG g (h.row g hg), h.row, h.own, fun b hb => Nat.lt_of_lt_of_le (h.lt b hb) hk.size, h.lo⟩
  · obtain ⟨a, c, h⟩ := h
    exact h.lt
theorem ps_put {lo pb : Nat} {F : Nat → Prop} {w w7 : World} {x : St} {a a7 : Option Addr} {c c7 N g7 : Nat} {l : List Int} (hlo : lo ≤ w.heap.size) (h : PX lo pb F w x a c) (hN : N = x.notes.length + l.length)
    (hO7 : Ow 3 0 w7 (.slice a7 N c7) N (ivs (gt (x.notes ++ l)))) (hK7 : Kp (fun b => (Value.slice a x.notes.length c).ownBlock = some b) w w7) (hg7 : w.heap.size ≤ g7) (hA7 : (Value.slice a7 N c7).ownBlock = (Value.slice a x.notes.length c).ownBlock ∨ (Value.slice a7 N c7).ownBlock = some g7) :
    w7.heap[pb]? = some (.cells #[.slice a x.notes.length c, .int .i64 x.left] 35) ∧ ∃ G, Lft (PS lo pb) F w (x.note l) G (w7.setCell ⟨pb, 0, none⟩ (.slice a7 N c7)) := by
  have hne : ¬ (Value.slice a x.notes.length c).ownBlock = some pb := fun e => (h.ow.far h.hb (by decide) _ e) rfl
  have k7 := hK7.heap h.hb hne
  refine ⟨k7, ?_⟩
  have hz : (w7.setCell ⟨pb, 0, none⟩ (.slice a7 N c7)).heap.size = w7.heap.size := by simp [World.setCell]
  have hlt7 := hK7.size
  have hks : Kp (fun b => b = pb) w7 (w7.setCell ⟨pb, 0, none⟩ (.slice a7 N c7)) := (Kp.refl (fun b => b = pb) w7).set (Or.inl rfl) _
  have hKF : Kp F w w7 := hK7.mono fun b _ e => h.row b e
  have hl : (x.note l).notes.length = N := by simp [St.note, hN]
  refine ⟨fun b => F b ∨ (w.heap.size ≤ b ∧ b < w7.heap.size), ⟨⟨a7, c7, ?_, ?_, fun g hg => ?_, Or.inl h.own, fun b hb => ?_, fun b hb => ?_⟩, fun b hb => hb.imp id And.left, hKF.set (Or.inl h.own) _⟩⟩
  · rw [hl]
    simp [World.setCell, Array.getElem?_modify, k7, St.note]
  · rw [hl]
    exact hO7.kp hks fun g hg e => (hO7.far k7 (by decide) g hg) e
  · rw [hl] at hg
    rcases hA7 with e | e
    · rw [e] at hg
      exact Or.inl (h.row g hg)
    · have h1 := hO7.ltb g hg
      have h2 : g7 = g := by rw [e] at hg; simpa using hg
      exact Or.inr ⟨by omega, h1⟩
  · rw [hz]
    rcases hb with k | k
    · exact Nat.lt_of_lt_of_le (h.lt b k) hlt7
    · exact k.2
  · rcases hb with k | k
    · exact h.lo b k
    · omega
theorem kf_noP {lo pb : Nat} {F : Nat → Prop} {w : World} {x : St} {a : Option Addr} {c : Nat} (h : PX lo pb F w x a c) {blk : Nat} {cs : Array Value} {T : TypeId} {fr : Nat × Nat} (hq : w.heap[blk]? = some (.cells cs T fr)) (h1 : T ≠ 3) (h2 : T ≠ 35) :
    ¬ ((Value.slice a x.notes.length c).ownBlock = some blk ∨ blk = pb) := by
  rintro (e | rfl)
  · exact (h.ow.far hq h1 _ e) rfl
  · have := h.hb
    rw [hq] at this
    injection this with this
    injection this with _ this
    exact h2 this
/-- Three stores into a variable of three cells. -/
theorem st3 {w : World} {r : Nat} {a b c : Value} {T : TypeId} (h : w.heap[r]? = some (.cells #[a, b, c] T)) (v0 v1 v2 : Value) :
    w.cell? ⟨r, 0, none⟩ = some a ∧ w.frozen? ⟨r, 0, none⟩ = false ∧ (w.setCell ⟨r, 0, none⟩ v0).cell? ⟨r, 1, none⟩ = some b ∧ (w.setCell ⟨r, 0, none⟩ v0).frozen? ⟨r, 1, none⟩ = false ∧
    ((w.setCell ⟨r, 0, none⟩ v0).setCell ⟨r, 1, none⟩ v1).cell? ⟨r, 2, none⟩ = some c ∧ ((w.setCell ⟨r, 0, none⟩ v0).setCell ⟨r, 1, none⟩ v1).frozen? ⟨r, 2, none⟩ = false ∧
    (((w.setCell ⟨r, 0, none⟩ v0).setCell ⟨r, 1, none⟩ v1).setCell ⟨r, 2, none⟩ v2).heap[r]? = some (.cells #[v0, v1, v2] T) ∧ Kp (fun b => b = r) w (((w.setCell ⟨r, 0, none⟩ v0).setCell ⟨r, 1, none⟩ v1).setCell ⟨r, 2, none⟩ v2) := by
  have h1 : (w.setCell ⟨r, 0, none⟩ v0).heap[r]? = some (.cells #[v0, b, c] T) := by simp [World.setCell, Array.getElem?_modify, h]
  have h2 : ((w.setCell ⟨r, 0, none⟩ v0).setCell ⟨r, 1, none⟩ v1).heap[r]? = some (.cells #[v0, v1, c] T) := by
    generalize w.setCell ⟨r, 0, none⟩ v0 = w1 at h1 ⊢
    simp [World.setCell, Array.getElem?_modify, h1]
  refine ⟨by rw [cell_of_row _ _ _ _ _ _ h]; rfl, by simp [World.frozen?, h], by rw [cell_of_row _ _ _ _ _ _ h1]; rfl, by simp [World.frozen?, h1], by rw [cell_of_row _ _ _ _ _ _ h2]; rfl, by simp [World.frozen?, h2], ?_, ?_⟩
  · generalize (w.setCell ⟨r, 0, none⟩ v0).setCell ⟨r, 1, none⟩ v1 = w2 at h2 ⊢
    simp [World.setCell, Array.getElem?_modify, h2]
  · exact (((Kp.refl (fun b => b = r) w).set (p := ⟨r, 0, none⟩) (Or.inl rfl) _).set (p := ⟨r, 1, none⟩) (Or.inl rfl) _).set (p := ⟨r, 2, none⟩) (Or.inl rfl) _
theorem Lft.box {α : Type} {S : (Nat → Prop) → World → α → Prop} (hS : StF S) {F H : Nat → Prop} {w w9 w10 : World} {y : α} {r : Nat} (h : Lft S F w y H w9) (k : Kp (fun b => b = r) w9 w10) (hr : w.heap.size ≤ r) (hn : ¬ H r) : Lft S F w y H w10 :=
  ⟨hS.frame h.1 k fun b hb e => hn (e ▸ hb), h.2.1, h.2.2.trans k fun b hb e => by omega⟩
theorem Kp.drewK {F : Nat → Prop} {w w' : World} (h : Kp F w w') : Kp F w w'.drew := h.trans (Kp.of_below (F := F) (below_refl w').drew) fun _ _ h => h
theorem Lft.drewL {α : Type} {S : (Nat → Prop) → World → α → Prop} (hS : StF S) {F G : Nat → Prop} {w w' : World} {y : α} (h : Lft S F w y G w') : Lft S F w y G w'.drew := ⟨hS.drew h.1, h.2.1, h.2.2.drewK⟩
/-- What is left less. -/
theorem ps_less {lo pb : Nat} {F : Nat → Prop} {w w' : World} {x : St} {a : Option Addr} {c : Nat} {l : Int} (h : PX lo pb F w x a c) (hk : Below w.heap.size w w') : Lft (PS lo pb) F w ⟨x.notes, l⟩ F (w'.setCell ⟨pb, 1, none⟩ (.int .i64 l)) := by
  have k7 := (hk.block _ (lt_of_heap h.hb)).trans h.hb
  have hks : Kp (fun b => b = pb) w' (w'.setCell ⟨pb, 1, none⟩ (.int .i64 l)) := (Kp.refl (fun b => b = pb) w').set (Or.inl rfl) _
  refine ⟨⟨a, c, ?_, ?_, h.row, h.own, fun b hb => ?_, h.lo⟩, fun _ h => Or.inl h, (Kp.of_below (F := F) hk).set (Or.inl h.own) _⟩
  · simp [World.setCell, Array.getElem?_modify, k7]
  · exact (h.ow.below hk).kp hks fun g hg e => (h.ow.far h.hb (by decide) g hg) e
  · have := h.lt b hb
    have := hk.size
    simp [World.setCell]
    omega
end Fo
end Go.Proofs.Ytgighebohbpkiaa
