/- Worlds in which only some blocks are touched. Free of any program. -/
import Derived.Test.YtbgkfjelgnbfmaaGreatDoorOwr
namespace Go.Proofs.YtbgkfjelgnbfmaaGreatDoor
open Go.RowKit Fo
set_option maxRecDepth 100000

theorem heap_new0 (w : World) (o : Obj) : (w.alloc o).heap[w.heap.size]? = some o := by
  show (w.heap.push o)[w.heap.size]? = _
  simp
theorem heap_new1 (w : World) (o : Obj) : (w.alloc o).heap[w.heap.size]? = some o := heap_new0 _ _
theorem heap_new2 (w : World) (o1 o2 : Obj) : ((w.alloc o1).alloc o2).heap[w.heap.size]? = some o1 := by rw [Below.heap_alloc _ _ _ (by simp)]; exact heap_new0 _ _
theorem heap_new3 (w : World) (o1 o2 o3 : Obj) : (((w.alloc o1).alloc o2).alloc o3).heap[w.heap.size]? = some o1 := by rw [Below.heap_alloc _ _ _ (by simp <;> omega)]; exact heap_new2 w _ _
theorem below1 (w : World) (o : Obj) : Below w.heap.size w (w.alloc o) := (below_refl w).alloc (Nat.le_refl _) o
namespace Fo
/-- Only blocks of F, and new ones, are touched. -/
structure Kp (F : Nat → Prop) (w w' : World) : Prop where
  os : w'.os = w.os
  tape : w'.tape = w.tape
  output : w'.output = w.output
  size : w.heap.size ≤ w'.heap.size
  block : ∀ k, k < w.heap.size → ¬ F k → w'.heap[k]? = w.heap[k]?
theorem Kp.refl (F : Nat → Prop) (w : World) : Kp F w w := ⟨rfl, rfl, rfl, Nat.le_refl _, fun _ _ _ => rfl⟩
theorem Kp.trans {F G : Nat → Prop} {w w1 w2 : World} (h : Kp F w w1) (k : Kp G w1 w2) (hs : ∀ b, b < w.heap.size → G b → F b) : Kp F w w2 :=
  ⟨k.os.trans h.os, k.tape.trans h.tape, k.output.trans h.output, Nat.le_trans h.size k.size, fun b hb hf => (k.block b (Nat.lt_of_lt_of_le hb h.size) fun hg => hf (hs b hb hg)).trans (h.block b hb hf)⟩
theorem Kp.mono {F G : Nat → Prop} {w w1 : World} (h : Kp F w w1) (hs : ∀ b, b < w.heap.size → F b → G b) : Kp G w w1 :=
  ⟨h.os, h.tape, h.output, h.size, fun b hb hf => h.block b hb fun hg => hf (hs b hb hg)⟩
theorem Kp.of_below {F : Nat → Prop} {w w1 : World} (h : Below w.heap.size w w1) : Kp F w w1 := ⟨h.os, h.tape, h.output, h.size, fun b hb _ => h.block b hb⟩
theorem Kp.of_grown {F : Nat → Prop} {w w1 : World} {row : Option Nat} (h : w.grownBy w1 row) (hr : ∀ k, row = some k → F k) : Kp F w w1 :=
  ⟨h.os, h.tape, h.output, h.size, fun b hb hf => h.block b hb fun e => hf (hr b e.symm)⟩
theorem Kp.below {F : Nat → Prop} {B : Nat} {w w1 : World} (h : Kp F w w1) (hB : B ≤ w.heap.size) (hf : ∀ b, b < B → ¬ F b) : Below B w w1 :=
  ⟨h.os, h.tape, h.output, h.size, fun b hb => h.block b (Nat.lt_of_lt_of_le hb hB) (hf b hb)⟩
theorem Kp.set {F : Nat → Prop} {w w1 : World} (h : Kp F w w1) {p : Addr} (hp : F p.block ∨ w.heap.size ≤ p.block) (u : Value) : Kp F w (w1.setCell p u) :=
  ⟨h.os, h.tape, h.output, by simpa using h.size, fun b hb hf => (Below.heap_setCell w1 p u b (fun e => by subst e; rcases hp with k | k; exact hf k; omega)).trans (h.block b hb hf)⟩
theorem Kp.alloc {F : Nat → Prop} {w w1 : World} (h : Kp F w w1) (o : Obj) : Kp F w (w1.alloc o) := h.trans (Kp.of_below (F := F) (below1 w1 o)) fun _ _ k => k
theorem Kp.cell {F : Nat → Prop} {w w1 : World} (h : Kp F w w1) {p : Addr} {v : Value} (hc : w.cell? p = some v) (hf : ¬ F p.block) : w1.cell? p = some v := by
  rw [World.cell?_of_block (h.block p.block (World.block_lt_of_cell? w _ hc) hf)]; exact hc
theorem lt_of_heap {w : World} {b : Nat} {o : Obj} (h : w.heap[b]? = some o) : b < w.heap.size := (Array.getElem?_eq_some_iff.1 h).1
theorem Kp.heap {F : Nat → Prop} {w w1 : World} (h : Kp F w w1) {b : Nat} {o : Obj} (hc : w.heap[b]? = some o) (hf : ¬ F b) : w1.heap[b]? = some o := (h.block b (lt_of_heap hc) hf).trans hc
/-- A row keeps its cells where its block is not touched. -/
theorem Ow.kp {G : Nat → Prop} {E : TypeId} {B : Nat} {w w' : World} {v : Value} {n : Nat} {V : Nat → Value} (h : Ow E B w v n V) (hk : Kp G w w') (hG : ∀ g, v.ownBlock = some g → ¬ G g) : Ow E B w' v n V := by
  refine ⟨h.1, ?_⟩
  rcases h.2 with hn | ⟨g, cap, cur, rfl, hb, hgg, rest⟩
  · exact Or.inl hn
  · exact Or.inr ⟨g, cap, cur, rfl, hb, by rw [hk.block g (Array.getElem?_eq_some_iff.1 hgg).1 (hG g rfl)]; exact hgg, rest⟩
theorem Ow.ltb {E : TypeId} {B : Nat} {w : World} {v : Value} {n : Nat} {V : Nat → Value} (h : Ow E B w v n V) : ∀ g, v.ownBlock = some g → g < w.heap.size := fun g hg => (World.ownsRow.lt h g hg).2
end Fo
end Go.Proofs.YtbgkfjelgnbfmaaGreatDoor
