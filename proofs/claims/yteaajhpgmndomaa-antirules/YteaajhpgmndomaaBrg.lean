/- Worlds in which only some blocks are touched; sets and lists of sets in the others. What sorting leaves of a row. -/
import Derived.Test.YteaajhpgmndomaaCsr
import Derived.Test.YteaajhpgmndomaaShelf
import Derived.Test.YteaajhpgmndomaaFsy
namespace Go.Proofs.Yteaajhpgmndomaa
open Go.RowKit Fo
set_option maxRecDepth 100000

namespace Fo
/-- Only blocks of F, and new ones, are touched. -/
structure Kp (F : Nat → Prop) (w w' : World) : Prop where
  os : w'.os = w.os
  tape : w'.tape = w.tape
  output : w'.output = w.output
  size : w.heap.size ≤ w'.heap.size
  block : ∀ k, k < w.heap.size → ¬ F k → w'.heap[k]? = w.heap[k]?
theorem Kp.refl (F : Nat → Prop) (w : World) : Kp F w w := ⟨rfl, rfl, rfl, Nat.le_refl _, fun _ _ _ => rfl⟩
theorem Kp.trans {F G : Nat → Prop} {w w1 w2 : World} (h : Kp F w w1) (k : Kp G w1 w2) (hs : ∀ b, b < w.heap.size → G b → F b) : Kp F w w2 :=
  ⟨k.os.trans h.os, k.tape.trans h.tape, k.output.trans h.output, Nat.le_trans h.size k.size, fun b hb hf => (k.block b (Nat.lt_of_lt_of_le hb h.size) fun hg => hf (hs b hb hg)).trans (h.block b hb hf)⟩
theorem Kp.mono {F G : Nat → Prop} {w w1 : World} (h : Kp F w w1) (hs : ∀ b, b < w.heap.size → F b → G b) : Kp G w w1 :=
  ⟨h.os, h.tape, h.output, h.size, fun b hb hf => h.block b hb fun hg => hf (hs b hb hg)⟩
theorem Kp.of_below {F : Nat → Prop} {w w1 : World} (h : Below w.heap.size w w1) : Kp F w w1 := ⟨h.os, h.tape, h.output, h.size, fun b hb _ => h.block b hb⟩
theorem Kp.of_grown {F : Nat → Prop} {w w1 : World} {row : Option Nat} (h : w.grownBy w1 row) (hr : ∀ k, row = some k → F k) : Kp F w w1 :=
  ⟨h.os, h.tape, h.output, h.size, fun b hb hf => h.block b hb fun e => hf (hr b e.symm)⟩
theorem Kp.below {F : Nat → Prop} {B : Nat} {w w1 : World} (h : Kp F w w1) (hB : B ≤ w.heap.size) (hf : ∀ b, b < B → ¬ F b) : Below B w w1 :=
  ⟨h.os, h.tape, h.output, h.size, fun b hb => h.block b (Nat.lt_of_lt_of_le hb hB) (hf b hb)⟩
theorem Kp.set {F : Nat → Prop} {w w1 : World} (h : Kp F w w1) {p : Addr} (hp : F p.block ∨ w.heap.size ≤ p.block) (u : Value) : Kp F w (w1.setCell p u) :=
  ⟨h.os, h.tape, h.output, by simpa using h.size, fun b hb hf => (Below.heap_setCell w1 p u b (fun e => by subst e; rcases hp with k | k; exact hf k; omega)).trans (h.block b hb hf)⟩
theorem Kp.alloc {F : Nat → Prop} {w w1 : World} (h : Kp F w w1) (o : Obj) : Kp F w (w1.alloc o) := h.trans (Kp.of_below (F := F) (below1 w1 o)) fun _ _ k => k
theorem Kp.cell {F : Nat → Prop} {w w1 : World} (h : Kp F w w1) {p : Addr} {v : Value} (hc : w.cell? p = some v) (hf : ¬ F p.block) : w1.cell? p = some v := by
  rw [World.cell?_of_block (h.block p.block (World.block_lt_of_cell? w _ hc) hf)]; exact hc
theorem lt_of_heap {w : World} {b : Nat} {o : Obj} (h : w.heap[b]? = some o) : b < w.heap.size := (Array.getElem?_eq_some_iff.1 h).1
theorem Kp.heap {F : Nat → Prop} {w w1 : World} (h : Kp F w w1) {b : Nat} {o : Obj} (hc : w.heap[b]? = some o) (hf : ¬ F b) : w1.heap[b]? = some o := (h.block b (lt_of_heap hc) hf).trans hc
/-- A row of elements outside F. -/
def RdO (E : TypeId) (F : Nat → Prop) (w : World) (a : Option Addr) (n c : Nat) (V : Nat → Value) : Prop :=
  Rd w a n c V ∧ (n = 0 ∨ ∃ b off cur fr, a = some ⟨b, off, none⟩ ∧ ¬ F b ∧ w.heap[b]? = some (.cells cur E fr))
theorem RdO.step {E : TypeId} {F G : Nat → Prop} {w w1 : World} {a : Option Addr} {n c : Nat} {V : Nat → Value} (h : RdO E F w a n c V) (hk : Kp F w w1) (hs : ∀ b, b < w.heap.size → G b → F b) : RdO E G w1 a n c V := by
  obtain ⟨⟨h1, h2, h3⟩, h4⟩ := h
  rcases h4 with h0 | ⟨b, off, cur, fr, ea, hf, hc⟩
  · exact ⟨⟨h1, h2, Or.inl h0⟩, Or.inl h0⟩
  · refine ⟨⟨h1, h2, ?_⟩, Or.inr ⟨b, off, cur, fr, ea, fun g => hf (hs b (lt_of_heap hc) g), hk.heap hc hf⟩⟩
    rcases h3 with h0 | ⟨b2, off2, ea2, hcc⟩
    · exact Or.inl h0
    · obtain ⟨rfl, rfl⟩ : b2 = b ∧ off2 = off := by rw [ea] at ea2; simpa [eq_comm] using ea2
      exact Or.inr ⟨b2, off2, ea2, fun j hj => hk.cell (hcc j hj) hf⟩
theorem RdO.weak {E : TypeId} {F G : Nat → Prop} {w : World} {a : Option Addr} {n c : Nat} {V : Nat → Value} (h : RdO E F w a n c V) (hs : ∀ b, b < w.heap.size → G b → F b) : RdO E G w a n c V := h.step (Kp.refl F w) hs
theorem RdO.below {E : TypeId} {F : Nat → Prop} {w w1 : World} {a : Option Addr} {n c : Nat} {V : Nat → Value} (h : RdO E F w a n c V) (hb : Below w.heap.size w w1) : RdO E F w1 a n c V := h.step (Kp.of_below hb) fun _ _ g => g
theorem RdO.congr {E : TypeId} {F : Nat → Prop} {w : World} {a : Option Addr} {n c : Nat} {V Z : Nat → Value} (h : RdO E F w a n c V) (e : ∀ j, j < n → V j = Z j) : RdO E F w a n c Z := ⟨h.1.congr e, h.2⟩
/-- A set outside F. -/
def SIO (F : Nat → Prop) (w : World) (v : Value) (l : List Int) : Prop := ∃ a c, v = .slice a l.length c ∧ RdO 3 F w a l.length c (ivs (gt l))
theorem SIO.step {F G : Nat → Prop} {w w1 : World} {v : Value} {l : List Int} (h : SIO F w v l) (hk : Kp F w w1) (hs : ∀ b, b < w.heap.size → G b → F b) : SIO G w1 v l := by
  obtain ⟨a, c, e, hr⟩ := h
  exact ⟨a, c, e, hr.step hk hs⟩
theorem SIO.weak {F G : Nat → Prop} {w : World} {v : Value} {l : List Int} (h : SIO F w v l) (hs : ∀ b, b < w.heap.size → G b → F b) : SIO G w v l := h.step (Kp.refl F w) hs
theorem SIO.below {F : Nat → Prop} {w w1 : World} {v : Value} {l : List Int} (h : SIO F w v l) (hb : Below w.heap.size w w1) : SIO F w1 v l := h.step (Kp.of_below hb) fun _ _ g => g
theorem SIO.setIn {F : Nat → Prop} {w : World} {v : Value} {l : List Int} (h : SIO F w v l) : SetIn w v l := by
  obtain ⟨a, c, e, hr, ht⟩ := h
  refine ⟨a, c, e, hr, ?_⟩
  rcases ht with ht | ⟨b, off, cur, fr, ea, -, hc⟩
  · exact Or.inl ht
  · exact Or.inr ⟨b, off, cur, fr, ea, hc⟩
theorem SIO.isL {F : Nat → Prop} {w : World} {v : Value} {l : List Int} (h : SIO F w v l) : IsL w v l := h.setIn.isL
theorem SetIn.out {F : Nat → Prop} {w : World} {v : Value} {l : List Int} (h : SetIn w v l) (hf : ∀ b, b < w.heap.size → ¬ F b) : SIO F w v l := by
  obtain ⟨a, c, e, hr, ht⟩ := h
  refine ⟨a, c, e, hr, ?_⟩
  rcases ht with ht | ⟨b, off, cur, fr, ea, hc⟩
  · exact Or.inl ht
  · exact Or.inr ⟨b, off, cur, fr, ea, hf b (lt_of_heap hc), hc⟩
theorem Ow.rdo {E : TypeId} {F : Nat → Prop} {B : Nat} {w : World} {a : Option Addr} {n c : Nat} {V : Nat → Value} (h : Ow E B w (.slice a n c) n V) (hf : ∀ b, (Value.slice a n c).ownBlock = some b → ¬ F b) : RdO E F w a n c V := by
  refine ⟨h.rd1, ?_⟩
  rcases h.2 with ⟨-, h0⟩ | ⟨g, cap, cur, e, hb, hg, -⟩
  · exact Or.inl h0
  · exact Or.inr ⟨g, 0, cur, _, by simpa using (Value.slice.inj e).1, hf g (by rw [e]; rfl), hg⟩
theorem Ow.sio {F : Nat → Prop} {B : Nat} {w : World} {v : Value} {l : List Int} (h : Ow 3 B w v l.length (ivs (gt l))) (hf : ∀ b, v.ownBlock = some b → ¬ F b) : SIO F w v l := by
  obtain ⟨a, c, rfl, -⟩ := h.rd
  exact ⟨a, c, rfl, h.rdo hf⟩
/-- A list of sets outside F. -/
def LIO (F : Nat → Prop) (w : World) (v : Value) (L : List (List Int)) : Prop := ∃ a c V, v = .slice a L.length c ∧ RdO 23 F w a L.length c V ∧ ∀ j, j < L.length → SIO F w (V j) (gs L j)
theorem LIO.step {F G : Nat → Prop} {w w1 : World} {v : Value} {L : List (List Int)} (h : LIO F w v L) (hk : Kp F w w1) (hs : ∀ b, b < w.heap.size → G b → F b) : LIO G w1 v L := by
  obtain ⟨a, c, V, e, hr, hi⟩ := h
  exact ⟨a, c, V, e, hr.step hk hs, fun j hj => (hi j hj).step hk hs⟩
theorem LIO.weak {F G : Nat → Prop} {w : World} {v : Value} {L : List (List Int)} (h : LIO F w v L) (hs : ∀ b, b < w.heap.size → G b → F b) : LIO G w v L := h.step (Kp.refl F w) hs
theorem LIO.below {F : Nat → Prop} {w w1 : World} {v : Value} {L : List (List Int)} (h : LIO F w v L) (hb : Below w.heap.size w w1) : LIO F w1 v L := h.step (Kp.of_below hb) fun _ _ g => g
theorem FV.lio {F : Nat → Prop} {w : World} {x : Value} {L : List (List Int)} (h : FV w (.agg #[x]) L) (hf : ∀ b, b < w.heap.size → ¬ F b) : LIO F w x L := by
  obtain ⟨a, c, V, e, hr, hs, ht, -⟩ := h
  obtain rfl : x = .slice a L.length c := by simpa using e
  refine ⟨a, c, V, rfl, ⟨hr, ?_⟩, fun j hj => (hs j hj).out hf⟩
  rcases ht with ht | ⟨b, off, cur, fr, ea, hc⟩
  · exact Or.inl ht
  · exact Or.inr ⟨b, off, cur, fr, ea, hf b (lt_of_heap hc), hc⟩
/-- What sorting leaves of a row of the call's own. -/
theorem Ow.sorted {α : Type} [Inhabited α] {E : TypeId} {B : Nat} {w : World} {g n c m : Nat} {V : Nat → Value} {enc : α → Value} {d : Array α} {os : Array Obj} (h : Ow E B w (.slice (some ⟨g, 0, none⟩) n c) n V) (hd : d.size = n) :
    Ow E B (Sort.grow (Sort.putRow enc (Sort.ahead w m) g 0 d) os) (.slice (some ⟨g, 0, none⟩) n c) n (fun j => enc d[j]!) ∧ w.grownBy (Sort.grow (Sort.putRow enc (Sort.ahead w m) g 0 d) os) (some g) := by
  obtain ⟨h1, h2⟩ := h
  rcases h2 with ⟨h2, -⟩ | ⟨g', cap', cur, e, hb, hg, hnc, hcm, hcs, ht⟩
  · cases h2
  obtain ⟨rfl, rfl⟩ : g = g' ∧ c = cap' := by simpa using e
  have hlt := lt_of_heap hg
  have hgm : (Sort.putRow enc (Sort.ahead w m) g 0 d).heap[g]? = some (.cells (Sort.putCells enc 0 d cur) E (0, 0)) := by
    simp [Sort.putRow, Sort.mapBlock, Array.getElem?_modify, hg, Sort.onCells]
  refine ⟨⟨by rw [fl_len, Nat.mul_one], Or.inr ⟨g, c, Sort.putCells enc 0 d cur, rfl, hb, ?_, hnc, hcm, by simpa [Sort.putCells] using hcs, ?_⟩⟩, ⟨rfl, rfl, rfl, ?_, fun k hk hne => ?_⟩⟩
  · rw [Sort.heap_grow_old _ _ (by simpa using hlt)]; exact hgm
  · rw [Nat.mul_one]
    apply List.ext_getElem?
    intro j
    by_cases hj : j < n
    · rw [List.getElem?_take_of_lt hj, fl_get _ n j hj, Array.getElem?_toList]
      unfold Sort.putCells
      have hjc : j < cur.size := by rw [hcs]; omega
      simp [Array.getElem?_mapIdx, Array.getElem?_eq_getElem hjc, hd, hj]
    · rw [List.getElem?_eq_none (by rw [List.length_take]; omega), List.getElem?_eq_none (by rw [fl_len]; omega)]
  · simp [Sort.size_grow]
  · rw [Sort.heap_grow_old _ _ (by simpa using hk)]
    have hne' : ¬ g = k := fun e => hne (by rw [e])
    simp [Sort.putRow, Sort.mapBlock, Array.getElem?_modify, hne']
end Fo
end Go.Proofs.Yteaajhpgmndomaa
