/- Lists in memory, of whatever elements that take one cell: those that are read, those that the call has made, and append on them. Free of any program. -/
import Derived.RowKit3
import Derived.Below
import Derived.Maps.AppendAt
import Derived.Deep.AppendSrc
import Derived.Deep.AppendLies
import Derived.RegionTactic
import Derived.BigQuiet
namespace Go.Proofs.YtbgkfjelgnbfmaaGreatDoor
open Go.RowKit
set_option maxRecDepth 100000

namespace Fo
/-- An element type that takes one cell. -/
structure Elt (P : Program) (T E : TypeId) where
  i : TypeInfo
  z : Value
  bytes : Nat
  hT : P.underlying T = some (.slice E)
  hi : P.info? E = some i
  hz : i.zero = some z
  hsize : i.size = 1
  hby : i.bytes = bytes
  hzs : z.cells.size = 1
  hb8 : bytes ≤ 64
def fl (V : Nat → Value) (n : Nat) : List Value := (List.range n).map V
theorem fl_len (V : Nat → Value) (n : Nat) : (fl V n).length = n := by simp [fl]
theorem fl_get (V : Nat → Value) (n j : Nat) (h : j < n) : (fl V n)[j]? = some (V j) := by
  simp [fl, List.getElem?_map, List.getElem?_range h]
theorem fl_some (V : Nat → Value) (n j : Nat) (u : Value) (h : (fl V n)[j]? = some u) : j < n ∧ u = V j := by
  have hj : j < n := by
    have := (List.getElem?_eq_some_iff.1 h).1
    rwa [fl_len] at this
  rw [fl_get V n j hj] at h
  exact ⟨hj, (Option.some.inj h).symm⟩
/-- One list, and another one behind it. -/
def catV (X : Nat → Value) (n : Nat) (Y : Nat → Value) (j : Nat) : Value := if j < n then X j else Y (j - n)
theorem fl_cat (X : Nat → Value) (n : Nat) (Y : Nat → Value) (m : Nat) : fl X n ++ fl Y m = fl (catV X n Y) (n + m) := by
  apply List.ext_getElem?
  intro j
  by_cases h : j < n
  · rw [List.getElem?_append_left (by rw [fl_len]; exact h), fl_get X n j h, fl_get _ _ j (by omega)]
    unfold catV; rw [if_pos h]
  · rw [List.getElem?_append_right (by rw [fl_len]; omega), fl_len]
    by_cases h2 : j < n + m
    · rw [fl_get Y m (j - n) (by omega), fl_get _ _ j h2]
      unfold catV; rw [if_neg h]
    · rw [List.getElem?_eq_none (by rw [fl_len]; omega), List.getElem?_eq_none (by rw [fl_len]; omega)]
theorem fl_congr {V Z : Nat → Value} (n : Nat) (e : ∀ j, j < n → V j = Z j) : fl V n = fl Z n := by
  apply List.ext_getElem?
  intro j
  by_cases hj : j < n
  · rw [fl_get V n j hj, fl_get Z n j hj, e j hj]
  · rw [List.getElem?_eq_none (by rw [fl_len]; omega), List.getElem?_eq_none (by rw [fl_len]; omega)]
/-- Cells that hold a list. -/
def Rd (w : World) (a : Option Addr) (n cap : Nat) (V : Nat → Value) : Prop :=
  n ≤ cap ∧ cap ≤ 9223372036854775807 ∧ (n = 0 ∨ ∃ b off : Nat, a = some ⟨b, off, none⟩ ∧ ∀ j, j < n → w.cell? ⟨b, off + j, none⟩ = some (V j))
theorem Rd.below {w w1 : World} {a : Option Addr} {n cap : Nat} {V : Nat → Value} (h : Rd w a n cap V) (hb : Below w.heap.size w w1) : Rd w1 a n cap V := by
  obtain ⟨h1, h2, h4⟩ := h
  refine ⟨h1, h2, ?_⟩
  rcases h4 with h4 | ⟨b, off, e, hc⟩
  · exact Or.inl h4
  · refine Or.inr ⟨b, off, e, fun j hj => ?_⟩
    have hlt : b < w.heap.size := World.block_lt_of_cell? w _ (hc j hj)
    rw [hb.cell hlt]; exact hc j hj
theorem Rd.congr {w : World} {a : Option Addr} {n cap : Nat} {V Z : Nat → Value} (h : Rd w a n cap V) (e : ∀ j, j < n → V j = Z j) : Rd w a n cap Z := by
  obtain ⟨h1, h2, h4⟩ := h
  refine ⟨h1, h2, ?_⟩
  rcases h4 with h4 | ⟨b, off, ea, hc⟩
  · exact Or.inl h4
  · exact Or.inr ⟨b, off, ea, fun j hj => by rw [← e j hj]; exact hc j hj⟩
theorem Rd.head {w : World} {a : Option Addr} {n cap : Nat} {V : Nat → Value} (h : Rd w a n cap V) (p : Nat) (hp : p ≤ n) : Rd w a p cap V := by
  obtain ⟨h1, h2, h4⟩ := h
  refine ⟨by omega, h2, ?_⟩
  rcases h4 with h4 | ⟨b, off, ea, hc⟩
  · exact Or.inl (by omega)
  · exact Or.inr ⟨b, off, ea, fun j hj => hc j (by omega)⟩
theorem Rd.tail {w : World} {b off n cap : Nat} {V Y : Nat → Value} (h : Rd w (some ⟨b, off, none⟩) n cap V) (p m c : Nat) (hp : p + m = n) (hc : p + c = cap) (hY : ∀ j, Y j = V (p + j)) : Rd w (some ⟨b, off + p, none⟩) m c Y := by
  obtain ⟨h1, h2, h4⟩ := h
  refine ⟨by omega, by omega, ?_⟩
  rcases h4 with h4 | ⟨b', off', ea, hcell⟩
  · exact Or.inl (by omega)
  · obtain ⟨rfl, rfl⟩ : b = b' ∧ off = off' := by simpa using ea
    exact Or.inr ⟨b, off + p, rfl, fun j hj => by rw [hY, Nat.add_assoc]; exact hcell (p + j) (by omega)⟩
theorem Rd.empty (w : World) (a : Option Addr) (cap : Nat) (hcap : cap ≤ 9223372036854775807) (V : Nat → Value) : Rd w a 0 cap V := ⟨Nat.zero_le _, hcap, Or.inl rfl⟩
theorem Rd.at {w : World} {a : Option Addr} {n cap : Nat} {V : Nat → Value} (h : Rd w a n cap V) (h0 : 0 < n) : ∃ b off : Nat, a = some ⟨b, off, none⟩ ∧ ∀ j, j < n → w.cell? ⟨b, off + j, none⟩ = some (V j) := by
  rcases h.2.2 with h' | h'
  · omega
  · exact h'
/-- A row in a block from B on. -/
def Ow (E : TypeId) (B : Nat) (w : World) (v : Value) (n : Nat) (V : Nat → Value) : Prop := w.ownsRow B E 1 v n (fl V n)
theorem Ow.rd {E : TypeId} {B : Nat} {w : World} {v : Value} {n : Nat} {V : Nat → Value} (h : Ow E B w v n V) : ∃ a cap, v = .slice a n cap ∧ Rd w a n cap V := by
  obtain ⟨hl, hr⟩ := h
  rcases hr with ⟨rfl, rfl⟩ | ⟨g, cap, cur, rfl, hb, hg, hnc, hcm, hcs, ht⟩
  · exact ⟨none, 0, rfl, Nat.le_refl _, by decide, Or.inl rfl⟩
  · refine ⟨_, cap, rfl, hnc, by unfold maxLen at hcm; omega, Or.inr ⟨g, 0, rfl, fun j hj => ?_⟩⟩
    have hc := World.ownsRow.cells (w := w) (base := B) (e := E) (size := 1) (v := .slice (some ⟨g, 0, none⟩) n cap) (n := n) (xs := fl V n) ⟨hl, Or.inr ⟨g, cap, cur, rfl, hb, hg, hnc, hcm, hcs, ht⟩⟩ (g := g) rfl j _ (fl_get V n j hj)
    rw [Nat.zero_add]
    have hadd : (⟨g, 0, none⟩ : Addr).add j = ⟨g, j, none⟩ := by unfold Addr.add; split <;> simp_all
    rw [hadd] at hc
    exact hc
theorem Ow.rd1 {E : TypeId} {B : Nat} {w : World} {a : Option Addr} {n cap : Nat} {V : Nat → Value} (h : Ow E B w (.slice a n cap) n V) : Rd w a n cap V := by
  obtain ⟨a', c', e, hs⟩ := h.rd
  obtain ⟨rfl, rfl⟩ : a = a' ∧ cap = c' := by simpa using e
  exact hs
theorem Ow.congr {E : TypeId} {B : Nat} {w : World} {v : Value} {n : Nat} {V Z : Nat → Value} (h : Ow E B w v n V) (e : ∀ j, j < n → V j = Z j) : Ow E B w v n Z := by
  unfold Ow; rw [← fl_congr n e]; exact h
theorem Ow.alloc {E : TypeId} {B : Nat} {w : World} {v : Value} {n : Nat} {V : Nat → Value} (h : Ow E B w v n V) (o : Obj) : Ow E B (w.alloc o) v n V := World.ownsRow.alloc h o
theorem Ow.drew {E : TypeId} {B : Nat} {w : World} {v : Value} {n : Nat} {V : Nat → Value} (h : Ow E B w v n V) : Ow E B w.drew v n V := h
theorem Ow.made (E : TypeId) (B : Nat) (w : World) (V : Nat → Value) (hB : B ≤ w.heap.size) : Ow E B (w.alloc (.cells #[] E)) (.slice (some ⟨w.heap.size, 0, none⟩) 0 0) 0 V := World.ownsRow_made w #[] 0 hB (Nat.zero_le _) rfl
theorem Ow.nil (E : TypeId) (B : Nat) (w : World) (V : Nat → Value) : Ow E B w (.slice none 0 0) 0 V := World.ownsRow_nil w B E 1
theorem Ow.row {E : TypeId} {B : Nat} {w : World} {v : Value} {n : Nat} {V : Nat → Value} (h : Ow E B w v n V) : ∀ k, v.ownBlock = some k → B ≤ k := fun k hk => (World.ownsRow.lt h k hk).1
/-- A row keeps its cells where only blocks below it, and new ones, are touched. -/
theorem Ow.kept {E : TypeId} {B : Nat} {w w' : World} {v : Value} {n : Nat} {V : Nat → Value} (h : Ow E B w v n V) (hk : ∀ k, k < w.heap.size → w'.heap[k]? = w.heap[k]?) : Ow E B w' v n V := by
  refine ⟨h.1, ?_⟩
  rcases h.2 with hn | ⟨g, cap, cur, rfl, hb, hgg, rest⟩
  · exact Or.inl hn
  · exact Or.inr ⟨g, cap, cur, rfl, hb, by rw [hk g (Array.getElem?_eq_some_iff.1 hgg).1]; exact hgg, rest⟩
theorem Ow.below {E : TypeId} {B : Nat} {w w' : World} {v : Value} {n : Nat} {V : Nat → Value} (h : Ow E B w v n V) (hb : Below w.heap.size w w') : Ow E B w' v n V := h.kept hb.block
end Fo
open Fo
theorem add_off (b off j : Nat) : (⟨b, off, none⟩ : Addr).add j = ⟨b, off + j, none⟩ := by unfold Addr.add; split <;> simp_all
section
variable {P : Program} {T E : TypeId}
/-- append. -/
theorem run_app (L : Elt P T E) {B : Nat} {w : World} {v : Value} {n : Nat} {X : Nat → Value} (h : Ow E B w v n X) (hB : B ≤ w.heap.size) {a : Option Addr} {m c : Nat} {Y : Nat → Value} (hs : Rd w a m c Y) (hone : ∀ j, j < m → (Y j).oneCell' = true) (hnm : n + m ≤ 1000000000) (ty : TypeId) :
    ∃ v' w', (Builtin.append_ #[T, T] ty #[v, .slice a m c]).run P w = .ok v' w' ∧ Ow E B w' v' (n + m) (catV X n Y) ∧ w.grownBy w' v.ownBlock := by
  have hown : w.ownsRow B E 1 v n (fl X n) := h
  obtain ⟨hmc, hc63, hr⟩ := hs
  have hmax : n + m ≤ maxLen := by unfold maxLen; omega
  have h1 : ∀ u ∈ fl Y m, u.oneCell' = true := fun u hu => by
    obtain ⟨j, hj, rfl⟩ := List.mem_map.1 hu
    exact hone j (List.mem_range.1 hj)
  have hb := L.hb8
  by_cases h0 : m = 0
  · subst h0
    have hcat : fl (catV X n Y) (n + 0) = fl X n := by rw [← fl_cat]; simp [fl]
    have hfr : Ow E B w v (n + 0) (catV X n Y) := by unfold Ow; rw [hcat]; exact hown
    refine ⟨v, w, ?_, hfr, ⟨rfl, rfl, rfl, Nat.le_refl _, fun _ _ _ => rfl⟩⟩
    rcases hown.2 with ⟨rfl, rfl⟩ | ⟨g, cap, cur, rfl, hb, hg, hnc, hcm, hcs, ht⟩
    · cases a <;> simp [Builtin.append_, run_underlying L.hT, sizeOf, typeInfo, L.hi, Builtin.lenOf, Builtin.firstCells, loadCells, loadCellsFrom]
    · cases a <;> simp [Builtin.append_, run_underlying L.hT, sizeOf, typeInfo, L.hi, Builtin.lenOf, Builtin.firstCells, loadCells, loadCellsFrom, hnc, storeCells, Addr.add_lit]
  · rcases hr with hr | ⟨b, off, rfl, hc⟩
    · exact absurd hr h0
    obtain ⟨v', w', hrun, ho, hg, -⟩ := run_append_own (P := P) w B T ty E L.i L.z 1 L.bytes L.hT L.hi L.hz L.hsize L.hby L.hzs (by decide) v n (fl X n) hown ⟨b, off, none⟩ m c (fl Y m) (by rw [fl_len, Nat.mul_one])
      (fun j u hu => by
        obtain ⟨hj, rfl⟩ := fl_some Y m j u hu
        rw [add_off]; exact hc j hj) h1 hmax (Nat.le_trans (Nat.mul_le_mul hnm hb) (by decide)) hB
    rw [fl_cat] at ho
    exact ⟨v', w', hrun, ho, hg⟩
/-- append, at the operation; the list behind it given by name. -/
theorem wp_app (L : Elt P T E) {o : Oper} {a : Act} {w : World} {K : Act → World → Prop} {Q : Exit → Act → World → Prop} (s x : Operand)
    (ho : o.op = .call { callee := .builtin .append, args := #[s, x], argTypes := #[T, T] })
    {B : Nat} {v : Value} {n : Nat} {X : Nat → Value} (h : Ow E B w v n X) (hB : B ≤ w.heap.size) {ad : Option Addr} {m c : Nat} {Y : Nat → Value} (hs : Rd w ad m c Y) (hone : ∀ j, j < m → (Y j).oneCell' = true) (N : Nat) (hN : n + m = N) (hnm : N ≤ 1000000000)
    (Z : Nat → Value) (eZ : ∀ j, j < N → catV X n Y j = Z j) (e1 : a.eval s = v) (e2 : a.eval x = .slice ad m c)
    (hk : ∀ a' c' w', Ow E B w' (.slice a' N c') N Z → w.grownBy w' v.ownBlock → K (a.put o.dst (.slice a' N c')) w') : o.wp P a w K Q := by
  subst hN
  obtain ⟨v', w', hr, h1, h2⟩ := run_app L h hB hs hone hnm o.type
  obtain ⟨a', c', rfl, h3⟩ := h1.rd
  unfold Oper.wp execOp
  simp only [ho, resolve, invoke, builtin, Sem.run_bind, Sem.run_pure, Result.andThen_ok, List.map_toArray, List.map_cons, List.map_nil, e1, e2, hr]
  exact hk a' c' w' (h1.congr eZ) h2
theorem wpList_app (L : Elt P T E) {ops : Array Oper} {rest : List Oper} {o : Oper} {a : Act} {w : World} {Q : Exit → Act → World → Prop} (hgd : o.guard = none) (s x : Operand)
    (ho : o.op = .call { callee := .builtin .append, args := #[s, x], argTypes := #[T, T] })
    {B : Nat} {v : Value} {n : Nat} {X : Nat → Value} (h : Ow E B w v n X) (hB : B ≤ w.heap.size) {ad : Option Addr} {m c : Nat} {Y : Nat → Value} (hs : Rd w ad m c Y) (hone : ∀ j, j < m → (Y j).oneCell' = true) (N : Nat) (hN : n + m = N) (hnm : N ≤ 1000000000)
    (Z : Nat → Value) (eZ : ∀ j, j < N → catV X n Y j = Z j) (e1 : a.eval s = v) (e2 : a.eval x = .slice ad m c)
    (hk : ∀ a' c' w', Ow E B w' (.slice a' N c') N Z → w.grownBy w' v.ownBlock → wpList P ops Q rest (a.put o.dst (.slice a' N c')) w') : wpList P ops Q (o :: rest) a w :=
  wpList_plain hgd fun _ hK => wp_app L s x ho h hB hs hone N hN hnm Z eZ e1 e2 fun a' c' w' h1 h3 => hK _ _ (hk a' c' w' h1 h3)
theorem step_app (L : Elt P T E) {ops : Array Oper} {o : Oper} {a : Act} {w : World} {K : Act → World → Prop} {Q : Exit → Act → World → Prop} {F : Prop} (hgd : o.guard = none) (s x : Operand)
    (ho : o.op = .call { callee := .builtin .append, args := #[s, x], argTypes := #[T, T] })
    {B : Nat} {v : Value} {n : Nat} {X : Nat → Value} (h : Ow E B w v n X) (hB : B ≤ w.heap.size) {ad : Option Addr} {m c : Nat} {Y : Nat → Value} (hs : Rd w ad m c Y) (hone : ∀ j, j < m → (Y j).oneCell' = true) (N : Nat) (hN : n + m = N) (hnm : N ≤ 1000000000)
    (Z : Nat → Value) (eZ : ∀ j, j < N → catV X n Y j = Z j) (e1 : a.eval s = v) (e2 : a.eval x = .slice ad m c)
    (hk : ∀ a' c' w', Ow E B w' (.slice a' N c') N Z → w.grownBy w' v.ownBlock → K (a.put o.dst (.slice a' N c')) w') :
    if Region.wanted o (yielded ops a.tmps) = true then Oper.wp P o a w K Q else F := by
  have hw : Region.wanted o (yielded ops a.tmps) = true := by simp [Region.wanted, hgd]
  rw [if_pos hw]
  exact wp_app L s x ho h hB hs hone N hN hnm Z eZ e1 e2 hk
end
theorem below_refl (w : World) : Below w.heap.size w w := Below.refl _ _
theorem below_step {w w1 w2 : World} (h : Below w.heap.size w w1) (k : Below w1.heap.size w1 w2) : Below w.heap.size w w2 := h.trans (k.mono h.size)
theorem below_drewN {B : Nat} {a w : World} (h : Below B a w) (n : Nat) : Below B a (w.drewN n) := ⟨h.os, h.tape, h.output, h.size, h.block⟩
theorem toB {P : Program} {f : FuncId} {args : Array Value} {w w1 : World} {R : Ending → World → Prop} (c : Calls P f args w1 fun e w' => R e w' ∧ Below w1.heap.size w1 w') (h : Below w.heap.size w w1) :
    Calls P f args w1 fun e w' => R e w' ∧ Below w.heap.size w w' := c.mono fun _ _ hh => ⟨hh.1, below_step h hh.2⟩
end Go.Proofs.YtbgkfjelgnbfmaaGreatDoor
