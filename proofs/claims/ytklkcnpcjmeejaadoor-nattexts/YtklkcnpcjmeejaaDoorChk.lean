/- slices.Chunk over bytes, in chunks of four: the iterator's contract. -/
import Derived.Test.YtklkcnpcjmeejaaDoorIsd
import Derived.RangeFuncNested
import Derived.RangeFuncBound
import Derived.RangeFuncCalls
import Derived.RangeFuncLeaves
import Derived.RangeFuncBox
import Derived.Shelf.Abstract
import Derived.Shelf.RegionOpen
import Derived.OwnWalkIn
import Derived.TacticsInMore
import Derived.LoopNIn
import Derived.LoopIn


namespace Go.Proofs.YtklkcnpcjmeejaaDoor
open Go.RowKit Go.Shelf Fo
set_option maxRecDepth 100000

theorem fin_take (N k : Nat) (h : k < N) : (List.finRange N).take (k + 1) = (List.finRange N).take k ++ [⟨k, h⟩] := by
  rw [← List.take_append_getElem (by simpa using h)]
  simp
theorem drew_grown (w : World) : w.grownBy w.drew none := ⟨rfl, rfl, rfl, Nat.le_refl _, fun _ _ _ => rfl⟩
/-- Two blocks lie as they lay. -/
def KR (p q : Nat) (A B : World) : Prop := B.heap[p]? = A.heap[p]? ∧ B.heap[q]? = A.heap[q]?
theorem KR.refl (p q : Nat) (A : World) : KR p q A A := ⟨rfl, rfl⟩
theorem KR.trans {p q : Nat} {A B C : World} (h : KR p q A B) (k : KR p q B C) : KR p q A C := ⟨k.1.trans h.1, k.2.trans h.2⟩
theorem KR.cell1 {p q : Nat} {A B : World} (h : KR p q A B) : B.cell? ⟨p, 0, none⟩ = A.cell? ⟨p, 0, none⟩ := World.cell?_of_block (w := A) h.1
theorem KR.cell2 {p q : Nat} {A B : World} (h : KR p q A B) : B.cell? ⟨q, 0, none⟩ = A.cell? ⟨q, 0, none⟩ := World.cell?_of_block (w := A) h.2
attribute [local go_sem] Oper.semAt_some
/-- Chunk's own maker. -/
theorem chunk_in (F : Fence) (n : Nat) (h : F.fn 51) (hro : F.round = none) (a : Option Addr) (m c : Nat) (w : World) :
    CallsIn F n Tryd.prog 51 #[.slice a m c, .int .i64 4] w fun e w' => e = .returned (.func (.func 63) #[] #[.pointer (some ⟨w.heap.size, 0, none⟩), .pointer (some ⟨w.heap.size + 1, 0, none⟩)]) ∧ w' = (w.alloc (.cells #[.slice a m c] 34)).alloc (.cells #[.int .i64 4] 3) := by
  refine callsIn_of_wp Tryd.func51 rfl h ?_ hro
  simp only [Tryd.ntmps51, List.size_toArray, List.length_cons, List.length_nil, Nat.reduceAdd, Nat.reduceSub, Array.replicate_succ, Array.replicate_zero, List.push_toArray, List.append_toArray, List.nil_append, List.cons_append]
  gi_wp2
  go_ret
  exact ⟨rfl, rfl⟩
set_option maxHeartbeats 4000000 in
theorem chunk1_in (F : Fence) (n : Nat) (h63 : F.fn 63) (hro : F.round = none) (hn : 1 ≤ n) (l Bs Bn b off N cap : Nat) (Len : Nat) (hLen : Hid (Len = 4 * N)) (hN : N ≤ 100000) (hcap : Len ≤ cap) (hcm : cap ≤ 9223372036854775807) (J Jx : List (Fin N) → World → Prop)
    (hJ : ∀ s W W' row, J s W → W.grownBy W' row → row = none → J s W')
    (hY : ∀ pre (x : Fin N) W, J pre W → pre.length < N → YieldAt F (n - 1) Tryd.prog l #[.slice (some ⟨b, off + 4 * x.1, none⟩) 4 4] W fun e W' =>
      (e = .returned (.bool true) ∧ J (pre ++ [x]) W' ∧ KR Bs Bn W W') ∨ (e = .returned (.bool false) ∧ Jx (pre ++ [x]) W'))
    (W : World) (hs : W.cell? ⟨Bs, 0, none⟩ = some (.slice (some ⟨b, off, none⟩) Len cap)) (hnn : W.cell? ⟨Bn, 0, none⟩ = some (.int .i64 4)) (h0 : J [] W) :
    CallsIn F n Tryd.prog 63 #[.func (.yield l) #[] #[], .pointer (some ⟨Bs, 0, none⟩), .pointer (some ⟨Bn, 0, none⟩)] W fun e W' => (∃ v, e = .returned v) ∧
      ((∃ ys, ys = List.finRange N ∧ J ys W') ∨ (∃ pre, pre <+: List.finRange N ∧ Jx pre W')) := by
  refine callsIn_of_wp Tryd.func63 rfl h63 ?_ hro
  simp only [Tryd.ntmps63, List.size_toArray, List.length_cons, List.length_nil, Nat.reduceAdd, Nat.reduceSub, Array.replicate_succ, Array.replicate_zero, List.push_toArray, List.append_toArray, List.nil_append, List.cons_append]
  gi_wp2
  gi_loopw [4] (fun v wr => ∃ k t : Nat, k ≤ N ∧ Hid (t = 4 * k) ∧ v = .int .i64 (t : Int) ∧ J ((List.finRange N).take k) wr ∧ KR Bs Bn W wr) (fun v _ => Len - (intOf v).toNat)
  case atStart => exact ⟨0, 0, Nat.zero_le _, rfl, rfl, h0, KR.refl _ _ _⟩
  case round =>
    obtain ⟨k, t, hk, ht, rfl, hJs, hnx⟩ := hrel
    have hs2 : wr.cell? ⟨Bs, 0, none⟩ = some (.slice (some ⟨b, off, none⟩) Len cap) := hnx.cell1.trans hs
    have hn2 : wr.cell? ⟨Bn, 0, none⟩ = some (.int .i64 4) := hnx.cell2.trans hnn
    have htl : t ≤ 400000 := by have := ht.out; omega
    have hll : Len ≤ 400000 := by have := hLen.out; omega
    by_cases hlt : k < N
    · have htL : t + 4 ≤ Len := by have := ht.out; have := hLen.out; omega
      have i1 : (0 : Int) ≤ (t : Int) := by omega
      have i2 : (t : Int) < (Len : Int) := by omega
      have i3 : (t : Int) ≤ (Len : Int) := by omega
      have hmin : min (4 : Int) ((Len - t : Nat) : Int) = 4 := by omega
      have hct : ¬ cap = t := by omega
      obtain ⟨e, he⟩ : ∃ e, e = t + 4 := ⟨_, rfl⟩
      have hsum : (t : Int) + 4 = (e : Int) := by omega
      have hE : e - t = 4 := by omega
      have i5 : (e : Int) ≤ (cap : Int) := by omega
      have i6 : (t : Int) ≤ (e : Int) := by omega
      have HE : Hid (e = 4 * (k + 1)) := by show e = 4 * (k + 1); have := ht.out; omega
      clear he
      obtain ⟨fn, tmps, assign, body, hy, hR⟩ := hY _ ⟨k, hlt⟩ wr.drew (hJ _ wr wr.drew none hJs (drew_grown wr) rfl) (by simp; omega)
      dsimp only at hy
      rw [← ht.out] at hy
      gi_wp2
      gi_region
      all_goals gi_wp2
      all_goals refine hR.mono ?_
      all_goals rintro e' W3 (⟨rfl, hJ3, hk3⟩ | ⟨rfl, hJx3⟩)
      all_goals first
        | (have hn3 : W3.cell? ⟨Bn, 0, none⟩ = some (.int .i64 4) := hk3.cell2.trans hn2
           gi_wp2
           go_roundw
           case rel => exact ⟨k + 1, e, by omega, HE, rfl, by rw [fin_take N k hlt]; exact hJ3, hnx.trans (KR.trans (B := wr.drew) ⟨rfl, rfl⟩ hk3)⟩
           case measure => simp [intOf]; omega)
        | (gi_wp2
           refine bodyPost_ret (results_none rfl _ _ _) rfl ?_
           exact ⟨⟨_, rfl⟩, .inr ⟨_, by rw [← fin_take N k hlt]; exact List.take_prefix _ _, hJx3⟩⟩)
    · obtain rfl : k = N := by omega
      obtain rfl : t = Len := by rw [ht.out, hLen.out]
      gi_wp2
      go_end0
      refine ⟨⟨_, rfl⟩, .inl ⟨_, ?_, hJs⟩⟩
      rw [List.take_of_length_le (by simp)]
theorem chunk_stops (F : Fence) (n : Nat) (h63 : F.fn 63) (hro : F.round = none) (hn : 1 ≤ n) (Bs Bn b off N cap : Nat) (Len : Nat) (hLen : Hid (Len = 4 * N)) (hN : N ≤ 100000) (hcap : Len ≤ cap) (hcm : cap ≤ 9223372036854775807) (w : World) (hBs : Bs < w.heap.size) (hBn : Bn < w.heap.size)
    (hs : w.cell? ⟨Bs, 0, none⟩ = some (.slice (some ⟨b, off, none⟩) Len cap)) (hnn : w.cell? ⟨Bn, 0, none⟩ = some (.int .i64 4)) :
    SeqStopsK F n Tryd.prog 63 #[.pointer (some ⟨Bs, 0, none⟩), .pointer (some ⟨Bn, 0, none⟩)] (fun x : Fin N => #[Value.slice (some ⟨b, off + 4 * x.1, none⟩) 4 4]) (KR Bs Bn) (fun ys => ys = List.finRange N) (fun pre => pre <+: List.finRange N) N w := fun l J Jx W hW hJ _ hY h0 =>
  chunk1_in F n h63 hro hn l Bs Bn b off N cap Len hLen hN hcap hcm J Jx (fun s A B row hs hg hr => hJ s A B row hs hg (fun r e => by rw [hr] at e; cases e)) hY W ((hW.cell (p := ⟨Bs, 0, none⟩) hBs).trans hs) ((hW.cell (p := ⟨Bn, 0, none⟩) hBn).trans hnn) h0
end Go.Proofs.YtklkcnpcjmeejaaDoor
