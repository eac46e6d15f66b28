/- The keeper's family. -/
import Derived.Test.YteaajhpgmndomaaKal
namespace Go.Proofs.Yteaajhpgmndomaa
open Go.RowKit Fo
set_option maxRecDepth 100000

namespace Fo
/-- What a keeper's family is. -/
def KFR (F : Nat → Prop) (L : List (List Int)) (w : World) (e : Ending) (w' : World) : Prop := (∃ L' u, e = .returned u ∧ L'.Perm L ∧ L'.Pairwise (fun a b => ¬ lessL b a) ∧ FV w' u L') ∧ Kp F w w'
theorem fv_of {B : Nat} {w : World} {a : Option Addr} {c : Nat} {V : Nat → Value} {L : List (List Int)} (h : Ow 23 B w (.slice a L.length c) L.length V) (hs : ∀ j, j < L.length → SetIn w (V j) (gs L j)) (hl : L.length ≤ 5000) (hn : ∀ x, x ∈ L → x.length ≤ 10000) (hr : ∀ x, x ∈ L → Rise x) : FV w (.agg #[.slice a L.length c]) L := by
  refine ⟨a, c, V, rfl, h.rd1, hs, ?_, hl, fun j hj => hn _ (by rw [gs_get hj]; exact List.getElem_mem _), hr⟩
  rcases h.2 with ⟨-, h0⟩ | ⟨g, cap, cur, e, -, hg, -⟩
  · exact Or.inl h0
  · exact Or.inr ⟨g, 0, cur, _, by simpa using (Value.slice.inj e).1, hg⟩
end Fo
set_option maxHeartbeats 8000000 in
theorem family_any (F : Nat → Prop) (w : World) (kp : Value) (most : Int) (L : List (List Int)) (h : KIn F w kp most L) (hl : L.length ≤ 5000) (hn : ∀ x, x ∈ L → x.length ≤ 10000) (hr : ∀ x, x ∈ L → Rise x) :
    Calls Try.prog 34 #[kp] w fun e w' => KFR F L w e w' := by
  obtain ⟨kb, own, blk, D, en, sv, V, rfl, hkb, -, -, hsv, hset, hFk, hok, hsvo, hown, hFl⟩ := h
  obtain ⟨sa, sc, rfl, -⟩ := id hsv.rd
  have hb0 := below1 w (.cells #[.slice none 0 0] 27)
  have hnew : (w.alloc (.cells #[.slice none 0 0] 27)).heap[w.heap.size]? = some (.cells #[.slice none 0 0] 27) := heap_new1 w _
  have HW0 : Hid (Kp F w (w.alloc (.cells #[.slice none 0 0] 27))) := Kp.of_below hb0
  have HO0 : Hid (Ow 23 0 (w.alloc (.cells #[.slice none 0 0] 27)) (.slice sa L.length sc) L.length V) := hsv.below hb0
  have HS0 : Hid (∀ j, j < L.length → SIO (fun b => (Value.slice sa L.length sc).ownBlock = some b) (w.alloc (.cells #[.slice none 0 0] 27)) (V j) (gs L j)) := fun j hj =>
    (((hset j hj).apartO hsv (by decide)).weak fun b _ hb => Or.inr hb).below hb0
  have HKB0 : Hid ((w.alloc (.cells #[.slice none 0 0] 27)).heap[kb]? = some (.cells #[.int .i64 most, .slice sa L.length sc, .pointer (some ⟨blk [], 0, none⟩)] 64)) := (hb0.block kb (lt_of_heap hkb)).trans hkb
  have HNw : Hid ((w.alloc (.cells #[.slice none 0 0] 27)).heap[w.heap.size]? = some (.cells #[.slice none 0 0] 27)) := hnew
  have HN : Hid (∀ x, x ∈ L → x.length ≤ 10000) := hn
  have HRs : Hid (∀ x, x ∈ L → Rise x) := hr
  have HSO : Hid (∀ g, (Value.slice sa L.length sc).ownBlock = some g → F g) := fun g hg => (hsvo g hg).1
  have hkbs : w.heap.size ≠ kb := by have := lt_of_heap hkb; omega
  have f1 : w.cell? ⟨kb, 1, none⟩ = some (.slice sa L.length sc) := by rw [cell_of_row _ _ _ _ _ _ hkb]; rfl
  obtain ⟨W0, hW0⟩ : ∃ W0, W0 = w.alloc (.cells #[.slice none 0 0] 27) := ⟨_, rfl⟩
  have hf1 : W0.cell? ⟨kb, 1, none⟩ = some (.slice sa L.length sc) := by rw [hW0, hb0.cell (lt_of_heap hkb)]; exact f1
  have HSZ : Hid (W0.heap.size = w.heap.size + 1) := by show _ = _; rw [hW0]; simp
  rw [← hW0] at HW0 HO0 HS0 HKB0 HNw
  have hkblt := lt_of_heap hkb
  clear hsv hset hFk hok hsvo hown hFl hkb hb0 hnew hn hr
  go_enter Try.func34, Try.ntmps34
  go_wp2_with (go_at_call 50; fail)
  rw [← hW0]
  clear hW0
  refine (sortF_any W0 (fun b => (Value.slice sa L.length sc).ownBlock = some b) 0 _ V L HO0.out HS0.out (fun k h => h) (by omega)).mono ?_
  rintro e w1 ⟨rfl, ⟨L', V', hp, hso, hO1, hset1⟩, hg1⟩
  have hlen : L'.length = L.length := hp.length_eq
  have hkb1 : w1.heap[kb]? = some (.cells #[.int .i64 most, .slice sa L.length sc, .pointer (some ⟨blk [], 0, none⟩)] 64) := (hg1.block kb (lt_of_heap HKB0.out) fun e => HO0.out.far HKB0.out (by decide) e.symm).trans HKB0.out
  have hn1 : w1.heap[w.heap.size]? = some (.cells #[.slice none 0 0] 27) := (hg1.block _ (lt_of_heap HNw.out) fun e => HO0.out.far HNw.out (by decide) e.symm).trans HNw.out
  have c1 : w1.cell? ⟨kb, 1, none⟩ = some (.slice sa L.length sc) := by rw [cell_of_row _ _ _ _ _ _ hkb1]; rfl
  have d0 : w1.cell? ⟨w.heap.size, 0, none⟩ = some (.slice none 0 0) := by rw [cell_of_row _ _ _ _ _ _ hn1]; rfl
  have z0 := frz_of hn1 0
  have HFV : Hid (FV (w1.setCell ⟨w.heap.size, 0, none⟩ (.slice sa L.length sc)) (.agg #[.slice sa L.length sc]) L') := by
    have h := fv_of (a := sa) (c := sc) (L := L') (by rw [hlen] at hO1 ⊢; exact hO1) (fun j hj => (hset1 j hj).setIn) (by omega) (fun x hx => HN.out x (hp.mem_iff.1 hx)) (fun x hx => HRs.out x (hp.mem_iff.1 hx))
    rw [hlen] at h
    exact h.put hn1 _
  have HKP : Hid (Kp F w (w1.setCell ⟨w.heap.size, 0, none⟩ (.slice sa L.length sc))) :=
    (HW0.out.trans (Kp.of_grown (F := F) hg1 fun k h => HSO.out k h) fun _ _ h => h).set (p := ⟨w.heap.size, 0, none⟩) (Or.inr (Nat.le_refl _)) _
  have HPm : Hid (L'.Perm L) := hp
  have HSo : Hid (L'.Pairwise fun a b => ¬ lessL b a) := hso
  clear hp hso hO1 hset1 hg1 hlen hkb1 hn1 HO0 HS0 HKB0 HNw
  go_wp2
  refine bodyPost_ret (v := .agg #[.slice sa L.length sc]) (by simp [results, Try.results34, go_sem, d0]) rfl ?_
  exact ⟨⟨L', _, rfl, HPm.out, HSo.out, HFV.out⟩, HKP.out⟩
end Go.Proofs.Yteaajhpgmndomaa
