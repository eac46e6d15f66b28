/- slices.Insert of one element, into rows that the call has made. -/
import Derived.Test.YteaajhpgmndomaaInp
namespace Go.Proofs.Yteaajhpgmndomaa
open Go.RowKit Go.Lib Fo
set_option maxRecDepth 100000

namespace Fo
/-- A list with one more element at a place. -/
def insW (V : Nat → Value) (i : Nat) (u : Value) (j : Nat) : Value := if j < i then V j else if j = i then u else V (j - 1)
theorem setCells_obj (g : Nat) : ∀ (vs : List Value) (o : Nat) (w : World) (cur : Array Value) (E : TypeId) (fr : Nat × Nat), w.heap[g]? = some (.cells cur E fr) → ∃ cur', (w.setCells g o vs).heap[g]? = some (.cells cur' E fr) ∧ cur'.size = cur.size
  | [], _, _, cur, _, _, h => ⟨cur, h, rfl⟩
  | v :: r, o, w, cur, E, fr, h => by
    rw [World.setCells]
    obtain ⟨c2, h2, e2⟩ := setCells_obj g r (o + 1) (w.setCell ⟨g, o, none⟩ v) (cur.setIfInBounds o v) E fr (by simp [World.setCell, Array.getElem?_modify, h])
    exact ⟨c2, h2, e2.trans (by simp)⟩
theorem setCells_grown (g : Nat) : ∀ (vs : List Value) (o : Nat) (w : World), w.grownBy (w.setCells g o vs) (some g)
  | [], _, _ => ⟨rfl, rfl, rfl, Nat.le_refl _, fun _ _ _ => rfl⟩
  | v :: r, o, w => by
    rw [World.setCells]
    have h := setCells_grown g r (o + 1) (w.setCell ⟨g, o, none⟩ v)
    refine ⟨h.os, h.tape, h.output, Nat.le_trans (by simp) h.size, fun k hk hne => ?_⟩
    rw [h.block k (by simpa using hk) hne]
    exact Below.heap_setCell w ⟨g, o, none⟩ v k (fun e => hne (by rw [e]))
theorem Ow.mk {E : TypeId} {B : Nat} {w : World} {g n cap : Nat} {cur : Array Value} {V : Nat → Value} (hg : w.heap[g]? = some (.cells cur E (0, 0))) (hB : B ≤ g) (hn : n ≤ cap) (hm : cap ≤ maxLen) (hs : cur.size = cap) (hc : ∀ j, j < n → w.cell? ⟨g, j, none⟩ = some (V j)) :
    Ow E B w (.slice (some ⟨g, 0, none⟩) n cap) n V := by
  refine ⟨by rw [fl_len, Nat.mul_one], Or.inr ⟨g, cap, cur, rfl, hB, hg, hn, hm, by rw [Nat.mul_one]; exact hs, ?_⟩⟩
  rw [Nat.mul_one]
  apply List.ext_getElem?
  intro j
  by_cases hj : j < n
  · have := hc j hj
    rw [cell_of_row w g j _ _ _ hg] at this
    rw [List.getElem?_take_of_lt hj, Array.getElem?_toList, this, fl_get V n j hj]
  · rw [List.getElem?_eq_none (by rw [List.length_take]; omega), List.getElem?_eq_none (by rw [fl_len]; omega)]
theorem fl_drop (V : Nat → Value) (n i : Nat) : (fl V n).drop i = fl (fun j => V (i + j)) (n - i) := by
  apply List.ext_getElem?
  intro j
  rw [List.getElem?_drop]
  by_cases hj : i + j < n
  · rw [fl_get V n (i + j) hj, fl_get _ _ j (by omega)]
  · rw [List.getElem?_eq_none (by rw [fl_len]; omega), List.getElem?_eq_none (by rw [fl_len]; omega)]
/-- In place. -/
theorem Ow.shift {E : TypeId} {B : Nat} {w : World} {g n c i : Nat} {V : Nat → Value} {u : Value} (h : Ow E B w (.slice (some ⟨g, 0, none⟩) n c) n V) (hi : i ≤ n) (hc : n + 1 ≤ c) :
    Ow E B ((w.drew.setCells g (i + 1) ((fl V n).drop i)).setCells g i [u]) (.slice (some ⟨g, 0, none⟩) (n + 1) c) (n + 1) (insW V i u) ∧ w.grownBy ((w.drew.setCells g (i + 1) ((fl V n).drop i)).setCells g i [u]) (some g) := by
  obtain ⟨h1, h2⟩ := h
  rcases h2 with ⟨h2, -⟩ | ⟨g', cap', cur, e, hb, hg, hnc, hcm, hcs, ht⟩
  · cases h2
  obtain ⟨rfl, rfl⟩ : g = g' ∧ c = cap' := by simpa using e
  rw [Nat.mul_one] at hcs ht
  have hcell : ∀ j, j < n → w.cell? ⟨g, j, none⟩ = some (V j) := fun j hj => by
    rw [cell_of_row w g j _ _ _ hg, ← fl_get V n j hj, ← ht, List.getElem?_take_of_lt hj, Array.getElem?_toList]
  have hsome : ∀ (j : Nat), j < c → (w.cell? ⟨g, j, none⟩).isSome = true := fun j hj => by
    rw [cell_of_row w g j _ _ _ hg, Array.getElem?_eq_getElem (by omega)]; rfl
  obtain ⟨c1, hg1, e1⟩ := setCells_obj g ((fl V n).drop i) (i + 1) w.drew cur E (0, 0) hg
  obtain ⟨c2, hg2, e2⟩ := setCells_obj g [u] i _ c1 E (0, 0) hg1
  have hdl : ((fl V n).drop i).length = n - i := by rw [List.length_drop, fl_len]
  have hin1 : ∀ j, j < n - i → (w.drew.setCells g (i + 1) ((fl V n).drop i)).cell? ⟨g, i + 1 + j, none⟩ = some (V (i + j)) := fun j hj => by
    have hj' : j < ((fl V n).drop i).length := by omega
    rw [World.cell?_setCells_in g _ _ w.drew (fun k hk => hsome (i + 1 + k) (by omega)) j hj', ← List.getElem?_eq_getElem hj', fl_drop, fl_get _ _ j hj]
  have hsome1 : ((w.drew.setCells g (i + 1) ((fl V n).drop i)).cell? ⟨g, i + 0, none⟩).isSome = true := Go.Proofs.isSome_setCells g ((fl V n).drop i) (i + 1) w.drew (fun k hk => hsome (i + 1 + k) (by omega)) (i + 0) (hsome (i + 0) (by omega))
  refine ⟨Ow.mk hg2 hb hc hcm (by rw [e2, e1]; exact hcs) (fun j hj => ?_), ?_⟩
  · unfold insW
    by_cases hj1 : j < i
    · rw [if_pos hj1, World.cell?_setCells_out g _ _ _ _ (fun _ _ => Or.inl hj1), World.cell?_setCells_out g _ _ _ _ (fun _ _ => Or.inl (by show j < i + 1; omega))]
      exact hcell j (by omega)
    · rw [if_neg hj1]
      by_cases hj2 : j = i
      · subst hj2
        rw [if_pos rfl]
        have := World.cell?_setCells_in g [u] j (w.drew.setCells g (j + 1) ((fl V n).drop j)) (fun k hk => by obtain rfl : k = 0 := (by simpa using hk); exact hsome1) 0 (by simp)
        simpa using this
      · rw [if_neg hj2, World.cell?_setCells_out g _ _ _ _ (fun _ _ => Or.inr (by show i + 1 ≤ j; omega))]
        have := hin1 (j - (i + 1)) (by omega)
        rw [show i + 1 + (j - (i + 1)) = j by omega, show i + (j - (i + 1)) = j - 1 by omega] at this
        exact this
  · have k1 := setCells_grown g ((fl V n).drop i) (i + 1) w.drew
    have k2 := setCells_grown g [u] i (w.drew.setCells g (i + 1) ((fl V n).drop i))
    exact ⟨k2.os.trans k1.os, k2.tape.trans k1.tape, k2.output.trans k1.output, Nat.le_trans k1.size k2.size, fun k hk hne => (k2.block k (Nat.lt_of_lt_of_le hk k1.size) hne).trans (k1.block k hk hne)⟩
/-- At the end, in place. -/
theorem Ow.endIn {E : TypeId} {B : Nat} {w : World} {g n c : Nat} {V : Nat → Value} {u : Value} (h : Ow E B w (.slice (some ⟨g, 0, none⟩) n c) n V) (hc : n + 1 ≤ c) :
    Ow E B (w.setCells g n [u]) (.slice (some ⟨g, 0, none⟩) (n + 1) c) (n + 1) (insW V n u) ∧ w.grownBy (w.setCells g n [u]) (some g) := by
  obtain ⟨h1, h2⟩ := h
  rcases h2 with ⟨h2, -⟩ | ⟨g', cap', cur, e, hb, hg, hnc, hcm, hcs, ht⟩
  · cases h2
  obtain ⟨rfl, rfl⟩ : g = g' ∧ c = cap' := by simpa using e
  rw [Nat.mul_one] at hcs ht
  have hcell : ∀ j, j < n → w.cell? ⟨g, j, none⟩ = some (V j) := fun j hj => by
    rw [cell_of_row w g j _ _ _ hg, ← fl_get V n j hj, ← ht, List.getElem?_take_of_lt hj, Array.getElem?_toList]
  have hsome : (w.cell? ⟨g, n + 0, none⟩).isSome = true := by
    rw [cell_of_row w g _ _ _ _ hg, Array.getElem?_eq_getElem (by omega)]; rfl
  obtain ⟨c2, hg2, e2⟩ := setCells_obj g [u] n w cur E (0, 0) hg
  refine ⟨Ow.mk hg2 hb hc hcm (by rw [e2]; exact hcs) (fun j hj => ?_), setCells_grown g [u] n w⟩
  unfold insW
  by_cases hj1 : j < n
  · rw [if_pos hj1, World.cell?_setCells_out g _ _ _ _ (fun _ _ => Or.inl hj1)]
    exact hcell j hj1
  · obtain rfl : j = n := by omega
    rw [if_neg hj1, if_pos rfl]
    have := World.cell?_setCells_in g [u] j w (fun k hk => by obtain rfl : k = 0 := (by simpa using hk); exact hsome) 0 (by simp)
    simpa using this
theorem zc_size (z : Value) (hz : z.cells.size = 1) (k : Nat) : (Builtin.zeroCells z.cells k).size = k := by simp [Builtin.zeroCells, hz]
/-- At the end, a new row. -/
theorem Ow.endNew {E : TypeId} {B : Nat} {w : World} {n G : Nat} {V : Nat → Value} {u z : Value} (hB : B ≤ w.heap.size) (hG : n + 1 ≤ G) (hGm : G ≤ maxLen) (hz : z.cells.size = 1) :
    Ow E B (w.drew.alloc (.cells ((fl V n ++ [u]).toArray ++ Builtin.zeroCells z.cells (G - (n + 1))) E)) (.slice (some ⟨w.heap.size, 0, none⟩) (n + 1) G) (n + 1) (insW V n u) ∧ w.grownBy (w.drew.alloc (.cells ((fl V n ++ [u]).toArray ++ Builtin.zeroCells z.cells (G - (n + 1))) E)) none := by
  have hg : (w.drew.alloc (.cells ((fl V n ++ [u]).toArray ++ Builtin.zeroCells z.cells (G - (n + 1))) E)).heap[w.heap.size]? = some (.cells ((fl V n ++ [u]).toArray ++ Builtin.zeroCells z.cells (G - (n + 1))) E) := heap_new1 w.drew _
  refine ⟨Ow.mk hg hB hG hGm ?_ (fun j hj => ?_), ⟨rfl, rfl, rfl, by simp, fun k hk _ => Below.heap_alloc w.drew _ k hk⟩⟩
  · rw [Array.size_append, zc_size z hz]; simp [fl_len]; omega
  · rw [cell_of_row _ _ _ _ _ _ hg]
    have h1 : j < (fl V n ++ [u]).toArray.size := by simp [fl_len]; omega
    rw [Array.getElem?_append_left h1]
    unfold insW
    by_cases hj1 : j < n
    · rw [if_pos hj1, List.getElem?_toArray, List.getElem?_append_left (by rw [fl_len]; exact hj1), fl_get V n j hj1]
    · obtain rfl : j = n := by omega
      rw [if_neg hj1, if_pos rfl, List.getElem?_toArray, List.getElem?_append_right (by rw [fl_len]; omega), fl_len]; simp
/-- Not at the end, a new row. -/
theorem Ow.midNew {E : TypeId} {B : Nat} {w : World} {n i G : Nat} {V : Nat → Value} {u z : Value} (hi : i < n) (hB : B ≤ w.heap.size) (hG : n + 1 ≤ G) (hGm : G ≤ maxLen) (hz : z.cells.size = 1) {ROW : Array Value} (hR : ROW = ((fl V n).take i).toArray ++ Builtin.zeroCells z.cells (n + 1 - i) ++ Builtin.zeroCells z.cells (G - (n + 1))) {w' : World} (hw : w' = (((w.alloc (.cells ROW E)).drew.setCells w.heap.size i [u]).drew).setCells w.heap.size (i + 1) ((fl V n).drop i)) :
    Ow E B w' (.slice (some ⟨w.heap.size, 0, none⟩) (n + 1) G) (n + 1) (insW V i u) ∧ w.grownBy w' none := by
  have hRs : ROW.size = G := by rw [hR, Array.size_append, Array.size_append, zc_size z hz, zc_size z hz]; simp [fl_len]; omega
  have hg0 : (w.alloc (.cells ROW E)).drew.heap[w.heap.size]? = some (.cells ROW E) := heap_new1 w _
  have hdl : ((fl V n).drop i).length = n - i := by rw [List.length_drop, fl_len]
  obtain ⟨c1, hg1, e1⟩ := setCells_obj w.heap.size [u] i _ ROW E (0, 0) hg0
  obtain ⟨c2, hg2, e2⟩ := setCells_obj w.heap.size ((fl V n).drop i) (i + 1) ((w.alloc (.cells ROW E)).drew.setCells w.heap.size i [u]).drew c1 E (0, 0) hg1
  have hsome : ∀ (j : Nat), j < G → ((w.alloc (.cells ROW E)).drew.cell? ⟨w.heap.size, j, none⟩).isSome = true := fun j hj => by
    rw [cell_of_row _ _ _ _ _ _ hg0, Array.getElem?_eq_getElem (by omega)]; rfl
  have hsome1 : ∀ (j : Nat), j < G → (((w.alloc (.cells ROW E)).drew.setCells w.heap.size i [u]).drew.cell? ⟨w.heap.size, j, none⟩).isSome = true := fun j hj => Go.Proofs.isSome_setCells w.heap.size [u] i _ (fun k hk => by obtain rfl : k = 0 := (by simpa using hk); exact hsome (i + 0) (by omega)) j (hsome j hj)
  have hat : ∀ j, j < i → ROW[j]? = some (V j) := fun j hj => by
    rw [hR]
    have h2 : j < ((fl V n).take i).toArray.size := by simp [fl_len]; omega
    rw [Array.getElem?_append_left (by rw [Array.size_append]; omega), Array.getElem?_append_left h2]
    simp [List.getElem?_take_of_lt hj, fl_get V n j (by omega)]
  rw [← hw] at hg2
  refine ⟨Ow.mk hg2 hB hG hGm (by rw [e2, e1]; exact hRs) (fun j hj => ?_), ?_⟩
  · rw [hw]
    unfold insW
    by_cases hj1 : j < i
    · rw [if_pos hj1, World.cell?_setCells_out w.heap.size _ _ _ _ (fun _ _ => Or.inl (by show j < i + 1; omega))]
      show ((w.alloc (.cells ROW E)).drew.setCells w.heap.size i [u]).cell? _ = _
      rw [World.cell?_setCells_out w.heap.size _ _ _ _ (fun _ _ => Or.inl hj1), cell_of_row _ _ _ _ _ _ hg0]
      exact hat j hj1
    · rw [if_neg hj1]
      by_cases hj2 : j = i
      · subst hj2
        rw [if_pos rfl, World.cell?_setCells_out w.heap.size _ _ _ _ (fun _ _ => Or.inl (by show j < j + 1; omega))]
        have := World.cell?_setCells_in w.heap.size [u] j (w.alloc (.cells ROW E)).drew (fun k hk => by obtain rfl : k = 0 := (by simpa using hk); exact hsome (j + 0) (by omega)) 0 (by simp)
        simpa using this
      · rw [if_neg hj2]
        have hj' : j - (i + 1) < ((fl V n).drop i).length := by omega
        have := World.cell?_setCells_in w.heap.size ((fl V n).drop i) (i + 1) ((w.alloc (.cells ROW E)).drew.setCells w.heap.size i [u]).drew (fun k hk => hsome1 (i + 1 + k) (by omega)) (j - (i + 1)) hj'
        rw [show i + 1 + (j - (i + 1)) = j by omega] at this
        rw [this, ← List.getElem?_eq_getElem hj', fl_drop, fl_get _ _ _ (by omega), show i + (j - (i + 1)) = j - 1 by omega]
  · have k1 := setCells_grown w.heap.size [u] i (w.alloc (.cells ROW E)).drew
    have k2 := setCells_grown w.heap.size ((fl V n).drop i) (i + 1) ((w.alloc (.cells ROW E)).drew.setCells w.heap.size i [u]).drew
    have hsz : w.heap.size < (w.alloc (.cells ROW E)).drew.heap.size := by simp
    rw [hw]
    refine ⟨k2.os.trans k1.os, k2.tape.trans k1.tape, k2.output.trans k1.output, by have h1 := k1.size; have h2 := k2.size; have h3 : w.heap.size ≤ (w.alloc (.cells ROW E)).drew.heap.size := Nat.le_of_lt hsz; exact Nat.le_trans h3 (Nat.le_trans h1 h2), fun k hk _ => ?_⟩
    have hk1 : k < (w.alloc (.cells ROW E)).drew.heap.size := by omega
    have hne : some k ≠ some w.heap.size := by simp; omega
    exact ((k2.block k (Nat.lt_of_lt_of_le hk1 k1.size) hne).trans (k1.block k hk1 hne)).trans (Below.heap_alloc w _ k hk)
end Fo
theorem ins_int (B : Nat) (w : World) (v : Value) (n : Nat) (V : Nat → Value) (hO : Ow 3 B w v n V) (i : Nat) (hi : i ≤ n) (hn : n ≤ 100000000) (vb : Nat) (u : Value) (fu : w.heap[vb]? = some (.cells #[u] 3)) (hne : v.ownBlock ≠ some vb) (h1 : ∀ j, j < n → (V j).oneCell' = true) (h1u : u.oneCell' = true) (hB : B ≤ w.heap.size) :
    Calls Try.prog 78 #[v, .int .i64 i, .slice (some ⟨vb, 0, none⟩) 1 1] w fun e w' => (∃ v', e = .returned v' ∧ Ow 3 B w' v' (n + 1) (insW V i u) ∧ (v'.ownBlock = v.ownBlock ∨ v'.ownBlock = some w.heap.size)) ∧ w.grownBy w' v.ownBlock := by
  have hvs : ∀ j v, [u][j]? = some v → w.cell? ⟨vb, j, none⟩ = some v := fun j v hj => by
    have hj0 : j < 1 := by have := (List.getElem?_eq_some_iff.1 hj).1; simpa using this
    obtain rfl : j = 0 := by omega
    rw [cell_of_row _ _ _ _ _ _ fu]; simpa using hj
  have h1v : ∀ v ∈ [u], v.oneCell' = true := fun v hv => by rw [List.mem_singleton.1 hv]; exact h1u
  have h1c : ∀ v ∈ fl V n, v.oneCell' = true := fun v hv => by
    obtain ⟨j, hj, rfl⟩ := List.mem_map.1 hv
    exact h1 j (List.mem_range.1 hj)
  have hG := fun c => growN (w := w) 3 n c (by omega)
  obtain ⟨-, h2⟩ := id hO
  rcases h2 with ⟨rfl, rfl⟩ | ⟨g, c, cur, rfl, hb, hg, hnc, hcm, hcs, ht⟩
  · obtain rfl : i = 0 := by omega
    refine (Try.slices_Insert_int_end_grow none 0 0 vb 0 1 1 [] [u] w (by decide) (by omega) (by omega) (by omega) rfl rfl (fun _ => rfl) (fun a h => by cases h) (fun j v hj => by rw [Nat.zero_add]; exact hvs j v hj) h1v).mono ?_
    rintro e w' ⟨rfl, rfl⟩
    have hk := Ow.endNew (E := 3) (B := B) (w := w) (n := 0) (G := grownCap w (0 + 1) 0 3) (V := V) (u := u) (z := .int .i64 0) hB (hG 0).1 (hG 0).2 rfl
    exact ⟨⟨_, rfl, hk.1, Or.inr rfl⟩, hk.2.os, hk.2.tape, hk.2.output, hk.2.size, fun k h _ => hk.2.block k h (by simp)⟩
  · rw [Nat.mul_one] at hcs
    have hcell : ∀ j v, (fl V n)[j]? = some v → w.cell? ⟨g, j, none⟩ = some v := fun j v hj => by
      obtain ⟨hjn, rfl⟩ := fl_some V n j v hj
      obtain ⟨g2, e, -, hc, -⟩ := hO.cells (by omega)
      obtain rfl : g = g2 := by simpa using e
      exact hc j hjn
    have hc63 : c ≤ 9223372036854775807 := by unfold maxLen at hcm; omega
    have hsome : ∀ (j : Nat), j < c → (w.cell? ⟨g, j, none⟩).isSome = true := fun j hj => by
      rw [cell_of_row w g j _ _ _ hg, Array.getElem?_eq_getElem (by omega)]; rfl
    have hfz : ∀ j, w.frozen? ⟨g, j, none⟩ = false := fun j => by simp [World.frozen?, hg]
    have hvg : vb ≠ g := fun e => hne (by rw [e]; rfl)
    by_cases hroom : n + 1 ≤ c
    · by_cases hin : i = n
      · subst hin
        refine (Try.slices_Insert_int_end_room g 0 i c vb 0 1 1 [u] w (by decide) hroom hc63 rfl (fun j hj => hsome _ (by omega)) (fun j _ => hfz _) (fun j v hj => by rw [Nat.zero_add]; exact hvs j v hj) h1v).mono ?_
        rintro e w' ⟨rfl, rfl⟩
        have hk := Ow.endIn (u := u) hO hroom
        rw [Nat.zero_add]
        exact ⟨⟨_, rfl, hk.1, Or.inl rfl⟩, hk.2⟩
      · refine (Try.slices_Insert_int_shift g 0 n c i vb 0 1 1 (fl V n) [u] w (by omega) (by decide) hroom hc63 hvg (fl_len V n) rfl (fun j v hj => by rw [Nat.zero_add]; exact hcell j v hj) (fun j hj => by rw [Nat.zero_add]; exact hsome j (by omega)) (fun j _ => hfz _) (fun j v hj => by rw [Nat.zero_add]; exact hvs j v hj) h1c h1v _ _ _ _ (shape_of fu) (shape_of hg) (by omega) (by simp [World.frozen?, fu]) (by simp [World.frozen?, fu])).mono ?_
        rintro e w' ⟨rfl, rfl⟩
        have hk := Ow.shift (u := u) hO hi hroom
        rw [Nat.zero_add, Nat.zero_add]
        exact ⟨⟨_, rfl, hk.1, Or.inl rfl⟩, hk.2⟩
    · by_cases hin : i = n
      · subst hin
        refine (Try.slices_Insert_int_end_grow (some ⟨g, 0, none⟩) i c vb 0 1 1 (fl V i) [u] w (by decide) (by omega) (by omega) (by omega) (fl_len _ _) rfl (fun h => by cases h) (fun a h j v hj => by obtain rfl : (⟨g, 0, none⟩ : Addr) = a := (by simpa using h); rw [add_off, Nat.zero_add]; exact hcell j v hj) (fun j v hj => by rw [Nat.zero_add]; exact hvs j v hj) h1v).mono ?_
        rintro e w' ⟨rfl, rfl⟩
        have hk := Ow.endNew (E := 3) (B := B) (w := w) (n := i) (G := grownCap w (i + 1) c 3) (V := V) (u := u) (z := .int .i64 0) hB (hG c).1 (hG c).2 rfl
        exact ⟨⟨_, rfl, hk.1, Or.inr rfl⟩, hk.2.os, hk.2.tape, hk.2.output, hk.2.size, fun k h _ => hk.2.block k h (by simp)⟩
      · refine (Try.slices_Insert_int_grow g 0 n c i vb 0 1 1 (fl V n) [u] w (by omega) (by decide) hnc (by omega) (by omega) (fl_len V n) rfl (fun j v hj => by rw [Nat.zero_add]; exact hcell j v hj) (fun j v hj => by rw [Nat.zero_add]; exact hvs j v hj) h1c h1v).mono ?_
        rintro e w' ⟨rfl, hw'⟩
        have hk := Ow.midNew (E := 3) (B := B) (w := w) (n := n) (i := i) (G := grownCap w (n + 1) c 3) (V := V) (u := u) (z := .int .i64 0) (by omega) hB (hG c).1 (hG c).2 rfl rfl hw'
        exact ⟨⟨_, rfl, hk.1, Or.inr rfl⟩, hk.2.os, hk.2.tape, hk.2.output, hk.2.size, fun k h _ => hk.2.block k h (by simp)⟩
theorem ins_ptr (B : Nat) (w : World) (v : Value) (n : Nat) (V : Nat → Value) (hO : Ow 59 B w v n V) (i : Nat) (hi : i ≤ n) (hn : n ≤ 100000000) (vb : Nat) (u : Value) (fu : w.heap[vb]? = some (.cells #[u] 59)) (hne : v.ownBlock ≠ some vb) (h1 : ∀ j, j < n → (V j).oneCell' = true) (h1u : u.oneCell' = true) (hB : B ≤ w.heap.size) :
    Calls Try.prog 79 #[v, .int .i64 i, .slice (some ⟨vb, 0, none⟩) 1 1] w fun e w' => (∃ v', e = .returned v' ∧ Ow 59 B w' v' (n + 1) (insW V i u) ∧ (v'.ownBlock = v.ownBlock ∨ v'.ownBlock = some w.heap.size)) ∧ w.grownBy w' v.ownBlock := by
  have hvs : ∀ j v, [u][j]? = some v → w.cell? ⟨vb, j, none⟩ = some v := fun j v hj => by
    have hj0 : j < 1 := by have := (List.getElem?_eq_some_iff.1 hj).1; simpa using this
    obtain rfl : j = 0 := by omega
    rw [cell_of_row _ _ _ _ _ _ fu]; simpa using hj
  have h1v : ∀ v ∈ [u], v.oneCell' = true := fun v hv => by rw [List.mem_singleton.1 hv]; exact h1u
  have h1c : ∀ v ∈ fl V n, v.oneCell' = true := fun v hv => by
    obtain ⟨j, hj, rfl⟩ := List.mem_map.1 hv
    exact h1 j (List.mem_range.1 hj)
  have hG := fun c => growN (w := w) 59 n c (by omega)
  obtain ⟨-, h2⟩ := id hO
  rcases h2 with ⟨rfl, rfl⟩ | ⟨g, c, cur, rfl, hb, hg, hnc, hcm, hcs, ht⟩
  · obtain rfl : i = 0 := by omega
    refine (insP_end_grow none 0 0 vb 1 [] [u] w (by decide) (by omega) (by omega) (by omega) rfl rfl (fun _ => rfl) (fun a h => by cases h) hvs h1v).mono ?_
    rintro e w' ⟨rfl, rfl⟩
    have hk := Ow.endNew (E := 59) (B := B) (w := w) (n := 0) (G := grownCap w (0 + 1) 0 59) (V := V) (u := u) (z := .pointer none) hB (hG 0).1 (hG 0).2 rfl
    exact ⟨⟨_, rfl, hk.1, Or.inr rfl⟩, hk.2.os, hk.2.tape, hk.2.output, hk.2.size, fun k h _ => hk.2.block k h (by simp)⟩
  · rw [Nat.mul_one] at hcs
    have hcell : ∀ j v, (fl V n)[j]? = some v → w.cell? ⟨g, j, none⟩ = some v := fun j v hj => by
      obtain ⟨hjn, rfl⟩ := fl_some V n j v hj
      obtain ⟨g2, e, -, hc, -⟩ := hO.cells (by omega)
      obtain rfl : g = g2 := by simpa using e
      exact hc j hjn
    have hc63 : c ≤ 9223372036854775807 := by unfold maxLen at hcm; omega
    have hsome : ∀ (j : Nat), j < c → (w.cell? ⟨g, j, none⟩).isSome = true := fun j hj => by
      rw [cell_of_row w g j _ _ _ hg, Array.getElem?_eq_getElem (by omega)]; rfl
    have hfz : ∀ j, w.frozen? ⟨g, j, none⟩ = false := fun j => by simp [World.frozen?, hg]
    have hvg : vb ≠ g := fun e => hne (by rw [e]; rfl)
    by_cases hroom : n + 1 ≤ c
    · by_cases hin : i = n
      · subst hin
        refine (insP_end_room g i c vb 1 [u] w (by decide) hroom rfl (fun j hj => hsome _ (by omega)) hfz hvs h1v).mono ?_
        rintro e w' ⟨rfl, rfl⟩
        have hk := Ow.endIn (u := u) hO hroom
        skip
        exact ⟨⟨_, rfl, hk.1, Or.inl rfl⟩, hk.2⟩
      · refine (insP_shift g n c i vb 1 (fl V n) [u] w (by omega) (by decide) hroom hc63 hvg (fl_len V n) rfl hcell (fun j hj => hsome j (by omega)) hfz hvs h1c h1v _ _ _ _ (shape_of fu) (shape_of hg) (by omega) (by simp [World.frozen?, fu]) (by simp [World.frozen?, fu])).mono ?_
        rintro e w' ⟨rfl, rfl⟩
        have hk := Ow.shift (u := u) hO hi hroom
        skip
        exact ⟨⟨_, rfl, hk.1, Or.inl rfl⟩, hk.2⟩
    · by_cases hin : i = n
      · subst hin
        refine (insP_end_grow (some ⟨g, 0, none⟩) i c vb 1 (fl V i) [u] w (by decide) (by omega) (by omega) (by omega) (fl_len _ _) rfl (fun h => by cases h) (fun a h j v hj => by obtain rfl : (⟨g, 0, none⟩ : Addr) = a := (by simpa using h); rw [add_off, Nat.zero_add]; exact hcell j v hj) hvs h1v).mono ?_
        rintro e w' ⟨rfl, rfl⟩
        have hk := Ow.endNew (E := 59) (B := B) (w := w) (n := i) (G := grownCap w (i + 1) c 59) (V := V) (u := u) (z := .pointer none) hB (hG c).1 (hG c).2 rfl
        exact ⟨⟨_, rfl, hk.1, Or.inr rfl⟩, hk.2.os, hk.2.tape, hk.2.output, hk.2.size, fun k h _ => hk.2.block k h (by simp)⟩
      · refine (insP_grow g n c i vb 1 (fl V n) [u] w (by omega) (by decide) hnc (by omega) (by omega) (fl_len V n) rfl hcell hvs h1c h1v).mono ?_
        rintro e w' ⟨rfl, hw'⟩
        have hk := Ow.midNew (E := 59) (B := B) (w := w) (n := n) (i := i) (G := grownCap w (n + 1) c 59) (V := V) (u := u) (z := .pointer none) (by omega) hB (hG c).1 (hG c).2 rfl rfl hw'
        exact ⟨⟨_, rfl, hk.1, Or.inr rfl⟩, hk.2.os, hk.2.tape, hk.2.output, hk.2.size, fun k h _ => hk.2.block k h (by simp)⟩
end Go.Proofs.Yteaajhpgmndomaa
