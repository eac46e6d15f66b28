/- Sorted and Subset of the program, out of what the library's Clone, Sort and Compact do. -/
import Derived.Test.YteaajhpgmndomaaBrg
namespace Go.Proofs.Yteaajhpgmndomaa
open Go.RowKit Fo
set_option maxRecDepth 100000

namespace Fo
theorem compact_rise {zs : List Int} (h : zs.Pairwise (· ≤ ·)) : Rise (Lib.compact zs) := by
  unfold Lib.compact Lib.compactUpTo Rise
  rw [List.pairwise_map]
  have hp : (List.range zs.length).Pairwise (· < ·) := List.pairwise_lt_range
  refine List.Pairwise.imp_of_mem (fun {j k} hj hk hjk => ?_) (hp.sublist List.filter_sublist)
  have hk1 := (List.mem_filter.1 hk)
  have hkn : k < zs.length := List.mem_range.1 hk1.1
  have hkeep : zs.toArray[k]! ≠ zs.toArray[k - 1]! := by
    have := hk1.2
    unfold Lib.keeps at this
    rw [decide_eq_true_eq] at this
    rcases this with e | e
    · omega
    · exact e
  have le : ∀ a b, a ≤ b → b < zs.length → zs.toArray[a]! ≤ zs.toArray[b]! := fun a b hab hb => by
    rw [getElem!_pos zs.toArray a (by simp; omega), getElem!_pos zs.toArray b (by simpa using hb)]
    rcases Nat.lt_or_eq_of_le hab with q | q
    · have := (List.pairwise_iff_getElem.1 h) a b (by omega) hb q
      simpa using this
    · subst q; exact Int.le_refl _
  have h1 := le j (k - 1) (by omega) (by omega)
  have h2 := le (k - 1) k (by omega) hkn
  show zs.toArray[j]! < zs.toArray[k]!
  omega
theorem compact_mem {zs : List Int} (x : Int) : x ∈ Lib.compact zs ↔ x ∈ zs := by
  unfold Lib.compact Lib.compactUpTo
  rw [List.mem_map]
  constructor
  · rintro ⟨j, hj, e⟩
    have hjn : j < zs.length := List.mem_range.1 (List.mem_filter.1 hj).1
    rw [getElem!_pos zs.toArray j (by simpa using hjn)] at e
    rw [← e]
    simp
  · intro hx
    obtain ⟨j, hj, e⟩ := List.mem_iff_getElem.1 hx
    have key : ∀ j, j < zs.length → ∃ k, k < zs.length ∧ Lib.keeps zs.toArray k = true ∧ zs.toArray[k]! = zs.toArray[j]! := by
      intro j
      induction j with
      | zero => intro h; exact ⟨0, h, by unfold Lib.keeps; simp, rfl⟩
      | succ j ih =>
        intro h
        by_cases q : zs.toArray[j + 1]! = zs.toArray[j]!
        · obtain ⟨k, h1, h2, h3⟩ := ih (by omega)
          exact ⟨k, h1, h2, h3.trans q.symm⟩
        · exact ⟨j + 1, h, by unfold Lib.keeps; rw [decide_eq_true_eq]; exact Or.inr q, rfl⟩
    obtain ⟨k, h1, h2, h3⟩ := key j hj
    refine ⟨k, List.mem_filter.2 ⟨List.mem_range.2 h1, h2⟩, ?_⟩
    show zs.toArray[k]! = x
    rw [h3, getElem!_pos zs.toArray j (by simpa using hj)]
    simpa using e
theorem map_fl (l : List Int) : l.map (Value.int .i64) = fl (ivs (gt l)) l.length := by
  apply List.ext_getElem?
  intro j
  by_cases hj : j < l.length
  · rw [fl_get _ _ j hj, List.getElem?_map]
    unfold ivs gt
    rw [List.getElem?_eq_getElem hj, List.getD_eq_getElem?_getD, List.getElem?_eq_getElem hj]; rfl
  · rw [List.getElem?_eq_none (by rw [List.length_map]; omega), List.getElem?_eq_none (by rw [fl_len]; omega)]
end Fo
/-- slices.Clone. -/
theorem clone_any (w : World) (v : Value) (l : List Int) (h : IsL w v l) (hl : l.length ≤ 1000000000) :
    Calls Try.prog 35 #[v] w fun e w' => (∃ u, e = .returned u ∧ Ow 3 w.heap.size w' u l.length (ivs (gt l))) ∧ Below w.heap.size w w' := by
  obtain ⟨a, c, rfl, hr⟩ := h
  by_cases h0 : l.length = 0
  · have hl0 : l = [] := List.length_eq_zero_iff.1 h0
    subst hl0
    cases a with
    | none => refine (Try.slices_Clone_int_nil 0 c w).mono ?_; rintro e w' ⟨rfl, rfl⟩; exact ⟨⟨_, rfl, Ow.nil _ _ _ _⟩, below_refl _⟩
    | some A =>
      refine (Try.slices_Clone_int_zero A c w).mono ?_
      rintro e w' ⟨v', rfl, ho, -, hb⟩
      exact ⟨⟨v', rfl, ho⟩, hb⟩
  · obtain ⟨b, off, rfl, hc⟩ := hr.at (by omega)
    refine (Try.slices_Clone_int b off l.length c l w (Nat.le_refl _) (by omega) (fun j hj => hc j hj)).mono ?_
    rintro e w' ⟨v', rfl, ho, -, hb⟩
    refine ⟨⟨v', rfl, ?_⟩, hb⟩
    rw [List.take_length, map_fl] at ho
    exact ho
theorem holds_ints {B : Nat} {w : World} {g c : Nat} {l : List Int} (h : Ow 3 B w (.slice (some ⟨g, 0, none⟩) l.length c) l.length (ivs (gt l))) : Sort.Holds (Value.int .i64) w g 0 l.toArray := by
  intro j hj
  have hj' : j < l.length := by simpa using hj
  obtain ⟨g2, e, -, hc, hf⟩ := h.cells (by omega)
  obtain rfl : g = g2 := by simpa using e
  refine ⟨?_, by rw [Nat.zero_add]; exact hf j⟩
  rw [Nat.zero_add, hc j hj']
  unfold ivs gt
  rw [List.getD_eq_getElem?_getD, List.getElem?_eq_getElem hj', getElem!_pos l.toArray j hj]
  simp
/-- slices.Sort, of a row of the call's own. -/
theorem sortI_any (w : World) (B : Nat) (v : Value) (l : List Int) (h : Ow 3 B w v l.length (ivs (gt l))) (hl : l.length ≤ 1000000000) :
    Calls Try.prog 36 #[v] w fun e w' => e = .returned (.tuple #[]) ∧ (∃ l', l'.Perm l ∧ l'.Pairwise (· ≤ ·) ∧ Ow 3 B w' v l'.length (ivs (gt l'))) ∧ w.grownBy w' v.ownBlock := by
  obtain ⟨a, c, rfl, hr⟩ := h.rd
  by_cases h0 : l.length = 0
  · have hl0 : l = [] := List.length_eq_zero_iff.1 h0
    subst hl0
    refine (Try.slices_Sort_int_none a c w).mono ?_
    rintro e w' ⟨rfl, rfl⟩
    exact ⟨rfl, ⟨[], List.Perm.refl _, List.Pairwise.nil, h⟩, World.grownBy.refl _ _⟩
  · obtain ⟨g, rfl, -, -, -⟩ := h.cells (by omega)
    refine (Try.slices_Sort_int g 0 c l w (holds_ints h) (World.ownsRow.lt h g rfl).2 (by omega)).mono ?_
    rintro e w' ⟨rfl, n, os, rfl⟩
    obtain ⟨l', hl'⟩ : ∃ l', l' = l.mergeSort fun x y => decide (x ≤ y) := ⟨_, rfl⟩
    have hp : l'.Perm l := by rw [hl']; exact List.mergeSort_perm _ _
    have hs : l'.Pairwise (· ≤ ·) := by
      rw [hl']
      refine (List.pairwise_mergeSort (fun a b c h k => ?_) (fun a b => ?_) l).imp fun h => by simpa using h
      · simp at h k ⊢; omega
      · simp; omega
    rw [← hl']
    obtain ⟨h1, h2⟩ := Ow.sorted (enc := Value.int .i64) (d := l'.toArray) (os := os) (m := n) h (by simpa using hp.length_eq)
    refine ⟨rfl, ⟨l', hp, hs, ?_⟩, h2⟩
    rw [hp.length_eq]
    refine h1.congr fun j hj => ?_
    have hj' : j < l'.length := by rw [hp.length_eq]; exact hj
    unfold ivs gt
    rw [List.getD_eq_getElem?_getD, List.getElem?_eq_getElem hj', getElem!_pos l'.toArray j (by simpa using hj')]
    simp
/-- slices.Compact, of a sorted row of the call's own. -/
theorem compact_any (w : World) (B : Nat) (v : Value) (l : List Int) (h : Ow 3 B w v l.length (ivs (gt l))) (hs : l.Pairwise (· ≤ ·)) (hl : l.length ≤ 1000000000) :
    Calls Try.prog 37 #[v] w fun e w' => (∃ u R, e = .returned u ∧ SetIn w' u R ∧ Rise R ∧ (sub R l ∧ sub l R) ∧ R.length ≤ l.length ∧ u.ownBlock = v.ownBlock) ∧ w.grownBy w' v.ownBlock := by
  obtain ⟨a, c, rfl, hr⟩ := h.rd
  by_cases h0 : l.length = 0
  · have hl0 : l = [] := List.length_eq_zero_iff.1 h0
    subst hl0
    refine (Try.slices_Compact_int_empty a c w).mono ?_
    rintro e w' ⟨rfl, rfl⟩
    exact ⟨⟨_, [], rfl, ⟨a, c, rfl, Rd.empty _ _ _ hr.2.1 _, Or.inl rfl⟩, List.Pairwise.nil, ⟨sub_refl _, sub_refl _⟩, Nat.le_refl _, rfl⟩, World.grownBy.refl _ _⟩
  · obtain ⟨g, rfl, -, -, -⟩ := h.cells (by omega)
    refine (Try.slices_Compact_int g 0 c l w (holds_ints h) (by omega) hr.1).mono ?_
    rintro e w' ⟨rfl, q, rfl⟩
    obtain ⟨R, hR⟩ : ∃ R, R = Lib.compact l := ⟨_, rfl⟩
    have hRl : R.length ≤ l.length := by rw [hR]; unfold Lib.compact Lib.compactUpTo; rw [List.length_map]; exact Nat.le_trans (List.length_filter_le ..) (by rw [List.length_range]; exact Nat.le_refl _)
    obtain ⟨D, hD⟩ : ∃ D, D = R ++ List.replicate (l.length - R.length) 0 := ⟨_, rfl⟩
    have hDl : D.length = l.length := by rw [hD, List.length_append, List.length_replicate]; omega
    rw [← hR, ← hD]
    obtain ⟨h1, h2⟩ := Ow.sorted (enc := Value.int .i64) (d := D.toArray) (os := #[]) (m := q) h (by simpa using hDl)
    rw [Sort.grow_empty] at h1 h2
    refine ⟨⟨_, R, rfl, ⟨_, _, rfl, ?_, ?_⟩, hR ▸ compact_rise hs, ⟨fun x hx => (compact_mem x).1 (hR ▸ hx), fun x hx => hR ▸ (compact_mem x).2 hx⟩, hRl, rfl⟩, h2⟩
    · refine (h1.rd1.head R.length hRl).congr fun j hj => ?_
      have hj' : j < D.length := by omega
      show Value.int .i64 D.toArray[j]! = _
      unfold ivs gt
      rw [getElem!_pos D.toArray j (by simpa using hj')]
      congr 1
      simp only [hD, List.getElem_toArray]
      rw [List.getElem_append_left hj, List.getD_eq_getElem?_getD, List.getElem?_eq_getElem hj]; rfl
    · rcases h1.2 with ⟨h', -⟩ | ⟨g2, cap, cur, e, -, hg, -⟩
      · cases h'
      · obtain ⟨rfl, rfl⟩ : g = g2 ∧ c = cap := by simpa using e
        exact Or.inr ⟨g, 0, cur, _, rfl, hg⟩
set_option maxHeartbeats 4000000 in
/-- Sorted. -/
theorem sorted_all (w : World) (v : Value) (l : List Int) (h : IsL w v l) (hl : l.length ≤ 1000000000) :
    Calls Try.prog 14 #[v] w fun e w' => (∃ u R, e = .returned u ∧ SetIn w' u R ∧ Rise R ∧ (Fo.sub R l ∧ Fo.sub l R) ∧ R.length ≤ l.length ∧ ∀ k, u.ownBlock = some k → w.heap.size ≤ k) ∧ Below w.heap.size w w' := by
  have HC : Hid (IsL w v l) := h
  clear h
  go_enter Try.func14, Try.ntmps14
  go_wp2_with (go_at_call 35; fail)
  refine (clone_any w v l HC.out hl).mono ?_
  rintro e w1 ⟨⟨u, rfl, ho⟩, b1⟩
  have HO : Hid (Ow 3 w.heap.size w1 u l.length (ivs (gt l))) := ho
  have HB : Hid (Below w.heap.size w w1) := b1
  clear ho b1
  go_wp2_with (go_at_call 36; fail)
  refine (sortI_any w1 _ u l HO.out hl).mono ?_
  rintro e w2 ⟨rfl, ⟨l', hp, hs, ho⟩, g2⟩
  have HB2 : Hid (Below w.heap.size w w2) := HB.out.grown g2 HB.out.size (fun k hk => HO.out.row k hk)
  have HO2 : Hid (Ow 3 w.heap.size w2 u l'.length (ivs (gt l'))) := ho
  have HP : Hid (l'.Perm l) := hp
  have HS : Hid (l'.Pairwise (· ≤ ·)) := hs
  have hl' : l'.length ≤ 1000000000 := by rw [hp.length_eq]; exact hl
  clear ho g2 hp hs HO HB
  go_wp2_with (go_at_call 37; fail)
  refine (compact_any w2 _ u l' HO2.out HS.out hl').mono ?_
  rintro e w3 ⟨⟨x, R, rfl, h1, h2, h3, h4, h5⟩, g3⟩
  have HB3 : Hid (Below w.heap.size w w3) := HB2.out.grown g3 HB2.out.size (fun k hk => HO2.out.row k hk)
  go_wp2
  go_ret
  exact ⟨⟨x, R, rfl, h1, h2, ⟨fun y hy => HP.out.mem_iff.1 (h3.1 y hy), fun y hy => h3.2 y (HP.out.mem_iff.2 hy)⟩, by rw [← HP.out.length_eq]; exact h4, fun k hk => HO2.out.row k (h5 ▸ hk)⟩, HB3.out⟩
set_option maxHeartbeats 4000000 in
/-- Subset. -/
theorem subset_all (w : World) (v1 v2 : Value) (l m : List Int) (R : Bool) (h1 : IsL w v1 l) (h2 : IsL w v2 m) (hl : l.length ≤ 1000000000) (hm : m.length ≤ 1000000000) (hR : R = true ↔ Fo.sub l m) :
    Calls Try.prog 31 #[v1, v2] w fun e w' => e = .returned (.bool R) ∧ Below w.heap.size w w' := by
  have H1 : Hid (IsL w v1 l) := h1
  have H2 : Hid (IsL w v2 m) := h2
  have HR : Hid (R = true ↔ Fo.sub l m) := hR
  clear h1 h2 hR
  go_enter Try.func31, Try.ntmps31
  go_wp2_with (go_at_call 14; fail)
  refine (sorted_all w v1 l H1.out hl).mono ?_
  rintro e w1 ⟨⟨u, X, rfl, hu, hx, hs, -, -⟩, b1⟩
  have HB1 : Hid (Below w.heap.size w w1) := b1
  have HU : Hid (IsL w1 u X) := hu.isL
  have HX : Hid (Rise X ∧ Fo.sub X l ∧ Fo.sub l X) := ⟨hx, hs⟩
  clear hu hx hs b1
  go_wp2_with (go_at_call 14; fail)
  refine (sorted_all w1 v2 m (H2.out.below HB1.out) hm).mono ?_
  rintro e w2 ⟨⟨t, Y, rfl, ht, hy, hs, -, -⟩, b2⟩
  have HB2 : Hid (Below w.heap.size w w2) := below_step HB1.out b2
  have HU2 : Hid (IsL w2 u X) := HU.out.below b2
  have HT : Hid (IsL w2 t Y) := ht.isL
  have HY : Hid (Rise Y ∧ Fo.sub Y m ∧ Fo.sub m Y) := ⟨hy, hs⟩
  clear ht hy hs b2
  go_wp2_with (go_at_call 42; fail)
  refine (ispart_any w2 u t X Y R HU2.out HT.out HX.out.1 HY.out.1 (HR.out.trans ⟨fun h x hx => HY.out.2.2 x (h x (HX.out.2.1 x hx)), fun h x hx => HY.out.2.1 x (h x (HX.out.2.2 x hx))⟩)).mono ?_
  rintro e w3 ⟨rfl, hw⟩
  have HB3 : Hid (Below w.heap.size w w3) := below_step HB2.out hw.below
  clear hw
  go_wp2
  go_ret
  exact ⟨rfl, HB3.out⟩
end Go.Proofs.Yteaajhpgmndomaa
