/- nat's Unbytes. -/
import Derived.Test.YtklkcnpcjmeejaaDoorDgo
namespace Go.Proofs.YtklkcnpcjmeejaaDoor
open Go.RowKit Fo
set_option maxRecDepth 100000

/-- What the bytes begin with is worth. -/
def uval (L : Nat → Nat) : Nat := lv (dgt fun j => L (1 + j)) (L 0)
/-- What Unbytes answers. -/
def UR (m : Nat) (L : Nat → Nat) (X : Option Nat) (n q : Int) : Prop :=
  (m = 0 ∧ X = some 0 ∧ n = 0 ∧ q = 13) ∨ (0 < m ∧ L 0 = 255 ∧ X = none ∧ n = 1 ∧ q = 0) ∨ (0 < m ∧ L 0 ≠ 255 ∧ (64 < L 0 ∨ m < 1 + 4 * L 0) ∧ X = some 0 ∧ n = 0 ∧ q = 13) ∨ (L 0 ≤ 64 ∧ 1 + 4 * L 0 ≤ m ∧ ln (uval L) ≠ L 0 ∧ X = some 0 ∧ n = 0 ∧ q = 13) ∨ (L 0 ≤ 64 ∧ 1 + 4 * L 0 ≤ m ∧ ln (uval L) = L 0 ∧ X = some (uval L) ∧ n = ((1 + 4 * L 0 : Nat) : Int) ∧ q = 0)
def UOut (w' : World) (e : Ending) (m : Nat) (L : Nat → Nat) : Prop := ∃ u X n q, e = .returned (.tuple #[u, .int .i64 n, .int .i64 q]) ∧ NOut w' u X ∧ UR m L X n q
theorem nout_fin {w : World} {v : Value} {N : Nat} (h : NOut w v (some N)) : ∃ a c, v = .agg #[.bool false, .slice a (ln N) c] := by
  rcases h with ⟨h, -⟩ | ⟨M, a, c, h, rfl, -⟩
  · cases h
  · obtain rfl := Option.some.inj h
    exact ⟨a, c, rfl⟩
theorem unb_none (a : Option Addr) (c : Nat) (L : Nat → Nat) (w : World) : Calls Tryd.prog 27 #[.slice a 0 c] w fun e w' => UOut w' e 0 L ∧ Below w.heap.size w w' := by
  have HB : Hid (Below w.heap.size w (w.alloc (.cells #[.bool false, .slice none 0 0] 24))) := (below_refl w).alloc (Nat.le_refl _) _
  go_enter Tryd.func27, Tryd.ntmps27
  go_wp2
  exact bodyPost_ret (v := .tuple #[.agg #[.bool false, .slice none 0 0], .int .i64 0, .int .i64 13]) (by simp [results, Tryd.results27, go_sem]) rfl ⟨⟨_, some 0, 0, 13, rfl, nout_zero _, Or.inl ⟨rfl, rfl, rfl, rfl⟩⟩, HB.out⟩
theorem unb_inf (a : Option Addr) (m c : Nat) (L : Nat → Nat) (w : World) (hr : Rd w a m c (u8s L)) (hm : 0 < m) (h255 : L 0 = 255) : Calls Tryd.prog 27 #[.slice a m c] w fun e w' => UOut w' e m L ∧ Below w.heap.size w w' := by
  have HB : Hid (Below w.heap.size w (w.alloc (.cells #[.bool false, .slice none 0 0] 24))) := (below_refl w).alloc (Nat.le_refl _) _
  have Hg : Hid ((w.alloc (.cells #[.bool false, .slice none 0 0] 24)).heap[w.heap.size]? = some (.cells #[.bool false, .slice none 0 0] 24)) := heap_alloc_new _ _
  obtain ⟨b, off, rfl, hc⟩ := (hr.below HB.out).at hm
  have hc0 := hc 0 hm
  unfold u8s at hc0
  rw [h255, Nat.add_zero] at hc0
  have hm0 : ((m : Int) == 0) = false := by simp; omega
  have i1 : (0 : Int) < (m : Int) := by omega
  have HI := inf_any (w.alloc (.cells #[.bool false, .slice none 0 0] 24))
  have HU : Hid (UR m L none 1 0) := Or.inr (Or.inl ⟨hm, h255, rfl, rfl, rfl⟩)
  clear hc hr h255
  go_enter Tryd.func27, Tryd.ntmps27
  go_wp2_with (go_at_call 31; fail)
  refine HI.mono ?_
  rintro e w2 ⟨rfl, hB⟩
  have hg2 := (hB.block _ (by simp)).trans Hg.out
  obtain ⟨b0, b1, b2, b3, b4, b5⟩ := box_facts hg2
  have HB2 : Hid (Below w.heap.size w w2) := below_step HB.out hB
  clear hg2 hB HI
  go_wp2
  exact bodyPost_ret (v := .tuple #[.agg #[.bool true, .slice none 0 0], .int .i64 1, .int .i64 0]) (by simp [results, Tryd.results27, go_sem, b4, b5]) rfl ⟨⟨_, none, 1, 0, rfl, nout_inf _, HU.out⟩, below_set HB2.out (Nat.le_refl _) _ _⟩
theorem unb_short (a : Option Addr) (m c : Nat) (L : Nat → Nat) (w : World) (hr : Rd w a m c (u8s L)) (hm : 0 < m) (hmm : m ≤ 100000) (hL : L 0 < 256) (h255 : L 0 ≠ 255) (hs : 64 < L 0 ∨ m < 1 + 4 * L 0) : Calls Tryd.prog 27 #[.slice a m c] w fun e w' => UOut w' e m L ∧ Below w.heap.size w w' := by
  have HB : Hid (Below w.heap.size w (w.alloc (.cells #[.bool false, .slice none 0 0] 24))) := (below_refl w).alloc (Nat.le_refl _) _
  obtain ⟨b, off, rfl, hc⟩ := (hr.below HB.out).at hm
  have hc0 := hc 0 hm
  unfold u8s at hc0
  rw [Nat.add_zero] at hc0
  have hm0 : ((m : Int) == 0) = false := by simp; omega
  have i1 : (0 : Int) < (m : Int) := by omega
  have HU : Hid (UR m L (some 0) 0 13) := Or.inr (Or.inr (Or.inl ⟨hm, h255, hs, rfl, rfl, rfl⟩))
  obtain ⟨x, hx⟩ : ∃ x, x = L 0 := ⟨_, rfl⟩
  rw [← hx] at hc0 h255 hs hL
  have hx255 : ((x : Int) == 255) = false := by simp; omega
  clear hc hr hx h255
  by_cases h64 : 64 < x
  · have j1 : (64 : Int) < (x : Int) := by omega
    clear hs
    go_enter Tryd.func27, Tryd.ntmps27
    go_wp2
    exact bodyPost_ret (v := .tuple #[.agg #[.bool false, .slice none 0 0], .int .i64 0, .int .i64 13]) (by simp [results, Tryd.results27, go_sem]) rfl ⟨⟨_, some 0, 0, 13, rfl, nout_zero _, HU.out⟩, HB.out⟩
  · have j1 : ¬ (64 : Int) < (x : Int) := by omega
    have j2 : (m : Int) < 1 + (x : Int) * 4 := by omega
    clear hs
    go_enter Tryd.func27, Tryd.ntmps27
    go_wp2
    exact bodyPost_ret (v := .tuple #[.agg #[.bool false, .slice none 0 0], .int .i64 0, .int .i64 13]) (by simp [results, Tryd.results27, go_sem]) rfl ⟨⟨_, some 0, 0, 13, rfl, nout_zero _, HU.out⟩, HB.out⟩
set_option maxHeartbeats 4000000 in
theorem unb_good (a : Option Addr) (m c : Nat) (L : Nat → Nat) (w : World) (hr : Rd w a m c (u8s L)) (hmm : m ≤ 100000) (hL : ∀ j, L j < 256) (h64 : L 0 ≤ 64) (hs : 1 + 4 * L 0 ≤ m) : Calls Tryd.prog 27 #[.slice a m c] w fun e w' => UOut w' e m L ∧ Below w.heap.size w w' := by
  have hm : 0 < m := by omega
  have HB : Hid (Below w.heap.size w (w.alloc (.cells #[.bool false, .slice none 0 0] 24))) := (below_refl w).alloc (Nat.le_refl _) _
  have Hg : Hid ((w.alloc (.cells #[.bool false, .slice none 0 0] 24)).heap[w.heap.size]? = some (.cells #[.bool false, .slice none 0 0] 24)) := heap_alloc_new _ _
  have hrB := hr.below HB.out
  obtain ⟨b, off, rfl, hc⟩ := hrB.at hm
  have hc0 := hc 0 hm
  unfold u8s at hc0
  rw [Nat.add_zero] at hc0
  have hm0 : ((m : Int) == 0) = false := by simp; omega
  have i1 : (0 : Int) < (m : Int) := by omega
  have hmc : m ≤ c := hr.1
  have hcm : c ≤ 9223372036854775807 := hr.2.1
  obtain ⟨x, hx⟩ : ∃ x, x = L 0 := ⟨_, rfl⟩
  rw [← hx] at hc0 h64 hs
  have hx255 : ((x : Int) == 255) = false := by simp; omega
  have j1 : ¬ (64 : Int) < (x : Int) := by omega
  obtain ⟨t, ht⟩ : ∃ t, t = 1 + 4 * x := ⟨_, rfl⟩
  have htx : (1 : Int) + (x : Int) * 4 = (t : Int) := by omega
  have j2 : ¬ (m : Int) < (t : Int) := by omega
  have j3 : (1 : Int) ≤ (t : Int) := by omega
  have j4 : (t : Int) ≤ (c : Int) := by omega
  obtain ⟨g, hg⟩ : ∃ g : Nat, g = if c = 1 then off else off + 1 := ⟨_, rfl⟩
  have hif : (if c = 1 then (some ⟨b, off, none⟩ : Option Addr) else some ⟨b, off + 1, none⟩) = some ⟨b, g, none⟩ := by
    rw [hg]; split <;> rfl
  have HRd : Hid (Rd (w.alloc (.cells #[.bool false, .slice none 0 0] 24)) (some ⟨b, g, none⟩) (t - 1) (c - 1) (u8s fun j => L (1 + j))) := by
    refine ⟨by omega, by omega, ?_⟩
    by_cases h1 : c = 1
    · exact Or.inl (by omega)
    · refine Or.inr ⟨b, off + 1, by rw [hg, if_neg h1], fun j hj => ?_⟩
      have := hc (1 + j) (by omega)
      rw [← Nat.add_assoc] at this
      exact this
  have HD : Hid (Calls Tryd.prog 41 #[.slice (some ⟨b, g, none⟩) (t - 1) (c - 1)] (w.alloc (.cells #[.bool false, .slice none 0 0] 24)) fun e w' => (∃ a' c', e = .returned (.slice a' x c') ∧ Rd w' a' x c' (u32s (dgt fun j => L (1 + j)))) ∧ Below (w.alloc (.cells #[.bool false, .slice none 0 0] 24)).heap.size (w.alloc (.cells #[.bool false, .slice none 0 0] 24)) w') := digits_any b g x (c - 1) (t - 1) (by omega) (by omega) (fun j => L (1 + j)) (fun j => hL _) _ HRd.out
  have HV : Hid (lv (dgt fun j => L (1 + j)) x = uval L) := by
    show _ = lv (dgt fun j => L (1 + j)) (L 0)
    rw [hx]
  have HDl : Hid (∀ j, dgt (fun j => L (1 + j)) j < 4294967296) := fun j => dgt_lt _ (fun j => hL _) j
  have HX : Hid (x = L 0) := hx
  have HT : Hid (t = 1 + 4 * L 0) := by show t = _; rw [ht, hx]
  have H1 : Hid (L 0 ≤ 64) := by show L 0 ≤ 64; omega
  have H2 : Hid (1 + 4 * L 0 ≤ m) := by show 1 + 4 * L 0 ≤ m; omega
  clear hc hr hx hrB hg ht HRd hL
  go_enter Tryd.func27, Tryd.ntmps27
  go_wp2_with (go_at_call 41; fail)
  refine HD.out.mono ?_
  rintro e w2 ⟨⟨a2, c2, rfl, hr2⟩, hB2⟩
  have HN : Hid (Calls Tryd.prog 35 #[.slice a2 x c2] w2 fun e w' => (∃ u, e = .returned u ∧ NOut w' u (some (uval L))) ∧ Below w2.heap.size w2 w') := number_any a2 x c2 _ w2 hr2 HDl.out _ HV.out
  have hg2 := (hB2.block _ (by simp)).trans Hg.out
  have Hg2 : Hid (w2.heap[w.heap.size]? = some (.cells #[.bool false, .slice none 0 0] 24)) := hg2
  have hs2 : w.heap.size < w2.heap.size := by have := hB2.size; simp at this; omega
  have HB2 : Hid (Below w.heap.size w w2) := below_step HB.out hB2
  clear hg2 hB2 hr2 HD Hg HB
  go_wp2_with (go_at_call 35; fail)
  refine HN.out.mono ?_
  rintro e w3 ⟨⟨u, rfl, hu⟩, hB3⟩
  have hg3 := (hB3.block _ hs2).trans Hg2.out
  obtain ⟨au, cu, rfl⟩ := nout_fin hu
  obtain ⟨b0, b1, b2, b3, b4, b5⟩ := box_facts hg3
  have Hg3 : Hid (w3.heap[w.heap.size]? = some (.cells #[.bool false, .slice none 0 0] 24)) := hg3
  have HB3 : Hid (Below w.heap.size w w3) := below_step HB2.out hB3
  have HU0 : Hid (NOut w3 (.agg #[.bool false, .slice au (ln (uval L)) cu]) (some (uval L))) := hu
  clear hg3 hB3 hu HN
  obtain ⟨n, hn⟩ : ∃ n, Hid (n = ln (uval L)) := ⟨_, rfl⟩
  rw [← hn.out] at HU0 ⊢
  have s0 : ((w3.setCell ⟨w.heap.size, 0, none⟩ (.bool false)).setCell ⟨w.heap.size, 1, none⟩ (.slice au n cu)).heap[w.heap.size]? = some (.cells #[.bool false, .slice au n cu] 24) := by
    simp [World.setCell, Array.getElem?_modify, show w3.heap[w.heap.size]? = _ from Hg3.out]
  obtain ⟨c0, c1, c2', c3, c4, c5⟩ := box_facts s0
  have HS0 : Hid (((w3.setCell ⟨w.heap.size, 0, none⟩ (.bool false)).setCell ⟨w.heap.size, 1, none⟩ (.slice au n cu)).heap[w.heap.size]? = some (.cells #[.bool false, .slice au n cu] 24)) := s0
  clear s0
  have HB4 : Hid (Below w.heap.size w ((w3.setCell ⟨w.heap.size, 0, none⟩ (.bool false)).setCell ⟨w.heap.size, 1, none⟩ (.slice au n cu))) := below_set HB3.out (Nat.le_refl _) _ _
  by_cases hnx : n = x
  · have hb : ((n : Int) != (x : Int)) = false := by simp; omega
    have HUR : Hid (UR m L (some (uval L)) (t : Int) 0) := Or.inr (Or.inr (Or.inr (Or.inr ⟨H1.out, H2.out, by rw [← hn.out, hnx, HX.out], rfl, by rw [HT.out], rfl⟩)))
    have HO : Hid (NOut ((w3.setCell ⟨w.heap.size, 0, none⟩ (.bool false)).setCell ⟨w.heap.size, 1, none⟩ (.slice au n cu)) (.agg #[.bool false, .slice au n cu]) (some (uval L))) := HU0.out.set Hg3.out false _
    clear hnx
    go_wp2
    exact bodyPost_ret (v := .tuple #[.agg #[.bool false, .slice au n cu], .int .i64 (t : Int), .int .i64 0]) (by simp [results, Tryd.results27, go_sem, c4, c5]) rfl ⟨⟨_, some (uval L), t, 0, rfl, HO.out.set HS0.out false _, HUR.out⟩, below_set HB4.out (Nat.le_refl _) _ _⟩
  · have hb : ((n : Int) != (x : Int)) = true := by simp; omega
    have HUR : Hid (UR m L (some 0) 0 13) := Or.inr (Or.inr (Or.inr (Or.inl ⟨H1.out, H2.out, by rw [← hn.out, ← HX.out]; exact hnx, rfl, rfl, rfl⟩)))
    clear hnx
    go_wp2
    exact bodyPost_ret (v := .tuple #[.agg #[.bool false, .slice none 0 0], .int .i64 0, .int .i64 13]) (by simp [results, Tryd.results27, go_sem, c4, c5]) rfl ⟨⟨_, some 0, 0, 13, rfl, nout_zero _, HUR.out⟩, below_set HB4.out (Nat.le_refl _) _ _⟩
/-- nat's Unbytes. -/
theorem unb_any (a : Option Addr) (m c : Nat) (L : Nat → Nat) (w : World) (hr : Rd w a m c (u8s L)) (hmm : m ≤ 100000) (hL : ∀ j, L j < 256) : Calls Tryd.prog 27 #[.slice a m c] w fun e w' => UOut w' e m L ∧ Below w.heap.size w w' := by
  by_cases hm : m = 0
  · subst hm; exact unb_none a c L w
  · by_cases h255 : L 0 = 255
    · exact unb_inf a m c L w hr (by omega) h255
    · by_cases hs : 64 < L 0 ∨ m < 1 + 4 * L 0
      · exact unb_short a m c L w hr (by omega) hmm (hL 0) h255 hs
      · exact unb_good a m c L w hr hmm hL (by omega) (by omega)
end Go.Proofs.YtklkcnpcjmeejaaDoor
