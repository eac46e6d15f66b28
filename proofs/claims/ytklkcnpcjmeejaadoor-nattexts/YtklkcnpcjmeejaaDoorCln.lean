/- The document's own clean: what it answers lies in a block of digits. -/
import Derived.Test.YtklkcnpcjmeejaaDoorBlk
import Derived.Test.YtklkcnpcjmeejaaDoorByt
namespace Go.Proofs.YtklkcnpcjmeejaaDoor
open Go.RowKit Fo
set_option maxRecDepth 100000

/-- Nil, or in a block of digits. -/
def Tg (w : World) (a : Option Addr) : Prop := ∀ g o, a = some ⟨g, o, none⟩ → ∃ cur, w.heap[g]? = some (.cells cur 62 (0, 0))
theorem Fo.Ow.tg {B : Nat} {w : World} {a : Option Addr} {n c : Nat} {V : Nat → Value} (h : Ow 62 B w (.slice a n c) n V) : Tg w a := fun g o e => by
  rcases h.2 with ⟨h1, -⟩ | ⟨g', cap, cur, h1, -, hg, -⟩
  · rw [e] at h1; cases h1
  · rw [e] at h1
    obtain ⟨⟨rfl, -⟩, -⟩ : (g = g' ∧ o = 0) ∧ c = cap := by simpa using h1
    exact ⟨cur, hg⟩
theorem Tg.below {w w' : World} {a : Option Addr} (h : Tg w a) (hb : Below w.heap.size w w') : Tg w' a := fun g o e => by
  obtain ⟨cur, hc⟩ := h g o e
  exact ⟨cur, (hb.block g (Array.getElem?_eq_some_iff.1 hc).1).trans hc⟩
/-- A row of bytes that grows leaves digits alone. -/
theorem tg_app {B : Nat} {w w0 w' : World} {a : Option Addr} {v : Value} {n m c : Nat} {V : Nat → Value} {L : Nat → Value} (h : Tg w a) (hr : Rd w a m c L) (ho : Ow 5 B w v n V) (h0 : Below w.heap.size w w0) (hg : w0.grownBy w' v.ownBlock) : Tg w' a ∧ Rd w' a m c L := by
  have key : ∀ g o, a = some ⟨g, o, none⟩ → w'.heap[g]? = w.heap[g]? := fun g o e => by
    obtain ⟨cur, hc⟩ := h g o e
    have hlt := (Array.getElem?_eq_some_iff.1 hc).1
    refine (hg.block g (Nat.lt_of_lt_of_le hlt h0.size) (fun e2 => ?_)).trans (h0.block g hlt)
    rcases ho.2 with ⟨rfl, -⟩ | ⟨g', cap, cur', rfl, -, hg', -⟩
    · cases e2
    · obtain rfl : g = g' := by simpa [Value.ownBlock] using e2
      rw [hc] at hg'
      simp at hg'
  refine ⟨fun g o e => ?_, hr.1, hr.2.1, ?_⟩
  · obtain ⟨cur, hc⟩ := h g o e
    exact ⟨cur, (key g o e).trans hc⟩
  · rcases hr.2.2 with h3 | ⟨b, off, rfl, hc⟩
    · exact Or.inl h3
    · exact Or.inr ⟨b, off, rfl, fun j hj => (World.cell?_of_block (w := w) (key b off rfl)).trans (hc j hj)⟩
theorem clean2_end (a1 : Option Addr) (n k c1 M : Nat) (L : Nat → Nat) (w w1 : World) (x y : Value) (HB : Below w.heap.size w w1) (HO : Ow 62 (w.heap.size + 1 + 1) w1 (.slice a1 n c1) n (u32s L)) (hL : ∀ j, L j < 4294967296) (hM : lv L n = M) (hk : k ≤ n) (h0 : ∀ j, k ≤ j → j < n → L j = 0) (ht : k = 0 ∨ L (k - 1) ≠ 0) (e : Ending) (he : e = .returned (.agg #[.bool false, .slice a1 k c1])) :
    (∃ a' c', e = .returned (.agg #[.bool false, .slice a' (ln M) c']) ∧ Rd ((w1.setCell ⟨w.heap.size + 1, 0, none⟩ x).setCell ⟨w.heap.size + 1, 1, none⟩ y) a' (ln M) c' (u32s (dg M)) ∧ Tg ((w1.setCell ⟨w.heap.size + 1, 0, none⟩ x).setCell ⟨w.heap.size + 1, 1, none⟩ y) a') ∧ Below w.heap.size w ((w1.setCell ⟨w.heap.size + 1, 0, none⟩ x).setCell ⟨w.heap.size + 1, 1, none⟩ y) := by
  obtain ⟨rfl, hd⟩ := clean_worth L n k M hL hM hk h0 ht
  refine ⟨⟨a1, c1, he, ?_, ((HO.setCell ⟨w.heap.size + 1, 0, none⟩ (by show w.heap.size + 1 < _; omega) x).setCell ⟨w.heap.size + 1, 1, none⟩ (by show w.heap.size + 1 < _; omega) y).tg⟩, (HB.setCell (by show w.heap.size ≤ w.heap.size + 1; omega) _).setCell (by show w.heap.size ≤ w.heap.size + 1; omega) _⟩
  have h2 := (HO.setCell ⟨w.heap.size + 1, 0, none⟩ (by show w.heap.size + 1 < _; omega) x).setCell ⟨w.heap.size + 1, 1, none⟩ (by show w.heap.size + 1 < _; omega) y
  refine (h2.rd1.head _ hk).congr fun j hj => ?_
  unfold u32s; rw [hd j hj]
theorem clean2_fin (a : Option Addr) (n c : Nat) (L : Nat → Nat) (w : World) (hr : Rd w a n c (u32s L)) (hL : ∀ j, L j < 4294967296) (hn : n ≤ 100000) (M : Nat) (hM : lv L n = M) :
    Calls Tryd.prog 36 #[.agg #[.bool false, .slice a n c]] w fun e w' => (∃ a' c', e = .returned (.agg #[.bool false, .slice a' (ln M) c']) ∧ Rd w' a' (ln M) c' (u32s (dg M)) ∧ Tg w' a') ∧ Below w.heap.size w w' := by
  have HR : Hid (Rd w a n c (u32s L)) := hr
  have HM : Hid (lv L n = M) := hM
  clear hr hM
  go_enter Tryd.func36, Tryd.ntmps36
  go_wp2_with (at_builtin; refine wpList_app eU32 rfl _ _ rfl (made_at 62 (w.heap.size + 1 + 1) _ (u32s L) (w.heap.size + 1 + 1) (by simp) (by simp)) (by simp) (HR.out.below (below3 w _ _ _)) (u32s_one L n) n (by omega) (by omega) (u32s L) (fun j _ => catV_zero _ _ j) rfl rfl ?_; intro a1 c1 w1 hO hG)
  have hblk : w1.heap[w.heap.size + 1]? = some (.cells #[.bool false, .slice none 0 0] 24) := by
    rw [hG.block (w.heap.size + 1) (by simp) (by simp [Value.ownBlock]), Below.heap_alloc _ _ _ (by simp), ← (show (w.alloc (.cells #[.bool false, .slice a n c] 24)).heap.size = w.heap.size + 1 by simp), heap_alloc_new]
  have hc0 : w1.cell? ⟨w.heap.size + 1, 0, none⟩ = some (.bool false) := by simp [World.cell?, hblk]
  have hc1 : w1.cell? ⟨w.heap.size + 1, 1, none⟩ = some (.slice none 0 0) := by simp [World.cell?, hblk]
  have hf0 : w1.frozen? ⟨w.heap.size + 1, 0, none⟩ = false := by simp [World.frozen?, hblk]
  have hf1 : w1.frozen? ⟨w.heap.size + 1, 1, none⟩ = false := by simp [World.frozen?, hblk]
  have hs0 : ∀ x, (w1.setCell ⟨w.heap.size + 1, 0, none⟩ x).cell? ⟨w.heap.size + 1, 0, none⟩ = some x := fun x => World.cell?_setCell_same' w1 _ x (by rw [hc0]; rfl)
  have hs1 : ∀ x y, ((w1.setCell ⟨w.heap.size + 1, 0, none⟩ x).setCell ⟨w.heap.size + 1, 1, none⟩ y).cell? ⟨w.heap.size + 1, 1, none⟩ = some y := fun x y => World.cell?_setCell_same' _ _ y (by simp [hc1, go_sem])
  have HB : Hid (Below w.heap.size w w1) := (below3 w _ _ _).grown hG (by simp; omega) (fun k hk => by
    have : w.heap.size + 1 + 1 = k := by simpa [Value.ownBlock] using hk
    omega)
  have HO : Hid (Ow 62 (w.heap.size + 1 + 1) w1 (.slice a1 n c1) n (u32s L)) := hO
  have hcc : n ≤ c1 := hO.rd1.1
  have hcm : c1 ≤ 9223372036854775807 := hO.rd1.2.1
  clear hO hG HR hblk
  go_loop [3] (fun v => ∃ k : Nat, k ≤ n ∧ v = .slice a1 k c1 ∧ Hid (∀ j, k ≤ j → j < n → L j = 0)) (fun v => sLen v)
  case atStart => exact ⟨n, Nat.le_refl _, rfl, fun j h1 h2 => absurd h2 (by omega)⟩
  case round =>
    obtain ⟨k, hk, rfl, HK⟩ := hrel
    by_cases h0 : k = 0
    · subst h0
      have HE : Hid (∀ e : Ending, e = .returned (.agg #[.bool false, .slice a1 0 c1]) → (∃ a' c', e = .returned (.agg #[.bool false, .slice a' (ln M) c']) ∧ Rd ((w1.setCell ⟨w.heap.size + 1, 0, none⟩ (.bool false)).setCell ⟨w.heap.size + 1, 1, none⟩ (.slice a1 0 c1)) a' (ln M) c' (u32s (dg M)) ∧ Tg ((w1.setCell ⟨w.heap.size + 1, 0, none⟩ (.bool false)).setCell ⟨w.heap.size + 1, 1, none⟩ (.slice a1 0 c1)) a') ∧ Below w.heap.size w ((w1.setCell ⟨w.heap.size + 1, 0, none⟩ (.bool false)).setCell ⟨w.heap.size + 1, 1, none⟩ (.slice a1 0 c1))) :=
        fun e he => clean2_end a1 n 0 c1 M L w w1 _ _ HB.out HO.out hL HM.out hk HK.out (Or.inl rfl) e he
      clear HB HO hL HM HK
      go_wp2
      refine bodyPost_ret (v := .agg #[.bool false, .slice a1 0 c1]) (by simp [results, Tryd.results36, go_sem, hs0, hs1]) rfl (HE.out _ rfl)
    · obtain ⟨b, off, rfl, hcell⟩ := HO.out.rd1.at (by omega)
      have hck := hcell (k - 1) (by omega)
      unfold u32s at hck
      clear hcell
      by_cases hz : L (k - 1) = 0
      · rw [hz] at hck
        have HK' : Hid (∀ j, k - 1 ≤ j → j < n → L j = 0) := fun j h1 h2 => by
          by_cases e : j = k - 1
          · rw [e]; exact hz
          · exact HK.out j (by omega) h2
        clear HK hz HO HB hL HM
        go_wp2
        go_round
        case rel => exact ⟨k - 1, by omega, by go_num, HK'⟩
        case measure => simp [sLen]; omega
      · have hz' : (((L (k - 1) : Nat) : Int) == 0) = false := by simp; omega
        have HE : Hid (∀ e : Ending, e = .returned (.agg #[.bool false, .slice (some ⟨b, off, none⟩) k c1]) → (∃ a' c', e = .returned (.agg #[.bool false, .slice a' (ln M) c']) ∧ Rd ((w1.setCell ⟨w.heap.size + 1, 0, none⟩ (.bool false)).setCell ⟨w.heap.size + 1, 1, none⟩ (.slice (some ⟨b, off, none⟩) k c1)) a' (ln M) c' (u32s (dg M)) ∧ Tg ((w1.setCell ⟨w.heap.size + 1, 0, none⟩ (.bool false)).setCell ⟨w.heap.size + 1, 1, none⟩ (.slice (some ⟨b, off, none⟩) k c1)) a') ∧ Below w.heap.size w ((w1.setCell ⟨w.heap.size + 1, 0, none⟩ (.bool false)).setCell ⟨w.heap.size + 1, 1, none⟩ (.slice (some ⟨b, off, none⟩) k c1))) :=
          fun e he => clean2_end _ n k c1 M L w w1 _ _ HB.out HO.out hL HM.out hk HK.out (Or.inr hz) e he
        clear HB HO hL HM HK hz
        go_wp2
        refine bodyPost_ret (v := .agg #[.bool false, .slice (some ⟨b, off, none⟩) k c1]) (by simp [results, Tryd.results36, go_sem, hs0, hs1]) rfl (HE.out _ rfl)
end Go.Proofs.YtklkcnpcjmeejaaDoor
