/- Numbers without an end in memory: what comes in, what is answered. -/
import Derived.Test.YtjdbapkmaggllaaGreatDoorRows
import Derived.Test.YtjdbapkmaggllaaGreatDoorS00
import Derived.Test.YtjdbapkmaggllaaGreatDoorS01
import Derived.WalkKit
import Derived.WalkLawsBesides
import Derived.OwnWalk
import Derived.KernelRfl
namespace Go.Proofs.YtjdbapkmaggllaaGreatDoor
open Go.RowKit Fo
set_option maxRecDepth 100000

theorem ret_bool {a b : Bool} (h : a = b) : Ending.returned (.bool a) = .returned (.bool b) := by rw [h]
theorem ret_int {k : IntKind} {a b : Int} (h : a = b) : Ending.returned (.int k a) = .returned (.int k b) := by rw [h]
namespace Fo
def u32s (L : Nat → Nat) (j : Nat) : Value := .int .u32 (L j)
theorem u32s_one (L : Nat → Nat) (n j : Nat) (_ : j < n) : (u32s L j).oneCell' = true := rfl
/-- A number that comes in: infinity, or what its digits are worth. -/
def NIn (w : World) (v : Value) (X : Option Nat) : Prop :=
  ∃ (i : Bool) (a : Option Addr) (n c : Nat) (L : Nat → Nat), v = .agg #[.bool i, .slice a n c] ∧ Rd w a n c (u32s L) ∧ (∀ j, L j < 4294967296) ∧ n ≤ 100000 ∧ X = if i then none else some (lv L n)
/-- A number that is answered. -/
def NOut (w : World) (v : Value) (X : Option Nat) : Prop :=
  (X = none ∧ ∃ a c, v = .agg #[.bool true, .slice a 0 c] ∧ c ≤ 9223372036854775807) ∨ ∃ N a c, X = some N ∧ v = .agg #[.bool false, .slice a (ln N) c] ∧ Rd w a (ln N) c (u32s (dg N))
theorem NIn.below {w w1 : World} {v : Value} {X : Option Nat} (h : NIn w v X) (hb : Below w.heap.size w w1) : NIn w1 v X := by
  obtain ⟨i, a, n, c, L, h1, h2, h3⟩ := h
  exact ⟨i, a, n, c, L, h1, h2.below hb, h3⟩
theorem NOut.below {w w1 : World} {v : Value} {X : Option Nat} (h : NOut w v X) (hb : Below w.heap.size w w1) : NOut w1 v X := by
  rcases h with h | ⟨N, a, c, h1, h2, h3⟩
  · exact Or.inl h
  · exact Or.inr ⟨N, a, c, h1, h2, h3.below hb⟩
theorem NOut.nin {w : World} {v : Value} {X : Option Nat} (h : NOut w v X) (hX : ∀ N, X = some N → ln N ≤ 100000) : NIn w v X := by
  rcases h with ⟨rfl, a, c, rfl, hc⟩ | ⟨N, a, c, rfl, rfl, h3⟩
  · exact ⟨true, a, 0, c, fun _ => 0, rfl, Rd.empty _ _ _ hc _, fun _ => by show 0 < 4294967296; decide, by decide, rfl⟩
  · exact ⟨false, a, ln N, c, dg N, rfl, h3, dg_lt N, hX N rfl, by rw [lv_ln]; rfl⟩
end Fo
theorem t22 : Tryz.prog.underlying 22 = some (.slice 66) := Tryz.underlying22
noncomputable def eU32 : Elt Tryz.prog 22 66 := ⟨Tryz.t66, .int .u32 0, 4, Tryz.underlying22, by kernel_rfl, by kernel_rfl, by kernel_rfl, by kernel_rfl, rfl, by decide⟩
/-- A slice's length: for a loop's measure. -/
def sLen : Value → Nat | .slice _ k _ => k | _ => 0
theorem clean_inf (a : Option Addr) (n c : Nat) (w : World) : Calls Tryz.prog 62 #[.agg #[.bool true, .slice a n c]] w fun e w' => e = .returned (.agg #[.bool true, .slice none 0 0]) ∧ Below w.heap.size w w' := by
  have hB := ((below_refl w).alloc (Nat.le_refl _) (.cells #[.bool true, .slice a n c] 24)).alloc (by simp) (.cells #[.bool true, .slice none 0 0] 24)
  have HB : Hid (Below w.heap.size w ((w.alloc (.cells #[.bool true, .slice a n c] 24)).alloc (.cells #[.bool true, .slice none 0 0] 24))) := hB
  clear hB
  go_enter Tryz.func62, Tryz.ntmps62
  go_wp2
  refine bodyPost_ret (v := .agg #[.bool true, .slice none 0 0]) (by simp [results, Tryz.results62, go_sem]) rfl ?_
  exact ⟨rfl, HB.out⟩
theorem made_at (E : TypeId) (B : Nat) (w : World) (V : Nat → Value) (g : Nat) (hg : w.heap.size = g) (hB : B ≤ w.heap.size) : Ow E B (w.alloc (.cells #[] E)) (.slice (some ⟨g, 0, none⟩) 0 0) 0 V := hg ▸ Ow.made E B w V hB
theorem below3 (w : World) (o1 o2 o3 : Obj) : Below w.heap.size w (((w.alloc o1).alloc o2).alloc o3) := (((below_refl w).alloc (Nat.le_refl _) _).alloc (by simp) _).alloc (by simp; omega) _
theorem below2 (w : World) (o1 o2 : Obj) : Below w.heap.size w ((w.alloc o1).alloc o2) := ((below_refl w).alloc (Nat.le_refl _) _).alloc (by simp) _
theorem catV_zero (X V : Nat → Value) : ∀ j, catV X 0 V j = V j := fun j => by unfold catV; rw [if_neg (by omega)]; rfl
theorem Fo.Ow.setCell {E : TypeId} {B : Nat} {w : World} {v : Value} {n : Nat} {V : Nat → Value} (h : Ow E B w v n V) (p : Addr) (hp : p.block < B) (u : Value) : Ow E B (w.setCell p u) v n V := by
  refine ⟨h.1, ?_⟩
  rcases h.2 with hn | ⟨g, cap, cur, rfl, hb, hgg, rest⟩
  · exact Or.inl hn
  · exact Or.inr ⟨g, cap, cur, rfl, hb, by rw [Below.heap_setCell w p u g (by omega)]; exact hgg, rest⟩
theorem clean_worth (L : Nat → Nat) (n k M : Nat) (hL : ∀ j, L j < 4294967296) (hM : lv L n = M) (hk : k ≤ n) (h0 : ∀ j, k ≤ j → j < n → L j = 0) (ht : k = 0 ∨ L (k - 1) ≠ 0) : k = ln M ∧ ∀ j, j < k → L j = dg M j := by
  have h1 := lv_noughts L k n hk h0
  have h2 := ln_of L k (fun j _ => hL j) ht
  rw [← h1, hM] at h2
  refine ⟨h2.symm, fun j hj => ?_⟩
  rw [← hM, h1, dg_lv L k (fun j _ => hL j) j hj]
theorem clean_end (a1 : Option Addr) (n k c1 M : Nat) (L : Nat → Nat) (w w1 : World) (x y : Value) (HB : Below w.heap.size w w1) (HO : Ow 66 (w.heap.size + 1 + 1) w1 (.slice a1 n c1) n (u32s L)) (hL : ∀ j, L j < 4294967296) (hM : lv L n = M) (hk : k ≤ n) (h0 : ∀ j, k ≤ j → j < n → L j = 0) (ht : k = 0 ∨ L (k - 1) ≠ 0) (e : Ending) (he : e = .returned (.agg #[.bool false, .slice a1 k c1])) :
    (∃ a' c', e = .returned (.agg #[.bool false, .slice a' (ln M) c']) ∧ Rd ((w1.setCell ⟨w.heap.size + 1, 0, none⟩ x).setCell ⟨w.heap.size + 1, 1, none⟩ y) a' (ln M) c' (u32s (dg M))) ∧ Below w.heap.size w ((w1.setCell ⟨w.heap.size + 1, 0, none⟩ x).setCell ⟨w.heap.size + 1, 1, none⟩ y) := by
  obtain ⟨rfl, hd⟩ := clean_worth L n k M hL hM hk h0 ht
  refine ⟨⟨a1, c1, he, ?_⟩, (HB.setCell (by show w.heap.size ≤ w.heap.size + 1; omega) _).setCell (by show w.heap.size ≤ w.heap.size + 1; omega) _⟩
  have h2 := (HO.setCell ⟨w.heap.size + 1, 0, none⟩ (by show w.heap.size + 1 < _; omega) x).setCell ⟨w.heap.size + 1, 1, none⟩ (by show w.heap.size + 1 < _; omega) y
  refine (h2.rd1.head _ hk).congr fun j hj => ?_
  unfold u32s; rw [hd j hj]
theorem clean_fin (a : Option Addr) (n c : Nat) (L : Nat → Nat) (w : World) (hr : Rd w a n c (u32s L)) (hL : ∀ j, L j < 4294967296) (hn : n ≤ 100000) (M : Nat) (hM : lv L n = M) :
    Calls Tryz.prog 62 #[.agg #[.bool false, .slice a n c]] w fun e w' => (∃ a' c', e = .returned (.agg #[.bool false, .slice a' (ln M) c']) ∧ Rd w' a' (ln M) c' (u32s (dg M))) ∧ Below w.heap.size w w' := by
  have HR : Hid (Rd w a n c (u32s L)) := hr
  have HM : Hid (lv L n = M) := hM
  clear hr hM
  go_enter Tryz.func62, Tryz.ntmps62
  go_wp2_with (at_builtin; refine wpList_app eU32 rfl _ _ rfl (made_at 66 (w.heap.size + 1 + 1) _ (u32s L) (w.heap.size + 1 + 1) (by simp) (by simp)) (by simp) (HR.out.below (below3 w _ _ _)) (u32s_one L n) n (by omega) (by omega) (u32s L) (fun j _ => catV_zero _ _ j) rfl rfl ?_; intro a1 c1 w1 hO hG)
  have hblk : w1.heap[w.heap.size + 1]? = some (.cells #[.bool false, .slice none 0 0] 24) := by
    rw [hG.block (w.heap.size + 1) (by simp) (by simp [Value.ownBlock]), Below.heap_alloc _ _ _ (by simp), ← (show (w.alloc (.cells #[.bool false, .slice a n c] 24)).heap.size = w.heap.size + 1 by simp), heap_alloc_new]
  have hc0 : w1.cell? ⟨w.heap.size + 1, 0, none⟩ = some (.bool false) := by simp [World.cell?, hblk]
  have hc1 : w1.cell? ⟨w.heap.size + 1, 1, none⟩ = some (.slice none 0 0) := by simp [World.cell?, hblk]
  have hf0 : w1.frozen? ⟨w.heap.size + 1, 0, none⟩ = false := by simp [World.frozen?, hblk]
  have hf1 : w1.frozen? ⟨w.heap.size + 1, 1, none⟩ = false := by simp [World.frozen?, hblk]
  have hs0 : ∀ x, (w1.setCell ⟨w.heap.size + 1, 0, none⟩ x).cell? ⟨w.heap.size + 1, 0, none⟩ = some x := fun x => World.cell?_setCell_same' w1 _ x (by rw [hc0]; rfl)
  have hs1 : ∀ x y, ((w1.setCell ⟨w.heap.size + 1, 0, none⟩ x).setCell ⟨w.heap.size + 1, 1, none⟩ y).cell? ⟨w.heap.size + 1, 1, none⟩ = some y := fun x y => World.cell?_setCell_same' _ _ y (by simp [hc1, go_sem])
  have HB : Hid (Below w.heap.size w w1) := (below3 w _ _ _).grown hG (by simp; omega) (fun k hk => by
    have : w.heap.size + 1 + 1 = k := by simpa [Value.ownBlock] using hk
    omega)
  have HO : Hid (Ow 66 (w.heap.size + 1 + 1) w1 (.slice a1 n c1) n (u32s L)) := hO
  have hcc : n ≤ c1 := hO.rd1.1
  have hcm : c1 ≤ 9223372036854775807 := hO.rd1.2.1
  clear hO hG HR hblk
  go_loop [3] (fun v => ∃ k : Nat, k ≤ n ∧ v = .slice a1 k c1 ∧ Hid (∀ j, k ≤ j → j < n → L j = 0)) (fun v => sLen v)
  case atStart => exact ⟨n, Nat.le_refl _, rfl, fun j h1 h2 => absurd h2 (by omega)⟩
  case round =>
    obtain ⟨k, hk, rfl, HK⟩ := hrel
    by_cases h0 : k = 0
    · subst h0
      have HE : Hid (∀ e : Ending, e = .returned (.agg #[.bool false, .slice a1 0 c1]) → (∃ a' c', e = .returned (.agg #[.bool false, .slice a' (ln M) c']) ∧ Rd ((w1.setCell ⟨w.heap.size + 1, 0, none⟩ (.bool false)).setCell ⟨w.heap.size + 1, 1, none⟩ (.slice a1 0 c1)) a' (ln M) c' (u32s (dg M))) ∧ Below w.heap.size w ((w1.setCell ⟨w.heap.size + 1, 0, none⟩ (.bool false)).setCell ⟨w.heap.size + 1, 1, none⟩ (.slice a1 0 c1))) :=
        fun e he => clean_end a1 n 0 c1 M L w w1 _ _ HB.out HO.out hL HM.out hk HK.out (Or.inl rfl) e he
      clear HB HO hL HM HK
      go_wp2
      refine bodyPost_ret (v := .agg #[.bool false, .slice a1 0 c1]) (by simp [results, Tryz.results62, go_sem, hs0, hs1]) rfl (HE.out _ rfl)
    · obtain ⟨b, off, rfl, hcell⟩ := HO.out.rd1.at (by omega)
      have hck := hcell (k - 1) (by omega)
      unfold u32s at hck
      clear hcell
      by_cases hz : L (k - 1) = 0
      · rw [hz] at hck
        have HK' : Hid (∀ j, k - 1 ≤ j → j < n → L j = 0) := fun j h1 h2 => by
          by_cases e : j = k - 1
          · rw [e]; exact hz
          · exact HK.out j (by omega) h2
        clear HK hz HO HB hL HM
        go_wp2
        go_round
        case rel => exact ⟨k - 1, by omega, by go_num, HK'⟩
        case measure => simp [sLen]; omega
      · have hz' : (((L (k - 1) : Nat) : Int) == 0) = false := by simp; omega
        have HE : Hid (∀ e : Ending, e = .returned (.agg #[.bool false, .slice (some ⟨b, off, none⟩) k c1]) → (∃ a' c', e = .returned (.agg #[.bool false, .slice a' (ln M) c']) ∧ Rd ((w1.setCell ⟨w.heap.size + 1, 0, none⟩ (.bool false)).setCell ⟨w.heap.size + 1, 1, none⟩ (.slice (some ⟨b, off, none⟩) k c1)) a' (ln M) c' (u32s (dg M))) ∧ Below w.heap.size w ((w1.setCell ⟨w.heap.size + 1, 0, none⟩ (.bool false)).setCell ⟨w.heap.size + 1, 1, none⟩ (.slice (some ⟨b, off, none⟩) k c1))) :=
          fun e he => clean_end _ n k c1 M L w w1 _ _ HB.out HO.out hL HM.out hk HK.out (Or.inr hz) e he
        clear HB HO hL HM HK hz
        go_wp2
        refine bodyPost_ret (v := .agg #[.bool false, .slice (some ⟨b, off, none⟩) k c1]) (by simp [results, Tryz.results62, go_sem, hs0, hs1]) rfl (HE.out _ rfl)
/-- The document's own clean. -/
theorem clean_any (w : World) (v : Value) (X : Option Nat) (h : NIn w v X) : Calls Tryz.prog 62 #[v] w fun e w' => (∃ u, e = .returned u ∧ NOut w' u X) ∧ Below w.heap.size w w' := by
  obtain ⟨i, a, n, c, L, rfl, hr, hL, hn, rfl⟩ := h
  cases i
  · refine (clean_fin a n c L w hr hL hn _ rfl).mono fun e w' hh => ?_
    obtain ⟨⟨a', c', rfl, h1⟩, h2⟩ := hh
    exact ⟨⟨_, rfl, Or.inr ⟨_, a', c', rfl, rfl, h1⟩⟩, h2⟩
  · refine (clean_inf a n c w).mono fun e w' hh => ?_
    obtain ⟨rfl, h2⟩ := hh
    exact ⟨⟨_, rfl, Or.inl ⟨rfl, none, 0, rfl, by decide⟩⟩, h2⟩
end Go.Proofs.YtjdbapkmaggllaaGreatDoor
