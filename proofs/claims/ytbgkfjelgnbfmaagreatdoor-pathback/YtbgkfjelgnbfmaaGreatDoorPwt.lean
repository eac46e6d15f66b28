/- Weight, small. -/
import Derived.Test.YtbgkfjelgnbfmaaGreatDoorPdp
import Derived.Test.YtbgkfjelgnbfmaaGreatDoorOwr
namespace Go.Proofs.YtbgkfjelgnbfmaaGreatDoor
open Go.RowKit Fo
set_option maxRecDepth 100000
set_option linter.unusedSimpArgs false
set_option linter.unusedVariables false

namespace Fo
/-- A path that lies in memory, to a depth. -/
def Wfp (w : World) : Nat → PV → Prop
  | 0, _ => True
  | k + 1, x => ∃ V, PRow (fun _ => True) w x.a x.len x.cap V ∧ ∀ j, j < x.len → Wfp w k (V j)
theorem PRow.below {F : Nat → Prop} {w w' : World} {a : Option Addr} {len cap : Nat} {V : Nat → PV} (h : PRow F w a len cap V) (hb : Below w.heap.size w w') : PRow F w' a len cap V := h.kp (Kp.of_below (F := fun _ => False) hb) (fun _ _ h => h) fun _ _ h => h
theorem Wfp.below {w w' : World} (hb : Below w.heap.size w w') : ∀ {k : Nat} {x : PV}, Wfp w k x → Wfp w' k x
  | 0, _, _ => trivial
  | _ + 1, _, ⟨V, hr, hk⟩ => ⟨V, hr.below hb, fun j hj => Wfp.below hb (hk j hj)⟩
def SumR (n x W : Int) : Prop := (n + x ≤ 1099511627776 → W = n + x) ∧ (1099511627776 < n + x → W = 1099511627776)
theorem trees {w : World} {V : Nat → PV} : ∀ (n : Nat), (∀ j, j < n → ∃ t, IsP (fun _ => True) w (V j) t) → ∃ ks : List PT, ks.length = n ∧ ∀ (j : Nat) (h : j < ks.length), IsP (fun _ => True) w (V j) ks[j]
  | 0, _ => ⟨[], rfl, fun j h => absurd h (Nat.not_lt_zero j)⟩
  | n + 1, h => by
    obtain ⟨ks, hl, hk⟩ := trees n fun j hj => h j (by omega)
    obtain ⟨t, ht⟩ := h n (by omega)
    refine ⟨ks ++ [t], by simp [hl], fun j hj => ?_⟩
    by_cases e : j < ks.length
    · rw [List.getElem_append_left e]; exact hk j e
    · have e' : j = n := by simp at hj; omega
      subst e'
      have : (ks ++ [t])[j] = t := by rw [List.getElem_append_right (by omega)]; simp [hl]
      rw [this]; exact ht
theorem tree_of {w : World} {x : PV} {V : Nat → PV} (hr : PRow (fun _ => True) w x.a x.len x.cap V) (h : ∀ j, j < x.len → ∃ t, IsP (fun _ => True) w (V j) t) : ∃ t, IsP (fun _ => True) w x t := by
  obtain ⟨ks, hl, hk⟩ := trees x.len h
  exact ⟨_, IsP.mk x V ks hl hr hk⟩
end Fo
set_option maxHeartbeats 4000000 in
theorem sum_any (w : World) (n x : Int) (b : Nat) (hx : w.cell? ⟨b, 0, none⟩ = some (.int .i64 x)) (h1 : 0 ≤ n ∧ n ≤ 1099511627776) (h2 : 0 ≤ x) :
    Calls Tryz.prog 51 #[.int .i64 n, .slice (some ⟨b, 0, none⟩) 1 1] w fun e w' => (∃ W, e = .returned (.int .i64 W) ∧ SumR n x W) ∧ w' = w := by
  obtain ⟨n1, n2⟩ := h1
  have HX : Hid (w.cell? ⟨b, 0, none⟩ = some (.int .i64 x)) := hx
  clear hx
  go_enter Tryz.func51, Tryz.ntmps51
  go_wp2
  go_loopw [0, 5] (fun v0 v5 wr => wr = w ∧ ((v5 = .int .i64 0 ∧ v0 = .int .i64 n) ∨ (v5 = .int .i64 1 ∧ v0 = .int .i64 (n + x) ∧ Hid (n + x ≤ 1099511627776)))) (fun _ v _ => 1 - (intOf v).toNat)
  case atStart => exact ⟨rfl, Or.inl ⟨rfl, rfl⟩⟩
  case round =>
    obtain ⟨rfl, ⟨rfl, rfl⟩ | ⟨rfl, rfl, HQ⟩⟩ := hrel
    · have hx := HX.out
      by_cases hs : 1099511627776 - n < x
      · go_wp2
        go_ret
        exact ⟨⟨_, rfl, fun h => by omega, fun _ => rfl⟩, rfl⟩
      · go_wp2
        exact ⟨⟨trivial, Or.inr ⟨rfl, rfl, by show n + x ≤ 1099511627776; omega⟩⟩, by simp [intOf]⟩
    · have hq := HQ.out
      go_wp2
      go_ret
      exact ⟨⟨_, rfl, fun _ => rfl, fun h => by omega⟩, rfl⟩
namespace Fo
def WtR (w : World) (x : PV) (W : Int) : Prop := 1 ≤ W ∧ W ≤ 1099511627776 ∧ (W ≤ 400 → ∃ t, IsP (fun _ => True) w x t)
end Fo
set_option maxHeartbeats 4000000 in
theorem wgt_deep (w : World) (x : PV) : Calls Tryz.prog 32 #[x.v, .int .i64 61] w fun e w' => (∃ W, e = .returned (.int .i64 W) ∧ WtR w' x W) ∧ Below w.heap.size w w' := by
  have hend : ∀ w', WtR w' x 1099511627776 := fun w' => ⟨by decide, by decide, fun h => absurd h (by decide)⟩
  obtain ⟨kind, label, a, len, cap, lo', hi'⟩ := x
  have HEND : Hid (∀ w', WtR w' ⟨kind, label, a, len, cap, lo', hi'⟩ 1099511627776) := hend
  clear hend
  unfold PV.v
  obtain ⟨W1, hW1⟩ : ∃ W1, W1 = w.alloc (.cells #[.int .i64 kind, .string label, .slice a len cap, .int .i64 lo', .int .i64 hi'] 25) := ⟨_, rfl⟩
  have HBW1 : Hid (Below w.heap.size w W1) := by rw [hW1]; exact below1 w _
  have HGW1 : Hid (W1.heap[w.heap.size]? = some (.cells #[.int .i64 kind, .string label, .slice a len cap, .int .i64 lo', .int .i64 hi'] 25)) := by show W1.heap[_]? = _; rw [hW1]; exact heap_new1 w _
  obtain ⟨sz, hsz⟩ : ∃ sz, sz = label.size := ⟨_, rfl⟩
  go_enter Tryz.func32, Tryz.ntmps32
  go_wp2_with (go_at_call 51; fail)
  refine (sum_any _ 1 label.size (w.heap.size + 1) (by rw [cell_of_row _ _ _ _ _ _ (by have := heap_new1 (w.alloc (.cells #[.int .i64 kind, .string label, .slice a len cap, .int .i64 lo', .int .i64 hi'] 25)) (.cells #[.int .i64 (label.size : Int)] 3); simpa using this)]; rfl) ⟨by decide, by decide⟩ (by omega)).mono ?_
  rintro e w3 ⟨⟨Y, rfl, hy⟩, rfl⟩
  go_wp2
  go_ret
  exact ⟨⟨_, rfl, HEND.out _⟩, (below1 w _).alloc (by simp) _⟩
set_option maxHeartbeats 16000000 in
theorem wgt_step (k : Nat) (hk : k ≤ 60) (IH : ∀ (x : PV) (w : World), Wfp w k x → Calls Tryz.prog 32 #[x.v, .int .i64 (61 - k)] w fun e w' => (∃ W, e = .returned (.int .i64 W) ∧ WtR w' x W) ∧ Below w.heap.size w w')
    (x : PV) (w : World) (h : Wfp w (k + 1) x) : Calls Tryz.prog 32 #[x.v, .int .i64 (60 - k)] w fun e w' => (∃ W, e = .returned (.int .i64 W) ∧ WtR w' x W) ∧ Below w.heap.size w w' := by
  obtain ⟨V, hr, hw⟩ := h
  have HWf : Hid (∀ j, j < x.len → Wfp w k (V j)) := hw
  have HIH : Hid (∀ (x : PV) (w : World), Wfp w k x → Calls Tryz.prog 32 #[x.v, .int .i64 (61 - k)] w fun e w' => (∃ W, e = .returned (.int .i64 W) ∧ WtR w' x W) ∧ Below w.heap.size w w') := IH
  have HTR : Hid (∀ w', Below w.heap.size w w' → (∀ j, j < x.len → ∃ t, IsP (fun _ => True) w' (V j) t) → ∃ t, IsP (fun _ => True) w' x t) := fun w' hb => tree_of (hr.below hb)
  have HR : Hid (PRow (fun _ => True) w x.a x.len x.cap V) := hr
  obtain ⟨kind, label, a, len, cap, lo', hi'⟩ := x
  have hl1 := hr.1
  have hl2 := hr.2.1
  simp only at HWf HTR HR hl1 hl2
  clear hr hw IH
  unfold PV.v
  obtain ⟨W1, hW1⟩ : ∃ W1, W1 = w.alloc (.cells #[.int .i64 kind, .string label, .slice a len cap, .int .i64 lo', .int .i64 hi'] 25) := ⟨_, rfl⟩
  have HBW1 : Hid (Below w.heap.size w W1) := by rw [hW1]; exact below1 w _
  have HGW1 : Hid (W1.heap[w.heap.size]? = some (.cells #[.int .i64 kind, .string label, .slice a len cap, .int .i64 lo', .int .i64 hi'] 25)) := by show W1.heap[_]? = _; rw [hW1]; exact heap_new1 w _
  have hd : (60 - (k : Int)) ≤ 60 := by omega
  go_enter Tryz.func32, Tryz.ntmps32
  go_wp2_with (go_at_call 51; fail)
  obtain ⟨W2, hW2⟩ : ∃ W2, W2 = (w.alloc (.cells #[.int .i64 kind, .string label, .slice a len cap, .int .i64 lo', .int .i64 hi'] 25)).alloc (.cells #[.int .i64 (label.size : Int)] 3) := ⟨_, rfl⟩
  have hb2 : Below w.heap.size w W2 := by rw [hW2]; exact (below1 w _).alloc (by simp) _
  have hg2 : W2.heap[w.heap.size]? = some (.cells #[.int .i64 kind, .string label, .slice a len cap, .int .i64 lo', .int .i64 hi'] 25) := by rw [hW2]; exact heap_new2 w _ _
  have hs2 : W2.cell? ⟨w.heap.size + 1, 0, none⟩ = some (.int .i64 (label.size : Int)) := by
    rw [hW2, cell_of_row _ _ _ _ _ _ (by have := heap_new1 (w.alloc (.cells #[.int .i64 kind, .string label, .slice a len cap, .int .i64 lo', .int .i64 hi'] 25)) (.cells #[.int .i64 (label.size : Int)] 3); simpa using this)]; rfl
  have HB2 : Hid (Below w.heap.size w W2) := hb2
  have HG2 : Hid (W2.heap[w.heap.size]? = some (.cells #[.int .i64 kind, .string label, .slice a len cap, .int .i64 lo', .int .i64 hi'] 25)) := hg2
  rw [← hW2]
  clear hW2 hb2 hg2 hW1 HBW1 HGW1
  refine (sum_any W2 1 label.size (w.heap.size + 1) hs2 ⟨by decide, by decide⟩ (by omega)).mono ?_
  rintro e w3 ⟨⟨Y, rfl, hy⟩, rfl⟩
  have HY : Hid (1 ≤ Y ∧ Y ≤ 1099511627776) := by
    obtain ⟨q1, q2⟩ := hy
    show _ ∧ _
    by_cases q : 1 + (label.size : Int) ≤ 1099511627776
    · have := q1 q; omega
    · have := q2 (by omega); omega
  clear hy hs2
  go_wp2
  go_loopw [5, 6] (fun v5 v6 wr => ∃ (i : Nat) (W : Int), i ≤ len ∧ v5 = .int .i64 W ∧ v6 = .int .i64 i ∧ Hid (Below w.heap.size w wr) ∧ Hid (wr.heap[w.heap.size]? = some (.cells #[.int .i64 kind, .string label, .slice a len cap, .int .i64 lo', .int .i64 hi'] 25)) ∧ Hid (1 ≤ W ∧ W ≤ 1099511627776) ∧ Hid (W ≤ 400 → ∀ j, j < i → ∃ t, IsP (fun _ => True) wr (V j) t)) (fun _ v _ => len - (intOf v).toNat)
  case atStart => exact ⟨0, _, Nat.zero_le _, rfl, rfl, HB2.out, HG2.out, HY.out, fun _ j hj => absurd hj (Nat.not_lt_zero j)⟩
  case round =>
    obtain ⟨i, W, hi, rfl, rfl, HB, HG, HW, HT⟩ := hrel
    rename World => wr
    have e2 : wr.cell? ⟨w.heap.size, 2, none⟩ = some (.slice a len cap) := by rw [cell_of_row _ _ _ _ _ _ HG.out]; rfl
    clear HB2 HG2
    by_cases hlt : i < len
    · by_cases hW : W < 10000
      · obtain ⟨b, off, rfl, -, hc⟩ := HR.out.2.2.resolve_left (by omega)
        have hP := (hc i hlt).of_block (HB.out.block b (hc i hlt).lt)
        have HWk : Hid (Wfp wr k (V i)) := (HWf.out i hlt).below HB.out
        clear hc
        obtain ⟨y, hy⟩ : ∃ y, y = V i := ⟨_, rfl⟩
        have HYV : Hid (y = V i) := hy
        rw [← hy] at hP HWk
        clear hy
        obtain ⟨c0, c1, c2, c3, c4⟩ := hP
        obtain ⟨k0, k1, k2, k3, k4, k5, k6⟩ := y
        simp only at c0 c1 c2 c3 c4
        have j1 : (0 : Int) ≤ (i : Int) := by omega
        have j2 : (i : Int) < (len : Int) := by omega
        go_wp2_with (go_at_call 32; fail)
        rw [show (60 - (k : Int) + 1) = 61 - k by omega]
        refine (HIH.out ⟨k0, k1, k2, k3, k4, k5, k6⟩ wr HWk.out).mono ?_
        rintro e w4 ⟨⟨X, rfl, hx⟩, b4⟩
        have HX : Hid (WtR w4 ⟨k0, k1, k2, k3, k4, k5, k6⟩ X) := hx
        have HB4 : Hid (Below w.heap.size w w4) := below_step HB.out b4
        have HG4 : Hid (w4.heap[w.heap.size]? = some (.cells #[.int .i64 kind, .string label, .slice (some ⟨b, off, none⟩) len cap, .int .i64 lo', .int .i64 hi'] 25)) := (b4.block _ (lt_of_heap HG.out)).trans HG.out
        have HT4 : Hid (W ≤ 400 → ∀ j, j < i → ∃ t, IsP (fun _ => True) w4 (V j) t) := fun h j hj => by
          obtain ⟨t, ht⟩ := HT.out h j hj
          exact ⟨t, ht.bel b4⟩
        clear hx b4 c0 c1 c2 c3 c4 e2 HT HG HB
        go_wp2_with (go_at_call 51; fail)
        have hWW := HW.out
        have hX := HX.out
        refine (sum_any _ W X w4.heap.size (by rw [cell_of_row _ _ _ _ _ _ (heap_new1 w4 _)]; rfl) ⟨by omega, hWW.2⟩ (by have := hX.1; omega)).mono ?_
        rintro e w5 ⟨⟨Y, rfl, hy⟩, rfl⟩
        have HY2 : Hid (1 ≤ Y ∧ Y ≤ 1099511627776) := by
          obtain ⟨q1, q2⟩ := hy
          have := hX.1
          show _ ∧ _
          by_cases q : W + X ≤ 1099511627776
          · have := q1 q; omega
          · have := q2 (by omega); omega
        have HT5 : Hid (Y ≤ 400 → ∀ j, j < i + 1 → ∃ t, IsP (fun _ => True) (w4.alloc (.cells #[.int .i64 X] 3)) (V j) t) := fun h j hj => by
          obtain ⟨q1, q2⟩ := hy
          have hx1 := hX.1
          have hle : W + X ≤ 400 := by
            by_cases q : W + X ≤ 1099511627776
            · have := q1 q; omega
            · have := q2 (by omega); omega
          by_cases e : j = i
          · subst e
            obtain ⟨t, ht⟩ := hX.2.2 (by omega)
            rw [HYV.out] at ht
            exact ⟨t, ht.bel (below1 w4 _)⟩
          · obtain ⟨t, ht⟩ := HT4.out (by omega) j (by omega)
            exact ⟨t, ht.bel (below1 w4 _)⟩
        clear hy hX hWW
        go_wp2
        exact ⟨⟨i + 1, Y, by omega, rfl, by simp, HB4.out.alloc HB4.out.size _, ((below1 w4 _).block _ (lt_of_heap HG4.out)).trans HG4.out, HY2.out, HT5.out⟩, by simp [intOf]; omega⟩
      · have j2 : (i : Int) < (len : Int) := by omega
        have HE : Hid (WtR wr ⟨kind, label, a, len, cap, lo', hi'⟩ W) := ⟨HW.out.1, HW.out.2, fun h => by omega⟩
        go_wp2
        go_ret
        exact ⟨⟨_, rfl, HE.out⟩, HB.out⟩
    · have hn : i = len := by omega
      subst hn
      have HE : Hid (WtR wr ⟨kind, label, a, i, cap, lo', hi'⟩ W) := ⟨HW.out.1, HW.out.2, fun h => HTR.out wr HB.out (HT.out h)⟩
      go_wp2
      go_ret
      exact ⟨⟨_, rfl, HE.out⟩, HB.out⟩
theorem wgt_any : ∀ (k : Nat) (_ : k ≤ 61) (x : PV) (w : World), Wfp w k x → Calls Tryz.prog 32 #[x.v, .int .i64 (61 - k)] w fun e w' => (∃ W, e = .returned (.int .i64 W) ∧ WtR w' x W) ∧ Below w.heap.size w w'
  | 0, _, x, w, _ => wgt_deep w x
  | k + 1, hk, x, w, h => by
    have := wgt_step k (by omega) (wgt_any k (by omega)) x w h
    rwa [show (60 - (k : Int)) = 61 - ((k + 1 : Nat) : Int) by omega] at this
set_option maxHeartbeats 4000000 in
theorem sma_any (x : PV) (w : World) (h : Wfp w 61 x) : Calls Tryz.prog 14 #[x.v] w fun e w' => (∃ b, e = .returned (.bool b) ∧ (b = true → ∃ t, IsP (fun _ => True) w' x t)) ∧ Below w.heap.size w w' := by
  have HW : Hid (Wfp w 61 x) := h
  obtain ⟨y, hy⟩ : ∃ y, y = x := ⟨_, rfl⟩
  have HY : Hid (y = x) := hy
  rw [← hy] at HW ⊢
  obtain ⟨kind, label, a, len, cap, lo', hi'⟩ := y
  clear h hy HY
  unfold PV.v
  obtain ⟨W1, hW1⟩ : ∃ W1, W1 = w.alloc (.cells #[.int .i64 kind, .string label, .slice a len cap, .int .i64 lo', .int .i64 hi'] 25) := ⟨_, rfl⟩
  have HBW1 : Hid (Below w.heap.size w W1) := by rw [hW1]; exact below1 w _
  have HGW1 : Hid (W1.heap[w.heap.size]? = some (.cells #[.int .i64 kind, .string label, .slice a len cap, .int .i64 lo', .int .i64 hi'] 25)) := by show W1.heap[_]? = _; rw [hW1]; exact heap_new1 w _
  go_enter Tryz.func14, Tryz.ntmps14
  go_wp2_with (go_at_call 32; fail)
  rw [← hW1]
  clear hW1
  refine (wgt_any 61 (Nat.le_refl _) ⟨kind, label, a, len, cap, lo', hi'⟩ W1 (HW.out.below HBW1.out)).mono ?_
  rintro e w2 ⟨⟨W, rfl, hx⟩, b2⟩
  have HX : Hid (WtR w2 ⟨kind, label, a, len, cap, lo', hi'⟩ W) := hx
  have HB2 : Hid (Below w.heap.size w w2) := below_step HBW1.out b2
  clear hx b2
  by_cases hle : W ≤ 400
  · go_wp2
    go_ret
    exact ⟨⟨_, rfl, fun _ => HX.out.2.2 hle⟩, HB2.out⟩
  · go_wp2
    go_ret
    exact ⟨⟨false, by first | rfl | (simp; omega), fun h => by cases h⟩, HB2.out⟩
end Go.Proofs.YtbgkfjelgnbfmaaGreatDoor
