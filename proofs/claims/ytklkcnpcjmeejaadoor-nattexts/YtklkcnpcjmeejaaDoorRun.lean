/- The document's own UnbytesNat. -/
import Derived.Test.YtklkcnpcjmeejaaDoorBmt
import Derived.Test.YtklkcnpcjmeejaaDoorRby
namespace Go.Proofs.YtklkcnpcjmeejaaDoor
open Go.RowKit Fo
set_option maxRecDepth 100000

theorem runb_none (a : Option Addr) (c : Nat) (L : Nat → Nat) (w : World) : Calls Tryd.prog 28 #[.slice a 0 c] w fun e w' => UOut w' e 0 L ∧ Below w.heap.size w w' := by
  have HB : Hid (Below w.heap.size w (w.alloc (.cells #[.bool false, .slice none 0 0] 24))) := (below_refl w).alloc (Nat.le_refl _) _
  go_enter Tryd.func28, Tryd.ntmps28
  go_wp2
  exact bodyPost_ret (v := .tuple #[.agg #[.bool false, .slice none 0 0], .int .i64 0, .int .i64 13]) (by simp [results, Tryd.results28, go_sem]) rfl ⟨⟨_, some 0, 0, 13, rfl, nout_zero _, Or.inl ⟨rfl, rfl, rfl, rfl⟩⟩, HB.out⟩
theorem runb_inf (a : Option Addr) (m c : Nat) (L : Nat → Nat) (w : World) (hr : Rd w a m c (u8s L)) (hm : 0 < m) (h255 : L 0 = 255) : Calls Tryd.prog 28 #[.slice a m c] w fun e w' => UOut w' e m L ∧ Below w.heap.size w w' := by
  have HB : Hid (Below w.heap.size w (w.alloc (.cells #[.bool true, .slice none 0 0] 24))) := (below_refl w).alloc (Nat.le_refl _) _
  have HB' := (below_refl w).alloc (Nat.le_refl _) (.cells #[.bool false, .slice none 0 0] 24)
  obtain ⟨b, off, rfl, hc⟩ := (hr.below HB').at hm
  have hc0 := hc 0 hm
  unfold u8s at hc0
  rw [h255, Nat.add_zero] at hc0
  have hm0 : ((m : Int) == 0) = false := by simp; omega
  have i1 : (0 : Int) < (m : Int) := by omega
  have HU : Hid (UR m L none 1 0) := Or.inr (Or.inl ⟨hm, h255, rfl, rfl, rfl⟩)
  clear hc hr h255 HB'
  go_enter Tryd.func28, Tryd.ntmps28
  go_wp2
  exact bodyPost_ret (v := .tuple #[.agg #[.bool true, .slice none 0 0], .int .i64 1, .int .i64 0]) (by simp [results, Tryd.results28, go_sem]) rfl ⟨⟨_, none, 1, 0, rfl, nout_inf _, HU.out⟩, HB.out⟩
theorem runb_short (a : Option Addr) (m c : Nat) (L : Nat → Nat) (w : World) (hr : Rd w a m c (u8s L)) (hm : 0 < m) (hmm : m ≤ 100000) (hL : L 0 < 256) (h255 : L 0 ≠ 255) (hs : 64 < L 0 ∨ m < 1 + 4 * L 0) : Calls Tryd.prog 28 #[.slice a m c] w fun e w' => UOut w' e m L ∧ Below w.heap.size w w' := by
  have HB : Hid (Below w.heap.size w (w.alloc (.cells #[.bool false, .slice none 0 0] 24))) := (below_refl w).alloc (Nat.le_refl _) _
  obtain ⟨b, off, rfl, hc⟩ := (hr.below HB.out).at hm
  have hc0 := hc 0 hm
  unfold u8s at hc0
  rw [Nat.add_zero] at hc0
  have hm0 : ((m : Int) == 0) = false := by simp; omega
  have i1 : (0 : Int) < (m : Int) := by omega
  have HU : Hid (UR m L (some 0) 0 13) := Or.inr (Or.inr (Or.inl ⟨hm, h255, hs, rfl, rfl, rfl⟩))
  obtain ⟨x, hx⟩ : ∃ x, x = L 0 := ⟨_, rfl⟩
  rw [← hx] at hc0 h255 hs hL
  have hx255 : ((x : Int) == 255) = false := by simp; omega
  clear hc hr hx h255
  by_cases h64 : 64 < x
  · have j1 : (64 : Int) < (x : Int) := by omega
    clear hs
    go_enter Tryd.func28, Tryd.ntmps28
    go_wp2
    exact bodyPost_ret (v := .tuple #[.agg #[.bool false, .slice none 0 0], .int .i64 0, .int .i64 13]) (by simp [results, Tryd.results28, go_sem]) rfl ⟨⟨_, some 0, 0, 13, rfl, nout_zero _, HU.out⟩, HB.out⟩
  · have j1 : ¬ (64 : Int) < (x : Int) := by omega
    have j2 : (m : Int) < 1 + 4 * (x : Int) := by omega
    clear hs
    go_enter Tryd.func28, Tryd.ntmps28
    go_wp2
    exact bodyPost_ret (v := .tuple #[.agg #[.bool false, .slice none 0 0], .int .i64 0, .int .i64 13]) (by simp [results, Tryd.results28, go_sem]) rfl ⟨⟨_, some 0, 0, 13, rfl, nout_zero _, HU.out⟩, HB.out⟩
theorem ln_may (D : Nat → Nat) (n : Nat) (hD : ∀ j, D j < 4294967296) : mayB false n D = decide (ln (lv D n) = n) := by
  unfold mayB
  rw [if_neg (by decide), Bool.eq_iff_iff]
  simp only [Bool.or_eq_true, decide_eq_true_eq]
  constructor
  · intro h
    exact ln_of D n (fun j _ => hD j) h
  · intro h
    rcases Nat.eq_zero_or_pos n with h0 | h0
    · exact Or.inl h0
    · refine Or.inr fun e => ?_
      obtain ⟨k, rfl⟩ : ∃ k, n = k + 1 := ⟨n - 1, by omega⟩
      rw [Nat.add_sub_cancel] at e
      rw [lv, e, Nat.zero_mul, Nat.add_zero] at h
      have := ln_le k (lv D k) (lv_lt k fun j _ => hD j)
      omega
theorem dgt_four (L : Nat → Nat) (k : Nat) : dgt (fun j => L (1 + j)) k = L (1 + 4 * k) + L (1 + 4 * k + 1) * 256 + L (1 + 4 * k + 2) * 65536 + L (1 + 4 * k + 3) * 16777216 := by
  simp only [dgt, pv]
  simp [Nat.add_assoc]
theorem or_four (x0 x1 x2 x3 : Nat) (h0 : x0 < 256) (h1 : x1 < 256) (h2 : x2 < 256) (h3 : x3 < 256) :
    bits .or .u32 (x0 : Int) ((x1 : Int) * 256) = ((x0 + x1 * 256 : Nat) : Int) ∧ bits .or .u32 ((x0 + x1 * 256 : Nat) : Int) ((x2 : Int) * 65536) = ((x0 + x1 * 256 + x2 * 65536 : Nat) : Int) ∧ bits .or .u32 ((x0 + x1 * 256 + x2 * 65536 : Nat) : Int) ((x3 : Int) * 16777216) = ((x0 + x1 * 256 + x2 * 65536 + x3 * 16777216 : Nat) : Int) := by
  refine ⟨?_, ?_, ?_⟩
  · rw [show (x1 : Int) * 256 = ((x1 * 256 : Nat) : Int) by omega, u32_or_nat _ _ (by omega) (by omega)]
    have := Nat.two_pow_add_eq_or_of_lt (i := 8) (b := x0) (by simpa using h0) x1
    rw [Nat.mul_comm, Nat.or_comm] at this
    rw [show x1 * 256 = x1 * 2 ^ 8 by rfl, ← this, Nat.add_comm]
  · rw [show (x2 : Int) * 65536 = ((x2 * 65536 : Nat) : Int) by omega, u32_or_nat _ _ (by omega) (by omega)]
    have := Nat.two_pow_add_eq_or_of_lt (i := 16) (b := x0 + x1 * 256) (by show _ < 65536; omega) x2
    rw [Nat.mul_comm, Nat.or_comm] at this
    rw [show x2 * 65536 = x2 * 2 ^ 16 by rfl, ← this, Nat.add_comm]
  · rw [show (x3 : Int) * 16777216 = ((x3 * 16777216 : Nat) : Int) by omega, u32_or_nat _ _ (by omega) (by omega)]
    have := Nat.two_pow_add_eq_or_of_lt (i := 24) (b := x0 + x1 * 256 + x2 * 65536) (by show _ < 16777216; omega) x3
    rw [Nat.mul_comm, Nat.or_comm] at this
    rw [show x3 * 16777216 = x3 * 2 ^ 24 by rfl, ← this, Nat.add_comm]
theorem box_lt {w : World} {g : Nat} {o : Obj} (h : w.heap[g]? = some o) : g < w.heap.size := (Array.getElem?_eq_some_iff.1 h).1
theorem set_block1 {w : World} {g : Nat} {x y u : Value} {t : TypeId} (hg : w.heap[g]? = some (.cells #[x, y] t)) : (w.setCell ⟨g, 1, none⟩ u).heap[g]? = some (.cells #[x, u] t) := by
  simp [World.setCell, Array.getElem?_modify, hg]
theorem dig_cat (D : Nat → Nat) (k y : Nat) (hy : y = D k) (j : Nat) (hj : j < k + 1) : catV (u32s D) k (u32s fun _ => y) j = u32s D j := by
  unfold catV
  split
  · rfl
  · obtain rfl : j = k := by omega
    unfold u32s; rw [hy]
set_option maxHeartbeats 16000000 in
theorem runb_good (a : Option Addr) (m c : Nat) (L : Nat → Nat) (w : World) (hr : Rd w a m c (u8s L)) (hmm : m ≤ 100000) (hL : ∀ j, L j < 256) (h64 : L 0 ≤ 64) (hs : 1 + 4 * L 0 ≤ m) : Calls Tryd.prog 28 #[.slice a m c] w fun e w' => UOut w' e m L ∧ Below w.heap.size w w' := by
  have hm : 0 < m := by omega
  have hrB := hr.below ((below_refl w).alloc (Nat.le_refl _) (.cells #[.bool false, .slice none 0 0] 24))
  have HB0 : Hid (Below w.heap.size w ((w.alloc (.cells #[.bool false, .slice none 0 0] 24)).alloc (.cells #[.bool false, .slice none 0 0] 24))) := below2 w _ _
  have Hg0 : Hid (((w.alloc (.cells #[.bool false, .slice none 0 0] 24)).alloc (.cells #[.bool false, .slice none 0 0] 24)).heap[w.heap.size]? = some (.cells #[.bool false, .slice none 0 0] 24)) := heap_1st w _ _
  have Hg1 : Hid (((w.alloc (.cells #[.bool false, .slice none 0 0] 24)).alloc (.cells #[.bool false, .slice none 0 0] 24)).heap[w.heap.size + 1]? = some (.cells #[.bool false, .slice none 0 0] 24)) := heap_2nd w _ _
  obtain ⟨b, off, rfl, hc⟩ := hr.at hm
  have hb : b < w.heap.size := World.block_lt_of_cell? w _ (hc 0 hm)
  have HC : Hid (∀ j, j < m → w.cell? ⟨b, off + j, none⟩ = some (.int .u8 (L j : Int))) := hc
  obtain ⟨b', off', e', hcB⟩ := hrB.at hm
  obtain ⟨rfl, rfl⟩ : b = b' ∧ off = off' := by simpa using e'
  have hc0 := hcB 0 hm
  unfold u8s at hc0
  rw [Nat.add_zero] at hc0
  have hm0 : ((m : Int) == 0) = false := by simp; omega
  have i1 : (0 : Int) < (m : Int) := by omega
  obtain ⟨x, hx⟩ : ∃ x, x = L 0 := ⟨_, rfl⟩
  rw [← hx] at hc0 h64 hs
  have hx255 : ((x : Int) == 255) = false := by simp; omega
  have j1 : ¬ (64 : Int) < (x : Int) := by omega
  have j2 : ¬ (m : Int) < 1 + 4 * (x : Int) := by omega
  obtain ⟨D, hD⟩ : ∃ D : Nat → Nat, D = dgt (fun j => L (1 + j)) := ⟨_, rfl⟩
  have HV : Hid (lv D x = uval L) := by
    show lv D x = lv (dgt fun j => L (1 + j)) (L 0)
    rw [hD, hx]
  have HDl : Hid (∀ j, D j < 4294967296) := fun j => by rw [hD]; exact dgt_lt _ (fun j => hL _) j
  have HD4 : Hid (∀ k, D k = L (1 + 4 * k) + L (1 + 4 * k + 1) * 256 + L (1 + 4 * k + 2) * 65536 + L (1 + 4 * k + 3) * 16777216) := fun k => by rw [hD]; exact dgt_four L k
  have HX : Hid (x = L 0) := hx
  have HL : Hid (∀ j, L j < 256) := hL
  clear hr hx hrB hc hcB e' hD hL
  go_enter Tryd.func28, Tryd.ntmps28
  go_wp2
  go_loopw [7] (fun v7 wq => ∃ (k : Nat) (a4 : Option Addr) (c4 : Nat), k ≤ x ∧ v7 = .int .i64 k ∧ Hid (Below w.heap.size w wq) ∧ Hid (wq.heap[w.heap.size]? = some (.cells #[.bool false, .slice none 0 0] 24)) ∧ Hid (wq.heap[w.heap.size + 1]? = some (.cells #[.bool false, .slice a4 k c4] 24)) ∧ Hid (Ow 62 (w.heap.size + 2) wq (.slice a4 k c4) k (u32s D)) ∧ Hid (w.heap.size + 2 ≤ wq.heap.size)) (fun v7 _ => x - (intOf v7).toNat)
  case atStart => exact ⟨0, none, 0, Nat.zero_le _, rfl, HB0, Hg0, Hg1, Ow.nil _ _ _ _, by show _ ≤ _; simp⟩
  case round =>
    obtain ⟨k, a4, c4, hk, rfl, HB, HgR, HgA, HO, HS⟩ := hrel
    rename World => wq
    clear HB0 Hg0 Hg1 hc0
    by_cases hkx : k < x
    · obtain ⟨t, ht⟩ : ∃ t, t = 1 + 4 * k := ⟨_, rfl⟩
      obtain ⟨t1, ht1⟩ : ∃ t1, t1 = t + 1 := ⟨_, rfl⟩
      obtain ⟨t2, ht2⟩ : ∃ t2, t2 = t + 2 := ⟨_, rfl⟩
      obtain ⟨t3, ht3⟩ : ∃ t3, t3 = t + 3 := ⟨_, rfl⟩
      have q0 : (1 : Int) + 4 * (k : Int) = (t : Int) := by omega
      have q1 : (t : Int) + 1 = (t1 : Int) := by omega
      have q2 : (t : Int) + 2 = (t2 : Int) := by omega
      have q3 : (t : Int) + 3 = (t3 : Int) := by omega
      have b0 : (0 : Int) ≤ (t : Int) := by omega
      have b1 : (0 : Int) ≤ (t1 : Int) := by omega
      have b2 : (0 : Int) ≤ (t2 : Int) := by omega
      have b3 : (0 : Int) ≤ (t3 : Int) := by omega
      have l0 : (t : Int) < (m : Int) := by omega
      have l1 : (t1 : Int) < (m : Int) := by omega
      have l2 : (t2 : Int) < (m : Int) := by omega
      have l3 : (t3 : Int) < (m : Int) := by omega
      have hcell : ∀ (W : World), Below w.heap.size w W → ∀ j, j < m → W.cell? ⟨b, off + j, none⟩ = some (.int .u8 (L j : Int)) := fun W hW j hj => (hW.cell (p := ⟨b, off + j, none⟩) hb).trans (HC.out j hj)
      obtain ⟨x0, hx0⟩ : ∃ x0, x0 = L t := ⟨_, rfl⟩
      obtain ⟨x1, hx1⟩ : ∃ x1, x1 = L t1 := ⟨_, rfl⟩
      obtain ⟨x2, hx2⟩ : ∃ x2, x2 = L t2 := ⟨_, rfl⟩
      obtain ⟨x3, hx3⟩ : ∃ x3, x3 = L t3 := ⟨_, rfl⟩
      have HCW : Hid (∀ (W : World), Below w.heap.size w W → W.cell? ⟨b, off + t, none⟩ = some (.int .u8 (x0 : Int)) ∧ W.cell? ⟨b, off + t1, none⟩ = some (.int .u8 (x1 : Int)) ∧ W.cell? ⟨b, off + t2, none⟩ = some (.int .u8 (x2 : Int)) ∧ W.cell? ⟨b, off + t3, none⟩ = some (.int .u8 (x3 : Int))) := fun W hW => by
        rw [hx0, hx1, hx2, hx3]
        exact ⟨hcell W hW t (by omega), hcell W hW t1 (by omega), hcell W hW t2 (by omega), hcell W hW t3 (by omega)⟩
      have hl0 : x0 < 256 := by rw [hx0]; exact HL.out _
      have hl1 : x1 < 256 := by rw [hx1]; exact HL.out _
      have hl2 : x2 < 256 := by rw [hx2]; exact HL.out _
      have hl3 : x3 < 256 := by rw [hx3]; exact HL.out _
      obtain ⟨y, hy⟩ : ∃ y, y = x0 + x1 * 256 + x2 * 65536 + x3 * 16777216 := ⟨_, rfl⟩
      have hyD : y = D k := by rw [HD4.out k, hy, hx0, hx1, hx2, hx3, ht3, ht2, ht1, ht]
      obtain ⟨p1, hp1⟩ : ∃ p1, p1 = x0 + x1 * 256 := ⟨_, rfl⟩
      obtain ⟨p2, hp2⟩ : ∃ p2, p2 = p1 + x2 * 65536 := ⟨_, rfl⟩
      obtain ⟨o1, o2, o3⟩ := or_four x0 x1 x2 x3 hl0 hl1 hl2 hl3
      rw [← hp1] at o1 o2 o3 hy
      rw [← hp2] at o2 o3 hy
      rw [← hy] at o3
      have HDC : Hid (∀ j, j < k + 1 → catV (u32s D) k (u32s fun _ => y) j = u32s D j) := dig_cat D k y hyD
      have hylt : y < 4294967296 := by rw [hyD]; exact HDl.out k
      clear hx0 hx1 hx2 hx3 hy hyD hp1 hp2 ht ht1 ht2 ht3 hcell HC
      have r1 : IntKind.i64.wrap (t1 : Int) = (t1 : Int) := by rw [IntKind.wrap_i64]; omega
      have r2 : IntKind.i64.wrap (t2 : Int) = (t2 : Int) := by rw [IntKind.wrap_i64]; omega
      have r3 : IntKind.i64.wrap (t3 : Int) = (t3 : Int) := by rw [IntKind.wrap_i64]; omega
      have v0 : IntKind.u32.wrap (x0 : Int) = (x0 : Int) := by rw [IntKind.wrap_u32]; omega
      have v1 : IntKind.u32.wrap (x1 : Int) = (x1 : Int) := by rw [IntKind.wrap_u32]; omega
      have v2 : IntKind.u32.wrap (x2 : Int) = (x2 : Int) := by rw [IntKind.wrap_u32]; omega
      have v3 : IntKind.u32.wrap (x3 : Int) = (x3 : Int) := by rw [IntKind.wrap_u32]; omega
      have s1 : IntKind.u32.wrap ((x1 : Int) * 256) = (x1 : Int) * 256 := by rw [IntKind.wrap_u32]; omega
      have s2 : IntKind.u32.wrap ((x2 : Int) * 65536) = (x2 : Int) * 65536 := by rw [IntKind.wrap_u32]; omega
      have s3 : IntKind.u32.wrap ((x3 : Int) * 16777216) = (x3 : Int) * 16777216 := by rw [IntKind.wrap_u32]; omega
      obtain ⟨c1, c2, c3, c4'⟩ := HCW.out wq HB.out
      obtain ⟨z0, z1, z2, z3, z4, z5⟩ := box_facts HgA.out
      have z6 : ∀ o, (wq.alloc o).cell? ⟨w.heap.size + 1, 1, none⟩ = some (.slice a4 k c4) := fun o => (World.cell?_alloc_some wq _ o (by rw [z1]; rfl)).trans z1
      have hne : w.heap.size + 1 ≠ b := by omega
      have HR1 : Hid (Rd (wq.alloc (.cells #[.int .u32 (y : Int)] 62)) (some ⟨wq.heap.size, 0, none⟩) 1 1 (u32s fun _ => y)) := one_rd wq _
      have HSA : Hid (w.heap.size + 2 ≤ (wq.alloc (.cells #[.int .u32 (y : Int)] 62)).heap.size) := by
        show _ ≤ _
        have := HS.out
        simp; omega
      go_upto_region 13 with fail
      refine wp_region_held_drew (S := (fun w' => w'.cell? ⟨b, off + t, none⟩ = some (.int .u8 (x0 : Int)) ∧ w'.cell? ⟨b, off + t1, none⟩ = some (.int .u8 (x1 : Int)) ∧ w'.cell? ⟨b, off + t2, none⟩ = some (.int .u8 (x2 : Int)) ∧ w'.cell? ⟨b, off + t3, none⟩ = some (.int .u8 (x3 : Int)))) (by kernel_rfl) ?_ (fun hHeld => ?_)
      · (try dsimp only); first | exact ⟨c1, c2, c3, c4'⟩ | go_keep
      refine wpAnyH_take (i := 0) (oi := { dst := some 42, op := Op.fieldAddr 24 (Operand.tmp 6) 1, type := 0, pos := "num.go:450", after := #[], guard := none }) (v := ?v1) rfl (by kernel_rfl) (by kernel_rfl) (by kernel_rfl) (fun _ _ _ h => h) (Or.inl ⟨by rfl, ?hy1⟩) (by assumption) ?rest1
      case hy1 => (intro w hSw; (try dsimp only at hSw); go_simp; (try with_reducible rfl))
      try simp only [Act.put, List.setIfInBounds_toArray, List.set_cons_zero, List.set_cons_succ]
      refine wpAnyH_take (i := 2) (oi := { dst := some 44, op := Op.move (Operand.tmp 0), type := 34, pos := "num.go:450", after := #[], guard := none }) (v := ?v2) rfl (by kernel_rfl) (by kernel_rfl) (by kernel_rfl) (fun _ _ _ h => h) (Or.inl ⟨by rfl, ?hy2⟩) (by assumption) ?rest2
      case hy2 => (intro w hSw; (try dsimp only at hSw); go_simp; (try with_reducible rfl))
      try simp only [Act.put, List.setIfInBounds_toArray, List.set_cons_zero, List.set_cons_succ]
      refine wpAnyH_take (i := 3) (oi := { dst := some 45, op := Op.move (Operand.tmp 8), type := 3, pos := "num.go:450", after := #[], guard := none }) (v := ?v3) rfl (by kernel_rfl) (by kernel_rfl) (by kernel_rfl) (fun _ _ _ h => h) (Or.inl ⟨by rfl, ?hy3⟩) (by assumption) ?rest3
      case hy3 => (intro w hSw; (try dsimp only at hSw); go_simp; (try with_reducible rfl))
      try simp only [Act.put, List.setIfInBounds_toArray, List.set_cons_zero, List.set_cons_succ]
      refine wpAnyH_take (i := 4) (oi := { dst := some 46, op := Op.indexAddr 34 (Operand.tmp 44) (Operand.tmp 45), type := 0, pos := "num.go:450", after := #[{ on := 2, ground := Ground.data }, { on := 3, ground := Ground.data }], guard := none }) (v := ?v4) rfl (by kernel_rfl) (by kernel_rfl) (by kernel_rfl) (fun _ _ _ h => h) (Or.inl ⟨by rfl, ?hy4⟩) (by assumption) ?rest4
      case hy4 => (intro w hSw; (try dsimp only at hSw); go_simp; (try with_reducible rfl))
      try simp only [Act.put, List.setIfInBounds_toArray, List.set_cons_zero, List.set_cons_succ]
      refine wpAnyH_take (i := 5) (oi := { dst := some 47, op := Op.load 5 (Operand.tmp 46), type := 5, pos := "num.go:450", after := #[{ on := 4, ground := Ground.data }], guard := none }) (v := ?v5) rfl (by kernel_rfl) (by kernel_rfl) (by kernel_rfl) (fun _ _ _ h => h) (Or.inl ⟨by rfl, ?hy5⟩) (by assumption) ?rest5
      case hy5 => (intro w hSw; (try dsimp only at hSw); go_simp; (try with_reducible rfl))
      try simp only [Act.put, List.setIfInBounds_toArray, List.set_cons_zero, List.set_cons_succ]
      refine wpAnyH_take (i := 6) (oi := { dst := some 48, op := Op.convert 5 62 (Operand.tmp 47), type := 62, pos := "num.go:450", after := #[{ on := 5, ground := Ground.data }], guard := none }) (v := ?v6) rfl (by kernel_rfl) (by kernel_rfl) (by kernel_rfl) (fun _ _ _ h => h) (Or.inl ⟨by rfl, ?hy6⟩) (by assumption) ?rest6
      case hy6 => (intro w hSw; (try dsimp only at hSw); go_simp; (try with_reducible rfl))
      try simp only [Act.put, List.setIfInBounds_toArray, List.set_cons_zero, List.set_cons_succ]
      refine wpAnyH_take (i := 7) (oi := { dst := some 49, op := Op.move (Operand.tmp 0), type := 34, pos := "num.go:450", after := #[], guard := none }) (v := ?v7) rfl (by kernel_rfl) (by kernel_rfl) (by kernel_rfl) (fun _ _ _ h => h) (Or.inl ⟨by rfl, ?hy7⟩) (by assumption) ?rest7
      case hy7 => (intro w hSw; (try dsimp only at hSw); go_simp; (try with_reducible rfl))
      try simp only [Act.put, List.setIfInBounds_toArray, List.set_cons_zero, List.set_cons_succ]
      refine wpAnyH_take (i := 8) (oi := { dst := some 50, op := Op.move (Operand.tmp 8), type := 3, pos := "num.go:450", after := #[], guard := none }) (v := ?v8) rfl (by kernel_rfl) (by kernel_rfl) (by kernel_rfl) (fun _ _ _ h => h) (Or.inl ⟨by rfl, ?hy8⟩) (by assumption) ?rest8
      case hy8 => (intro w hSw; (try dsimp only at hSw); go_simp; (try with_reducible rfl))
      try simp only [Act.put, List.setIfInBounds_toArray, List.set_cons_zero, List.set_cons_succ]
      refine wpAnyH_take (i := 9) (oi := { dst := some 51, op := Op.binOp BinOp.add 3 (Operand.tmp 50) (Operand.const (Value.int IntKind.i64 1)) 3, type := 3, pos := "num.go:450", after := #[{ on := 8, ground := Ground.data }], guard := none }) (v := ?v9) rfl (by kernel_rfl) (by kernel_rfl) (by kernel_rfl) (fun _ _ _ h => h) (Or.inl ⟨by rfl, ?hy9⟩) (by assumption) ?rest9
      case hy9 => (intro w hSw; (try dsimp only at hSw); go_simp; (try with_reducible rfl))
      try simp only [Act.put, List.setIfInBounds_toArray, List.set_cons_zero, List.set_cons_succ]
      refine wpAnyH_take (i := 10) (oi := { dst := some 52, op := Op.indexAddr 34 (Operand.tmp 49) (Operand.tmp 51), type := 0, pos := "num.go:450", after := #[{ on := 7, ground := Ground.data }, { on := 9, ground := Ground.data }], guard := none }) (v := ?v10) rfl (by kernel_rfl) (by kernel_rfl) (by kernel_rfl) (fun _ _ _ h => h) (Or.inl ⟨by rfl, ?hy10⟩) (by assumption) ?rest10
      case hy10 => (intro w hSw; (try dsimp only at hSw); go_simp; (try with_reducible rfl))
      try simp only [Act.put, List.setIfInBounds_toArray, List.set_cons_zero, List.set_cons_succ]
      refine wpAnyH_take (i := 11) (oi := { dst := some 53, op := Op.load 5 (Operand.tmp 52), type := 5, pos := "num.go:450", after := #[{ on := 10, ground := Ground.data }], guard := none }) (v := ?v11) rfl (by kernel_rfl) (by kernel_rfl) (by kernel_rfl) (fun _ _ _ h => h) (Or.inl ⟨by rfl, ?hy11⟩) (by assumption) ?rest11
      case hy11 => (intro w hSw; (try dsimp only at hSw); go_simp; (try with_reducible rfl))
      try simp only [Act.put, List.setIfInBounds_toArray, List.set_cons_zero, List.set_cons_succ]
      refine wpAnyH_take (i := 12) (oi := { dst := some 54, op := Op.convert 5 62 (Operand.tmp 53), type := 62, pos := "num.go:450", after := #[{ on := 11, ground := Ground.data }], guard := none }) (v := ?v12) rfl (by kernel_rfl) (by kernel_rfl) (by kernel_rfl) (fun _ _ _ h => h) (Or.inl ⟨by rfl, ?hy12⟩) (by assumption) ?rest12
      case hy12 => (intro w hSw; (try dsimp only at hSw); go_simp; (try with_reducible rfl))
      try simp only [Act.put, List.setIfInBounds_toArray, List.set_cons_zero, List.set_cons_succ]
      refine wpAnyH_take (i := 13) (oi := { dst := some 55, op := Op.binOp BinOp.shl 62 (Operand.tmp 54) (Operand.const (Value.int IntKind.u64 8)) 53, type := 62, pos := "num.go:450", after := #[{ on := 12, ground := Ground.data }], guard := none }) (v := ?v13) rfl (by kernel_rfl) (by kernel_rfl) (by kernel_rfl) (fun _ _ _ h => h) (Or.inl ⟨by rfl, ?hy13⟩) (by assumption) ?rest13
      case hy13 => (intro w hSw; (try dsimp only at hSw); go_simp; (try with_reducible rfl))
      try simp only [Act.put, List.setIfInBounds_toArray, List.set_cons_zero, List.set_cons_succ]
      refine wpAnyH_take (i := 14) (oi := { dst := some 56, op := Op.binOp BinOp.or 62 (Operand.tmp 48) (Operand.tmp 55) 62, type := 62, pos := "num.go:450", after := #[{ on := 6, ground := Ground.data }, { on := 13, ground := Ground.data }], guard := none }) (v := ?v14) rfl (by kernel_rfl) (by kernel_rfl) (by kernel_rfl) (fun _ _ _ h => h) (Or.inl ⟨by rfl, ?hy14⟩) (by assumption) ?rest14
      case hy14 => (intro w hSw; (try dsimp only at hSw); go_simp; (try with_reducible rfl))
      try simp only [Act.put, List.setIfInBounds_toArray, List.set_cons_zero, List.set_cons_succ]
      refine wpAnyH_take (i := 15) (oi := { dst := some 57, op := Op.move (Operand.tmp 0), type := 34, pos := "num.go:450", after := #[], guard := none }) (v := ?v15) rfl (by kernel_rfl) (by kernel_rfl) (by kernel_rfl) (fun _ _ _ h => h) (Or.inl ⟨by rfl, ?hy15⟩) (by assumption) ?rest15
      case hy15 => (intro w hSw; (try dsimp only at hSw); go_simp; (try with_reducible rfl))
      try simp only [Act.put, List.setIfInBounds_toArray, List.set_cons_zero, List.set_cons_succ]
      refine wpAnyH_take (i := 16) (oi := { dst := some 58, op := Op.move (Operand.tmp 8), type := 3, pos := "num.go:450", after := #[], guard := none }) (v := ?v16) rfl (by kernel_rfl) (by kernel_rfl) (by kernel_rfl) (fun _ _ _ h => h) (Or.inl ⟨by rfl, ?hy16⟩) (by assumption) ?rest16
      case hy16 => (intro w hSw; (try dsimp only at hSw); go_simp; (try with_reducible rfl))
      try simp only [Act.put, List.setIfInBounds_toArray, List.set_cons_zero, List.set_cons_succ]
      refine wpAnyH_take (i := 17) (oi := { dst := some 59, op := Op.binOp BinOp.add 3 (Operand.tmp 58) (Operand.const (Value.int IntKind.i64 2)) 3, type := 3, pos := "num.go:450", after := #[{ on := 16, ground := Ground.data }], guard := none }) (v := ?v17) rfl (by kernel_rfl) (by kernel_rfl) (by kernel_rfl) (fun _ _ _ h => h) (Or.inl ⟨by rfl, ?hy17⟩) (by assumption) ?rest17
      case hy17 => (intro w hSw; (try dsimp only at hSw); go_simp; (try with_reducible rfl))
      try simp only [Act.put, List.setIfInBounds_toArray, List.set_cons_zero, List.set_cons_succ]
      refine wpAnyH_take (i := 18) (oi := { dst := some 60, op := Op.indexAddr 34 (Operand.tmp 57) (Operand.tmp 59), type := 0, pos := "num.go:450", after := #[{ on := 15, ground := Ground.data }, { on := 17, ground := Ground.data }], guard := none }) (v := ?v18) rfl (by kernel_rfl) (by kernel_rfl) (by kernel_rfl) (fun _ _ _ h => h) (Or.inl ⟨by rfl, ?hy18⟩) (by assumption) ?rest18
      case hy18 => (intro w hSw; (try dsimp only at hSw); go_simp; (try with_reducible rfl))
      try simp only [Act.put, List.setIfInBounds_toArray, List.set_cons_zero, List.set_cons_succ]
      refine wpAnyH_take (i := 19) (oi := { dst := some 61, op := Op.load 5 (Operand.tmp 60), type := 5, pos := "num.go:450", after := #[{ on := 18, ground := Ground.data }], guard := none }) (v := ?v19) rfl (by kernel_rfl) (by kernel_rfl) (by kernel_rfl) (fun _ _ _ h => h) (Or.inl ⟨by rfl, ?hy19⟩) (by assumption) ?rest19
      case hy19 => (intro w hSw; (try dsimp only at hSw); go_simp; (try with_reducible rfl))
      try simp only [Act.put, List.setIfInBounds_toArray, List.set_cons_zero, List.set_cons_succ]
      refine wpAnyH_take (i := 20) (oi := { dst := some 62, op := Op.convert 5 62 (Operand.tmp 61), type := 62, pos := "num.go:450", after := #[{ on := 19, ground := Ground.data }], guard := none }) (v := ?v20) rfl (by kernel_rfl) (by kernel_rfl) (by kernel_rfl) (fun _ _ _ h => h) (Or.inl ⟨by rfl, ?hy20⟩) (by assumption) ?rest20
      case hy20 => (intro w hSw; (try dsimp only at hSw); go_simp; (try with_reducible rfl))
      try simp only [Act.put, List.setIfInBounds_toArray, List.set_cons_zero, List.set_cons_succ]
      refine wpAnyH_take (i := 21) (oi := { dst := some 63, op := Op.binOp BinOp.shl 62 (Operand.tmp 62) (Operand.const (Value.int IntKind.u64 16)) 53, type := 62, pos := "num.go:450", after := #[{ on := 20, ground := Ground.data }], guard := none }) (v := ?v21) rfl (by kernel_rfl) (by kernel_rfl) (by kernel_rfl) (fun _ _ _ h => h) (Or.inl ⟨by rfl, ?hy21⟩) (by assumption) ?rest21
      case hy21 => (intro w hSw; (try dsimp only at hSw); go_simp; (try with_reducible rfl))
      try simp only [Act.put, List.setIfInBounds_toArray, List.set_cons_zero, List.set_cons_succ]
      refine wpAnyH_take (i := 22) (oi := { dst := some 64, op := Op.binOp BinOp.or 62 (Operand.tmp 56) (Operand.tmp 63) 62, type := 62, pos := "num.go:450", after := #[{ on := 14, ground := Ground.data }, { on := 21, ground := Ground.data }], guard := none }) (v := ?v22) rfl (by kernel_rfl) (by kernel_rfl) (by kernel_rfl) (fun _ _ _ h => h) (Or.inl ⟨by rfl, ?hy22⟩) (by assumption) ?rest22
      case hy22 => (intro w hSw; (try dsimp only at hSw); go_simp; (try with_reducible rfl))
      try simp only [Act.put, List.setIfInBounds_toArray, List.set_cons_zero, List.set_cons_succ]
      refine wpAnyH_take (i := 23) (oi := { dst := some 65, op := Op.move (Operand.tmp 0), type := 34, pos := "num.go:450", after := #[], guard := none }) (v := ?v23) rfl (by kernel_rfl) (by kernel_rfl) (by kernel_rfl) (fun _ _ _ h => h) (Or.inl ⟨by rfl, ?hy23⟩) (by assumption) ?rest23
      case hy23 => (intro w hSw; (try dsimp only at hSw); go_simp; (try with_reducible rfl))
      try simp only [Act.put, List.setIfInBounds_toArray, List.set_cons_zero, List.set_cons_succ]
      refine wpAnyH_take (i := 24) (oi := { dst := some 66, op := Op.move (Operand.tmp 8), type := 3, pos := "num.go:450", after := #[], guard := none }) (v := ?v24) rfl (by kernel_rfl) (by kernel_rfl) (by kernel_rfl) (fun _ _ _ h => h) (Or.inl ⟨by rfl, ?hy24⟩) (by assumption) ?rest24
      case hy24 => (intro w hSw; (try dsimp only at hSw); go_simp; (try with_reducible rfl))
      try simp only [Act.put, List.setIfInBounds_toArray, List.set_cons_zero, List.set_cons_succ]
      refine wpAnyH_take (i := 25) (oi := { dst := some 67, op := Op.binOp BinOp.add 3 (Operand.tmp 66) (Operand.const (Value.int IntKind.i64 3)) 3, type := 3, pos := "num.go:450", after := #[{ on := 24, ground := Ground.data }], guard := none }) (v := ?v25) rfl (by kernel_rfl) (by kernel_rfl) (by kernel_rfl) (fun _ _ _ h => h) (Or.inl ⟨by rfl, ?hy25⟩) (by assumption) ?rest25
      case hy25 => (intro w hSw; (try dsimp only at hSw); go_simp; (try with_reducible rfl))
      try simp only [Act.put, List.setIfInBounds_toArray, List.set_cons_zero, List.set_cons_succ]
      refine wpAnyH_take (i := 26) (oi := { dst := some 68, op := Op.indexAddr 34 (Operand.tmp 65) (Operand.tmp 67), type := 0, pos := "num.go:450", after := #[{ on := 23, ground := Ground.data }, { on := 25, ground := Ground.data }], guard := none }) (v := ?v26) rfl (by kernel_rfl) (by kernel_rfl) (by kernel_rfl) (fun _ _ _ h => h) (Or.inl ⟨by rfl, ?hy26⟩) (by assumption) ?rest26
      case hy26 => (intro w hSw; (try dsimp only at hSw); go_simp; (try with_reducible rfl))
      try simp only [Act.put, List.setIfInBounds_toArray, List.set_cons_zero, List.set_cons_succ]
      refine wpAnyH_take (i := 27) (oi := { dst := some 69, op := Op.load 5 (Operand.tmp 68), type := 5, pos := "num.go:450", after := #[{ on := 26, ground := Ground.data }], guard := none }) (v := ?v27) rfl (by kernel_rfl) (by kernel_rfl) (by kernel_rfl) (fun _ _ _ h => h) (Or.inl ⟨by rfl, ?hy27⟩) (by assumption) ?rest27
      case hy27 => (intro w hSw; (try dsimp only at hSw); go_simp; (try with_reducible rfl))
      try simp only [Act.put, List.setIfInBounds_toArray, List.set_cons_zero, List.set_cons_succ]
      refine wpAnyH_take (i := 28) (oi := { dst := some 70, op := Op.convert 5 62 (Operand.tmp 69), type := 62, pos := "num.go:450", after := #[{ on := 27, ground := Ground.data }], guard := none }) (v := ?v28) rfl (by kernel_rfl) (by kernel_rfl) (by kernel_rfl) (fun _ _ _ h => h) (Or.inl ⟨by rfl, ?hy28⟩) (by assumption) ?rest28
      case hy28 => (intro w hSw; (try dsimp only at hSw); go_simp; (try with_reducible rfl))
      try simp only [Act.put, List.setIfInBounds_toArray, List.set_cons_zero, List.set_cons_succ]
      refine wpAnyH_take (i := 29) (oi := { dst := some 71, op := Op.binOp BinOp.shl 62 (Operand.tmp 70) (Operand.const (Value.int IntKind.u64 24)) 53, type := 62, pos := "num.go:450", after := #[{ on := 28, ground := Ground.data }], guard := none }) (v := ?v29) rfl (by kernel_rfl) (by kernel_rfl) (by kernel_rfl) (fun _ _ _ h => h) (Or.inl ⟨by rfl, ?hy29⟩) (by assumption) ?rest29
      case hy29 => (intro w hSw; (try dsimp only at hSw); go_simp; (try with_reducible rfl))
      try simp only [Act.put, List.setIfInBounds_toArray, List.set_cons_zero, List.set_cons_succ]
      refine wpAnyH_take (i := 30) (oi := { dst := some 72, op := Op.binOp BinOp.or 62 (Operand.tmp 64) (Operand.tmp 71) 62, type := 62, pos := "num.go:450", after := #[{ on := 22, ground := Ground.data }, { on := 29, ground := Ground.data }], guard := none }) (v := ?v30) rfl (by kernel_rfl) (by kernel_rfl) (by kernel_rfl) (fun _ _ _ h => h) (Or.inl ⟨by rfl, ?hy30⟩) (by assumption) ?rest30
      case hy30 => (intro w hSw; (try dsimp only at hSw); go_simp; (try with_reducible rfl))
      try simp only [Act.put, List.setIfInBounds_toArray, List.set_cons_zero, List.set_cons_succ]
      refine wpAnyH_ready (rs := [1, 31]) (by kernel_rfl) (by simp) ?_
      refine AllReadyH.cons (o := { dst := some 43, op := Op.load 22 (Operand.tmp 42), type := 22, pos := "num.go:450", after := #[{ on := 0, ground := Ground.data }], guard := none }) rfl (fun K hK => ?_) ?_
      · skip
        go_simp
        refine hK.out _ _ ?_ (fun hHeldB => ?_)
        · (try dsimp only); first | exact ⟨c1, c2, c3, c4'⟩ | go_keep
        clear hK K hHeld
        have hHeld := hHeldB
        clear hHeldB
        try simp only [Act.put, List.setIfInBounds_toArray, List.set_cons_zero, List.set_cons_succ]
        refine wpAnyH_ready (rs := [31]) (by kernel_rfl) (by simp) ?_
        refine AllReadyH.cons (o := { dst := some 73, op := Op.buildSlice 22 1 #[(0, Operand.tmp 72)], type := 22, pos := "num.go:450", after := #[{ on := 30, ground := Ground.data }], guard := none }) rfl (fun K hK => ?_) AllReadyH.nil
        go_simp
        refine hK.out _ _ ?_ (fun hHeldB => ?_)
        · (try dsimp only); first | exact ⟨c1, c2, c3, c4'⟩ | go_keep
        clear hK K hHeld
        have hHeld := hHeldB
        clear hHeldB
        try simp only [Act.put, List.setIfInBounds_toArray, List.set_cons_zero, List.set_cons_succ]
        refine wpAnyH_ready (rs := [32]) (by kernel_rfl) (by simp) ?_
        refine AllReadyH.cons (o := { dst := some 74, op := Op.call { callee := Callee.builtin Builtin.append, args := #[Operand.tmp 43, Operand.tmp 73], argTypes := #[22, 22] }, type := 22, pos := "num.go:450", after := #[{ on := 1, ground := Ground.data }, { on := 31, ground := Ground.data }], guard := none }) rfl (fun K hK => ?_) AllReadyH.nil
        refine step_app eU32 (by rfl) _ _ (by rfl) (by exact HO.out.alloc _) (by exact HSA.out) (by exact HR1.out) (u32s_one _ 1) (k + 1) (by omega) (by omega) (u32s D) HDC.out (by rfl) (by rfl) ?_
        intro a5 c5 w5 hO5 hG5
        have HB5 : Hid (Below w.heap.size w w5) := (HB.out.alloc HB.out.size _).drew.grown hG5 (by have := HSA.out; simp at this ⊢; omega) (fun k' hk' => by have := HO.out.row k' hk'; omega)
        have hrow : ∀ k', (Value.slice a4 k c4).ownBlock = some k' → w.heap.size + 2 ≤ k' := HO.out.row
        have HgA5 : Hid (w5.heap[w.heap.size + 1]? = some (.cells #[.bool false, .slice a4 k c4] 24)) := (hG5.block _ (by have := HSA.out; simp at this ⊢; omega) (fun e => by have := hrow _ e.symm; omega)).trans ((Below.heap_alloc _ _ _ (by have := HS.out; omega)).trans HgA.out)
        have HgR5 : Hid (w5.heap[w.heap.size]? = some (.cells #[.bool false, .slice none 0 0] 24)) := (hG5.block _ (by have := HSA.out; simp at this ⊢; omega) (fun e => by have := hrow _ e.symm; omega)).trans ((Below.heap_alloc _ _ _ (by have := HS.out; omega)).trans HgR.out)
        have HO5 : Hid (Ow 62 (w.heap.size + 2) w5 (.slice a5 (k + 1) c5) (k + 1) (u32s D)) := hO5
        have HS5 : Hid (w.heap.size + 2 ≤ w5.heap.size) := Nat.le_trans HSA.out hG5.size
        clear hO5 hG5 hrow
        obtain ⟨c1, c2, c3, c4'⟩ := HCW.out w5 HB5.out
        obtain ⟨y0, y1, y2, y3, y4, y5⟩ := box_facts HgA5.out
        refine hK.out _ _ ?_ (fun hHeldB => ?_)
        · (try dsimp only); first | exact ⟨c1, c2, c3, c4'⟩ | go_keep
        clear hK K hHeld
        have hHeld := hHeldB
        clear hHeldB
        try simp only [Act.put, List.setIfInBounds_toArray, List.set_cons_zero, List.set_cons_succ]
        refine wpAnyH_take (i := 33) (oi := { dst := some 75, op := Op.fieldAddr 24 (Operand.tmp 6) 1, type := 0, pos := "num.go:450", after := #[{ on := 0, ground := Ground.phase }, { on := 1, ground := Ground.phase }, { on := 2, ground := Ground.phase }, { on := 3, ground := Ground.phase }, { on := 4, ground := Ground.phase }, { on := 5, ground := Ground.phase }, { on := 6, ground := Ground.phase }, { on := 7, ground := Ground.phase }, { on := 8, ground := Ground.phase }, { on := 9, ground := Ground.phase }, { on := 10, ground := Ground.phase }, { on := 11, ground := Ground.phase }, { on := 12, ground := Ground.phase }, { on := 13, ground := Ground.phase }, { on := 14, ground := Ground.phase }, { on := 15, ground := Ground.phase }, { on := 16, ground := Ground.phase }, { on := 17, ground := Ground.phase }, { on := 18, ground := Ground.phase }, { on := 19, ground := Ground.phase }, { on := 20, ground := Ground.phase }, { on := 21, ground := Ground.phase }, { on := 22, ground := Ground.phase }, { on := 23, ground := Ground.phase }, { on := 24, ground := Ground.phase }, { on := 25, ground := Ground.phase }, { on := 26, ground := Ground.phase }, { on := 27, ground := Ground.phase }, { on := 28, ground := Ground.phase }, { on := 29, ground := Ground.phase }, { on := 30, ground := Ground.phase }, { on := 31, ground := Ground.phase }, { on := 32, ground := Ground.phase }], guard := none }) (v := ?v31) rfl (by kernel_rfl) (by kernel_rfl) (by kernel_rfl) (fun _ _ _ h => h) (Or.inl ⟨by rfl, ?hy31⟩) (by assumption) ?rest31
        case hy31 => (intro w hSw; (try dsimp only at hSw); go_simp; (try with_reducible rfl))
        try simp only [Act.put, List.setIfInBounds_toArray, List.set_cons_zero, List.set_cons_succ]
        refine wpAnyH_ready (rs := [34]) (by kernel_rfl) (by simp) ?_
        refine AllReadyH.cons (o := { dst := none, op := Op.store 22 (Operand.tmp 75) (Operand.tmp 74), type := 0, pos := "num.go:450", after := #[{ on := 33, ground := Ground.data }, { on := 32, ground := Ground.data }, { on := 32, ground := Ground.chain }, { on := 0, ground := Ground.phase }, { on := 1, ground := Ground.phase }, { on := 2, ground := Ground.phase }, { on := 3, ground := Ground.phase }, { on := 4, ground := Ground.phase }, { on := 5, ground := Ground.phase }, { on := 6, ground := Ground.phase }, { on := 7, ground := Ground.phase }, { on := 8, ground := Ground.phase }, { on := 9, ground := Ground.phase }, { on := 10, ground := Ground.phase }, { on := 11, ground := Ground.phase }, { on := 12, ground := Ground.phase }, { on := 13, ground := Ground.phase }, { on := 14, ground := Ground.phase }, { on := 15, ground := Ground.phase }, { on := 16, ground := Ground.phase }, { on := 17, ground := Ground.phase }, { on := 18, ground := Ground.phase }, { on := 19, ground := Ground.phase }, { on := 20, ground := Ground.phase }, { on := 21, ground := Ground.phase }, { on := 22, ground := Ground.phase }, { on := 23, ground := Ground.phase }, { on := 24, ground := Ground.phase }, { on := 25, ground := Ground.phase }, { on := 26, ground := Ground.phase }, { on := 27, ground := Ground.phase }, { on := 28, ground := Ground.phase }, { on := 29, ground := Ground.phase }, { on := 30, ground := Ground.phase }, { on := 31, ground := Ground.phase }, { on := 32, ground := Ground.phase }], guard := none }) rfl (fun K hK => ?_) AllReadyH.nil
        go_simp
        refine hK.out _ _ ?_ (fun hHeldB => ?_)
        · (try dsimp only); first | exact ⟨c1, c2, c3, c4'⟩ | go_keep
        clear hK K hHeld
        have hHeld := hHeldB
        clear hHeldB
        try simp only [Act.put, List.setIfInBounds_toArray, List.set_cons_zero, List.set_cons_succ]
        refine wpAnyH_done (by kernel_rfl) ?_ _
        have HB6 : Hid (Below w.heap.size w (w5.setCell ⟨w.heap.size + 1, 1, none⟩ (.slice a5 (k + 1) c5))) := HB5.out.setCell (p := ⟨w.heap.size + 1, 1, none⟩) (by show w.heap.size ≤ w.heap.size + 1; omega) _
        have HgA6 := set_block1 (u := .slice a5 (k + 1) c5) HgA5.out
        have HgR6 := (Below.heap_setCell w5 ⟨w.heap.size + 1, 1, none⟩ (.slice a5 (k + 1) c5) w.heap.size (by show w.heap.size ≠ w.heap.size + 1; omega)).trans HgR5.out
        have HO6 := HO5.out.setCell ⟨w.heap.size + 1, 1, none⟩ (by show w.heap.size + 1 < _; omega) (.slice a5 (k + 1) c5)
        have HS6 : w.heap.size + 2 ≤ (w5.setCell ⟨w.heap.size + 1, 1, none⟩ (.slice a5 (k + 1) c5)).heap.size := by have := HS5.out; simp [World.setCell]; exact this
        have HgA6' : Hid _ := HgA6
        have HgR6' : Hid _ := HgR6
        have HO6' : Hid _ := HO6
        have HS6' : Hid _ := HS6
        clear HgA6 HgR6 HO6 HS6 HB HgR HgA HO HS z0 z1 z2 z3 z4 z5 z6 y0 y1 y2 y3 y4 y5 c1 c2 c3 c4'
        go_wp2
        go_roundw
        case rel => exact ⟨k + 1, a5, c5, by omega, by go_num, HB6, HgR6', HgA6', HO6', HS6'⟩
        case measure => simp [intOf]; omega
      refine AllReadyH.cons (o := { dst := some 73, op := Op.buildSlice 22 1 #[(0, Operand.tmp 72)], type := 22, pos := "num.go:450", after := #[{ on := 30, ground := Ground.data }], guard := none }) rfl (fun K hK => ?_) AllReadyH.nil
      go_simp
      refine hK.out _ _ ?_ (fun hHeldB => ?_)
      · (try dsimp only); first | exact ⟨c1, c2, c3, c4'⟩ | go_keep
      clear hK K hHeld
      have hHeld := hHeldB
      clear hHeldB
      try simp only [Act.put, List.setIfInBounds_toArray, List.set_cons_zero, List.set_cons_succ]
      refine wpAnyH_ready (rs := [1]) (by kernel_rfl) (by simp) ?_
      refine AllReadyH.cons (o := { dst := some 43, op := Op.load 22 (Operand.tmp 42), type := 22, pos := "num.go:450", after := #[{ on := 0, ground := Ground.data }], guard := none }) rfl (fun K hK => ?_) AllReadyH.nil
      go_simp
      refine hK.out _ _ ?_ (fun hHeldB => ?_)
      · (try dsimp only); first | exact ⟨c1, c2, c3, c4'⟩ | go_keep
      clear hK K hHeld
      have hHeld := hHeldB
      clear hHeldB
      try simp only [Act.put, List.setIfInBounds_toArray, List.set_cons_zero, List.set_cons_succ]
      refine wpAnyH_ready (rs := [32]) (by kernel_rfl) (by simp) ?_
      refine AllReadyH.cons (o := { dst := some 74, op := Op.call { callee := Callee.builtin Builtin.append, args := #[Operand.tmp 43, Operand.tmp 73], argTypes := #[22, 22] }, type := 22, pos := "num.go:450", after := #[{ on := 1, ground := Ground.data }, { on := 31, ground := Ground.data }], guard := none }) rfl (fun K hK => ?_) AllReadyH.nil
      refine step_app eU32 (by rfl) _ _ (by rfl) (by exact HO.out.alloc _) (by exact HSA.out) (by exact HR1.out) (u32s_one _ 1) (k + 1) (by omega) (by omega) (u32s D) HDC.out (by rfl) (by rfl) ?_
      intro a5 c5 w5 hO5 hG5
      have HB5 : Hid (Below w.heap.size w w5) := (HB.out.alloc HB.out.size _).drew.grown hG5 (by have := HSA.out; simp at this ⊢; omega) (fun k' hk' => by have := HO.out.row k' hk'; omega)
      have hrow : ∀ k', (Value.slice a4 k c4).ownBlock = some k' → w.heap.size + 2 ≤ k' := HO.out.row
      have HgA5 : Hid (w5.heap[w.heap.size + 1]? = some (.cells #[.bool false, .slice a4 k c4] 24)) := (hG5.block _ (by have := HSA.out; simp at this ⊢; omega) (fun e => by have := hrow _ e.symm; omega)).trans ((Below.heap_alloc _ _ _ (by have := HS.out; omega)).trans HgA.out)
      have HgR5 : Hid (w5.heap[w.heap.size]? = some (.cells #[.bool false, .slice none 0 0] 24)) := (hG5.block _ (by have := HSA.out; simp at this ⊢; omega) (fun e => by have := hrow _ e.symm; omega)).trans ((Below.heap_alloc _ _ _ (by have := HS.out; omega)).trans HgR.out)
      have HO5 : Hid (Ow 62 (w.heap.size + 2) w5 (.slice a5 (k + 1) c5) (k + 1) (u32s D)) := hO5
      have HS5 : Hid (w.heap.size + 2 ≤ w5.heap.size) := Nat.le_trans HSA.out hG5.size
      clear hO5 hG5 hrow
      obtain ⟨c1, c2, c3, c4'⟩ := HCW.out w5 HB5.out
      obtain ⟨y0, y1, y2, y3, y4, y5⟩ := box_facts HgA5.out
      refine hK.out _ _ ?_ (fun hHeldB => ?_)
      · (try dsimp only); first | exact ⟨c1, c2, c3, c4'⟩ | go_keep
      clear hK K hHeld
      have hHeld := hHeldB
      clear hHeldB
      try simp only [Act.put, List.setIfInBounds_toArray, List.set_cons_zero, List.set_cons_succ]
      refine wpAnyH_take (i := 33) (oi := { dst := some 75, op := Op.fieldAddr 24 (Operand.tmp 6) 1, type := 0, pos := "num.go:450", after := #[{ on := 0, ground := Ground.phase }, { on := 1, ground := Ground.phase }, { on := 2, ground := Ground.phase }, { on := 3, ground := Ground.phase }, { on := 4, ground := Ground.phase }, { on := 5, ground := Ground.phase }, { on := 6, ground := Ground.phase }, { on := 7, ground := Ground.phase }, { on := 8, ground := Ground.phase }, { on := 9, ground := Ground.phase }, { on := 10, ground := Ground.phase }, { on := 11, ground := Ground.phase }, { on := 12, ground := Ground.phase }, { on := 13, ground := Ground.phase }, { on := 14, ground := Ground.phase }, { on := 15, ground := Ground.phase }, { on := 16, ground := Ground.phase }, { on := 17, ground := Ground.phase }, { on := 18, ground := Ground.phase }, { on := 19, ground := Ground.phase }, { on := 20, ground := Ground.phase }, { on := 21, ground := Ground.phase }, { on := 22, ground := Ground.phase }, { on := 23, ground := Ground.phase }, { on := 24, ground := Ground.phase }, { on := 25, ground := Ground.phase }, { on := 26, ground := Ground.phase }, { on := 27, ground := Ground.phase }, { on := 28, ground := Ground.phase }, { on := 29, ground := Ground.phase }, { on := 30, ground := Ground.phase }, { on := 31, ground := Ground.phase }, { on := 32, ground := Ground.phase }], guard := none }) (v := ?v32) rfl (by kernel_rfl) (by kernel_rfl) (by kernel_rfl) (fun _ _ _ h => h) (Or.inl ⟨by rfl, ?hy32⟩) (by assumption) ?rest32
      case hy32 => (intro w hSw; (try dsimp only at hSw); go_simp; (try with_reducible rfl))
      try simp only [Act.put, List.setIfInBounds_toArray, List.set_cons_zero, List.set_cons_succ]
      refine wpAnyH_ready (rs := [34]) (by kernel_rfl) (by simp) ?_
      refine AllReadyH.cons (o := { dst := none, op := Op.store 22 (Operand.tmp 75) (Operand.tmp 74), type := 0, pos := "num.go:450", after := #[{ on := 33, ground := Ground.data }, { on := 32, ground := Ground.data }, { on := 32, ground := Ground.chain }, { on := 0, ground := Ground.phase }, { on := 1, ground := Ground.phase }, { on := 2, ground := Ground.phase }, { on := 3, ground := Ground.phase }, { on := 4, ground := Ground.phase }, { on := 5, ground := Ground.phase }, { on := 6, ground := Ground.phase }, { on := 7, ground := Ground.phase }, { on := 8, ground := Ground.phase }, { on := 9, ground := Ground.phase }, { on := 10, ground := Ground.phase }, { on := 11, ground := Ground.phase }, { on := 12, ground := Ground.phase }, { on := 13, ground := Ground.phase }, { on := 14, ground := Ground.phase }, { on := 15, ground := Ground.phase }, { on := 16, ground := Ground.phase }, { on := 17, ground := Ground.phase }, { on := 18, ground := Ground.phase }, { on := 19, ground := Ground.phase }, { on := 20, ground := Ground.phase }, { on := 21, ground := Ground.phase }, { on := 22, ground := Ground.phase }, { on := 23, ground := Ground.phase }, { on := 24, ground := Ground.phase }, { on := 25, ground := Ground.phase }, { on := 26, ground := Ground.phase }, { on := 27, ground := Ground.phase }, { on := 28, ground := Ground.phase }, { on := 29, ground := Ground.phase }, { on := 30, ground := Ground.phase }, { on := 31, ground := Ground.phase }, { on := 32, ground := Ground.phase }], guard := none }) rfl (fun K hK => ?_) AllReadyH.nil
      go_simp
      refine hK.out _ _ ?_ (fun hHeldB => ?_)
      · (try dsimp only); first | exact ⟨c1, c2, c3, c4'⟩ | go_keep
      clear hK K hHeld
      have hHeld := hHeldB
      clear hHeldB
      try simp only [Act.put, List.setIfInBounds_toArray, List.set_cons_zero, List.set_cons_succ]
      refine wpAnyH_done (by kernel_rfl) ?_ _
      have HB6 : Hid (Below w.heap.size w (w5.setCell ⟨w.heap.size + 1, 1, none⟩ (.slice a5 (k + 1) c5))) := HB5.out.setCell (p := ⟨w.heap.size + 1, 1, none⟩) (by show w.heap.size ≤ w.heap.size + 1; omega) _
      have HgA6 := set_block1 (u := .slice a5 (k + 1) c5) HgA5.out
      have HgR6 := (Below.heap_setCell w5 ⟨w.heap.size + 1, 1, none⟩ (.slice a5 (k + 1) c5) w.heap.size (by show w.heap.size ≠ w.heap.size + 1; omega)).trans HgR5.out
      have HO6 := HO5.out.setCell ⟨w.heap.size + 1, 1, none⟩ (by show w.heap.size + 1 < _; omega) (.slice a5 (k + 1) c5)
      have HS6 : w.heap.size + 2 ≤ (w5.setCell ⟨w.heap.size + 1, 1, none⟩ (.slice a5 (k + 1) c5)).heap.size := by have := HS5.out; simp [World.setCell]; exact this
      have HgA6' : Hid _ := HgA6
      have HgR6' : Hid _ := HgR6
      have HO6' : Hid _ := HO6
      have HS6' : Hid _ := HS6
      clear HgA6 HgR6 HO6 HS6 HB HgR HgA HO HS z0 z1 z2 z3 z4 z5 z6 y0 y1 y2 y3 y4 y5 c1 c2 c3 c4'
      go_wp2
      go_roundw
      case rel => exact ⟨k + 1, a5, c5, by omega, by go_num, HB6, HgR6', HgA6', HO6', HS6'⟩
      case measure => simp [intOf]; omega
    · obtain rfl : k = x := by omega
      obtain ⟨z0, z1, z2, z3, z4, z5⟩ := box_facts HgA.out
      obtain ⟨p0, p1, p2, p3, p4, p5⟩ := box_facts HgR.out
      have hmay := rmay_any false a4 k c4 D wq HO.out.rd1 (by omega)
      rw [ln_may D k HDl.out, HV.out] at hmay
      have hN : Rd wq a4 k c4 (u32s D) := HO.out.rd1
      have HN : Hid (Rd wq a4 k c4 (u32s D)) := hN
      obtain ⟨z, hz⟩ : ∃ z, z = decide (ln (uval L) = k) := ⟨_, rfl⟩
      rw [← hz] at hmay
      have HM : Hid (Calls Tryd.prog 20 #[.agg #[.bool false, .slice a4 k c4]] wq fun e w' => e = .returned (.bool z) ∧ Below wq.heap.size wq w') := hmay
      have HZ : Hid (z = decide (ln (uval L) = k)) := hz
      have HMS : Hid (1 + 4 * k ≤ m) := hs
      have HK64 : Hid (k ≤ 64) := h64
      clear hmay hN hz HO
      go_wp2_with (go_at_call 20; fail)
      refine HM.out.mono ?_
      rintro e w2 ⟨rfl, b2⟩
      have hgA2 := (b2.block _ (box_lt HgA.out)).trans HgA.out
      have hgR2 := (b2.block _ (box_lt HgR.out)).trans HgR.out
      clear z0 z1 z2 z3 z4 z5 p0 p1 p2 p3 p4 p5
      obtain ⟨z0, z1, z2, z3, z4, z5⟩ := box_facts hgA2
      obtain ⟨p0, p1, p2, p3, p4, p5⟩ := box_facts hgR2
      have HgR2 : Hid (w2.heap[w.heap.size]? = some (.cells #[.bool false, .slice none 0 0] 24)) := hgR2
      have HB2 : Hid (Below w.heap.size w w2) := below_step HB.out b2
      have HN2 : Hid (Rd w2 a4 k c4 (u32s D)) := HN.out.below b2
      clear hgA2 hgR2 b2 HM HN HB HgA HgR
      cases z
      · have hne : ln (uval L) ≠ k := by
          intro e
          have := HZ.out
          rw [decide_eq_true e] at this
          cases this
        have HUR : Hid (UR m L (some 0) 0 13) := Or.inr (Or.inr (Or.inr (Or.inl ⟨by rw [← HX.out]; exact HK64.out, by rw [← HX.out]; exact HMS.out, by rw [← HX.out]; exact hne, rfl, rfl, rfl⟩)))
        clear hne
        go_wp2
        exact bodyPost_ret (v := .tuple #[.agg #[.bool false, .slice none 0 0], .int .i64 0, .int .i64 13]) (by simp [results, Tryd.results28, go_sem, p4, p5]) rfl ⟨⟨_, some 0, 0, 13, rfl, nout_zero _, HUR.out⟩, below_set HB2.out (Nat.le_refl _) _ _⟩
      · have he : ln (uval L) = k := of_decide_eq_true HZ.out.symm
        have HUR : Hid (UR m L (some (uval L)) (1 + 4 * (k : Int)) 0) := Or.inr (Or.inr (Or.inr (Or.inr ⟨by rw [← HX.out]; exact HK64.out, by rw [← HX.out]; exact HMS.out, by rw [← HX.out]; exact he, rfl, by rw [← HX.out]; omega, rfl⟩)))
        have HNO : Hid (NOut w2 (.agg #[.bool false, .slice a4 k c4]) (some (uval L))) := Or.inr ⟨uval L, a4, c4, rfl, by rw [he], by
          rw [he]
          refine HN2.out.congr fun j hj => ?_
          unfold u32s
          rw [← HV.out, dg_lv D k (fun j _ => HDl.out j) j hj]⟩
        clear he
        go_wp2
        exact bodyPost_ret (v := .tuple #[.agg #[.bool false, .slice a4 k c4], .int .i64 (1 + 4 * (k : Int)), .int .i64 0]) (by simp [results, Tryd.results28, go_sem, p4, p5]) rfl ⟨⟨_, some (uval L), _, 0, rfl, HNO.out.set HgR2.out false _, HUR.out⟩, below_set HB2.out (Nat.le_refl _) _ _⟩
/-- The document's own UnbytesNat. -/
theorem runb_any (a : Option Addr) (m c : Nat) (L : Nat → Nat) (w : World) (hr : Rd w a m c (u8s L)) (hmm : m ≤ 100000) (hL : ∀ j, L j < 256) : Calls Tryd.prog 28 #[.slice a m c] w fun e w' => UOut w' e m L ∧ Below w.heap.size w w' := by
  by_cases hm : m = 0
  · subst hm; exact runb_none a c L w
  · by_cases h255 : L 0 = 255
    · exact runb_inf a m c L w hr (by omega) h255
    · by_cases hs : 64 < L 0 ∨ m < 1 + 4 * L 0
      · exact runb_short a m c L w hr (by omega) hmm (hL 0) h255 hs
      · exact runb_good a m c L w hr hmm hL (by omega) (by omega)
end Go.Proofs.YtklkcnpcjmeejaaDoor
