/- The document's own Add. -/
import Derived.Test.YtjdbapkmaggllaaGreatDoorS04
import Derived.Deep.DeepCutAuto
namespace Go.Proofs.YtjdbapkmaggllaaGreatDoor
open Go.RowKit Fo
set_option maxRecDepth 100000

namespace Fo
/-- Add, on what numbers are worth. -/
def oadd : Option Nat → Option Nat → Option Nat
  | some m, some n => some (m + n)
  | _, _ => none
/-- What is carried into a place. -/
def cy (A B k : Nat) : Nat := (A % 4294967296 ^ k + B % 4294967296 ^ k) / 4294967296 ^ k
theorem cy_zero (A B : Nat) : cy A B 0 = 0 := by simp [cy, Nat.mod_one]
theorem mod_succ (A k : Nat) : A % 4294967296 ^ (k + 1) = A % 4294967296 ^ k + 4294967296 ^ k * dg A k := by
  rw [Nat.pow_succ, Nat.mod_mul, dg]
theorem add_top (A B k : Nat) : cy A B k + dg A k + dg B k = (A % 4294967296 ^ (k + 1) + B % 4294967296 ^ (k + 1)) / 4294967296 ^ k := by
  rw [mod_succ, mod_succ, cy, show A % 4294967296 ^ k + 4294967296 ^ k * dg A k + (B % 4294967296 ^ k + 4294967296 ^ k * dg B k) = A % 4294967296 ^ k + B % 4294967296 ^ k + 4294967296 ^ k * (dg A k + dg B k) by rw [Nat.mul_add]; omega, Nat.add_mul_div_left _ _ (bp k)]
  omega
theorem add_carry (A B k : Nat) : (cy A B k + dg A k + dg B k) / 4294967296 = cy A B (k + 1) := by
  rw [add_top, Nat.div_div_eq_div_mul, cy, Nat.pow_succ]
theorem add_digit (A B k : Nat) : (cy A B k + dg A k + dg B k) % 4294967296 = dg (A + B) k := by
  rw [add_top]
  have hA := Nat.div_add_mod A (4294967296 ^ (k + 1))
  have hB := Nat.div_add_mod B (4294967296 ^ (k + 1))
  have e : A + B = A % 4294967296 ^ (k + 1) + B % 4294967296 ^ (k + 1) + 4294967296 ^ k * (4294967296 * (A / 4294967296 ^ (k + 1) + B / 4294967296 ^ (k + 1))) := by
    have hp : 4294967296 ^ k * 4294967296 = 4294967296 ^ (k + 1) := (Nat.pow_succ ..).symm
    rw [← Nat.mul_assoc, hp, Nat.mul_add]; omega
  unfold dg
  rw [e, Nat.add_mul_div_left _ _ (bp k), Nat.add_mul_mod_self_left]
theorem cy_le (A B k : Nat) : cy A B k ≤ 1 := by
  unfold cy
  have h1 := Nat.mod_lt A (bp k)
  have h2 := Nat.mod_lt B (bp k)
  have : (A % 4294967296 ^ k + B % 4294967296 ^ k) / 4294967296 ^ k < 2 := Nat.div_lt_of_lt_mul (by omega)
  omega
theorem lt_of_ln {N k : Nat} (h : ln N ≤ k) : N < 4294967296 ^ k := Nat.lt_of_lt_of_le (lt_ln _ N rfl) (Nat.pow_le_pow_right (by decide) h)
theorem dg_high {N k : Nat} (h : ln N ≤ k) : dg N k = 0 := by unfold dg; rw [Nat.div_eq_of_lt (lt_of_ln h)]
theorem cy_end {A B k : Nat} (hA : ln A ≤ k) (hB : ln B ≤ k) (h : cy A B k = 0) : lv (dg (A + B)) k = A + B := by
  unfold cy at h
  rw [Nat.mod_eq_of_lt (lt_of_ln hA), Nat.mod_eq_of_lt (lt_of_ln hB)] at h
  refine lv_dg_of _ _ ?_
  rcases Nat.lt_or_ge (A + B) (4294967296 ^ k) with h' | h'
  · exact h'
  · have := Nat.div_pos h' (bp k)
    omega
theorem cy_past {A B k : Nat} (hA : ln A ≤ k) (hB : ln B ≤ k) : cy A B (k + 1) = 0 := by
  rw [← add_carry, dg_high hA, dg_high hB]
  have := cy_le A B k
  exact Nat.div_eq_of_lt (by omega)
end Fo
theorem below3' (w : World) (o1 o2 o3 : Obj) : Below w.heap.size w (((w.alloc o1).alloc o2).alloc o3) := below3 w o1 o2 o3
theorem heap3_1 (w : World) (o1 o2 o3 : Obj) : (((w.alloc o1).alloc o2).alloc o3).heap[w.heap.size + 1]? = some o2 := by
  rw [Below.heap_alloc _ _ _ (by simp), heap_2nd]
theorem heap3_2 (w : World) (o1 o2 o3 : Obj) : (((w.alloc o1).alloc o2).alloc o3).heap[w.heap.size + 1 + 1]? = some o3 := by
  rw [← (show ((w.alloc o1).alloc o2).heap.size = w.heap.size + 1 + 1 by simp), heap_alloc_new]
/-- One value in a new block. -/
theorem rd_one (w : World) (v : Value) (t : TypeId) : Rd (w.alloc (.cells #[v] t)) (some ⟨w.heap.size, 0, none⟩) 1 1 (fun _ => v) := by
  refine ⟨by decide, by decide, Or.inr ⟨_, _, rfl, fun j hj => ?_⟩⟩
  obtain rfl : j = 0 := by omega
  rw [World.cell?_alloc_new]; rfl
theorem one_more (V : Nat → Value) (k : Nat) (v : Value) (h : v = V k) : ∀ j, j < k + 1 → catV V k (fun _ => v) j = V j := fun j hj => by
  unfold catV; split
  · rfl
  · rw [h, show j = k by omega]
set_option maxHeartbeats 4000000 in
theorem radd_any (w : World) (v1 v2 : Value) (X1 X2 : Option Nat) (h1 : NIn w v1 X1) (h2 : NIn w v2 X2) (hb1 : ∀ N, X1 = some N → ln N ≤ 10000) (hb2 : ∀ N, X2 = some N → ln N ≤ 10000) :
    Calls Tryz.prog 65 #[v1, v2] w fun e w' => (∃ u, e = .returned u ∧ NOut w' u (oadd X1 X2)) ∧ Below w.heap.size w w' := by
  have H1 : Hid (NIn w v1 X1) := h1
  have H2 : Hid (NIn w v2 X2) := h2
  have HbN : Hid (∀ N, X1 = some N → ln N ≤ 10000) := hb1
  have HbM : Hid (∀ N, X2 = some N → ln N ≤ 10000) := hb2
  clear hb1 hb2
  obtain ⟨i1, a1, n1, c1, L1, rfl, -⟩ := h1
  obtain ⟨i2, a2, n2, c2, L2, rfl, -⟩ := h2
  go_enter Tryz.func65, Tryz.ntmps65
  go_wp2_with (go_at_call 62; fail)
  refine (clean_any _ _ X1 (H1.out.below (below3 w _ _ _))).mono ?_
  rintro e w2 ⟨⟨u, rfl, hu⟩, hB⟩
  obtain ⟨i, a, n, c, rfl, hnc, hcc, hX⟩ := hu.form
  have hx := box_cell (heap3_1 w _ _ _) hB
  have HB2 : Hid (Below w.heap.size w w2) := below_step (below3 w _ _ _) hB
  have Hr2 : Hid (w2.heap[w.heap.size + 1 + 1]? = some (.cells #[.bool false, .slice none 0 0] 24)) := (hB.block _ (by simp)).trans (heap3_2 w _ _ _)
  have hx0 := hx.1
  have hx1 := hx.2
  have hs2 : w.heap.size + 1 + 1 < w2.heap.size := by have := hB.size; simp at this; omega
  have hs2' : w.heap.size + 1 < w2.heap.size := by omega
  clear hx hu hB
  go_wp2_with (go_at_call 62; fail)
  refine (clean_any _ _ X2 (H2.out.below (HB2.out.alloc HB2.out.size _))).mono ?_
  rintro e w4 ⟨⟨u, rfl, hu⟩, hB⟩
  obtain ⟨j, b, m, d, rfl, hmd, hdd, hY⟩ := hu.form
  have Hg2 : Hid ((w4.alloc (.cells #[.bool j, .slice b m d] 24)).heap[w2.heap.size]? = some (.cells #[.bool i, .slice a n c] 24)) := by
    show (w4.alloc _).heap[w2.heap.size]? = _
    have := hB.size
    simp at this
    rw [Below.heap_alloc _ _ _ (by omega), hB.block _ (by simp), heap_alloc_new]
  have Hg4 : Hid ((w4.alloc (.cells #[.bool j, .slice b m d] 24)).heap[w4.heap.size]? = some (.cells #[.bool j, .slice b m d] 24)) := heap_alloc_new w4 _
  have Hr4 : Hid ((w4.alloc (.cells #[.bool j, .slice b m d] 24)).heap[w.heap.size + 1 + 1]? = some (.cells #[.bool false, .slice none 0 0] 24)) := by
    show (w4.alloc _).heap[w.heap.size + 1 + 1]? = _
    have := hB.size
    simp at this
    rw [Below.heap_alloc _ _ _ (by omega), hB.block _ (by simp; omega), Below.heap_alloc _ _ _ (by omega)]
    exact Hr2.out
  have HB4 : Hid (Below w2.heap.size w2 w4) := below_step ((below_refl w2).alloc (Nat.le_refl _) _) hB
  have HBB : Hid (Below w.heap.size w (w4.alloc (.cells #[.bool j, .slice b m d] 24))) := (below_step HB2.out HB4.out).alloc (below_step HB2.out HB4.out).size _
  have HX : Hid ((i = true ∧ n = 0 ∧ X1 = none) ∨ ∃ N, i = false ∧ X1 = some N ∧ n = ln N ∧ Rd (w4.alloc (.cells #[.bool j, .slice b m d] 24)) a n c (u32s (dg N))) := by
    rcases hX with h | ⟨N, h1, h2, h3, h4⟩
    · exact Or.inl h
    · exact Or.inr ⟨N, h1, h2, h3, (h4.below HB4.out).below ((below_refl w4).alloc (Nat.le_refl _) _)⟩
  have HY : Hid ((j = true ∧ m = 0 ∧ X2 = none) ∨ ∃ N, j = false ∧ X2 = some N ∧ m = ln N ∧ Rd (w4.alloc (.cells #[.bool j, .slice b m d] 24)) b m d (u32s (dg N))) := by
    rcases hY with h | ⟨N, h1, h2, h3, h4⟩
    · exact Or.inl h
    · exact Or.inr ⟨N, h1, h2, h3, h4.below ((below_refl w4).alloc (Nat.le_refl _) _)⟩
  have hs4 : w.heap.size + 1 + 1 < (w4.alloc (.cells #[.bool j, .slice b m d] 24)).heap.size := by have := hB.size; simp at this ⊢; omega
  clear hX hY hu hB hx0 hx1 hs2 hs2' H1 H2 Hr2 HB2 HB4
  go_upto_region 3 with fail
  obtain ⟨W5, hW5⟩ : ∃ W5, W5 = w4.alloc (.cells #[.bool j, .slice b m d] 24) := ⟨_, rfl⟩
  rw [← hW5] at Hg2 Hg4 Hr4 HBB HX HY hs4 ⊢
  clear hW5
  obtain ⟨p0, p1, -⟩ := box_facts Hg2.out
  obtain ⟨q0, q1, -⟩ := box_facts Hg4.out
  obtain ⟨r0, r1, r2, r3, r4, r5⟩ := box_facts Hr4.out
  rcases HX.out with ⟨rfl, rfl, rfl⟩ | ⟨A, rfl, rfl, hn, hRn⟩ <;> rcases HY.out with ⟨rfl, rfl, rfl⟩ | ⟨B, rfl, rfl, hm, hRm⟩
  · clear HX HY
    go_wp2
    refine bodyPost_ret (v := .agg #[.bool true, .slice none 0 0]) (by simp [results, Tryz.results65, go_sem, r4, r5]) rfl ⟨⟨_, rfl, Or.inl ⟨rfl, none, 0, rfl, by decide⟩⟩, below_set HBB.out (by omega) _ _⟩
  · clear HX HY hRm hm
    go_wp2
    refine bodyPost_ret (v := .agg #[.bool true, .slice none 0 0]) (by simp [results, Tryz.results65, go_sem, r4, r5]) rfl ⟨⟨_, rfl, Or.inl ⟨rfl, none, 0, rfl, by decide⟩⟩, below_set HBB.out (by omega) _ _⟩
  · clear HX HY hRn hn
    go_wp2
    refine bodyPost_ret (v := .agg #[.bool true, .slice none 0 0]) (by simp [results, Tryz.results65, go_sem, r4, r5]) rfl ⟨⟨_, rfl, Or.inl ⟨rfl, none, 0, rfl, by decide⟩⟩, below_set HBB.out (by omega) _ _⟩
  · have HRn : Hid (Rd W5 a n c (u32s (dg A))) := hRn
    have HRm : Hid (Rd W5 b m d (u32s (dg B))) := hRm
    have hn1 : n ≤ 10000 := by rw [hn]; exact HbN.out A rfl
    have hm1 : m ≤ 10000 := by rw [hm]; exact HbM.out B rfl
    have HN : Hid (n = ln A ∧ m = ln B) := ⟨hn, hm⟩
    clear HX HY hRn hRm hn hm HbN HbM
    go_wp2
    go_loopw [7, 8, 9] (fun v7 v8 v9 wr => ∃ (k : Nat) (a7 : Option Addr) (c7 : Nat), k ≤ max n m + 1 ∧ v9 = .int .i64 k ∧ v8 = .int .u64 (cy A B k) ∧ v7 = .slice a7 k c7 ∧ Hid (Below W5.heap.size W5 wr) ∧ Hid (Ow 66 W5.heap.size wr (.slice a7 k c7) k (u32s (dg (A + B)))) ∧ Hid (k ≤ max n m ∨ cy A B k = 0)) (fun _ _ v9 _ => 20003 - (intOf v9).toNat)
    case atStart => exact ⟨0, none, 0, by omega, rfl, by rw [cy_zero]; rfl, rfl, below_refl _, Ow.nil _ _ _ _, Or.inl (Nat.zero_le _)⟩
    case round =>
      obtain ⟨k, a7, c7, hk, rfl, rfl, rfl, HW, HO, HZ⟩ := hrel
      rename World => wr
      obtain ⟨p0, p1⟩ := box_cell Hg2.out HW.out
      obtain ⟨q0, q1⟩ := box_cell Hg4.out HW.out
      have hC := cy_le A B k
      have hT1 := add_digit A B k
      have hT2 := add_carry A B k
      have hDA := dg_lt A k
      have hDB := dg_lt B k
      have HLE : Hid (W5.heap.size ≤ (wr.alloc (.cells #[.int .u32 (dg (A + B) k)] 66)).heap.size) := (HW.out.alloc HW.out.size _).size
      by_cases hkn : k < n
      · obtain ⟨ga, oa, rfl, hca⟩ := (HRn.out.below HW.out).at (by omega)
        have hck := hca k hkn
        unfold u32s at hck
        by_cases hkm : k < m
        · obtain ⟨gb, ob, rfl, hcb⟩ := (HRm.out.below HW.out).at (by omega)
          have hdk := hcb k hkm
          unfold u32s at hdk
          have hlo : ((cy A B k : Nat) : Int) + ((dg A k : Nat) : Int) + ((dg B k : Nat) : Int) = ((cy A B k + dg A k + dg B k : Nat) : Int) := by omega
          obtain ⟨T, hT⟩ : ∃ T, T = cy A B k + dg A k + dg B k := ⟨_, rfl⟩
          rw [← hT] at hT1 hT2 hlo
          have hTl : T ≤ 8589934591 := by omega
          have ht1 : (T : Int) % 4294967296 = ((dg (A + B) k : Nat) : Int) := by omega
          have ht2 : (T : Int) / 4294967296 = ((cy A B (k + 1) : Nat) : Int) := by omega
          clear hca hcb hT1 hT2 hT
          have HZ' : Hid (k + 1 ≤ max n m ∨ cy A B (k + 1) = 0) := Or.inl (by omega)
          clear HN HRn HRm Hg2 Hg4 Hr4 HBB HZ
          go_wp2_with (at_builtin; refine wpList_app eU32 rfl _ _ rfl (HO.out.alloc _) HLE.out (rd_one wr (.int .u32 (dg (A + B) k)) 66) (fun _ _ => rfl) (k + 1) rfl (by omega) (u32s (dg (A + B))) (one_more _ k _ rfl) rfl rfl ?_; intro a2 c2 w6 hO2 hG2)
          all_goals
            go_roundw
            case rel => exact ⟨k + 1, a2, c2, by omega, by go_num, rfl, rfl, (HW.out.alloc HW.out.size _).grown hG2 HLE.out HO.out.row, hO2, HZ'⟩
            case measure => simp [intOf]; omega
        · have hz0 : dg B k = 0 := dg_high (by rw [← HN.out.2]; omega)
          have hlo : ((cy A B k : Nat) : Int) + ((dg A k : Nat) : Int) = ((cy A B k + dg A k + dg B k : Nat) : Int) := by omega
          obtain ⟨T, hT⟩ : ∃ T, T = cy A B k + dg A k + dg B k := ⟨_, rfl⟩
          rw [← hT] at hT1 hT2 hlo
          have hTl : T ≤ 8589934591 := by omega
          have ht1 : (T : Int) % 4294967296 = ((dg (A + B) k : Nat) : Int) := by omega
          have ht2 : (T : Int) / 4294967296 = ((cy A B (k + 1) : Nat) : Int) := by omega
          clear hca hT1 hT2 hT
          have HZ' : Hid (k + 1 ≤ max n m ∨ cy A B (k + 1) = 0) := Or.inl (by omega)
          clear HN HRn HRm Hg2 Hg4 Hr4 HBB HZ hz0
          go_wp2_with (at_builtin; refine wpList_app eU32 rfl _ _ rfl (HO.out.alloc _) HLE.out (rd_one wr (.int .u32 (dg (A + B) k)) 66) (fun _ _ => rfl) (k + 1) rfl (by omega) (u32s (dg (A + B))) (one_more _ k _ rfl) rfl rfl ?_; intro a2 c2 w6 hO2 hG2)
          all_goals
            go_roundw
            case rel => exact ⟨k + 1, a2, c2, by omega, by go_num, rfl, rfl, (HW.out.alloc HW.out.size _).grown hG2 HLE.out HO.out.row, hO2, HZ'⟩
            case measure => simp [intOf]; omega
      · by_cases hkm : k < m
        · obtain ⟨gb, ob, rfl, hcb⟩ := (HRm.out.below HW.out).at (by omega)
          have hdk := hcb k hkm
          unfold u32s at hdk
          have hz0 : dg A k = 0 := dg_high (by rw [← HN.out.1]; omega)
          have hlo : ((cy A B k : Nat) : Int) + ((dg B k : Nat) : Int) = ((cy A B k + dg A k + dg B k : Nat) : Int) := by omega
          obtain ⟨T, hT⟩ : ∃ T, T = cy A B k + dg A k + dg B k := ⟨_, rfl⟩
          rw [← hT] at hT1 hT2 hlo
          have hTl : T ≤ 8589934591 := by omega
          have ht1 : (T : Int) % 4294967296 = ((dg (A + B) k : Nat) : Int) := by omega
          have ht2 : (T : Int) / 4294967296 = ((cy A B (k + 1) : Nat) : Int) := by omega
          clear hcb hT1 hT2 hT
          have HZ' : Hid (k + 1 ≤ max n m ∨ cy A B (k + 1) = 0) := Or.inl (by omega)
          clear HN HRn HRm Hg2 Hg4 Hr4 HBB HZ hz0
          go_wp2_with (at_builtin; refine wpList_app eU32 rfl _ _ rfl (HO.out.alloc _) HLE.out (rd_one wr (.int .u32 (dg (A + B) k)) 66) (fun _ _ => rfl) (k + 1) rfl (by omega) (u32s (dg (A + B))) (one_more _ k _ rfl) rfl rfl ?_; intro a2 c2 w6 hO2 hG2)
          all_goals
            go_roundw
            case rel => exact ⟨k + 1, a2, c2, by omega, by go_num, rfl, rfl, (HW.out.alloc HW.out.size _).grown hG2 HLE.out HO.out.row, hO2, HZ'⟩
            case measure => simp [intOf]; omega
        · have hz0 : dg A k = 0 := dg_high (by rw [← HN.out.1]; omega)
          have hz1 : dg B k = 0 := dg_high (by rw [← HN.out.2]; omega)
          by_cases hc0 : cy A B k = 0
          · have HIN : Hid (NIn wr (.agg #[.bool false, .slice a7 k c7]) (some (A + B))) := ⟨false, a7, k, c7, dg (A + B), rfl, HO.out.rd1, dg_lt _, by omega, by rw [cy_end (by rw [← HN.out.1]; omega) (by rw [← HN.out.2]; omega) hc0]; rfl⟩
            have Hrr : Hid (wr.heap[w.heap.size + 1 + 1]? = some (.cells #[.bool false, .slice none 0 0] 24)) := (HW.out.block _ hs4).trans Hr4.out
            have hlt : w.heap.size + 1 + 1 < wr.heap.size := Nat.lt_of_lt_of_le hs4 HW.out.size
            rw [hc0]
            clear hT1 hT2 hz0 hz1 hc0 HN HRn HRm Hg2 Hg4 Hr4 HZ HLE HO r0 r1 r2 r3 r4 r5 hC hDA hDB
            go_wp2_with (go_at_call 62; fail)
            all_goals
              refine (clean_any _ _ _ HIN.out).mono ?_
              rintro e w7 ⟨⟨u, rfl, hu⟩, hB⟩
              have hg7 := (hB.block _ hlt).trans Hrr.out
              obtain ⟨s0, s1, s2, s3, s4, s5⟩ := box_facts hg7
              have HG7 : Hid (w7.heap[w.heap.size + 1 + 1]? = some (.cells #[.bool false, .slice none 0 0] 24)) := hg7
              have HU : Hid (NOut w7 u (some (A + B))) := hu
              have HB7 : Hid (Below w.heap.size w w7) := below_step (below_step HBB.out HW.out) hB
              obtain ⟨iu, au, nu, cu, rfl, -, -, -⟩ := hu.form
              clear hg7 hu hB
              go_wp2
              refine bodyPost_ret (v := .agg #[.bool iu, .slice au nu cu]) (by simp [results, Tryz.results65, go_sem, s4, s5]) rfl ⟨⟨_, rfl, HU.out.set HG7.out iu _⟩, below_set HB7.out (by omega) _ _⟩
          · have hk' : k ≤ max n m := by
              rcases HZ.out with h | h
              · exact h
              · exact absurd h hc0
            have hCp : (0 : Int) < ((cy A B k : Nat) : Int) := by omega
            have HV : Hid (Value.int .u32 ((cy A B k : Nat) : Int) = u32s (dg (A + B)) k) := by
              show Value.int .u32 ((cy A B k : Nat) : Int) = Value.int .u32 ((dg (A + B) k : Nat) : Int)
              rw [show dg (A + B) k = cy A B k by omega]
            have HP : cy A B (k + 1) = 0 := cy_past (by rw [← HN.out.1]; omega) (by rw [← HN.out.2]; omega)
            have HQ : Hid (cy A B (k + 1) = 0) := HP
            have HZ' : Hid (k + 1 ≤ max n m ∨ cy A B (k + 1) = 0) := Or.inr HP
            have HLE' : Hid (W5.heap.size ≤ (wr.alloc (.cells #[.int .u32 ((cy A B k : Nat) : Int)] 66)).heap.size) := (HW.out.alloc HW.out.size _).size
            clear hT1 hT2 hz0 hz1 hc0 HP HLE
            clear HN HRn HRm Hg2 Hg4 Hr4 HBB HZ
            go_wp2_with (at_builtin; refine wpList_app eU32 rfl _ _ rfl (HO.out.alloc _) HLE'.out (rd_one wr (.int .u32 ((cy A B k : Nat) : Int)) 66) (fun _ _ => rfl) (k + 1) rfl (by omega) (u32s (dg (A + B))) (one_more _ k _ HV.out) rfl rfl ?_; intro a2 c2 w6 hO2 hG2)
            all_goals
              go_roundw
              case rel => exact ⟨k + 1, a2, c2, by omega, by go_num, by rw [HQ.out]; go_num, rfl, (HW.out.alloc HW.out.size _).grown hG2 HLE'.out HO.out.row, hO2, HZ'⟩
              case measure => simp [intOf]; omega
end Go.Proofs.YtjdbapkmaggllaaGreatDoor
