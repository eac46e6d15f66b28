/- The document's own Mul. -/
import Derived.Test.YtjdbapkmaggllaaGreatDoorS05
import Derived.Deep.OwnRows
namespace Go.Proofs.YtjdbapkmaggllaaGreatDoor
open Go.RowKit Fo
set_option maxRecDepth 100000

namespace Fo
/-- Mul, on what numbers are worth. -/
def omul : Option Nat → Option Nat → Option Nat
  | some m, some n => some (m * n)
  | some m, none => if m = 0 then some 0 else none
  | none, some n => if n = 0 then some 0 else none
  | none, none => none
def upd (f : Nat → Nat) (p v j : Nat) : Nat := if j = p then v else f j
theorem upd_at (f : Nat → Nat) (p v : Nat) : upd f p v p = v := by simp [upd]
theorem upd_ne (f : Nat → Nat) (p v j : Nat) (h : j ≠ p) : upd f p v j = f j := by simp [upd, h]
theorem lv_upd (L : Nat → Nat) (p v : Nat) : ∀ n, p < n → lv (upd L p v) n + L p * 4294967296 ^ p = lv L n + v * 4294967296 ^ p
  | 0, h => by omega
  | n + 1, h => by
    rw [lv, lv]
    by_cases e : p = n
    · subst e
      rw [upd_at, lv_congr (L := upd L p v) (K := L) p (fun j hj => upd_ne L p v j (by omega))]
      omega
    · have ih := lv_upd L p v n (by omega)
      rw [upd_ne L p v n (by omega)]
      omega
theorem mul_step (L : Nat → Nat) (n p c x y P Q : Nat) (hp : p < n) (h : lv L n + c * 4294967296 ^ p = P + Q) :
    lv (upd L p ((c + x * y + L p) % 4294967296)) n + (c + x * y + L p) / 4294967296 * 4294967296 ^ (p + 1) = P + (Q + x * y * 4294967296 ^ p) := by
  have h1 := lv_upd L p ((c + x * y + L p) % 4294967296) n hp
  have h2 := Nat.div_add_mod (c + x * y + L p) 4294967296
  have h3 : (c + x * y + L p) / 4294967296 * 4294967296 ^ (p + 1) + (c + x * y + L p) % 4294967296 * 4294967296 ^ p = (c + x * y + L p) * 4294967296 ^ p := by
    rw [Nat.pow_succ, Nat.mul_comm (4294967296 ^ p), ← Nat.mul_assoc, ← Nat.add_mul, Nat.mul_comm _ 4294967296, h2]
  rw [Nat.add_mul, Nat.add_mul] at h3
  omega
theorem mul_q (B x i k : Nat) : x * 4294967296 ^ i * (B % 4294967296 ^ k) + x * dg B k * 4294967296 ^ (i + k) = x * 4294967296 ^ i * (B % 4294967296 ^ (k + 1)) := by
  rw [mod_succ, Nat.mul_add, Nat.pow_add]
  congr 1
  rw [Nat.mul_assoc x (dg B k), Nat.mul_assoc x, Nat.mul_comm (dg B k), Nat.mul_assoc]
theorem mul_row (A B i : Nat) : A % 4294967296 ^ i * B + dg A i * 4294967296 ^ i * B = A % 4294967296 ^ (i + 1) * B := by
  rw [mod_succ, Nat.add_mul, Nat.mul_comm (dg A i)]
theorem fl_upd (L : Nat → Nat) (n p v : Nat) (hp : p < n) : (fl (u32s L) n).toArray.setIfInBounds p (.int .u32 (v : Int)) = (fl (u32s (upd L p v)) n).toArray := by
  apply Array.ext'
  simp only [Array.toList_setIfInBounds]
  apply List.ext_getElem?
  intro j
  by_cases hj : j < n
  · rw [fl_get _ n j hj, List.getElem?_set]
    by_cases e : p = j
    · subst e
      rw [if_pos rfl, if_pos (by simp [fl_len, hp])]
      unfold u32s; rw [upd_at]
    · rw [if_neg e, fl_get _ n j hj]
      unfold u32s; rw [upd_ne L p v j (by omega)]
  · rw [List.getElem?_eq_none (by simp [fl_len]; omega), List.getElem?_eq_none (by simp [fl_len]; omega)]
end Fo
/-- A whole block of digits. -/
def Bk (w : World) (g n : Nat) (L : Nat → Nat) : Prop := w.heap[g]? = some (.cells (fl (u32s L) n).toArray 66)
theorem Bk.cell {w : World} {g n : Nat} {L : Nat → Nat} (h : Bk w g n L) (j : Nat) (hj : j < n) : w.cell? ⟨g, j, none⟩ = some (.int .u32 (L j)) := by
  have h' : w.heap[g]? = some (.cells (fl (u32s L) n).toArray 66) := h
  rw [cell_of_row w g j _ _ _ h']
  simp only [List.getElem?_toArray]
  rw [fl_get _ n j hj]; rfl
theorem Bk.frozen {w : World} {g n : Nat} {L : Nat → Nat} (h : Bk w g n L) (j : Nat) : w.frozen? ⟨g, j, none⟩ = false := by
  have h' : w.heap[g]? = some (.cells (fl (u32s L) n).toArray 66) := h
  simp [World.frozen?, h']
theorem Bk.set {w : World} {g n : Nat} {L : Nat → Nat} (h : Bk w g n L) (p v : Nat) (hp : p < n) : Bk (w.setCell ⟨g, p, none⟩ (.int .u32 (v : Int))) g n (upd L p v) := by
  have h' : w.heap[g]? = some (.cells (fl (u32s L) n).toArray 66) := h
  unfold Bk
  rw [← fl_upd L n p v hp]
  simp [World.setCell, Array.getElem?_modify, h']
theorem Bk.rd {w : World} {g n : Nat} {L : Nat → Nat} (h : Bk w g n L) (hn : n ≤ 1000000) : Rd w (some ⟨g, 0, none⟩) n n (u32s L) :=
  ⟨Nat.le_refl _, by omega, Or.inr ⟨g, 0, rfl, fun j hj => by rw [Nat.zero_add]; exact h.cell j hj⟩⟩
theorem bk_made (w : World) (n : Nat) : Bk (w.alloc (.cells (madeCells #[.int .u32 0] n) 66)) w.heap.size n (fun _ => 0) := by
  unfold Bk
  rw [heap_alloc_new]
  congr 2
  apply Array.ext'
  rw [toList_madeCells_one]
  apply List.ext_getElem?
  intro j
  by_cases hj : j < n
  · simp [hj, fl, u32s]
  · rw [List.getElem?_eq_none (by simp; omega), List.getElem?_eq_none (by simp [fl]; omega)]
/-- 0 as an answer. -/
theorem nout_zero (w : World) : NOut w (.agg #[.bool false, .slice none 0 0]) (some 0) := Or.inr ⟨0, none, 0, rfl, by rw [ln_zero], by rw [ln_zero]; exact Rd.empty _ _ _ (by decide) _⟩
theorem nout_inf (w : World) : NOut w (.agg #[.bool true, .slice none 0 0]) none := Or.inl ⟨rfl, none, 0, rfl, by decide⟩
theorem ln_eq_zero {N : Nat} (h : ln N = 0) : N = 0 := by
  have := lt_ln 0 N h
  simpa using this
set_option maxHeartbeats 8000000 in
theorem rmul_any (w : World) (v1 v2 : Value) (X1 X2 : Option Nat) (h1 : NIn w v1 X1) (h2 : NIn w v2 X2) (hb1 : ∀ N, X1 = some N → ln N ≤ 10000) (hb2 : ∀ N, X2 = some N → ln N ≤ 10000) :
    Calls Tryz.prog 66 #[v1, v2] w fun e w' => (∃ u, e = .returned u ∧ NOut w' u (omul X1 X2)) ∧ Below w.heap.size w w' := by
  have H1 : Hid (NIn w v1 X1) := h1
  have H2 : Hid (NIn w v2 X2) := h2
  have HbN : Hid (∀ N, X1 = some N → ln N ≤ 10000) := hb1
  have HbM : Hid (∀ N, X2 = some N → ln N ≤ 10000) := hb2
  clear hb1 hb2
  obtain ⟨i1, a1, n1, c1, L1, rfl, -⟩ := h1
  obtain ⟨i2, a2, n2, c2, L2, rfl, -⟩ := h2
  go_enter Tryz.func66, Tryz.ntmps66
  go_wp2_with (go_at_call 62; fail)
  refine (clean_any _ _ X1 (H1.out.below (below3 w _ _ _))).mono ?_
  rintro e w2 ⟨⟨u, rfl, hu⟩, hB⟩
  obtain ⟨i, a, n, c, rfl, hnc, hcc, hX⟩ := hu.form
  have hx := box_cell (heap3_1 w _ _ _) hB
  have HB2 : Hid (Below w.heap.size w w2) := below_step (below3 w _ _ _) hB
  have Hr2 : Hid (w2.heap[w.heap.size + 1 + 1]? = some (.cells #[.bool false, .slice none 0 0] 24)) := (hB.block _ (by simp)).trans (heap3_2 w _ _ _)
  have hx0 := hx.1
  have hx1 := hx.2
  have hs2 : w.heap.size + 1 + 1 < w2.heap.size := by have := hB.size; simp at this; omega
  have hs2' : w.heap.size + 1 < w2.heap.size := by omega
  clear hx hu hB
  go_wp2_with (go_at_call 62; fail)
  refine (clean_any _ _ X2 (H2.out.below (HB2.out.alloc HB2.out.size _))).mono ?_
  rintro e w4 ⟨⟨u, rfl, hu⟩, hB⟩
  obtain ⟨j, b, m, d, rfl, hmd, hdd, hY⟩ := hu.form
  have Hg2 : Hid ((w4.alloc (.cells #[.bool j, .slice b m d] 24)).heap[w2.heap.size]? = some (.cells #[.bool i, .slice a n c] 24)) := by
    show (w4.alloc _).heap[w2.heap.size]? = _
    have := hB.size
    simp at this
    rw [Below.heap_alloc _ _ _ (by omega), hB.block _ (by simp), heap_alloc_new]
  have Hg4 : Hid ((w4.alloc (.cells #[.bool j, .slice b m d] 24)).heap[w4.heap.size]? = some (.cells #[.bool j, .slice b m d] 24)) := heap_alloc_new w4 _
  have Hr4 : Hid ((w4.alloc (.cells #[.bool j, .slice b m d] 24)).heap[w.heap.size + 1 + 1]? = some (.cells #[.bool false, .slice none 0 0] 24)) := by
    show (w4.alloc _).heap[w.heap.size + 1 + 1]? = _
    have := hB.size
    simp at this
    rw [Below.heap_alloc _ _ _ (by omega), hB.block _ (by simp; omega), Below.heap_alloc _ _ _ (by omega)]
    exact Hr2.out
  have HB4 : Hid (Below w2.heap.size w2 w4) := below_step ((below_refl w2).alloc (Nat.le_refl _) _) hB
  have HBB : Hid (Below w.heap.size w (w4.alloc (.cells #[.bool j, .slice b m d] 24))) := (below_step HB2.out HB4.out).alloc (below_step HB2.out HB4.out).size _
  have HX : Hid ((i = true ∧ n = 0 ∧ X1 = none) ∨ ∃ N, i = false ∧ X1 = some N ∧ n = ln N ∧ Rd (w4.alloc (.cells #[.bool j, .slice b m d] 24)) a n c (u32s (dg N))) := by
    rcases hX with h | ⟨N, h1, h2, h3, h4⟩
    · exact Or.inl h
    · exact Or.inr ⟨N, h1, h2, h3, (h4.below HB4.out).below ((below_refl w4).alloc (Nat.le_refl _) _)⟩
  have HY : Hid ((j = true ∧ m = 0 ∧ X2 = none) ∨ ∃ N, j = false ∧ X2 = some N ∧ m = ln N ∧ Rd (w4.alloc (.cells #[.bool j, .slice b m d] 24)) b m d (u32s (dg N))) := by
    rcases hY with h | ⟨N, h1, h2, h3, h4⟩
    · exact Or.inl h
    · exact Or.inr ⟨N, h1, h2, h3, h4.below ((below_refl w4).alloc (Nat.le_refl _) _)⟩
  have hs4 : w.heap.size + 1 + 1 < (w4.alloc (.cells #[.bool j, .slice b m d] 24)).heap.size := by have := hB.size; simp at this ⊢; omega
  clear hX hY hu hB hx0 hx1 hs2 hs2' H1 H2 Hr2 HB2 HB4
  go_upto_region 3 with fail
  obtain ⟨W5, hW5⟩ : ∃ W5, W5 = w4.alloc (.cells #[.bool j, .slice b m d] 24) := ⟨_, rfl⟩
  rw [← hW5] at Hg2 Hg4 Hr4 HBB HX HY hs4 ⊢
  clear hW5
  obtain ⟨p0, p1, -⟩ := box_facts Hg2.out
  obtain ⟨q0, q1, -⟩ := box_facts Hg4.out
  obtain ⟨r0, r1, r2, r3, r4, r5⟩ := box_facts Hr4.out
  rcases HX.out with ⟨rfl, rfl, rfl⟩ | ⟨A, rfl, rfl, hn, hRn⟩ <;> rcases HY.out with ⟨rfl, rfl, rfl⟩ | ⟨B, rfl, rfl, hm, hRm⟩
  · clear HX HY
    go_wp2
    refine bodyPost_ret (v := .agg #[.bool true, .slice none 0 0]) (by simp [results, Tryz.results66, go_sem, r4, r5]) rfl ⟨⟨_, rfl, nout_inf _⟩, below_set HBB.out (by omega) _ _⟩
  · clear HX HY hRm
    by_cases h0 : m = 0
    · have HE : Hid (omul none (some B) = some 0) := by
        have : B = 0 := ln_eq_zero (by omega)
        show (if B = 0 then some 0 else none) = some 0
        rw [if_pos this]
      subst h0
      clear hm
      go_wp2
      refine bodyPost_ret (v := .agg #[.bool false, .slice none 0 0]) (by simp [results, Tryz.results66, go_sem, r4, r5]) rfl ⟨⟨_, rfl, by rw [HE.out]; exact nout_zero _⟩, below_set HBB.out (by omega) _ _⟩
    · have HE : Hid (omul none (some B) = none) := by
        have : B ≠ 0 := fun e => h0 (by rw [hm, e, ln_zero])
        show (if B = 0 then some 0 else none) = none
        rw [if_neg this]
      have hb0 : ((m : Int) == 0) = false := by simp; omega
      clear hm
      go_wp2
      refine bodyPost_ret (v := .agg #[.bool true, .slice none 0 0]) (by simp [results, Tryz.results66, go_sem, r4, r5]) rfl ⟨⟨_, rfl, by rw [HE.out]; exact nout_inf _⟩, below_set HBB.out (by omega) _ _⟩
  · clear HX HY hRn
    by_cases h0 : n = 0
    · have HE : Hid (omul (some A) none = some 0) := by
        have : A = 0 := ln_eq_zero (by omega)
        show (if A = 0 then some 0 else none) = some 0
        rw [if_pos this]
      subst h0
      clear hn
      go_wp2
      refine bodyPost_ret (v := .agg #[.bool false, .slice none 0 0]) (by simp [results, Tryz.results66, go_sem, r4, r5]) rfl ⟨⟨_, rfl, by rw [HE.out]; exact nout_zero _⟩, below_set HBB.out (by omega) _ _⟩
    · have HE : Hid (omul (some A) none = none) := by
        have : A ≠ 0 := fun e => h0 (by rw [hn, e, ln_zero])
        show (if A = 0 then some 0 else none) = none
        rw [if_neg this]
      have hb0 : ((n : Int) == 0) = false := by simp; omega
      clear hn
      go_wp2
      refine bodyPost_ret (v := .agg #[.bool true, .slice none 0 0]) (by simp [results, Tryz.results66, go_sem, r4, r5]) rfl ⟨⟨_, rfl, by rw [HE.out]; exact nout_inf _⟩, below_set HBB.out (by omega) _ _⟩
  · have HRn : Hid (Rd W5 a n c (u32s (dg A))) := hRn
    have HRm : Hid (Rd W5 b m d (u32s (dg B))) := hRm
    have hn1 : n ≤ 10000 := by rw [hn]; exact HbN.out A rfl
    have hm1 : m ≤ 10000 := by rw [hm]; exact HbM.out B rfl
    have HN : Hid (n = ln A ∧ m = ln B) := ⟨hn, hm⟩
    clear HX HY hRn hRm hn hm HbN HbM
    by_cases h0 : n = 0
    · have HE : Hid (omul (some A) (some B) = some 0) := by
        have : A = 0 := ln_eq_zero (by have := HN.out.1; omega)
        show some (A * B) = some 0
        rw [this, Nat.zero_mul]
      subst h0
      clear HN HRn HRm
      go_wp2
      refine bodyPost_ret (v := .agg #[.bool false, .slice none 0 0]) (by simp [results, Tryz.results66, go_sem, r4, r5]) rfl ⟨⟨_, rfl, by rw [HE.out]; exact nout_zero _⟩, below_set HBB.out (by omega) _ _⟩
    by_cases h1 : m = 0
    · have HE : Hid (omul (some A) (some B) = some 0) := by
        have : B = 0 := ln_eq_zero (by have := HN.out.2; omega)
        show some (A * B) = some 0
        rw [this, Nat.mul_zero]
      have hb0 : ((n : Int) == 0) = false := by simp; omega
      subst h1
      clear HN HRn HRm
      go_wp2
      refine bodyPost_ret (v := .agg #[.bool false, .slice none 0 0]) (by simp [results, Tryz.results66, go_sem, r4, r5]) rfl ⟨⟨_, rfl, by rw [HE.out]; exact nout_zero _⟩, below_set HBB.out (by omega) _ _⟩
    have hb0 : ((n : Int) == 0) = false := by simp; omega
    have hb1 : ((m : Int) == 0) = false := by simp; omega
    obtain ⟨N, hN⟩ : ∃ N, n + m = N := ⟨_, rfl⟩
    have hmk : ∀ w, (Instr.makeSlice 22 (.int .i64 ((n : Int) + (m : Int))) (.int .i64 ((n : Int) + (m : Int)))).run Tryz.prog w = .ok (.slice (some ⟨w.heap.size, 0, none⟩) N N) (w.alloc (.cells (madeCells #[.int .u32 0] N) 66)) := fun w => by
      have := run_make_row' (P := Tryz.prog) 22 66 (.int .u32 0) 4 Tryz.underlying22 (by kernel_rfl) rfl .i64 .i64 N (by omega) (by omega) w
      rw [show ((N : Nat) : Int) = (n : Int) + (m : Int) by omega] at this
      exact this
    go_wp2
    clear hmk
    go_loopw [8] (fun v8 wr => ∃ (r : Nat) (L : Nat → Nat), r ≤ n ∧ v8 = .int .i64 r ∧ Hid (Below W5.heap.size W5 wr) ∧ Hid (Bk wr W5.heap.size N L) ∧ Hid ((∀ j, L j < 4294967296) ∧ lv L N = A % 4294967296 ^ r * B ∧ ∀ j, r + m ≤ j → j < N → L j = 0)) (fun v8 _ => n - (intOf v8).toNat)
    case atStart => exact ⟨0, fun _ => 0, Nat.zero_le _, rfl, (below_refl W5).alloc (Nat.le_refl _) _, bk_made W5 N, fun _ => Nat.lt_of_lt_of_le Nat.zero_lt_one (by decide), by rw [Nat.pow_zero, Nat.mod_one, Nat.zero_mul]; exact lv_noughts _ 0 N (Nat.zero_le _) (fun _ _ _ => rfl), fun _ _ _ => rfl⟩
    case round =>
      obtain ⟨r, L, hr, rfl, HW, HK, HL⟩ := hrel
      rename World => wr
      obtain ⟨p0, p1⟩ := box_cell Hg2.out HW.out
      obtain ⟨q0, q1⟩ := box_cell Hg4.out HW.out
      by_cases hrn : r < n
      · obtain ⟨ga, oa, rfl, hca⟩ := HRn.out.at (by omega)
        have HCA : Hid (W5.cell? ⟨ga, oa + r, none⟩ = some (.int .u32 (dg A r))) := hca r hrn
        clear hca
        go_wp2
        go_loopw [9, 10] (fun v9 v10 wq => ∃ (k cc : Nat) (K : Nat → Nat), k ≤ m ∧ v10 = .int .i64 k ∧ v9 = .int .u64 cc ∧ cc < 4294967296 ∧ Hid (Below W5.heap.size W5 wq) ∧ Hid (Bk wq W5.heap.size N K) ∧ Hid ((∀ j, K j < 4294967296) ∧ lv K N + cc * 4294967296 ^ (r + k) = A % 4294967296 ^ r * B + dg A r * 4294967296 ^ r * (B % 4294967296 ^ k) ∧ ∀ j, r + m ≤ j → j < N → K j = 0)) (fun _ v10 _ => m - (intOf v10).toNat)
        case atStart => exact ⟨0, 0, L, Nat.zero_le _, rfl, rfl, by decide, HW, HK, HL.out.1, by rw [HL.out.2.1, Nat.pow_zero, Nat.mod_one, Nat.zero_mul, Nat.mul_zero], HL.out.2.2⟩
        case round =>
          clear p0 p1 q0 q1 HW HK HL
          obtain ⟨k, cc, K, hk, rfl, rfl, hcc2, HW, HK, HL⟩ := hrel
          rename World => wq
          obtain ⟨p0, p1⟩ := box_cell Hg2.out HW.out
          obtain ⟨q0, q1⟩ := box_cell Hg4.out HW.out
          by_cases hkm : k < m
          · obtain ⟨gb, ob, rfl, hcb⟩ := HRm.out.at (by omega)
            have hck : wq.cell? ⟨ga, oa + r, none⟩ = some (.int .u32 (dg A r)) := (HW.out.cell (World.block_lt_of_cell? W5 _ HCA.out)).trans HCA.out
            have hdk : wq.cell? ⟨gb, ob + k, none⟩ = some (.int .u32 (dg B k)) := (HW.out.cell (World.block_lt_of_cell? W5 _ (hcb k hkm))).trans (hcb k hkm)
            have hwk := HK.out.cell (r + k) (by omega)
            have hfk := HK.out.frozen (r + k)
            obtain ⟨x, hx⟩ : ∃ x, x = dg A r := ⟨_, rfl⟩
            obtain ⟨y, hy⟩ : ∃ y, y = dg B k := ⟨_, rfl⟩
            obtain ⟨e, he⟩ : ∃ e, e = K (r + k) := ⟨_, rfl⟩
            have hxl : x < 4294967296 := by rw [hx]; exact dg_lt _ _
            have hyl : y < 4294967296 := by rw [hy]; exact dg_lt _ _
            have hel : e < 4294967296 := by rw [he]; exact HL.out.1 _
            obtain ⟨z, hz⟩ : ∃ z, z = x * y := ⟨_, rfl⟩
            have hzl : z ≤ 18446744065119617025 := by rw [hz]; exact Nat.le_trans (Nat.mul_le_mul (show x ≤ 4294967295 by omega) (show y ≤ 4294967295 by omega)) (by decide)
            obtain ⟨T, hT⟩ : ∃ T, T = cc + z + e := ⟨_, rfl⟩
            have hTl : T ≤ 18446744073709551615 := by omega
            have HINV : Hid (lv (upd K (r + k) (T % 4294967296)) N + T / 4294967296 * 4294967296 ^ (r + (k + 1)) = A % 4294967296 ^ r * B + dg A r * 4294967296 ^ r * (B % 4294967296 ^ (k + 1))) := by
              have h1 := mul_step K N (r + k) cc x y (A % 4294967296 ^ r * B) (dg A r * 4294967296 ^ r * (B % 4294967296 ^ k)) (by omega) HL.out.2.1
              rw [← he, ← hz, ← hT] at h1
              show lv (upd K (r + k) (T % 4294967296)) N + T / 4294967296 * 4294967296 ^ (r + (k + 1)) = _
              rw [← Nat.add_assoc, h1, hz, hx, hy, mul_q]
            have HDG : Hid (∀ j, upd K (r + k) (T % 4294967296) j < 4294967296) := fun j => by
              unfold upd; split
              · exact Nat.mod_lt _ (by decide)
              · exact HL.out.1 j
            have HNT : Hid (∀ j, r + m ≤ j → j < N → upd K (r + k) (T % 4294967296) j = 0) := fun j h1 h2 => by
              rw [upd_ne _ _ _ _ (by omega)]; exact HL.out.2.2 j h1 h2
            rw [← hx] at hck
            rw [← hy] at hdk
            rw [← he] at hwk
            have hxy : (x : Int) * (y : Int) = (z : Int) := by rw [hz]; rfl
            have hsum : (cc : Int) + (z : Int) + (e : Int) = (T : Int) := by omega
            have ht1 : (T : Int) % 4294967296 = ((T % 4294967296 : Nat) : Int) := by omega
            have ht2 : (T : Int) / 4294967296 = ((T / 4294967296 : Nat) : Int) := by omega
            have hw1 : IntKind.u64.wrap (x : Int) = (x : Int) := by rw [IntKind.wrap_u64]; omega
            have hw2 : IntKind.u64.wrap (y : Int) = (y : Int) := by rw [IntKind.wrap_u64]; omega
            have hw3 : IntKind.u64.wrap ((x : Int) * (y : Int)) = (z : Int) := by rw [hxy, IntKind.wrap_u64]; omega
            have hw4 : IntKind.u64.wrap ((cc : Int) + (z : Int)) = (cc : Int) + (z : Int) := by rw [IntKind.wrap_u64]; omega
            have hw5 : IntKind.u64.wrap ((cc : Int) + (z : Int) + (e : Int)) = (T : Int) := by rw [hsum, IntKind.wrap_u64]; omega
            clear hxy hsum
            have hq1 : T / 4294967296 < 4294967296 := by omega
            have i1 : (0 : Int) ≤ (r : Int) := by omega
            have i2 : (r : Int) < (n : Int) := by omega
            have i3 : (0 : Int) ≤ (k : Int) := by omega
            have i4 : (k : Int) < (m : Int) := by omega
            have i5 : (0 : Int) ≤ (r : Int) + (k : Int) := by omega
            have i6 : (r : Int) + (k : Int) < (N : Int) := by omega
            clear hcb HL hx hy he hz hT HRn HRm HN Hg2 Hg4 Hr4 HBB HCA hxl hyl r0 r1 r2 r3 r4 r5
            generalize hQ0 : T % 4294967296 = t0 at HINV HDG HNT ht1
            generalize hQ1 : T / 4294967296 = t1 at HINV ht2 hq1
            clear hQ0 hQ1
            go_wp2
            go_quiet (fail)
            go_wp2
            go_roundw
            case rel => exact ⟨k + 1, t1, upd K (r + k) t0, by omega, by go_num, rfl, hq1, (below_drewN HW.out _).setCell (Nat.le_refl _) _, Bk.set (w := wq.drewN _) HK.out (r + k) t0 (by omega), HDG.out, HINV.out, HNT.out⟩
            case measure => simp [intOf]; omega
          · obtain rfl : k = m := by omega
            have hwk := HK.out.cell (r + k) (by omega)
            have hfk := HK.out.frozen (r + k)
            have HINV : Hid (lv (upd K (r + k) cc) N = A % 4294967296 ^ (r + 1) * B) := by
              have h1 := lv_upd K (r + k) cc N (by omega)
              rw [HL.out.2.2 (r + k) (by omega) (by omega), Nat.zero_mul, Nat.add_zero] at h1
              show lv (upd K (r + k) cc) N = _
              rw [h1, HL.out.2.1, show B % 4294967296 ^ k = B from Nat.mod_eq_of_lt (lt_of_ln (by rw [← HN.out.2]; omega)), mul_row]
            have HDG : Hid (∀ j, upd K (r + k) cc j < 4294967296) := fun j => by
              unfold upd; split
              · exact hcc2
              · exact HL.out.1 j
            have HNT : Hid (∀ j, r + 1 + k ≤ j → j < N → upd K (r + k) cc j = 0) := fun j h1 h2 => by
              rw [upd_ne _ _ _ _ (by omega)]; exact HL.out.2.2 j (by omega) h2
            have i5 : (0 : Int) ≤ (r : Int) + (k : Int) := by omega
            have i6 : (r : Int) + (k : Int) < (N : Int) := by omega
            clear HL HRn HRm HN Hg2 Hg4 Hr4 HBB HCA r0 r1 r2 r3 r4 r5
            go_wp2
            go_roundw
            case rel => exact ⟨r + 1, upd K (r + k) cc, by omega, by go_num, HW.out.setCell (Nat.le_refl _) _, HK.out.set (r + k) cc (by omega), HDG.out, HINV.out, HNT.out⟩
            case measure => simp [intOf]; omega
      · obtain rfl : r = n := by omega
        have HIN : Hid (NIn wr (.agg #[.bool false, .slice (some ⟨W5.heap.size, 0, none⟩) N N]) (some (A * B))) := ⟨false, _, N, N, L, rfl, HK.out.rd (by omega), HL.out.1, by omega, by rw [HL.out.2.1, show A % 4294967296 ^ r = A from Nat.mod_eq_of_lt (lt_of_ln (by rw [← HN.out.1]; omega))]; rfl⟩
        have Hrr : Hid (wr.heap[w.heap.size + 1 + 1]? = some (.cells #[.bool false, .slice none 0 0] 24)) := (HW.out.block _ hs4).trans Hr4.out
        have hlt : w.heap.size + 1 + 1 < wr.heap.size := Nat.lt_of_lt_of_le hs4 HW.out.size
        clear HN HRn HRm Hg2 Hg4 Hr4 HL HK r0 r1 r2 r3 r4 r5
        go_wp2_with (go_at_call 62; fail)
        refine (clean_any _ _ _ HIN.out).mono ?_
        rintro e w7 ⟨⟨u, rfl, hu⟩, hB⟩
        have hg7 := (hB.block _ hlt).trans Hrr.out
        obtain ⟨s0, s1, s2, s3, s4, s5⟩ := box_facts hg7
        have HG7 : Hid (w7.heap[w.heap.size + 1 + 1]? = some (.cells #[.bool false, .slice none 0 0] 24)) := hg7
        have HU : Hid (NOut w7 u (some (A * B))) := hu
        have HB7 : Hid (Below w.heap.size w w7) := below_step (below_step HBB.out HW.out) hB
        obtain ⟨iu, au, nu, cu, rfl, -, -, -⟩ := hu.form
        clear hg7 hu hB
        go_wp2
        refine bodyPost_ret (v := .agg #[.bool iu, .slice au nu cu]) (by simp [results, Tryz.results66, go_sem, s4, s5]) rfl ⟨⟨_, rfl, HU.out.set HG7.out iu _⟩, below_set HB7.out (by omega) _ _⟩
end Go.Proofs.YtjdbapkmaggllaaGreatDoor
