/- nat's Add. -/
import Derived.Test.YtjdbapkmaggllaaGreatDoorS24
import Derived.Laws.CopyOwn
namespace Go.Proofs.YtjdbapkmaggllaaGreatDoor
open Go.RowKit Fo
set_option maxRecDepth 100000

theorem heap3_0 (w : World) (o1 o2 o3 : Obj) : (((w.alloc o1).alloc o2).alloc o3).heap[w.heap.size]? = some o1 := by
  rw [Below.heap_alloc _ _ _ (by simp; omega), heap_1st]
theorem fl_one (L : Nat → Nat) (n : Nat) : ∀ v ∈ fl (u32s L) n, v.oneCell' = true := fun v hv => by
  obtain ⟨j, -, rfl⟩ := List.mem_map.1 hv
  rfl
theorem splice_dg (A n : Nat) (h : ln A ≤ n) : splice (fl (u32s (fun _ => 0)) (n + 1)) 0 (fl (u32s (dg A)) n) = fl (u32s (dg A)) (n + 1) := by
  unfold splice
  apply List.ext_getElem?
  intro j
  rw [List.take_zero, List.nil_append, fl_len, Nat.zero_add]
  by_cases hj : j < n
  · rw [List.getElem?_append_left (by rw [fl_len]; exact hj), fl_get _ n j hj, fl_get _ (n + 1) j (by omega)]
  · rw [List.getElem?_append_right (by rw [fl_len]; omega), fl_len, List.getElem?_drop, show n + (j - n) = j by omega]
    by_cases hj2 : j < n + 1
    · rw [fl_get _ (n + 1) j hj2, fl_get _ (n + 1) j hj2]
      obtain rfl : j = n := by omega
      unfold u32s
      rw [dg_high h]
    · rw [List.getElem?_eq_none (by rw [fl_len]; omega), List.getElem?_eq_none (by rw [fl_len]; omega)]
theorem copy_src (W w9 : World) (a : Option Addr) (n c : Nat) (V : Nat → Value) (h : Rd W a n c V) (h9 : Below W.heap.size W w9) (h0 : 0 < (fl V n).length) : ∃ ad, a = some ad ∧ ∀ j v, (fl V n)[j]? = some v → w9.cell? (ad.add j) = some v := by
  rw [fl_len] at h0
  obtain ⟨b, off, rfl, hc⟩ := (h.below h9).at h0
  refine ⟨_, rfl, fun j v hj => ?_⟩
  obtain ⟨hj2, rfl⟩ := fl_some V n j v hj
  rw [add_off]
  exact hc j hj2
theorem copy_dg (W5 : World) (a : Option Addr) (n c A nq : Nat) (hR : Rd W5 a n c (u32s (dg A))) (hA : ln A ≤ n) :
    ∃ w2, (Builtin.copy_ #[22, 22] 3 #[.slice (some ⟨W5.heap.size, 0, none⟩) (n + 1) (n + 1), .slice a n c]).run Tryz.prog ((W5.drewN nq).alloc (.cells (madeCells #[.int .u32 0] (n + 1)) 66)) = .ok (goInt n) w2 ∧ Bk w2 W5.heap.size (n + 1) (dg A) ∧ Below W5.heap.size W5 w2 := by
  have HBk : ((W5.drewN nq).alloc (.cells (madeCells #[.int .u32 0] (n + 1)) 66)).heap[W5.heap.size]? = some (.cells (fl (u32s (fun _ => 0)) (n + 1)).toArray 66) := bk_made (W5.drewN nq) (n + 1)
  have HBl : Below W5.heap.size W5 ((W5.drewN nq).alloc (.cells (madeCells #[.int .u32 0] (n + 1)) 66)) := (below_drewN (below_refl W5) nq).alloc (Nat.le_refl _) _
  have hsp := splice_dg A n hA
  by_cases h0 : n = 0
  · subst h0
    refine ⟨_, run_copy_none (P := Tryz.prog) _ 22 22 3 66 _ _ _ _ _ _ Tryz.underlying22 (by kernel_rfl) (by simp), ?_, HBl⟩
    unfold Bk
    rw [HBk, ← hsp]
    simp [splice, fl]
  · obtain ⟨ad, rfl, hsrc⟩ := copy_src W5 ((W5.drewN nq).alloc (.cells (madeCells #[.int .u32 0] (n + 1)) 66)) a n c (u32s (dg A)) hR HBl (by rw [fl_len]; omega)
    have hl : (fl (u32s (dg A)) n).length = n := fl_len _ _
    have hrun := run_copy_row (P := Tryz.prog) ((W5.drewN nq).alloc (.cells (madeCells #[.int .u32 0] (n + 1)) 66)) 22 22 3 66 W5.heap.size 0 (n + 1) (n + 1) ad n c _ 66 (fl (u32s (dg A)) n) Tryz.underlying22 (by kernel_rfl) HBk (by rw [hl]; exact (Nat.min_eq_left (by omega)).symm) hsrc (by simp [fl_len]) (fl_one _ _)
    rw [hl] at hrun
    refine ⟨_, hrun, ?_, below_setRow HBl (Nat.le_refl _) _⟩
    unfold Bk
    rw [setRow_heap _ _ _ _ _ _ HBk, ← hsp]
    simp [splice, fl_len]
theorem sum_room {A B n : Nat} (hA : ln A ≤ n) (hB : ln B ≤ n) : A + B < 4294967296 ^ (n + 1) := by
  have h1 := lt_of_ln hA
  have h2 := lt_of_ln hB
  rw [Nat.pow_succ]
  omega
set_option maxHeartbeats 8000000 in
theorem add_any (w : World) (v1 v2 : Value) (X1 X2 : Option Nat) (h1 : NIn w v1 X1) (h2 : NIn w v2 X2) (hb1 : ∀ N, X1 = some N → ln N ≤ 10000) (hb2 : ∀ N, X2 = some N → ln N ≤ 10000) :
    Calls Tryz.prog 63 #[v1, v2] w fun e w' => (∃ u, e = .returned u ∧ NOut w' u (oadd X1 X2)) ∧ Below w.heap.size w w' := by
  obtain ⟨i1, a1, n1, c1, L1, rfl, hr1, hL1, hn1, rfl⟩ := h1
  obtain ⟨i2, a2, n2, c2, L2, rfl, hr2, hL2, hn2, rfl⟩ := h2
  have HBB' : Hid (Below w.heap.size w (((w.alloc (.cells #[.bool i1, .slice a1 n1 c1] 24)).alloc (.cells #[.bool i2, .slice a2 n2 c2] 24)).alloc (.cells #[.bool false, .slice none 0 0] 24))) := below3 w _ _ _
  by_cases hi : (i1 || i2) = true
  · have HE : Hid (oadd (if i1 = true then none else some (lv L1 n1)) (if i2 = true then none else some (lv L2 n2)) = none) := by
      cases i1 <;> cases i2 <;> first | rfl | cases hi
    rw [HE.out]
    clear hb1 hb2 hr1 hr2 hL1 hL2 HE
    have Hr : Hid ((((w.alloc (.cells #[.bool i1, .slice a1 n1 c1] 24)).alloc (.cells #[.bool i2, .slice a2 n2 c2] 24)).alloc (.cells #[.bool false, .slice none 0 0] 24)).heap[w.heap.size + 1 + 1]? = some (.cells #[.bool false, .slice none 0 0] 24)) := heap3_2 w _ _ _
    cases i1
    · obtain rfl : i2 = true := hi
      go_enter Tryz.func63, Tryz.ntmps63
      go_wp2_with (go_at_call 34; fail)
      refine (inf_any _).mono ?_
      rintro e w7 ⟨rfl, hB⟩
      have hg7 := (hB.block (w.heap.size + 1 + 1) (by simp)).trans Hr.out
      obtain ⟨s0, s1, s2, s3, s4, s5⟩ := box_facts hg7
      have HB7 : Hid (Below w.heap.size w w7) := below_step HBB'.out hB
      clear hg7 hB
      go_wp2
      exact bodyPost_ret (v := .agg #[.bool true, .slice none 0 0]) (by simp [results, Tryz.results63, go_sem, s4, s5]) rfl ⟨⟨_, rfl, nout_inf _⟩, below_set HB7.out (by omega) _ _⟩
    · clear hi
      go_enter Tryz.func63, Tryz.ntmps63
      go_wp2_with (go_at_call 34; fail)
      refine (inf_any _).mono ?_
      rintro e w7 ⟨rfl, hB⟩
      have hg7 := (hB.block (w.heap.size + 1 + 1) (by simp)).trans Hr.out
      obtain ⟨s0, s1, s2, s3, s4, s5⟩ := box_facts hg7
      have HB7 : Hid (Below w.heap.size w w7) := below_step HBB'.out hB
      clear hg7 hB
      go_wp2
      exact bodyPost_ret (v := .agg #[.bool true, .slice none 0 0]) (by simp [results, Tryz.results63, go_sem, s4, s5]) rfl ⟨⟨_, rfl, nout_inf _⟩, below_set HB7.out (by omega) _ _⟩
  · obtain ⟨rfl, rfl⟩ : i1 = false ∧ i2 = false := by cases i1 <;> cases i2 <;> simp_all
    clear hi
    obtain ⟨A, hA⟩ : ∃ A, lv L1 n1 = A := ⟨_, rfl⟩
    obtain ⟨B, hB⟩ : ∃ B, lv L2 n2 = B := ⟨_, rfl⟩
    have hlA : ln A ≤ 10000 := hb1 A (by rw [hA]; rfl)
    have hlB : ln B ≤ 10000 := hb2 B (by rw [hB]; rfl)
    rw [hA, hB]
    show Calls Tryz.prog 63 _ w fun e w' => (∃ u, e = .returned u ∧ NOut w' u (oadd (some A) (some B))) ∧ Below w.heap.size w w'
    have HA : Hid (lv L1 n1 = A) := hA
    have HB : Hid (lv L2 n2 = B) := hB
    have HL1 : Hid (∀ j, L1 j < 4294967296) := hL1
    have HL2 : Hid (∀ j, L2 j < 4294967296) := hL2
    have HR1 : Hid (Rd w a1 n1 c1 (u32s L1)) := hr1
    have HR2 : Hid (Rd w a2 n2 c2 (u32s L2)) := hr2
    clear hb1 hb2 hA hB hL1 hL2 hr1 hr2
    go_enter Tryz.func63, Tryz.ntmps63
    go_upto_region 3 with fail
    obtain ⟨W5, hW5⟩ : ∃ W5, W5 = ((w.alloc (.cells #[.bool false, .slice a1 n1 c1] 24)).alloc (.cells #[.bool false, .slice a2 n2 c2] 24)).alloc (.cells #[.bool false, .slice none 0 0] 24) := ⟨_, rfl⟩
    have HBB : Hid (Below w.heap.size w W5) := by rw [hW5]; exact HBB'.out
    have Hr : Hid (W5.heap[w.heap.size + 1 + 1]? = some (.cells #[.bool false, .slice none 0 0] 24)) := by
      show W5.heap[w.heap.size + 1 + 1]? = _
      rw [hW5]; exact heap3_2 w _ _ _
    have hg0 : W5.heap[w.heap.size]? = some (.cells #[.bool false, .slice a1 n1 c1] 24) := by rw [hW5]; exact heap3_0 w _ _ _
    have hg1 : W5.heap[w.heap.size + 1]? = some (.cells #[.bool false, .slice a2 n2 c2] 24) := by rw [hW5]; exact heap3_1 w _ _ _
    have hs5 : w.heap.size + 1 + 1 < W5.heap.size := by rw [hW5]; simp
    rw [← hW5]
    clear hW5
    obtain ⟨p0, p1, -⟩ := box_facts hg0
    obtain ⟨q0, q1, -⟩ := box_facts hg1
    clear hg0 hg1
    have R1 : Hid (Rd W5 a1 n1 c1 (u32s L1)) := HR1.out.below HBB.out
    have R2 : Hid (Rd W5 a2 n2 c2 (u32s L2)) := HR2.out.below HBB.out
    have T1' : Rd W5 a1 (ln A) c1 (u32s (dg A)) := (R1.out.trim HL1.out HA.out).2
    have T2' : Rd W5 a2 (ln B) c2 (u32s (dg B)) := (R2.out.trim HL2.out HB.out).2
    have hnc : ln A ≤ c1 := T1'.1
    have hcc : c1 ≤ 9223372036854775807 := T1'.2.1
    have hmd : ln B ≤ c2 := T2'.1
    have hdd : c2 ≤ 9223372036854775807 := T2'.2.1
    have t1 : ∀ w9 : World, w9.heap = W5.heap → Calls Tryz.prog 71 #[.slice a1 n1 c1] w9 fun e w' => e = .returned (.slice a1 (ln A) c1) ∧ w' = w9 := fun w9 h9 => trim_any a1 n1 c1 L1 w9 (R1.out.alike h9) HL1.out A HA.out
    have t2 : ∀ w9 : World, w9.heap = W5.heap → Calls Tryz.prog 71 #[.slice a2 n2 c2] w9 fun e w' => e = .returned (.slice a2 (ln B) c2) ∧ w' = w9 := fun w9 h9 => trim_any a2 n2 c2 L2 w9 (R2.out.alike h9) HL2.out B HB.out
    obtain ⟨n, n_eq⟩ : ∃ n, Hid (n = ln A) := ⟨_, rfl⟩
    obtain ⟨m, m_eq⟩ : ∃ m, Hid (m = ln B) := ⟨_, rfl⟩
    rw [← n_eq.out] at T1' hnc hlA t1
    rw [← m_eq.out] at T2' hmd hlB t2
    have T1 : Hid (Rd W5 a1 n c1 (u32s (dg A))) := T1'
    have T2 : Hid (Rd W5 a2 m c2 (u32s (dg B))) := T2'
    have Ht1 : Hid (∀ w9 : World, w9.heap = W5.heap → Calls Tryz.prog 71 #[.slice a1 n1 c1] w9 fun e w' => e = .returned (.slice a1 n c1) ∧ w' = w9) := t1
    have Ht2 : Hid (∀ w9 : World, w9.heap = W5.heap → Calls Tryz.prog 71 #[.slice a2 n2 c2] w9 fun e w' => e = .returned (.slice a2 m c2) ∧ w' = w9) := t2
    clear T1' T2' t1 t2 HA HB HL1 HL2 HR1 HR2 R1 R2 HBB'
    go_quiet (first
      | (go_at_call_of 71 (Value.slice a1 n1 c1); refine Calls.quiet_of_same (Ht1.out _ ?_); rfl)
      | (go_at_call_of 71 (Value.slice a2 n2 c2); refine Calls.quiet_of_same (Ht2.out _ ?_); rfl))
    clear Ht1 Ht2
    by_cases hlt : (n : Int) < (m : Int)
    ·
      have hmk : ∀ w, (Instr.makeSlice 22 (.int .i64 (((m : Nat) : Int) + 1)) (.int .i64 (((m : Nat) : Int) + 1))).run Tryz.prog w = .ok (.slice (some ⟨w.heap.size, 0, none⟩) (m + 1) (m + 1)) (w.alloc (.cells (madeCells #[.int .u32 0] (m + 1)) 66)) := fun w => by
        have := run_make_row' (P := Tryz.prog) 22 66 (.int .u32 0) 4 Tryz.underlying22 (by kernel_rfl) rfl .i64 .i64 (m + 1) (by omega) (by omega) w
        rw [show (((m + 1 : Nat) : Nat) : Int) = ((m : Nat) : Int) + 1 by omega] at this
        exact this
      obtain ⟨w2, hcp, hK2, hB2'⟩ := copy_dg W5 a2 m c2 B nq T2.out (Nat.le_of_eq m_eq.out.symm)
      have HK2 : Hid (Bk w2 W5.heap.size (m + 1) (dg B)) := hK2
      have HB2 : Hid (Below W5.heap.size W5 w2) := hB2'
      clear hK2 hB2'
      go_wp2_with (go_at_call 92; fail)
      have hB2 := HB2.out
      refine (addrow_any W5 a1 n c1 A 1 W5.heap.size 0 (m + 1) (m + 1) (dg B) w2 T1.out (Nat.le_of_eq n_eq.out.symm) hB2 (Nat.le_refl _) HK2.out (dg_lt B) (by decide) (Nat.zero_add _) (by omega) (by omega) (B + A) (by rw [Nat.pow_zero, Nat.one_mul, lv_dg_of _ _ (lt_of_ln (by have := m_eq.out; omega))]) (sum_room (by have := m_eq.out; omega) (by have := n_eq.out; omega))).mono ?_
      rintro e w3 ⟨rfl, K, hK3, hKd, hlv, hB3⟩
      have HK3 : Hid (Bk w3 W5.heap.size (m + 1) K) := hK3
      have HKd : Hid (∀ j, K j < 4294967296) := hKd
      have Hlv : Hid (lv K (m + 1) = B + A) := hlv
      have HB3 : Hid (Below W5.heap.size W5 w3) := hB3
      clear hK3 hKd hlv hB3 HK2 hB2 HB2 hcp hmk
      go_wp2_with (go_at_call 60; fail)
      refine (number_any (some ⟨W5.heap.size, 0, none⟩) (m + 1) (m + 1) K w3 (HK3.out.rd (by omega)) HKd.out (B + A) Hlv.out).mono ?_
      rintro e w7 ⟨⟨u, rfl, hu⟩, hB⟩
      have hg7 := (hB.block _ (Nat.lt_of_lt_of_le hs5 HB3.out.size)).trans ((HB3.out.block _ hs5).trans Hr.out)
      obtain ⟨s0, s1, s2, s3, s4, s5⟩ := box_facts hg7
      have HG7 : Hid (w7.heap[w.heap.size + 1 + 1]? = some (.cells #[.bool false, .slice none 0 0] 24)) := hg7
      have HU : Hid (NOut w7 u (some (B + A))) := hu
      have HB7 : Hid (Below w.heap.size w w7) := below_step (below_step HBB.out HB3.out) hB
      obtain ⟨iu, au, nu, cu, rfl, -, -, -⟩ := hu.form
      clear hg7 hu hB
      go_wp2
      refine bodyPost_ret (v := .agg #[.bool iu, .slice au nu cu]) (by simp [results, Tryz.results63, go_sem, s4, s5]) rfl ⟨⟨_, rfl, ?_⟩, below_set HB7.out (by omega) _ _⟩
      rw [show oadd (some A) (some B) = some (B + A) from congrArg some (Nat.add_comm A B)]
      exact HU.out.set HG7.out iu _
    ·
      have hmk : ∀ w, (Instr.makeSlice 22 (.int .i64 (((n : Nat) : Int) + 1)) (.int .i64 (((n : Nat) : Int) + 1))).run Tryz.prog w = .ok (.slice (some ⟨w.heap.size, 0, none⟩) (n + 1) (n + 1)) (w.alloc (.cells (madeCells #[.int .u32 0] (n + 1)) 66)) := fun w => by
        have := run_make_row' (P := Tryz.prog) 22 66 (.int .u32 0) 4 Tryz.underlying22 (by kernel_rfl) rfl .i64 .i64 (n + 1) (by omega) (by omega) w
        rw [show (((n + 1 : Nat) : Nat) : Int) = ((n : Nat) : Int) + 1 by omega] at this
        exact this
      obtain ⟨w2, hcp, hK2, hB2'⟩ := copy_dg W5 a1 n c1 A nq T1.out (Nat.le_of_eq n_eq.out.symm)
      have HK2 : Hid (Bk w2 W5.heap.size (n + 1) (dg A)) := hK2
      have HB2 : Hid (Below W5.heap.size W5 w2) := hB2'
      clear hK2 hB2'
      go_wp2_with (go_at_call 92; fail)
      have hB2 := HB2.out
      refine (addrow_any W5 a2 m c2 B 1 W5.heap.size 0 (n + 1) (n + 1) (dg A) w2 T2.out (Nat.le_of_eq m_eq.out.symm) hB2 (Nat.le_refl _) HK2.out (dg_lt A) (by decide) (Nat.zero_add _) (by omega) (by omega) (A + B) (by rw [Nat.pow_zero, Nat.one_mul, lv_dg_of _ _ (lt_of_ln (by have := n_eq.out; omega))]) (sum_room (by have := n_eq.out; omega) (by have := m_eq.out; omega))).mono ?_
      rintro e w3 ⟨rfl, K, hK3, hKd, hlv, hB3⟩
      have HK3 : Hid (Bk w3 W5.heap.size (n + 1) K) := hK3
      have HKd : Hid (∀ j, K j < 4294967296) := hKd
      have Hlv : Hid (lv K (n + 1) = A + B) := hlv
      have HB3 : Hid (Below W5.heap.size W5 w3) := hB3
      clear hK3 hKd hlv hB3 HK2 hB2 HB2 hcp hmk
      go_wp2_with (go_at_call 60; fail)
      refine (number_any (some ⟨W5.heap.size, 0, none⟩) (n + 1) (n + 1) K w3 (HK3.out.rd (by omega)) HKd.out (A + B) Hlv.out).mono ?_
      rintro e w7 ⟨⟨u, rfl, hu⟩, hB⟩
      have hg7 := (hB.block _ (Nat.lt_of_lt_of_le hs5 HB3.out.size)).trans ((HB3.out.block _ hs5).trans Hr.out)
      obtain ⟨s0, s1, s2, s3, s4, s5⟩ := box_facts hg7
      have HG7 : Hid (w7.heap[w.heap.size + 1 + 1]? = some (.cells #[.bool false, .slice none 0 0] 24)) := hg7
      have HU : Hid (NOut w7 u (some (A + B))) := hu
      have HB7 : Hid (Below w.heap.size w w7) := below_step (below_step HBB.out HB3.out) hB
      obtain ⟨iu, au, nu, cu, rfl, -, -, -⟩ := hu.form
      clear hg7 hu hB
      go_wp2
      refine bodyPost_ret (v := .agg #[.bool iu, .slice au nu cu]) (by simp [results, Tryz.results63, go_sem, s4, s5]) rfl ⟨⟨_, rfl, ?_⟩, below_set HB7.out (by omega) _ _⟩
      rw [show oadd (some A) (some B) = some (A + B) from congrArg some rfl]
      exact HU.out.set HG7.out iu _
end Go.Proofs.YtjdbapkmaggllaaGreatDoor
