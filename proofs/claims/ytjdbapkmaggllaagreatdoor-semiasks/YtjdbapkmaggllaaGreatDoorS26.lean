/- nat's Mul. -/
import Derived.Test.YtjdbapkmaggllaaGreatDoorS25
namespace Go.Proofs.YtjdbapkmaggllaaGreatDoor
open Go.RowKit Fo
set_option maxRecDepth 100000

theorem iszero_is (w : World) (v : Value) (X : Option Nat) (h : NIn w v X) (z : Bool) (hz : z = decide (X = some 0)) : Calls Tryz.prog 78 #[v] w fun e w' => e = .returned (.bool z) ∧ Below w.heap.size w w' := by
  rw [hz]; exact iszero_any w v X h
theorem omul_zero1 (X Y : Option Nat) (h : X = some 0) : omul X Y = some 0 := by
  subst h
  cases Y with
  | none => rfl
  | some n => show some (0 * n) = _; rw [Nat.zero_mul]
theorem omul_zero2 (X Y : Option Nat) (h : Y = some 0) : omul X Y = some 0 := by
  subst h
  cases X with
  | none => rfl
  | some n => show some (n * 0) = _; rw [Nat.mul_zero]
theorem omul_inf (X Y : Option Nat) (h1 : X ≠ some 0) (h2 : Y ≠ some 0) (h : X = none ∨ Y = none) : omul X Y = none := by
  cases X with
  | none =>
    cases Y with
    | none => rfl
    | some n => show (if n = 0 then _ else _) = _; rw [if_neg (fun e => h2 (by rw [e]))]
  | some m =>
    cases Y with
    | none => show (if m = 0 then _ else _) = _; rw [if_neg (fun e => h1 (by rw [e]))]
    | some n => rcases h with h | h <;> cases h
theorem prod_room {A B n m N r : Nat} (hA : ln A ≤ n) (hB : ln B ≤ m) (hN : n + m = N) : A % 4294967296 ^ r * B < 4294967296 ^ N := by
  have h1 := lt_of_ln hA
  have h2 := lt_of_ln hB
  have h3 : A % 4294967296 ^ r * B ≤ A * B := Nat.mul_le_mul_right _ (Nat.mod_le _ _)
  have h4 : A * B < 4294967296 ^ n * 4294967296 ^ m := by
    rcases Nat.eq_zero_or_pos B with h0 | h0
    · rw [h0, Nat.mul_zero]; exact Nat.mul_pos (bp n) (bp m)
    · exact Nat.lt_of_lt_of_le (Nat.mul_lt_mul_of_pos_right h1 h0) (Nat.mul_le_mul_left _ (by omega))
  rw [← hN, Nat.pow_add]
  omega
set_option maxHeartbeats 8000000 in
theorem mul_any (w : World) (v1 v2 : Value) (X1 X2 : Option Nat) (h1 : NIn w v1 X1) (h2 : NIn w v2 X2) (hb1 : ∀ N, X1 = some N → ln N ≤ 10000) (hb2 : ∀ N, X2 = some N → ln N ≤ 10000) :
    Calls Tryz.prog 67 #[v1, v2] w fun e w' => (∃ u, e = .returned u ∧ NOut w' u (omul X1 X2)) ∧ Below w.heap.size w w' := by
  have H1 : Hid (NIn w v1 X1) := h1
  have H2 : Hid (NIn w v2 X2) := h2
  have HbN : Hid (∀ N, X1 = some N → ln N ≤ 10000) := hb1
  have HbM : Hid (∀ N, X2 = some N → ln N ≤ 10000) := hb2
  clear hb1 hb2
  obtain ⟨i1, a1, n1, c1, L1, rfl, hr1, hL1, hn1, hX1⟩ := h1
  obtain ⟨i2, a2, n2, c2, L2, rfl, hr2, hL2, hn2, hX2⟩ := h2
  have HR1 : Hid (Rd w a1 n1 c1 (u32s L1)) := hr1
  have HR2 : Hid (Rd w a2 n2 c2 (u32s L2)) := hr2
  have HL1 : Hid (∀ j, L1 j < 4294967296) := hL1
  have HL2 : Hid (∀ j, L2 j < 4294967296) := hL2
  have HX1 : Hid (X1 = if i1 = true then none else some (lv L1 n1)) := hX1
  have HX2 : Hid (X2 = if i2 = true then none else some (lv L2 n2)) := hX2
  clear hr1 hr2 hL1 hL2 hX1 hX2
  go_enter Tryz.func67, Tryz.ntmps67
  go_wp2_with (go_at_call 78; fail)
  obtain ⟨W5, hW5⟩ : ∃ W5, W5 = ((w.alloc (.cells #[.bool i1, .slice a1 n1 c1] 24)).alloc (.cells #[.bool i2, .slice a2 n2 c2] 24)).alloc (.cells #[.bool false, .slice none 0 0] 24) := ⟨_, rfl⟩
  have HBB : Hid (Below w.heap.size w W5) := by rw [hW5]; exact below3 w _ _ _
  have Hr : Hid (W5.heap[w.heap.size + 1 + 1]? = some (.cells #[.bool false, .slice none 0 0] 24)) := by
    show W5.heap[w.heap.size + 1 + 1]? = _
    rw [hW5]; exact heap3_2 w _ _ _
  have Hg0 : Hid (W5.heap[w.heap.size]? = some (.cells #[.bool i1, .slice a1 n1 c1] 24)) := by
    show W5.heap[w.heap.size]? = _
    rw [hW5]; exact heap3_0 w _ _ _
  have Hg1 : Hid (W5.heap[w.heap.size + 1]? = some (.cells #[.bool i2, .slice a2 n2 c2] 24)) := by
    show W5.heap[w.heap.size + 1]? = _
    rw [hW5]; exact heap3_1 w _ _ _
  have hs5 : w.heap.size + 1 + 1 < W5.heap.size := by rw [hW5]; simp
  rw [← hW5]
  clear hW5
  obtain ⟨z1, hz1⟩ : ∃ z1, z1 = decide (X1 = some 0) := ⟨_, rfl⟩
  obtain ⟨z2, hz2⟩ : ∃ z2, z2 = decide (X2 = some 0) := ⟨_, rfl⟩
  have HZ1 : Hid (z1 = decide (X1 = some 0)) := hz1
  have HZ2 : Hid (z2 = decide (X2 = some 0)) := hz2
  clear hz1 hz2
  refine (iszero_is W5 _ X1 (H1.out.below HBB.out) z1 HZ1.out).mono ?_
  rintro e w6 ⟨rfl, hB6⟩
  have hr6 := (hB6.block _ hs5).trans Hr.out
  cases z1
  case true =>
    have HB6 : Hid (Below w.heap.size w w6) := below_step HBB.out hB6
    obtain ⟨s0, s1, s2, s3, s4, s5⟩ := box_facts hr6
    have HE : Hid (omul X1 X2 = some 0) := omul_zero1 X1 X2 (of_decide_eq_true HZ1.out.symm)
    clear hr6 hB6
    go_wp2
    exact bodyPost_ret (v := .agg #[.bool false, .slice none 0 0]) (by simp [results, Tryz.results67, go_sem, s4, s5]) rfl ⟨⟨_, rfl, by rw [HE.out]; exact nout_zero _⟩, below_set HB6.out (by omega) _ _⟩
  case false =>
    obtain ⟨q0, q1⟩ := box_cell Hg1.out hB6
    have HB6 : Hid (Below W5.heap.size W5 w6) := hB6
    have hs6 : w.heap.size + 1 + 1 < w6.heap.size := Nat.lt_of_lt_of_le hs5 hB6.size
    have hs6' : w.heap.size + 1 < w6.heap.size := by omega
    have Hr6 : Hid (w6.heap[w.heap.size + 1 + 1]? = some (.cells #[.bool false, .slice none 0 0] 24)) := hr6
    clear hr6 hB6
    go_wp2_with (go_at_call 78; fail)
    refine (iszero_is w6 _ X2 (H2.out.below (below_step HBB.out HB6.out)) z2 HZ2.out).mono ?_
    rintro e w7 ⟨rfl, hB7⟩
    have hr7 := (hB7.block _ hs6).trans Hr6.out
    obtain ⟨s0, s1, s2, s3, s4, s5⟩ := box_facts hr7
    have HB7 : Hid (Below w.heap.size w w7) := below_step (below_step HBB.out HB6.out) hB7
    have HB57 : Hid (Below W5.heap.size W5 w7) := below_step HB6.out hB7
    obtain ⟨p0, p1⟩ := box_cell Hg0.out HB57.out
    obtain ⟨q2, q3⟩ := box_cell Hg1.out HB57.out
    have hs7 : w.heap.size + 1 + 1 < w7.heap.size := Nat.lt_of_lt_of_le hs6 hB7.size
    have Hr7 : Hid (w7.heap[w.heap.size + 1 + 1]? = some (.cells #[.bool false, .slice none 0 0] 24)) := hr7
    have HN1 : Hid (X1 ≠ some 0) := of_decide_eq_false HZ1.out.symm
    clear hr7 hB7 q0 q1 hs6 hs6' Hr6 HB6 Hg0 Hg1 HZ1 Hr
    cases z2
    case true =>
      have HE : Hid (omul X1 X2 = some 0) := omul_zero2 X1 X2 (of_decide_eq_true HZ2.out.symm)
      go_wp2
      exact bodyPost_ret (v := .agg #[.bool false, .slice none 0 0]) (by simp [results, Tryz.results67, go_sem, s4, s5]) rfl ⟨⟨_, rfl, by rw [HE.out]; exact nout_zero _⟩, below_set HB7.out (by omega) _ _⟩
    case false =>
      have HN2 : Hid (X2 ≠ some 0) := of_decide_eq_false HZ2.out.symm
      clear HZ2
      by_cases hi : (i1 || i2) = true
      · have HE : Hid (omul X1 X2 = none) := omul_inf X1 X2 HN1.out HN2.out (by
          rcases Bool.or_eq_true_iff.1 hi with h | h
          · left; rw [HX1.out, h]; rfl
          · right; rw [HX2.out, h]; rfl)
        cases i1
        · obtain rfl : i2 = true := hi
          go_wp2_with (go_at_call 34; fail)
          refine (inf_any _).mono ?_
          rintro e w9 ⟨rfl, hB⟩
          have hg9 := (hB.block (w.heap.size + 1 + 1) hs7).trans Hr7.out
          have HB9 : Hid (Below w.heap.size w w9) := below_step HB7.out hB
          clear s0 s1 s2 s3 s4 s5
          obtain ⟨s0, s1, s2, s3, s4, s5⟩ := box_facts hg9
          clear hg9 hB
          go_wp2
          exact bodyPost_ret (v := .agg #[.bool true, .slice none 0 0]) (by simp [results, Tryz.results67, go_sem, s4, s5]) rfl ⟨⟨_, rfl, by rw [HE.out]; exact nout_inf _⟩, below_set HB9.out (by omega) _ _⟩
        · clear hi
          go_wp2_with (go_at_call 34; fail)
          refine (inf_any _).mono ?_
          rintro e w9 ⟨rfl, hB⟩
          have hg9 := (hB.block (w.heap.size + 1 + 1) hs7).trans Hr7.out
          have HB9 : Hid (Below w.heap.size w w9) := below_step HB7.out hB
          clear s0 s1 s2 s3 s4 s5
          obtain ⟨s0, s1, s2, s3, s4, s5⟩ := box_facts hg9
          clear hg9 hB
          go_wp2
          exact bodyPost_ret (v := .agg #[.bool true, .slice none 0 0]) (by simp [results, Tryz.results67, go_sem, s4, s5]) rfl ⟨⟨_, rfl, by rw [HE.out]; exact nout_inf _⟩, below_set HB9.out (by omega) _ _⟩
      · obtain ⟨rfl, rfl⟩ : i1 = false ∧ i2 = false := by cases i1 <;> cases i2 <;> simp_all
        clear hi HN1 HN2
        obtain ⟨A, hA⟩ : ∃ A, lv L1 n1 = A := ⟨_, rfl⟩
        obtain ⟨B, hB⟩ : ∃ B, lv L2 n2 = B := ⟨_, rfl⟩
        have hXA : X1 = some A := by rw [HX1.out, hA]; rfl
        have hXB : X2 = some B := by rw [HX2.out, hB]; rfl
        have HE : Hid (omul X1 X2 = some (A * B)) := by rw [hXA, hXB]; rfl
        have hlA : ln A ≤ 10000 := HbN.out A hXA
        have hlB : ln B ≤ 10000 := HbM.out B hXB
        have R1 : Hid (Rd w7 a1 n1 c1 (u32s L1)) := HR1.out.below HB7.out
        have R2 : Hid (Rd w7 a2 n2 c2 (u32s L2)) := HR2.out.below HB7.out
        have T1' : Rd w7 a1 (ln A) c1 (u32s (dg A)) := (R1.out.trim HL1.out hA).2
        have T2' : Rd w7 a2 (ln B) c2 (u32s (dg B)) := (R2.out.trim HL2.out hB).2
        have hnc : ln A ≤ c1 := T1'.1
        have hcc : c1 ≤ 9223372036854775807 := T1'.2.1
        have hmd : ln B ≤ c2 := T2'.1
        have hdd : c2 ≤ 9223372036854775807 := T2'.2.1
        have t1 : ∀ w9 : World, w9.heap = w7.heap → Calls Tryz.prog 71 #[.slice a1 n1 c1] w9 fun e w' => e = .returned (.slice a1 (ln A) c1) ∧ w' = w9 := fun w9 h9 => trim_any a1 n1 c1 L1 w9 (R1.out.alike h9) HL1.out A hA
        have t2 : ∀ w9 : World, w9.heap = w7.heap → Calls Tryz.prog 71 #[.slice a2 n2 c2] w9 fun e w' => e = .returned (.slice a2 (ln B) c2) ∧ w' = w9 := fun w9 h9 => trim_any a2 n2 c2 L2 w9 (R2.out.alike h9) HL2.out B hB
        obtain ⟨n, n_eq⟩ : ∃ n, Hid (n = ln A) := ⟨_, rfl⟩
        obtain ⟨m, m_eq⟩ : ∃ m, Hid (m = ln B) := ⟨_, rfl⟩
        rw [← n_eq.out] at T1' hnc hlA t1
        rw [← m_eq.out] at T2' hmd hlB t2
        have T1 : Hid (Rd w7 a1 n c1 (u32s (dg A))) := T1'
        have T2 : Hid (Rd w7 a2 m c2 (u32s (dg B))) := T2'
        have Ht1 : Hid (∀ w9 : World, w9.heap = w7.heap → Calls Tryz.prog 71 #[.slice a1 n1 c1] w9 fun e w' => e = .returned (.slice a1 n c1) ∧ w' = w9) := t1
        have Ht2 : Hid (∀ w9 : World, w9.heap = w7.heap → Calls Tryz.prog 71 #[.slice a2 n2 c2] w9 fun e w' => e = .returned (.slice a2 m c2) ∧ w' = w9) := t2
        clear T1' T2' t1 t2 hA hB hXA hXB HX1 HX2 HL1 HL2 HR1 HR2 R1 R2 H1 H2 HbN HbM s0 s1 s2 s3 s4 s5
        go_upto_region 5 with fail
        go_quiet (first
          | (go_at_call_of 71 (Value.slice a1 n1 c1); refine Calls.quiet_of_same (Ht1.out _ ?_); rfl)
          | (go_at_call_of 71 (Value.slice a2 n2 c2); refine Calls.quiet_of_same (Ht2.out _ ?_); rfl))
        clear Ht1 Ht2 p0 p1 q2 q3
        obtain ⟨N, hN⟩ : ∃ N, n + m = N := ⟨_, rfl⟩
        have hmk : ∀ w, (Instr.makeSlice 22 (.int .i64 ((n : Int) + (m : Int))) (.int .i64 ((n : Int) + (m : Int)))).run Tryz.prog w = .ok (.slice (some ⟨w.heap.size, 0, none⟩) N N) (w.alloc (.cells (madeCells #[.int .u32 0] N) 66)) := fun w => by
          have := run_make_row' (P := Tryz.prog) 22 66 (.int .u32 0) 4 Tryz.underlying22 (by kernel_rfl) rfl .i64 .i64 N (by omega) (by omega) w
          rw [show ((N : Nat) : Int) = (n : Int) + (m : Int) by omega] at this
          exact this
        go_wp2
        clear hmk
        go_loopw [40] (fun v40 wr => ∃ (r : Nat) (L : Nat → Nat), r ≤ n ∧ v40 = .int .i64 r ∧ Hid (Below w7.heap.size w7 wr) ∧ Hid (Bk wr w7.heap.size N L) ∧ Hid ((∀ j, L j < 4294967296) ∧ lv L N = A % 4294967296 ^ r * B)) (fun v40 _ => n - (intOf v40).toNat)
        case atStart => exact ⟨0, fun _ => 0, Nat.zero_le _, rfl, (below_drewN (below_refl w7) nq).alloc (Nat.le_refl _) _, bk_made (w7.drewN nq) N, fun _ => Nat.lt_of_lt_of_le Nat.zero_lt_one (by decide), by rw [Nat.pow_zero, Nat.mod_one, Nat.zero_mul]; exact lv_noughts _ 0 N (Nat.zero_le _) (fun _ _ _ => rfl)⟩
        case round =>
          obtain ⟨r, L, hr, rfl, HW, HK, HL⟩ := hrel
          rename World => wr
          by_cases hrn : r < n
          · obtain ⟨ga, oa, rfl, hca⟩ := (T1.out.below HW.out).at (by omega)
            have hck := hca r hrn
            unfold u32s at hck
            clear hca
            have i1 : (0 : Int) ≤ (r : Int) := by omega
            have i2 : (r : Int) < (n : Int) := by omega
            have i3 : (r : Int) ≤ (N : Int) := by omega
            have i4 : (r : Int) < (N : Int) := by omega
            have i5 : r < N := by omega
            have HAR : Hid (Calls Tryz.prog 92 #[.slice (some ⟨w7.heap.size, r, none⟩) (N - r) (N - r), .slice a2 m c2, .int .u32 ((dg A r : Nat) : Int)] wr fun e w' => e = .returned (.tuple #[]) ∧ ∃ K, Bk w' w7.heap.size N K ∧ (∀ j, K j < 4294967296) ∧ lv K N = A % 4294967296 ^ (r + 1) * B ∧ Below w7.heap.size w7 w') :=
              addrow_any w7 a2 m c2 B (dg A r) w7.heap.size r N (N - r) L wr T2.out (Nat.le_of_eq m_eq.out.symm) HW.out (Nat.le_refl _) HK.out HL.out.1 (dg_lt A r) (by omega) (by omega) (by omega) _ (by rw [HL.out.2]; exact mul_row A B r) (prod_room (Nat.le_of_eq n_eq.out.symm) (Nat.le_of_eq m_eq.out.symm) hN)
            clear HW HK HL
            go_wp2_with (go_at_call 92; fail)
            refine HAR.out.mono ?_
            rintro e w9 ⟨rfl, K, hK, hKd, hlv, hB9⟩
            have HK9 : Hid (Bk w9 w7.heap.size N K) := hK
            have HL9 : Hid ((∀ j, K j < 4294967296) ∧ lv K N = A % 4294967296 ^ (r + 1) * B) := ⟨hKd, hlv⟩
            have HW9 : Hid (Below w7.heap.size w7 w9) := hB9
            clear hK hKd hlv hB9 HAR
            go_wp2
            go_roundw
            case rel => exact ⟨r + 1, K, by omega, by go_num, HW9, HK9, HL9.out.1, HL9.out.2⟩
            case measure => simp [intOf]; omega
          · obtain rfl : r = n := by omega
            have HNU : Hid (Calls Tryz.prog 60 #[.slice (some ⟨w7.heap.size, 0, none⟩) N N] wr fun e w' => (∃ u, e = .returned u ∧ NOut w' u (some (A * B))) ∧ Below wr.heap.size wr w') :=
              number_any _ N N L wr (HK.out.rd (by omega)) HL.out.1 (A * B) (by rw [HL.out.2, Nat.mod_eq_of_lt (lt_of_ln (Nat.le_of_eq n_eq.out.symm))])
            have hg9 := (HW.out.block _ hs7).trans Hr7.out
            have HG9 : Hid (wr.heap[w.heap.size + 1 + 1]? = some (.cells #[.bool false, .slice none 0 0] 24)) := hg9
            have hs9 : w.heap.size + 1 + 1 < wr.heap.size := Nat.lt_of_lt_of_le hs7 HW.out.size
            clear hg9 HK HL
            go_wp2_with (go_at_call 60; fail)
            refine HNU.out.mono ?_
            rintro e w9 ⟨⟨u, rfl, hu⟩, hB⟩
            have hg8 := (hB.block _ hs9).trans HG9.out
            obtain ⟨s0, s1, s2, s3, s4, s5⟩ := box_facts hg8
            have HG7 : Hid (w9.heap[w.heap.size + 1 + 1]? = some (.cells #[.bool false, .slice none 0 0] 24)) := hg8
            have HU : Hid (NOut w9 u (some (A * B))) := hu
            have HB9 : Hid (Below w.heap.size w w9) := below_step (below_step HB7.out HW.out) hB
            obtain ⟨iu, au, nu, cu, rfl, -, -, -⟩ := hu.form
            clear hg8 hu hB HNU
            go_wp2
            exact bodyPost_ret (v := .agg #[.bool iu, .slice au nu cu]) (by simp [results, Tryz.results67, go_sem, s4, s5]) rfl ⟨⟨_, rfl, by rw [HE.out]; exact HU.out.set HG7.out iu _⟩, below_set HB9.out (by omega) _ _⟩
end Go.Proofs.YtjdbapkmaggllaaGreatDoor
