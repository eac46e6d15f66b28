/- nat's May, compareDigits, Compare and Same: what they answer. -/
import Derived.Test.YtjdbapkmaggllaaGreatDoorS07
import Derived.Deep.RegionHeld3
namespace Go.Proofs.YtjdbapkmaggllaaGreatDoor
open Go.RowKit Fo
set_option maxRecDepth 100000

theorem Fo.Rd.alike {w w1 : World} {a : Option Addr} {n c : Nat} {V : Nat → Value} (h : Rd w a n c V) (e : w1.heap = w.heap) : Rd w1 a n c V := by
  obtain ⟨h1, h2, h3⟩ := h
  refine ⟨h1, h2, ?_⟩
  rcases h3 with h3 | ⟨b, off, ea, hc⟩
  · exact Or.inl h3
  · exact Or.inr ⟨b, off, ea, fun j hj => by rw [← hc j hj]; unfold World.cell?; rw [e]⟩
theorem may_ln (n : Nat) (L : Nat → Nat) (hL : ∀ j, L j < 4294967296) : (((ln (lv L n) : Nat) : Int) == ((n : Nat) : Int)) = mayB false n L := by
  show _ = (decide (n = 0) || decide (L (n - 1) ≠ 0))
  rw [Bool.eq_iff_iff]
  simp only [beq_iff_eq, Bool.or_eq_true, decide_eq_true_eq]
  constructor
  · intro h
    by_cases h0 : n = 0
    · exact Or.inl h0
    · right
      intro hz
      have h1 := lv_noughts L (n - 1) n (by omega) (fun j a b => by rw [show j = n - 1 by omega]; exact hz)
      have h2 := ln_le (n - 1) (lv L n) (by rw [h1]; exact lv_lt _ (fun j _ => hL j))
      omega
  · intro h
    have := ln_of L n (fun j _ => hL j) h
    omega
theorem may_any (i : Bool) (a : Option Addr) (n c : Nat) (L : Nat → Nat) (w : World) (hr : Rd w a n c (u32s L)) (hL : ∀ j, L j < 4294967296) :
    Calls Tryz.prog 49 #[.agg #[.bool i, .slice a n c]] w fun e w' => e = .returned (.bool (mayB i n L)) ∧ Below w.heap.size w w' := by
  have HB : Hid (Below w.heap.size w (w.alloc (.cells #[.bool i, .slice a n c] 24))) := (below_refl w).alloc (Nat.le_refl _) _
  have HR : Hid (Rd (w.alloc (.cells #[.bool i, .slice a n c] 24)) a n c (u32s L)) := hr.below HB.out
  have HL : Hid (∀ j, L j < 4294967296) := hL
  have HE : Hid ((((ln (lv L n) : Nat) : Int) == ((n : Nat) : Int)) = mayB false n L) := may_ln n L hL
  clear hr hL
  cases i
  · go_enter Tryz.func49, Tryz.ntmps49
    go_wp2_with fail
    go_quiet (first | (go_at_call 71; refine Calls.quiet_of_same (trim_any a n c L _ ?_ HL.out (lv L n) rfl); exact HR.out.alike rfl))
    go_wp2
    go_ret
    exact ⟨ret_bool HE.out, below_drewN HB.out _⟩
  · have HE2 : Hid ((((n : Nat) : Int) == 0) = mayB true n L) := by
      show (((n : Nat) : Int) == 0) = decide (n = 0)
      rw [Bool.eq_iff_iff]; simp
    clear HE HR HL
    go_enter Tryz.func49, Tryz.ntmps49
    go_wp2
    go_ret
    exact ⟨ret_bool HE2.out, HB.out⟩
theorem cmp49_lt (x y : Int) (h : x < y) (w : World) : Calls Tryz.prog 94 #[.int .i64 x, .int .i64 y] w fun e w' => e = .returned (.int .i64 (-1)) ∧ w' = w := by
  go_enter Tryz.func94, Tryz.ntmps94
  go_wp2
  go_ret
  exact ⟨rfl, rfl⟩
theorem cmp49_gt (x y : Int) (h : y < x) (w : World) : Calls Tryz.prog 94 #[.int .i64 x, .int .i64 y] w fun e w' => e = .returned (.int .i64 1) ∧ w' = w := by
  have h' : ¬ x < y := by omega
  go_enter Tryz.func94, Tryz.ntmps94
  go_wp2
  go_ret
  exact ⟨rfl, rfl⟩
theorem cmp49_eq (x : Int) (w : World) : Calls Tryz.prog 94 #[.int .i64 x, .int .i64 x] w fun e w' => e = .returned (.int .i64 0) ∧ w' = w := by
  go_enter Tryz.func94, Tryz.ntmps94
  go_wp2
  go_ret
  exact ⟨rfl, rfl⟩
theorem cmp50_lt (x y : Int) (h : x < y) (w : World) : Calls Tryz.prog 95 #[.int .u32 x, .int .u32 y] w fun e w' => e = .returned (.int .i64 (-1)) ∧ w' = w := by
  go_enter Tryz.func95, Tryz.ntmps95
  go_wp2
  go_ret
  exact ⟨rfl, rfl⟩
theorem cmp50_gt (x y : Int) (h : y < x) (w : World) : Calls Tryz.prog 95 #[.int .u32 x, .int .u32 y] w fun e w' => e = .returned (.int .i64 1) ∧ w' = w := by
  have h' : ¬ x < y := by omega
  go_enter Tryz.func95, Tryz.ntmps95
  go_wp2
  go_ret
  exact ⟨rfl, rfl⟩
theorem cmp50_eq (x : Int) (w : World) : Calls Tryz.prog 95 #[.int .u32 x, .int .u32 x] w fun e w' => e = .returned (.int .i64 0) ∧ w' = w := by
  go_enter Tryz.func95, Tryz.ntmps95
  go_wp2
  go_ret
  exact ⟨rfl, rfl⟩
theorem cdig_any (a b : Option Addr) (n m c d N M : Nat) (w : World) (ha : Rd w a n c (u32s (dg N))) (hb : Rd w b m d (u32s (dg M))) (hn : n = ln N) (hm : m = ln M) :
    Calls Tryz.prog 70 #[.slice a n c, .slice b m d] w fun e w' => e = .returned (.int .i64 (ocmp (some N) (some M))) ∧ ∃ k, w' = w.drewN k := by
  have HA : Hid (Rd w a n c (u32s (dg N))) := ha
  have HB : Hid (Rd w b m d (u32s (dg M))) := hb
  have HN : Hid (n = ln N ∧ m = ln M) := ⟨hn, hm⟩
  have hnc : n ≤ 9223372036854775807 := Nat.le_trans ha.1 ha.2.1
  have hmd : m ≤ 9223372036854775807 := Nat.le_trans hb.1 hb.2.1
  clear ha hb hn hm
  rcases Nat.lt_trichotomy n m with hlt | heq | hgt
  · have HE : Hid ((-1 : Int) = ocmp (some N) (some M)) := by
      have := ln_lt (M := N) (N := M) (by have := HN.out; omega)
      show (-1 : Int) = if N < M then (-1 : Int) else if N = M then 0 else 1
      rw [if_pos this]
    have hlt' : (n : Int) < (m : Int) := by omega
    clear HA HB HN
    go_enter Tryz.func70, Tryz.ntmps70
    go_wp2_with (go_at_call 94; refine (cmp49_lt _ _ hlt' _).mono ?_; rintro e w' ⟨rfl, hw⟩; replace hw := hw.symm; subst hw)
    go_ret
    exact ⟨ret_cmp HE.out, 0, rfl⟩
  · subst heq
    go_enter Tryz.func70, Tryz.ntmps70
    go_wp2_with (go_at_call 94; refine (cmp49_eq _ _).mono ?_; rintro e w' ⟨rfl, hw⟩; replace hw := hw.symm; subst hw)
    go_loopw [6] (fun vi wr => ∃ k : Nat, k ≤ n ∧ vi = .int .i64 ((k : Int) - 1) ∧ Hid (∃ q, wr = w.drewN q) ∧ Hid (∀ j, k ≤ j → j < n → dg N j = dg M j)) (fun vi _ => (intOf vi + 1).toNat)
    case atStart => exact ⟨n, Nat.le_refl _, by go_num, ⟨0, rfl⟩, fun j h1 h2 => absurd h2 (by omega)⟩
    case round =>
      obtain ⟨k, hk, rfl, HW, HK⟩ := hrel
      rename World => wr
      have HH : Hid (∀ m, ∃ q, wr.drewN m = w.drewN q) := fun m => by
        obtain ⟨q, rfl⟩ := HW.out
        exact ⟨q + m, World.drewN_drewN _ _ _⟩
      have HH0 : Hid (wr.heap = w.heap) := by
        obtain ⟨q, rfl⟩ := HW.out
        exact rfl
      by_cases h0 : k = 0
      · subst h0
        have HE : Hid ((0 : Int) = ocmp (some N) (some M)) := by
          have e : N = M := cmp_all N M (HN.out.1.symm.trans HN.out.2) (fun j hj => HK.out j (by omega) (by rw [HN.out.1]; exact hj))
          show (0 : Int) = if N < M then (-1 : Int) else if N = M then 0 else 1
          rw [e, if_neg (by omega), if_pos rfl]
        clear HK HN HA HB HW HH0
        go_wp2
        go_ret
        exact ⟨ret_cmp HE.out, HH.out 0⟩
      · obtain ⟨p, rfl⟩ : ∃ p, k = p + 1 := ⟨k - 1, by omega⟩
        obtain ⟨ga, oa, rfl, hca⟩ := (HA.out.alike HH0.out).at (by omega)
        obtain ⟨gb, ob, rfl, hcb⟩ := (HB.out.alike HH0.out).at (by omega)
        have hck := hca p (by omega)
        have hdk := hcb p (by omega)
        unfold u32s at hck hdk
        have i1 : (0 : Int) ≤ (p : Int) := by omega
        have i2 : (p : Int) < (n : Int) := by omega
        have hq : ((p + 1 : Nat) : Int) - 1 = (p : Int) := by omega
        rw [hq]
        clear hca hcb HA HB h0 hq HW HH0
        rcases Nat.lt_trichotomy (dg N p) (dg M p) with hc | hc | hc
        · have HE : Hid ((-1 : Int) = ocmp (some N) (some M)) := by
            have e : N < M := cmp_top N M p (by rw [← HN.out.1]; omega) (HN.out.1.symm.trans HN.out.2) (fun j h1 h2 => HK.out j (by omega) (by rw [HN.out.1]; exact h2)) hc
            show (-1 : Int) = if N < M then (-1 : Int) else if N = M then 0 else 1
            rw [if_pos e]
          have hb2 : ((dg N p : Nat) : Int) < ((dg M p : Nat) : Int) := by omega
          clear HK HN hc
          go_wp2_with fail
          go_quiet (first | (go_at_call 95; refine Calls.quiet_of_same (cmp50_lt _ _ hb2 _)))
          go_wp2
          go_ret
          exact ⟨ret_cmp HE.out, HH.out _⟩
        · have HK' : Hid (∀ j, p ≤ j → j < n → dg N j = dg M j) := fun j h1 h2 => by
            by_cases e : j = p
            · rw [e]; exact hc
            · exact HK.out j (by omega) h2
          rw [hc] at hck
          clear HK HN hc
          go_wp2_with fail
          go_quiet (first | (go_at_call 95; refine Calls.quiet_of_same (cmp50_eq _ _)))
          go_wp2
          go_roundw
          case rel => exact ⟨p, by omega, by go_num, HH.out _, HK'⟩
          case measure => simp [intOf]
        · have HE : Hid ((1 : Int) = ocmp (some N) (some M)) := by
            have e : M < N := cmp_top M N p (by rw [← HN.out.2]; omega) (HN.out.2.symm.trans HN.out.1) (fun j h1 h2 => (HK.out j (by omega) (by rw [HN.out.2]; exact h2)).symm) hc
            show (1 : Int) = if N < M then (-1 : Int) else if N = M then 0 else 1
            rw [if_neg (by omega), if_neg (by omega)]
          have hb2 : ((dg M p : Nat) : Int) < ((dg N p : Nat) : Int) := by omega
          clear HK HN hc
          go_wp2_with fail
          go_quiet (first | (go_at_call 95; refine Calls.quiet_of_same (cmp50_gt _ _ hb2 _)))
          go_wp2
          go_ret
          exact ⟨ret_cmp HE.out, HH.out _⟩
  · have HE : Hid ((1 : Int) = ocmp (some N) (some M)) := by
      have := ln_lt (M := M) (N := N) (by have := HN.out; omega)
      show (1 : Int) = if N < M then (-1 : Int) else if N = M then 0 else 1
      rw [if_neg (by omega), if_neg (by omega)]
    have hlt' : (m : Int) < (n : Int) := by omega
    clear HA HB HN
    go_enter Tryz.func70, Tryz.ntmps70
    go_wp2_with (go_at_call 94; refine (cmp49_gt _ _ hlt' _).mono ?_; rintro e w' ⟨rfl, hw⟩; replace hw := hw.symm; subst hw)
    go_ret
    exact ⟨ret_cmp HE.out, 0, rfl⟩
theorem compare_any (w : World) (v1 v2 : Value) (X1 X2 : Option Nat) (h1 : NIn w v1 X1) (h2 : NIn w v2 X2) :
    Calls Tryz.prog 45 #[v1, v2] w fun e w' => e = .returned (.int .i64 (ocmp X1 X2)) ∧ Below w.heap.size w w' := by
  obtain ⟨i1, a1, n1, c1, L1, rfl, hr1, hL1, hn1, rfl⟩ := h1
  obtain ⟨i2, a2, n2, c2, L2, rfl, hr2, hL2, hn2, rfl⟩ := h2
  have HBB : Hid (Below w.heap.size w ((w.alloc (.cells #[.bool i1, .slice a1 n1 c1] 24)).alloc (.cells #[.bool i2, .slice a2 n2 c2] 24))) := below2 w _ _
  have R1 : Hid (Rd ((w.alloc (.cells #[.bool i1, .slice a1 n1 c1] 24)).alloc (.cells #[.bool i2, .slice a2 n2 c2] 24)) a1 n1 c1 (u32s L1)) := hr1.below HBB.out
  have R2 : Hid (Rd ((w.alloc (.cells #[.bool i1, .slice a1 n1 c1] 24)).alloc (.cells #[.bool i2, .slice a2 n2 c2] 24)) a2 n2 c2 (u32s L2)) := hr2.below HBB.out
  have HL1 : Hid (∀ j, L1 j < 4294967296) := hL1
  have HL2 : Hid (∀ j, L2 j < 4294967296) := hL2
  clear hr1 hr2 hL1 hL2
  cases i1 <;> cases i2
  · have m0 : True := trivial
    go_enter Tryz.func45, Tryz.ntmps45
    go_wp2_with fail
    go_quiet (first
      | (go_at_call_of 71 (Value.slice a1 n1 c1); refine Calls.quiet_of_same (trim_any a1 n1 c1 L1 _ ?_ HL1.out (lv L1 n1) rfl); exact R1.out.alike rfl)
      | (go_at_call_of 71 (Value.slice a2 n2 c2); refine Calls.quiet_of_same (trim_any a2 n2 c2 L2 _ ?_ HL2.out (lv L2 n2) rfl); exact R2.out.alike rfl)
      | (go_at_call 70; refine Calls.quiet_of (cdig_any a1 a2 _ _ c1 c2 (lv L1 n1) (lv L2 n2) _ ?_ ?_ rfl rfl); exact (R1.out.trim HL1.out rfl).2.alike rfl; exact (R2.out.trim HL2.out rfl).2.alike rfl))
    go_wp2
    go_ret
    exact ⟨rfl, below_drewN HBB.out _⟩
  all_goals
    clear R1 R2 HL1 HL2
    go_enter Tryz.func45, Tryz.ntmps45
    go_wp2
    go_ret
    exact ⟨rfl, HBB.out⟩
theorem ocmp_zero (X Y : Option Nat) : (ocmp X Y == 0) = decide (X = Y) := by
  cases X <;> cases Y
  · rfl
  · rfl
  · rfl
  · rename_i m n
    show ((if m < n then (-1 : Int) else if m = n then 0 else 1) == 0) = _
    rw [Bool.eq_iff_iff]
    simp only [beq_iff_eq, decide_eq_true_eq, Option.some.injEq]
    by_cases h1 : m < n
    · rw [if_pos h1]; omega
    · rw [if_neg h1]
      by_cases h2 : m = n
      · rw [if_pos h2]; simp [h2]
      · rw [if_neg h2]; simp [h2]
theorem same_any (w : World) (v1 v2 : Value) (X1 X2 : Option Nat) (h1 : NIn w v1 X1) (h2 : NIn w v2 X2) :
    Calls Tryz.prog 72 #[v1, v2] w fun e w' => e = .returned (.bool (decide (X1 = X2))) ∧ Below w.heap.size w w' := by
  have H1 : Hid (NIn w v1 X1) := h1
  have H2 : Hid (NIn w v2 X2) := h2
  obtain ⟨i1, a1, n1, c1, L1, rfl, -⟩ := h1
  obtain ⟨i2, a2, n2, c2, L2, rfl, -⟩ := h2
  have HE : Hid ((ocmp X1 X2 == 0) = decide (X1 = X2)) := ocmp_zero X1 X2
  go_enter Tryz.func72, Tryz.ntmps72
  go_wp2_with (go_at_call 45; fail)
  refine (compare_any _ _ _ X1 X2 (H1.out.below (below2 w _ _)) (H2.out.below (below2 w _ _))).mono ?_
  rintro e w2 ⟨rfl, hB⟩
  go_wp2
  go_ret
  exact ⟨ret_bool HE.out, below_step (below2 w _ _) hB⟩
end Go.Proofs.YtjdbapkmaggllaaGreatDoor
