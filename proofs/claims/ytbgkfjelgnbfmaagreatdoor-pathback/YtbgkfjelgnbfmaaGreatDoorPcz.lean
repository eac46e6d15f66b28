/- Check, Deep, Size. -/
import Derived.Test.YtbgkfjelgnbfmaaGreatDoorPcs
namespace Go.Proofs.YtbgkfjelgnbfmaaGreatDoor
open Go.RowKit Fo
set_option maxRecDepth 100000
set_option linter.unusedSimpArgs false
set_option linter.unusedVariables false

namespace Fo
theorem prod_bounds {n k : Int} (h1 : 0 ≤ n) (h2 : 0 ≤ k) (h3 : k ≤ M40) : 0 ≤ prodN n k ∧ prodN n k ≤ M40 ∧ (¬ (0 < k ∧ M40 / k < n) → prodN n k = n * k ∧ 0 ≤ n * k ∧ n * k ≤ M40) := by
  unfold prodN
  by_cases hk : 0 < k
  · by_cases hn : M40 / k < n
    · rw [if_pos ⟨hk, hn⟩]
      exact ⟨by decide, Int.le_refl _, fun h => absurd ⟨hk, hn⟩ h⟩
    · rw [if_neg (fun h => hn h.2)]
      have h0 : 0 ≤ n * k := Int.mul_nonneg h1 h2
      have h4 : n * k ≤ M40 := by
        have : n ≤ M40 / k := by omega
        calc n * k ≤ M40 / k * k := Int.mul_le_mul_of_nonneg_right this h2
          _ ≤ M40 := Int.ediv_mul_le _ (by omega)
      exact ⟨h0, h4, fun _ => ⟨rfl, h0, h4⟩⟩
  · have : k = 0 := by omega
    subst this
    rw [if_neg (fun h => hk h.1)]
    simp [M40]
theorem times_nn (lo hi : Int) : 0 ≤ timesN lo hi := by
  unfold timesN M40
  split <;> omega
theorem szk_bounds (k n lo hi : Int) (h1 : 0 ≤ n) (h2 : n ≤ M40) : 0 ≤ szk k n lo hi ∧ szk k n lo hi ≤ M40 := by
  have hp := prod_bounds (times_nn lo hi) h1 h2
  unfold szk
  unfold M40 at *
  split
  · omega
  split
  · omega
  split
  · omega
  split
  · omega
  split
  · omega
  omega
theorem szs_bounds : ∀ (ks : List PT) (n : Int) (_ : ∀ t ∈ ks, 0 ≤ sz t ∧ sz t ≤ M40), 0 ≤ n → n ≤ M40 → 0 ≤ szs ks n ∧ szs ks n ≤ M40
  | [], n, _, h1, h2 => by rw [szs]; exact ⟨h1, h2⟩
  | t :: ts, n, h, h1, h2 => by
    rw [szs]
    have := h t (by simp)
    refine szs_bounds ts _ (fun u hu => h u (by simp [hu])) (by unfold M40; omega) (by unfold M40; omega)
theorem sz_bounds (t : PT) : 0 ≤ sz t ∧ sz t ≤ M40 := by
  induction t using PT.ind with
  | h k l ks lo hi ih =>
    rw [sz]
    have := szs_bounds ks 0 ih (Int.le_refl _) (by decide)
    exact szk_bounds _ _ _ _ this.1 this.2
theorem drop_cons {ks : List PT} {i : Nat} (h : i < ks.length) : ks.drop i = ks[i] :: ks.drop (i + 1) := List.drop_eq_getElem_cons h
end Fo
theorem tim_any (w : World) (lo hi : Int) : Calls Tryz.prog 57 #[.int .i64 lo, .int .i64 hi] w fun e w' => e = .returned (.int .i64 (timesN lo hi)) ∧ w' = w := by
  by_cases h : hi = -1
  · subst h
    have ht : timesN lo (-1) = min (max lo 0) M40 + 1 := rfl
    rw [ht]
    by_cases h1 : lo < 0
    · have hm : min (max lo 0) M40 + 1 = 1 := by unfold M40; omega
      rw [hm]
      go_enter Tryz.func57, Tryz.ntmps57
      go_wp2
      go_ret
      exact ⟨by first | rfl | simp, rfl⟩
    · by_cases h2 : 1099511627776 < lo
      · have hm : min (max lo 0) M40 + 1 = 1099511627777 := by unfold M40; omega
        rw [hm]
        go_enter Tryz.func57, Tryz.ntmps57
        go_wp2
        go_ret
        exact ⟨by first | rfl | simp, rfl⟩
      · have hm : min (max lo 0) M40 + 1 = lo + 1 := by unfold M40; omega
        rw [hm]
        go_enter Tryz.func57, Tryz.ntmps57
        go_wp2
        go_ret
        refine ⟨ret_int ?_, rfl⟩
        omega
  · have h' : (hi == -1) = false := by simp [h]
    have ht : timesN lo hi = max hi 0 := by unfold timesN; rw [if_neg h]
    rw [ht]
    by_cases h1 : hi < 0
    · have hm : max hi 0 = 0 := by omega
      rw [hm]
      go_enter Tryz.func57, Tryz.ntmps57
      go_wp2
      go_ret
      exact ⟨by first | rfl | simp, rfl⟩
    · have hm : max hi 0 = hi := by omega
      rw [hm]
      go_enter Tryz.func57, Tryz.ntmps57
      go_wp2
      go_ret
      exact ⟨by first | rfl | simp, rfl⟩
theorem pro_any (w : World) (n k : Int) (h1 : 0 ≤ n) (h2 : 0 ≤ k) (h3 : k ≤ 1099511627776) : Calls Tryz.prog 56 #[.int .i64 n, .int .i64 k] w fun e w' => e = .returned (.int .i64 (prodN n k)) ∧ w' = w := by
  have hp := prod_bounds h1 h2 h3
  unfold M40 at hp
  by_cases hk : 0 < k
  · have hk1 : 1 ≤ k := by omega
    by_cases hn : 1099511627776 / k < n
    · have hr : prodN n k = 1099511627776 := by unfold prodN M40; rw [if_pos ⟨hk, hn⟩]
      rw [hr]
      clear hp hr
      go_enter Tryz.func56, Tryz.ntmps56
      go_wp2
      go_ret
      exact ⟨rfl, rfl⟩
    · obtain ⟨hr, m1, m2⟩ := hp.2.2 (fun h => hn h.2)
      rw [hr]
      clear hp hr
      go_enter Tryz.func56, Tryz.ntmps56
      go_wp2
      go_ret
      exact ⟨rfl, rfl⟩
  · obtain ⟨hr, m1, m2⟩ := hp.2.2 (fun h => hk h.1)
    rw [hr]
    clear hp hr
    go_enter Tryz.func56, Tryz.ntmps56
    go_wp2
    go_ret
    exact ⟨rfl, rfl⟩
set_option maxHeartbeats 4000000 in
theorem cal_any (t : PT) : ∀ (F : Nat → Prop) (w : World) (x : PV), IsP F w x t → Calls Tryz.prog 35 #[x.v] w fun e w' => e = .returned (.int .i64 (ck t)) ∧ Below w.heap.size w w' := by
  induction t using PT.ind with
  | h k l ks lo hi ih =>
    intro F w x hp
    have hal := cka_any F w
    obtain ⟨q1, q2, q3, q4, q5, V, hr, hk⟩ := open_tree hp
    have HIH : Hid (∀ t ∈ ks, ∀ (F : Nat → Prop) (w : World) (x : PV), IsP F w x t → Calls Tryz.prog 35 #[x.v] w fun e w' => e = .returned (.int .i64 (ck t)) ∧ Below w.heap.size w w') := ih
    have HK : Hid (∀ (j : Nat) (h : j < ks.length), IsP F w (V j) ks[j]) := hk
    have HP : Hid (IsP F w x (.mk k l ks lo hi)) := hp
    have hd : ck (.mk k l ks lo hi) = if alone k l ks lo hi ≠ 0 then alone k l ks lo hi else cks ks := by rw [ck]
    rw [hd]
    obtain ⟨r, hrr⟩ : ∃ r, r = alone k l ks lo hi := ⟨_, rfl⟩
    rw [← hrr]
    have HRR : Hid (r = alone k l ks lo hi) := hrr
    obtain ⟨kind, label, a, len, cap, lo', hi'⟩ := x
    unfold PV.v
    simp only at q1 q2 q3 q4 q5 hr ⊢
    subst q5
    have HR : Hid (PRow F w a ks.length cap V) := hr
    have hl1 := hr.1
    have hl2 := hr.2.1
    clear ih hk hp hd hr q1 q2 q3 q4 hal hrr
    obtain ⟨W1, hW1⟩ : ∃ W1, W1 = w.alloc (.cells #[.int .i64 kind, .string label, .slice a ks.length cap, .int .i64 lo', .int .i64 hi'] 25) := ⟨_, rfl⟩
    have HBW1 : Hid (Below w.heap.size w W1) := by rw [hW1]; exact below1 w _
    have HGW1 : Hid (W1.heap[w.heap.size]? = some (.cells #[.int .i64 kind, .string label, .slice a ks.length cap, .int .i64 lo', .int .i64 hi'] 25)) := by show W1.heap[_]? = _; rw [hW1]; exact heap_new1 w _
    go_enter Tryz.func35, Tryz.ntmps35
    go_wp2_with (go_at_call 55; fail)
    rw [← hW1]
    clear hW1
    refine (cka_any F W1 ⟨kind, label, a, ks.length, cap, lo', hi'⟩ k l ks lo hi (HP.out.kp (Kp.of_below (F := fun _ => False) HBW1.out) (fun _ _ h => h) fun _ _ h => h)).mono ?_
    rw [← HRR.out]
    rintro e w2 ⟨rfl, b2⟩
    have HB2 : Hid (Below w.heap.size w w2) := below_step HBW1.out b2
    have HG2 : w2.heap[w.heap.size]? = some (.cells #[.int .i64 kind, .string label, .slice a ks.length cap, .int .i64 lo', .int .i64 hi'] 25) := (b2.block _ (lt_of_heap HGW1.out)).trans HGW1.out
    have d2 := cell_of_row _ _ 2 _ _ _ HG2
    simp only [List.getElem?_toArray, List.getElem?_cons_zero, List.getElem?_cons_succ] at d2
    clear b2 HG2 HBW1 HGW1 HP HRR
    by_cases hz : r = 0
    · subst hz
      simp only [ne_eq, not_true_eq_false, if_false]
      go_wp2
      go_loopw [15] (fun v15 wr => ∃ i : Nat, i ≤ ks.length ∧ v15 = .int .i64 i ∧ Hid (Below w.heap.size w wr) ∧ Hid (cks ks = cks (ks.drop i))) (fun v _ => ks.length - (intOf v).toNat)
      case atStart => exact ⟨0, Nat.zero_le _, rfl, HB2.out, rfl⟩
      case round =>
        obtain ⟨i, hi, rfl, HB, HC⟩ := hrel
        rename World => wr
        by_cases hlt : i < ks.length
        · obtain ⟨b, off, rfl, -, hc⟩ := HR.out.2.2.resolve_left (by omega)
          have hP := (hc i hlt).of_block (HB.out.block b (hc i hlt).lt)
          have HKI : Hid (IsP F wr (V i) ks[i]) := (HK.out i hlt).kp (Kp.of_below (F := fun _ => False) HB.out) (fun _ _ h => h) fun _ _ h => h
          have hdr := drop_cons hlt
          have HC2 : Hid (cks ks = if ck ks[i] ≠ 0 then ck ks[i] else cks (ks.drop (i + 1))) := by show _ = _; rw [HC.out, hdr, cks]
          have HIi := HIH.out _ (List.getElem_mem hlt)
          have HII : Hid (∀ (F : Nat → Prop) (w : World) (x : PV), IsP F w x ks[i] → Calls Tryz.prog 35 #[x.v] w fun e w' => e = .returned (.int .i64 (ck ks[i])) ∧ Below w.heap.size w w') := HIi
          clear hc hdr HIi HC
          generalize ks[i] = ti at HKI HC2 HII
          obtain ⟨y, hy⟩ : ∃ y, y = V i := ⟨_, rfl⟩
          rw [← hy] at hP HKI
          clear hy
          obtain ⟨c0, c1, c2, c3, c4⟩ := hP
          obtain ⟨k0, k1, k2, k3, k4, k5, k6⟩ := y
          simp only at c0 c1 c2 c3 c4
          have j1 : (0 : Int) ≤ (i : Int) := by omega
          have j2 : (i : Int) < (ks.length : Int) := by omega
          go_wp2_with (go_at_call 35; fail)
          refine (HII.out F _ ⟨k0, k1, k2, k3, k4, k5, k6⟩ (HKI.out.bel (below1 _ _))).mono ?_
          generalize ck ti = c at HC2
          rintro e w3 ⟨rfl, b3⟩
          have HB3 : Hid (Below w.heap.size w w3) := below_step (below_step HB.out (below1 _ _)) b3
          clear b3
          by_cases hz : c = 0
          · subst hz
            go_wp2
            exact ⟨⟨i + 1, by omega, by simp, HB3.out, by show _ = _; rw [HC2.out]; simp⟩, by simp [intOf]; omega⟩
          · have hz' : (c != 0) = true := by simp [hz]
            go_wp2
            go_ret
            exact ⟨ret_int (by rw [HC2.out]; simp [hz]), HB3.out⟩
        · have hn : i = ks.length := by omega
          subst hn
          have HC2 : Hid (cks ks = 0) := by show _ = _; rw [HC.out, List.drop_length]; rw [cks]
          clear HC
          go_wp2
          go_ret
          exact ⟨ret_int (by rw [HC2.out]), HB.out⟩
    · have hz' : (r != 0) = true := by simp [hz]
      go_wp2
      go_ret
      exact ⟨ret_int (by simp [hz]), HB2.out⟩
set_option maxHeartbeats 8000000 in
theorem siz_any (t : PT) : ∀ (F : Nat → Prop) (w : World) (x : PV), IsP F w x t → Calls Tryz.prog 36 #[x.v] w fun e w' => e = .returned (.int .i64 (sz t)) ∧ Below w.heap.size w w' := by
  induction t using PT.ind with
  | h k l ks lo hi ih =>
    intro F w x hp
    obtain ⟨q1, q2, q3, q4, q5, V, hr, hk⟩ := open_tree hp
    have HIH : Hid (∀ t ∈ ks, ∀ (F : Nat → Prop) (w : World) (x : PV), IsP F w x t → Calls Tryz.prog 36 #[x.v] w fun e w' => e = .returned (.int .i64 (sz t)) ∧ Below w.heap.size w w') := ih
    have HK : Hid (∀ (j : Nat) (h : j < ks.length), IsP F w (V j) ks[j]) := hk
    obtain ⟨tot, htt⟩ : ∃ tot, tot = szs ks 0 := ⟨_, rfl⟩
    have hd : sz (.mk k l ks lo hi) = szk k tot lo hi := by rw [sz, htt]
    rw [hd]
    have htb := szs_bounds ks 0 (fun t _ => sz_bounds t) (Int.le_refl _) (by decide)
    rw [← htt] at htb
    unfold M40 at htb
    obtain ⟨tb1, tb2⟩ := htb
    have HTT : Hid (tot = szs ks 0) := htt
    obtain ⟨kind, label, a, len, cap, lo', hi'⟩ := x
    unfold PV.v
    simp only at q1 q2 q3 q4 q5 hr ⊢
    subst q5 q1 q3 q4
    have HR : Hid (PRow F w a ks.length cap V) := hr
    have hl1 := hr.1
    have hl2 := hr.2.1
    have HD : Hid (szk kind tot lo' hi' = szk kind tot lo' hi') := rfl
    clear ih hk hp hd hr q2 htt HD
    obtain ⟨W1, hW1⟩ : ∃ W1, W1 = w.alloc (.cells #[.int .i64 kind, .string label, .slice a ks.length cap, .int .i64 lo', .int .i64 hi'] 25) := ⟨_, rfl⟩
    have HBW1 : Hid (Below w.heap.size w W1) := by rw [hW1]; exact below1 w _
    have HGW1 : Hid (W1.heap[w.heap.size]? = some (.cells #[.int .i64 kind, .string label, .slice a ks.length cap, .int .i64 lo', .int .i64 hi'] 25)) := by show W1.heap[_]? = _; rw [hW1]; exact heap_new1 w _
    go_enter Tryz.func36, Tryz.ntmps36
    go_wp2
    rw [← hW1]
    clear hW1
    go_loopw [3, 9] (fun v3 v9 wr => ∃ (i : Nat) (n : Int), i ≤ ks.length ∧ v3 = .int .i64 n ∧ v9 = .int .i64 i ∧ Hid (0 ≤ n ∧ n ≤ 1099511627776) ∧ Hid (Below w.heap.size w wr) ∧ Hid (wr.heap[w.heap.size]? = some (.cells #[.int .i64 kind, .string label, .slice a ks.length cap, .int .i64 lo', .int .i64 hi'] 25)) ∧ Hid (tot = szs (ks.drop i) n)) (fun _ v _ => ks.length - (intOf v).toNat)
    case atStart => exact ⟨0, 0, Nat.zero_le _, rfl, rfl, ⟨Int.le_refl _, by decide⟩, HBW1.out, HGW1.out, HTT.out⟩
    case round =>
      obtain ⟨i, n, hi, rfl, rfl, HN, HB, HG, HC⟩ := hrel
      rename World => wr
      have hn1 := HN.out.1
      have hn2 := HN.out.2
      by_cases hlt : i < ks.length
      · obtain ⟨b, off, rfl, -, hc⟩ := HR.out.2.2.resolve_left (by omega)
        have hP := (hc i hlt).of_block (HB.out.block b (hc i hlt).lt)
        have HKI : Hid (IsP F wr (V i) ks[i]) := (HK.out i hlt).kp (Kp.of_below (F := fun _ => False) HB.out) (fun _ _ h => h) fun _ _ h => h
        have hdr := drop_cons hlt
        have HC2 : Hid (tot = szs (ks.drop (i + 1)) (min (n + sz ks[i]) M40)) := by show _ = _; rw [HC.out, hdr, szs]
        have HIi := HIH.out _ (List.getElem_mem hlt)
        have HII : Hid (∀ (F : Nat → Prop) (w : World) (x : PV), IsP F w x ks[i] → Calls Tryz.prog 36 #[x.v] w fun e w' => e = .returned (.int .i64 (sz ks[i])) ∧ Below w.heap.size w w') := HIi
        have hsb := sz_bounds ks[i]
        clear hc hdr HIi HC HBW1 HGW1 HTT
        generalize ks[i] = ti at HKI HC2 HII hsb
        obtain ⟨y, hy⟩ : ∃ y, y = V i := ⟨_, rfl⟩
        rw [← hy] at hP HKI
        clear hy
        obtain ⟨c0, c1, c2, c3, c4⟩ := hP
        obtain ⟨k0, k1, k2, k3, k4, k5, k6⟩ := y
        simp only at c0 c1 c2 c3 c4
        have j1 : (0 : Int) ≤ (i : Int) := by omega
        have j2 : (i : Int) < (ks.length : Int) := by omega
        go_wp2_with (go_at_call 36; fail)
        refine (HII.out F _ ⟨k0, k1, k2, k3, k4, k5, k6⟩ (HKI.out.bel (below1 _ _))).mono ?_
        generalize sz ti = c at HC2 hsb
        unfold M40 at hsb
        obtain ⟨sb1, sb2⟩ := hsb
        rintro e w3 ⟨rfl, b3⟩
        have HB3 : Hid (Below w.heap.size w w3) := below_step (below_step HB.out (below1 _ _)) b3
        have HG3 : Hid (w3.heap[w.heap.size]? = some (.cells #[.int .i64 kind, .string label, .slice (some ⟨b, off, none⟩) ks.length cap, .int .i64 lo', .int .i64 hi'] 25)) := ((below_step (below1 wr _) b3).block _ (lt_of_heap HG.out)).trans HG.out
        clear b3 HB HG
        go_wp2
        refine ⟨⟨i + 1, min (n + c) 1099511627776, by omega, ?_, by simp, ⟨by omega, by omega⟩, HB3.out, HG3.out, HC2.out⟩, by simp [intOf]; omega⟩
        first | rfl | (congr 1; omega) | (congr 1; split <;> omega)
      · have hn : i = ks.length := by omega
        subst hn
        have hC2 : tot = n := by rw [HC.out, List.drop_length]; rw [szs]
        subst hC2
        have d0 := cell_of_row _ _ 0 _ _ _ HG.out
        have d3 := cell_of_row _ _ 3 _ _ _ HG.out
        have d4 := cell_of_row _ _ 4 _ _ _ HG.out
        simp only [List.getElem?_toArray, List.getElem?_cons_zero, List.getElem?_cons_succ] at d0 d3 d4
        clear HBW1 HGW1 HTT HC HG HN hn1 hn2 HIH HK HR
        by_cases e1 : kind = 1
        · subst e1
          have HV : Hid (szk 1 tot lo' hi' = 1) := rfl
          go_wp2
          go_ret
          exact ⟨ret_int (by rw [HV.out]), HB.out⟩
        by_cases e2 : kind = 2
        · subst e2
          have HV : Hid (szk 2 tot lo' hi' = 1) := rfl
          go_wp2
          go_ret
          exact ⟨ret_int (by rw [HV.out]), HB.out⟩
        by_cases e3 : kind = 3
        · subst e3
          have HV : Hid (szk 3 tot lo' hi' = 1) := rfl
          go_wp2
          go_ret
          exact ⟨ret_int (by rw [HV.out]), HB.out⟩
        by_cases e4 : kind = 4
        · subst e4
          have HV : Hid (szk 4 tot lo' hi' = min (tot + 1) M40) := rfl
          go_wp2
          all_goals (go_ret; refine ⟨ret_int ?_, HB.out⟩; rw [HV.out]; unfold M40; first | omega | (split <;> omega))
        by_cases e5 : kind = 5
        · subst e5
          have HV : Hid (szk 5 tot lo' hi' = min (tot + 1) M40) := rfl
          go_wp2
          all_goals (go_ret; refine ⟨ret_int ?_, HB.out⟩; rw [HV.out]; unfold M40; first | omega | (split <;> omega))
        by_cases e6 : kind = 6
        · subst e6
          have HV : Hid (szk 6 tot lo' hi' = min (tot + 1) M40) := rfl
          go_wp2
          all_goals (go_ret; refine ⟨ret_int ?_, HB.out⟩; rw [HV.out]; unfold M40; first | omega | (split <;> omega))
        by_cases e7 : kind = 7
        · subst e7
          have HV : Hid (szk 7 tot lo' hi' = min (2 * tot + 2) M40) := rfl
          go_wp2
          all_goals (go_ret; refine ⟨ret_int ?_, HB.out⟩; rw [HV.out]; unfold M40; first | omega | (split <;> omega))
        by_cases e8 : kind = 8
        · subst e8
          have HV : Hid (szk 8 tot lo' hi' = min (tot + 2) M40) := rfl
          go_wp2
          all_goals (go_ret; refine ⟨ret_int ?_, HB.out⟩; rw [HV.out]; unfold M40; first | omega | (split <;> omega))
        by_cases e9 : kind = 9
        · subst e9
          have HV : Hid (szk 9 tot lo' hi' = min (prodN (timesN lo' hi') tot + 3) M40) := rfl
          have hnn := times_nn lo' hi'
          have hpb := prod_bounds hnn tb1 tb2
          obtain ⟨tn, htn⟩ : ∃ tn, tn = timesN lo' hi' := ⟨_, rfl⟩
          have HTN : Hid (tn = timesN lo' hi') := htn
          rw [← htn] at hnn hpb
          obtain ⟨pn, hpn⟩ : ∃ pn, pn = prodN tn tot := ⟨_, rfl⟩
          have HPN : Hid (pn = prodN tn tot) := hpn
          rw [← hpn] at hpb
          unfold M40 at hpb
          obtain ⟨pb1, pb2, -⟩ := hpb
          clear htn hpn
          go_wp2_with (go_at_call 57; fail)
          refine (tim_any _ _ _).mono ?_
          rw [← HTN.out]
          rintro e w5 ⟨rfl, rfl⟩
          go_wp2_with (go_at_call 56; fail)
          refine (pro_any _ _ _ hnn tb1 tb2).mono ?_
          rw [← HPN.out]
          rintro e w5 ⟨rfl, rfl⟩
          go_wp2
          all_goals (go_ret; refine ⟨ret_int ?_, HB.out⟩; rw [HV.out, ← HTN.out, ← HPN.out]; unfold M40; first | omega | (split <;> omega))
        have f1 : (kind == 1) = false := by simp [e1]
        have f2 : (kind == 2) = false := by simp [e2]
        have f3 : (kind == 3) = false := by simp [e3]
        have f4 : (kind == 4) = false := by simp [e4]
        have f5 : (kind == 5) = false := by simp [e5]
        have f6 : (kind == 6) = false := by simp [e6]
        have f7 : (kind == 7) = false := by simp [e7]
        have f8 : (kind == 8) = false := by simp [e8]
        have f9 : (kind == 9) = false := by simp [e9]
        have HV : Hid (szk kind tot lo' hi' = 0) := by show _ = _; unfold szk; simp [e1, e2, e3, e4, e5, e6, e7, e8, e9]
        go_wp2
        go_ret
        exact ⟨ret_int (by rw [HV.out]), HB.out⟩
set_option maxHeartbeats 4000000 in
theorem chk_any (t : PT) (F : Nat → Prop) (w : World) (x : PV) (hp : IsP F w x t) : Calls Tryz.prog 16 #[x.v] w fun e w' => e = .returned (.int .i64 (chk t)) ∧ Below w.heap.size w w' := by
  have HP : Hid (IsP F w x t) := hp
  have HC : Hid (chk t = if 20 < deep t then 4 else if ck t ≠ 0 then ck t else if 60 < sz t then 5 else 0) := rfl
  clear hp
  obtain ⟨kind, label, a, len, cap, lo', hi'⟩ := x
  unfold PV.v
  obtain ⟨W1, hW1⟩ : ∃ W1, W1 = w.alloc (.cells #[.int .i64 kind, .string label, .slice a len cap, .int .i64 lo', .int .i64 hi'] 25) := ⟨_, rfl⟩
  have HBW1 : Hid (Below w.heap.size w W1) := by rw [hW1]; exact below1 w _
  have HGW1 : Hid (W1.heap[w.heap.size]? = some (.cells #[.int .i64 kind, .string label, .slice a len cap, .int .i64 lo', .int .i64 hi'] 25)) := by show W1.heap[_]? = _; rw [hW1]; exact heap_new1 w _
  go_enter Tryz.func16, Tryz.ntmps16
  go_wp2_with (go_at_call 34; fail)
  rw [← hW1]
  clear hW1
  refine (levels_any t F _ ⟨kind, label, a, len, cap, lo', hi'⟩ 21 (HP.out.kp (Kp.of_below (F := fun _ => False) HBW1.out) (fun _ _ h => h) fun _ _ h => h) (by omega) (by omega)).mono ?_
  rintro e w2 ⟨rfl, b2⟩
  have HB2 : Hid (Below w.heap.size w w2) := below_step HBW1.out b2
  have HG2 : Hid (w2.heap[w.heap.size]? = some (.cells #[.int .i64 kind, .string label, .slice a len cap, .int .i64 lo', .int .i64 hi'] 25)) := (b2.block _ (lt_of_heap HGW1.out)).trans HGW1.out
  clear b2 HBW1 HGW1
  have e0 := cell_of_row _ _ 0 _ _ _ HG2.out
  have e1 := cell_of_row _ _ 1 _ _ _ HG2.out
  have e2 := cell_of_row _ _ 2 _ _ _ HG2.out
  have e3 := cell_of_row _ _ 3 _ _ _ HG2.out
  have e4 := cell_of_row _ _ 4 _ _ _ HG2.out
  simp only [List.getElem?_toArray, List.getElem?_cons_zero, List.getElem?_cons_succ] at e0 e1 e2 e3 e4
  generalize hdn : min (deep t) 21 = dn
  by_cases hd : 20 < deep t
  · have hd' : (20 : Int) < (dn : Int) := by omega
    go_wp2
    go_ret
    exact ⟨ret_int (by rw [HC.out, if_pos hd]), HB2.out⟩
  have hd' : ¬ (20 : Int) < (dn : Int) := by omega
  go_wp2_with (go_at_call 35; fail)
  refine (cal_any t F _ ⟨kind, label, a, len, cap, lo', hi'⟩ (HP.out.kp (Kp.of_below (F := fun _ => False) HB2.out) (fun _ _ h => h) fun _ _ h => h)).mono ?_
  generalize ck t = c at HC
  rintro e w3 ⟨rfl, b3⟩
  have HB3 : Hid (Below w.heap.size w w3) := below_step HB2.out b3
  have HG3 : Hid (w3.heap[w.heap.size]? = some (.cells #[.int .i64 kind, .string label, .slice a len cap, .int .i64 lo', .int .i64 hi'] 25)) := (b3.block _ (lt_of_heap HG2.out)).trans HG2.out
  clear b3 HB2 HG2 e0 e1 e2 e3 e4
  by_cases hz : c = 0
  · subst hz
    have e0 := cell_of_row _ _ 0 _ _ _ HG3.out
    have e1 := cell_of_row _ _ 1 _ _ _ HG3.out
    have e2 := cell_of_row _ _ 2 _ _ _ HG3.out
    have e3 := cell_of_row _ _ 3 _ _ _ HG3.out
    have e4 := cell_of_row _ _ 4 _ _ _ HG3.out
    simp only [List.getElem?_toArray, List.getElem?_cons_zero, List.getElem?_cons_succ] at e0 e1 e2 e3 e4
    go_wp2_with (go_at_call 36; fail)
    refine (siz_any t F _ ⟨kind, label, a, len, cap, lo', hi'⟩ (HP.out.kp (Kp.of_below (F := fun _ => False) HB3.out) (fun _ _ h => h) fun _ _ h => h)).mono ?_
    generalize sz t = c at HC
    rintro e w4 ⟨rfl, b4⟩
    have HB4 : Hid (Below w.heap.size w w4) := below_step HB3.out b4
    clear b4
    by_cases hs : 60 < c
    · skip
      go_wp2
      go_ret
      exact ⟨ret_int (by rw [HC.out, if_neg hd]; simp [hs]), HB4.out⟩
    · skip
      go_wp2
      go_ret
      exact ⟨ret_int (by rw [HC.out, if_neg hd]; simp [hs]), HB4.out⟩
  · have hz' : (c != 0) = true := by simp [hz]
    go_wp2
    go_ret
    exact ⟨ret_int (by rw [HC.out, if_neg hd]; simp [hz]), HB3.out⟩
namespace Fo
def szD (t : PT) : Int := if 40 < deep t then M40 else sz t
end Fo
set_option maxHeartbeats 4000000 in
theorem siz2_any (t : PT) (F : Nat → Prop) (w : World) (x : PV) (hp : IsP F w x t) : Calls Tryz.prog 21 #[x.v] w fun e w' => e = .returned (.int .i64 (szD t)) ∧ Below w.heap.size w w' := by
  have HP : Hid (IsP F w x t) := hp
  have HC : Hid (szD t = if 40 < deep t then M40 else sz t) := rfl
  clear hp
  obtain ⟨kind, label, a, len, cap, lo', hi'⟩ := x
  unfold PV.v
  obtain ⟨W1, hW1⟩ : ∃ W1, W1 = w.alloc (.cells #[.int .i64 kind, .string label, .slice a len cap, .int .i64 lo', .int .i64 hi'] 25) := ⟨_, rfl⟩
  have HBW1 : Hid (Below w.heap.size w W1) := by rw [hW1]; exact below1 w _
  have HGW1 : Hid (W1.heap[w.heap.size]? = some (.cells #[.int .i64 kind, .string label, .slice a len cap, .int .i64 lo', .int .i64 hi'] 25)) := by show W1.heap[_]? = _; rw [hW1]; exact heap_new1 w _
  go_enter Tryz.func21, Tryz.ntmps21
  go_wp2_with (go_at_call 20; fail)
  rw [← hW1]
  clear hW1
  refine (deep_any t F _ ⟨kind, label, a, len, cap, lo', hi'⟩ (HP.out.kp (Kp.of_below (F := fun _ => False) HBW1.out) (fun _ _ h => h) fun _ _ h => h)).mono ?_
  rintro e w2 ⟨rfl, b2⟩
  have HB2 : Hid (Below w.heap.size w w2) := below_step HBW1.out b2
  have HG2 : Hid (w2.heap[w.heap.size]? = some (.cells #[.int .i64 kind, .string label, .slice a len cap, .int .i64 lo', .int .i64 hi'] 25)) := (b2.block _ (lt_of_heap HGW1.out)).trans HGW1.out
  clear b2 HBW1 HGW1
  have e0 := cell_of_row _ _ 0 _ _ _ HG2.out
  have e1 := cell_of_row _ _ 1 _ _ _ HG2.out
  have e2 := cell_of_row _ _ 2 _ _ _ HG2.out
  have e3 := cell_of_row _ _ 3 _ _ _ HG2.out
  have e4 := cell_of_row _ _ 4 _ _ _ HG2.out
  simp only [List.getElem?_toArray, List.getElem?_cons_zero, List.getElem?_cons_succ] at e0 e1 e2 e3 e4
  generalize hdn : min (deep t) 41 = dn
  by_cases hd : 40 < deep t
  · have hd' : (40 : Int) < (dn : Int) := by omega
    go_wp2
    go_ret
    exact ⟨ret_int (by rw [HC.out, if_pos hd]; rfl), HB2.out⟩
  have hd' : ¬ (40 : Int) < (dn : Int) := by omega
  go_wp2_with (go_at_call 36; fail)
  refine (siz_any t F _ ⟨kind, label, a, len, cap, lo', hi'⟩ (HP.out.kp (Kp.of_below (F := fun _ => False) HB2.out) (fun _ _ h => h) fun _ _ h => h)).mono ?_
  generalize sz t = c at HC
  rintro e w4 ⟨rfl, b4⟩
  have HB4 : Hid (Below w.heap.size w w4) := below_step HB2.out b4
  clear b4
  go_wp2
  go_ret
  exact ⟨ret_int (by rw [HC.out, if_neg hd]), HB4.out⟩
end Go.Proofs.YtbgkfjelgnbfmaaGreatDoor
