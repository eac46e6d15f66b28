/- The parser: single. -/
import Derived.Test.YtbgkfjelgnbfmaaGreatDoorPal
namespace Go.Proofs.YtbgkfjelgnbfmaaGreatDoor
open Go.RowKit Fo
set_option maxRecDepth 100000
set_option linter.unusedSimpArgs false
set_option linter.unusedVariables false

theorem leaf_str (F : Nat → Prop) (w : World) (k : Int) (l : List UInt8) : IsP F w ⟨k, str l, none, 0, 0, 0, 0⟩ (.mk k l [] 0 0) := by
  have h := IsP.leaf F w k 0 0 (str l)
  rw [show (str l).data.toList = l by simp [str]] at h
  exact h
namespace Fo
theorem shutB_ok (p : PT) (r : List UInt8) : shutB (.ok (p, r)) = match wantM 41 r with | .error e => .error e | .ok (_, r') => .ok (p, r') := by
  cases r with
  | nil => rfl
  | cons c r =>
    show (if c = 41 then Except.ok (p, r) else Except.error (r.length + 1)) = match (if c = 41 then Except.ok ((), r) else Except.error (c :: r).length) with | .error e => .error e | .ok (_, r') => .ok (p, r')
    by_cases e : c = 41
    · rw [if_pos e, if_pos e]
    · rw [if_neg e, if_neg e]; rfl
end Fo
theorem take_case {full : List UInt8} {bp : Nat} {w w' : World} {c : UInt8} {s : List UInt8} {e : Ending} (ht : TakP full bp w c.toNat s e w') :
    (∃ r, s = c :: r ∧ e = .returned (.bool true) ∧ PIn full bp w' r ∧ Kp (fun b => b = bp) w w') ∨ ((∀ r, s ≠ c :: r) ∧ e = .returned (.bool false) ∧ Below w.heap.size w w') := by
  cases s with
  | nil => exact Or.inr ⟨fun r h => (by cases h), ht.1, ht.2⟩
  | cons d r =>
    rcases ht with ⟨hc, he, hp, hk⟩ | ⟨hc, he, b⟩
    · exact Or.inl ⟨r, by rw [u8_eq.1 hc], he, hp, hk⟩
    · exact Or.inr ⟨fun r' h => hc (by injection h with h _; rw [h]), he, b⟩
set_option maxHeartbeats 16000000 in
theorem sin_any (C : BailSays) (lo : Nat) (full : List UInt8) (bp : Nat) (alt : List UInt8 → Rs) (s : List UInt8) (hf : full.length ≤ 100000) (hlo : lo ≤ bp)
    (halt : ∀ (w : World) (s' : List UInt8), s'.length < s.length → PIn full bp w s' → EnvP lo w → Calls Tryz.prog 41 #[.pointer (some ⟨bp, 0, none⟩)] w (PEnd full bp w (alt s') (fun w' v t => TOk w.heap.size w' v t)))
    (w : World) (h : PIn full bp w s) (henv : EnvP lo w) :
    Calls Tryz.prog 90 #[.pointer (some ⟨bp, 0, none⟩)] w (PEnd full bp w (single RP alt s) (fun w' v t => TOk w.heap.size w' v t)) := by
  have HF : Hid (full.length ≤ 100000) := hf
  have HLO : Hid (lo ≤ bp) := hlo
  have HBP : Hid (bp < w.heap.size) := lt_of_heap h.heap
  have HALT : Hid (∀ (w : World) (s' : List UInt8), s'.length < s.length → PIn full bp w s' → EnvP lo w → Calls Tryz.prog 41 #[.pointer (some ⟨bp, 0, none⟩)] w (PEnd full bp w (alt s') (fun w' v t => TOk w.heap.size w' v t))) := halt
  obtain ⟨M, hM⟩ : ∃ M, M = single RP alt s := ⟨_, rfl⟩
  rw [← hM]
  have HM : Hid (M = single RP alt s) := hM
  clear hM
  obtain ⟨w1, hw1⟩ : ∃ w1, w1 = w.alloc (.cells #[.int .i64 0, .string ⟨#[]⟩, .slice none 0 0, .int .i64 0, .int .i64 0] 25) := ⟨_, rfl⟩
  have b1 : Below w.heap.size w w1 := by rw [hw1]; exact below1 w _
  have HR1 : Hid (w1.heap[w.heap.size]? = some (.cells #[.int .i64 0, .string ⟨#[]⟩, .slice none 0 0, .int .i64 0, .int .i64 0] 25)) := by show w1.heap[_]? = _; rw [hw1]; exact heap_new1 w _
  have HP1 : Hid (PIn full bp w1 s) := h.below b1
  have HK1 : Hid (Kp (fun b => b = bp) w w1) := Kp.of_below b1
  have HE1 : Hid (EnvP lo w1) := henv.below b1
  clear h henv halt hf hlo b1
  go_enter Tryz.func90, Tryz.ntmps90
  go_wp2_with (go_at_call 78; fail)
  rw [← hw1]
  clear hw1
  refine (tak_any full bp w1 s 94 (by decide) HP1.out HF.out).mono ?_
  intro e w2 ht
  have hcase : (∃ rr, s = (94 : UInt8) :: rr ∧ e = .returned (.bool true) ∧ PIn full bp w2 rr ∧ Kp (fun b => b = bp) w1 w2) ∨ ((∀ rr, s ≠ (94 : UInt8) :: rr) ∧ e = .returned (.bool false) ∧ Below w1.heap.size w1 w2) := take_case ht
  clear ht
  rcases hcase with ⟨r, hs, rfl, hp, hk⟩ | ⟨hs, rfl, b⟩
  · skip
    subst hs
    have HV : Hid (M = named RP 3 r) := by show _ = _; rw [HM.out, single_cons, if_pos rfl]
    clear HM
    have HP2 : Hid (PIn full bp w2 r) := hp
    have HK2 : Hid (Kp (fun b => b = bp) w w2) := HK1.out.seq hk
    have HE2 : Hid (EnvP lo w2) := HE1.out.kp hk (fun b hb => by rw [hb]; exact HLO.out)
    have HR2 : Hid (w2.heap[w.heap.size]? = some (.cells #[.int .i64 0, .string ⟨#[]⟩, .slice none 0 0, .int .i64 0, .int .i64 0] 25)) := hk.heap HR1.out (fun h => by have h : w.heap.size = bp := h; have := HBP.out; omega)
    clear hp hk HP1 HK1 HE1 HR1
    go_wp2_with (go_at_call 98; fail)
    refine (pna_any C full bp w2 r HP2.out HF.out).mono ?_
    intro e w3 hw
    cases hwm : namM r with
    | error er =>
      rw [hwm] at hw
      obtain ⟨he, hk⟩ := hw
      have HVV : Hid (M = .error er) := by show _ = _; rw [HV.out]; unfold named; rw [show RP.nam = namM from rfl, hwm]
      clear hwm
      rcases id he with ⟨h, -⟩ | ⟨v, old, rfl, -⟩
      · cases h
      have HE : Hid (EnIn w.heap.size (fun _ => False) _ _ (.panicked ({ v := v, recovered := false } :: old))) := he.lo HK2.out.size
      have HKE : Hid (Kp (fun b => b = bp) w _) := HK2.out.seq hk
      clear he
      go_wp2
      refine ⟨rfl, ?_⟩
      rw [HVV.out]
      exact ⟨HE.out, HKE.out⟩
    | ok q =>
      obtain ⟨l, r3⟩ := q
      rw [hwm] at hw
      obtain ⟨v, rfl, hv, hp, hk⟩ := hw
      subst hv
      have HVV : Hid (M = .ok (.mk 3 l [] 0 0, r3)) := by show _ = _; rw [HV.out]; unfold named; rw [show RP.nam = namM from rfl, hwm]
      clear HV
      have HV : Hid (M = .ok (.mk 3 l [] 0 0, r3)) := HVV.out
      have HP3 : Hid (PIn full bp w3 r3) := hp
      have HK3 : Hid (Kp (fun b => b = bp) w w3) := HK2.out.seq hk
      have HR3 : Hid (w3.heap[w.heap.size]? = some (.cells #[.int .i64 0, .string ⟨#[]⟩, .slice none 0 0, .int .i64 0, .int .i64 0] 25)) := hk.heap HR2.out (fun h => by have h : w.heap.size = bp := h; have := HBP.out; omega)
      clear hp hk hwm HVV
      obtain ⟨⟨z0, z1, z2, z3, z4⟩, ⟨f0, f1, f2, f3, f4⟩, g0, g1, g2, g3, g4⟩ := box5_facts HR3.out
      have HRX := HR3.out
      go_wp2
      obtain ⟨hs6, hs7⟩ := st5 HRX (.int .i64 3) (.string (str l)) (.slice none 0 0) (.int .i64 0) (.int .i64 0)
      generalize (((((w3.setCell ⟨w.heap.size, 0, none⟩ (.int .i64 3)).setCell ⟨w.heap.size, 1, none⟩ (.string (str l))).setCell ⟨w.heap.size, 2, none⟩ (.slice none 0 0)).setCell ⟨w.heap.size, 3, none⟩ (.int .i64 0)).setCell ⟨w.heap.size, 4, none⟩ (.int .i64 0)) = W10 at hs6 hs7 ⊢
      have r0 := cell_of_row _ _ 0 _ _ _ hs6
      have r1 := cell_of_row _ _ 1 _ _ _ hs6
      have r2 := cell_of_row _ _ 2 _ _ _ hs6
      have r3 := cell_of_row _ _ 3 _ _ _ hs6
      have r4 := cell_of_row _ _ 4 _ _ _ hs6
      simp only [List.getElem?_toArray, List.getElem?_cons_zero, List.getElem?_cons_succ] at r0 r1 r2 r3 r4
      refine bodyPost_ret (v := .agg #[.int .i64 3, .string (str l), .slice none 0 0, .int .i64 0, .int .i64 0]) (by simp [results, Tryz.results90, go_sem, r0, r1, r2, r3, r4]) rfl ?_
      rw [HV.out]
      refine ⟨_, rfl, ⟨⟨3, (str l), none, 0, 0, 0, 0⟩, fun _ => False, rfl, leaf_str _ _ 3 l, fun b hb => hb.elim⟩, HP3.out.kp hs7 (fun h => by have h : bp = w.heap.size := h; have := HBP.out; omega), HK3.out.trans hs7 fun b hb h => by have h : b = w.heap.size := h; omega⟩
  · skip
    have HN94 : Hid (∀ r, s ≠ 94 :: r) := hs
    clear hs
    have HP2 : Hid (PIn full bp w2 s) := HP1.out.below b
    have HK2 : Hid (Kp (fun b => b = bp) w w2) := HK1.out.bel b
    have HE2 : Hid (EnvP lo w2) := HE1.out.below b
    have HR2 : Hid (w2.heap[w.heap.size]? = some (.cells #[.int .i64 0, .string ⟨#[]⟩, .slice none 0 0, .int .i64 0, .int .i64 0] 25)) := (b.block _ (lt_of_heap HR1.out)).trans HR1.out
    clear b HP1 HK1 HE1 HR1
    go_wp2_with (go_at_call 78; fail)
    refine (tak_any full bp w2 s 40 (by decide) HP2.out HF.out).mono ?_
    intro e w3 ht
    have hcase : (∃ rr, s = (40 : UInt8) :: rr ∧ e = .returned (.bool true) ∧ PIn full bp w3 rr ∧ Kp (fun b => b = bp) w2 w3) ∨ ((∀ rr, s ≠ (40 : UInt8) :: rr) ∧ e = .returned (.bool false) ∧ Below w2.heap.size w2 w3) := take_case ht
    clear ht
    rcases hcase with ⟨r, hs, rfl, hp, hk⟩ | ⟨hs, rfl, b⟩
    · skip
      have HMM : Hid (M = par alt r) := by show _ = _; rw [HM.out, hs, single_cons, if_neg (by decide), if_pos rfl]
      have HSR : Hid (s = 40 :: r) := hs
      clear HM hs
      have HP3 : Hid (PIn full bp w3 r) := hp
      have HK3 : Hid (Kp (fun b => b = bp) w w3) := HK2.out.seq hk
      have HE3 : Hid (EnvP lo w3) := HE2.out.kp hk (fun b hb => by rw [hb]; exact HLO.out)
      have HR3 : Hid (w3.heap[w.heap.size]? = some (.cells #[.int .i64 0, .string ⟨#[]⟩, .slice none 0 0, .int .i64 0, .int .i64 0] 25)) := hk.heap HR2.out (fun h => by have h : w.heap.size = bp := h; have := HBP.out; omega)
      clear hp hk HP2 HK2 HE2 HR2
      go_wp2_with (go_at_call 78; fail)
      refine (tak_any full bp w3 r 41 (by decide) HP3.out HF.out).mono ?_
      intro e w4 ht
      have hcase : (∃ rr, r = (41 : UInt8) :: rr ∧ e = .returned (.bool true) ∧ PIn full bp w4 rr ∧ Kp (fun b => b = bp) w3 w4) ∨ ((∀ rr, r ≠ (41 : UInt8) :: rr) ∧ e = .returned (.bool false) ∧ Below w3.heap.size w3 w4) := take_case ht
      clear ht
      rcases hcase with ⟨r5, hs, rfl, hp, hk⟩ | ⟨hs, rfl, b⟩
      · skip
        have HV : Hid (M = .ok (.mk 1 [] [] 0 0, r5)) := by
          show _ = _
          rw [HMM.out, hs]
          rfl
        clear HMM hs
        have HP4 : Hid (PIn full bp w4 r5) := hp
        have HK4 : Hid (Kp (fun b => b = bp) w w4) := HK3.out.seq hk
        have HE4 : Hid (EnvP lo w4) := HE3.out.kp hk (fun b hb => by rw [hb]; exact HLO.out)
        have HR4 : Hid (w4.heap[w.heap.size]? = some (.cells #[.int .i64 0, .string ⟨#[]⟩, .slice none 0 0, .int .i64 0, .int .i64 0] 25)) := hk.heap HR3.out (fun h => by have h : w.heap.size = bp := h; have := HBP.out; omega)
        clear hp hk HP3 HK3 HE3 HR3
        obtain ⟨⟨z0, z1, z2, z3, z4⟩, ⟨f0, f1, f2, f3, f4⟩, g0, g1, g2, g3, g4⟩ := box5_facts HR4.out
        have HRX := HR4.out
        go_wp2
        obtain ⟨hs6, hs7⟩ := st5 HRX (.int .i64 1) (.string ⟨#[]⟩) (.slice none 0 0) (.int .i64 0) (.int .i64 0)
        generalize (((((w4.setCell ⟨w.heap.size, 0, none⟩ (.int .i64 1)).setCell ⟨w.heap.size, 1, none⟩ (.string ⟨#[]⟩)).setCell ⟨w.heap.size, 2, none⟩ (.slice none 0 0)).setCell ⟨w.heap.size, 3, none⟩ (.int .i64 0)).setCell ⟨w.heap.size, 4, none⟩ (.int .i64 0)) = W10 at hs6 hs7 ⊢
        have r0 := cell_of_row _ _ 0 _ _ _ hs6
        have r1 := cell_of_row _ _ 1 _ _ _ hs6
        have r2 := cell_of_row _ _ 2 _ _ _ hs6
        have r3 := cell_of_row _ _ 3 _ _ _ hs6
        have r4 := cell_of_row _ _ 4 _ _ _ hs6
        simp only [List.getElem?_toArray, List.getElem?_cons_zero, List.getElem?_cons_succ] at r0 r1 r2 r3 r4
        refine bodyPost_ret (v := .agg #[.int .i64 1, .string ⟨#[]⟩, .slice none 0 0, .int .i64 0, .int .i64 0]) (by simp [results, Tryz.results90, go_sem, r0, r1, r2, r3, r4]) rfl ?_
        rw [HV.out]
        refine ⟨_, rfl, ⟨⟨1, ⟨#[]⟩, none, 0, 0, 0, 0⟩, fun _ => False, rfl, leaf_str _ _ 1 [], fun b hb => hb.elim⟩, HP4.out.kp hs7 (fun h => by have h : bp = w.heap.size := h; have := HBP.out; omega), HK4.out.trans hs7 fun b hb h => by have h : b = w.heap.size := h; omega⟩
      · skip
        have HPAR : Hid (M = shutB (alt r)) := by
          show _ = _
          rw [HMM.out]
          cases r with
          | nil => rfl
          | cons d r' =>
            show (if d = 41 then _ else _) = _
            rw [if_neg (fun e => hs r' (by rw [e]))]
        clear HMM hs
        have HP4 : Hid (PIn full bp w4 r) := HP3.out.below b
        have HK4 : Hid (Kp (fun b => b = bp) w w4) := HK3.out.bel b
        have HE4 : Hid (EnvP lo w4) := HE3.out.below b
        have HR4 : Hid (w4.heap[w.heap.size]? = some (.cells #[.int .i64 0, .string ⟨#[]⟩, .slice none 0 0, .int .i64 0, .int .i64 0] 25)) := (b.block _ (lt_of_heap HR3.out)).trans HR3.out
        clear b HP3 HK3 HE3 HR3
        go_wp2_with (go_at_call 41; fail)
        refine (HALT.out w4 r (by rw [HSR.out]; simp) HP4.out HE4.out).mono ?_
        intro e w5 hw
        cases hwm : alt r with
        | error er =>
          rw [hwm] at hw
          obtain ⟨he, hk⟩ := hw
          have HVV : Hid (M = .error er) := by show _ = _; rw [HPAR.out, hwm]; rfl
          clear hwm
          rcases id he with ⟨h, -⟩ | ⟨v, old, rfl, -⟩
          · cases h
          have HE : Hid (EnIn w.heap.size (fun _ => False) _ _ (.panicked ({ v := v, recovered := false } :: old))) := he.lo HK4.out.size
          have HKE : Hid (Kp (fun b => b = bp) w _) := HK4.out.seq hk
          clear he
          go_wp2
          refine ⟨rfl, ?_⟩
          rw [HVV.out]
          exact ⟨HE.out, HKE.out⟩
        | ok q =>
          obtain ⟨t, r5⟩ := q
          rw [hwm] at hw
          obtain ⟨v, rfl, ⟨y, F, hv, hi, hff⟩, hp, hk⟩ := hw
          subst hv
          obtain ⟨y0, y1, y2, y3, y4, y5, y6⟩ := y
          unfold PV.v
          have HM5 : Hid (M = match wantM 41 r5 with | .error e => .error e | .ok (_, r') => .ok (t, r')) := by show _ = _; rw [HPAR.out, hwm, shutB_ok]
          have HP5 : Hid (PIn full bp w5 r5) := hp
          have HK5 : Hid (Kp (fun b => b = bp) w w5) := HK4.out.seq hk
          have HR5 : Hid (w5.heap[w.heap.size]? = some (.cells #[.int .i64 0, .string ⟨#[]⟩, .slice none 0 0, .int .i64 0, .int .i64 0] 25)) := hk.heap HR4.out (fun h => by have h : w.heap.size = bp := h; have := HBP.out; omega)
          have HI5 : Hid (IsP F w5 ⟨y0, y1, y2, y3, y4, y5, y6⟩ t) := hi
          have HFF : Hid (∀ b, F b → w.heap.size < b) := fun b hb => by have := hff b hb; have := lt_of_heap HR4.out; omega
          clear hp hk hi hff hwm HPAR HP4 HK4 HE4 HR4
          obtain ⟨W6, hW6⟩ : ∃ W6, W6 = w5.alloc (.cells #[.int .i64 y0, .string y1, .slice y2 y3 y4, .int .i64 y5, .int .i64 y6] 25) := ⟨_, rfl⟩
          have b6 : Below w5.heap.size w5 W6 := by rw [hW6]; exact below1 w5 _
          obtain ⟨bv, hbv⟩ : ∃ bv, bv = w5.heap.size := ⟨_, rfl⟩
          have HBV : Hid (w.heap.size < bv) := by show _ < _; rw [hbv]; exact lt_of_heap HR5.out
          have HG6 : Hid (W6.heap[bv]? = some (.cells #[.int .i64 y0, .string y1, .slice y2 y3 y4, .int .i64 y5, .int .i64 y6] 25)) := by show W6.heap[_]? = _; rw [hW6, hbv]; exact heap_new1 w5 _
          have HP6 : Hid (PIn full bp W6 r5) := HP5.out.below b6
          have HK6 : Hid (Kp (fun b => b = bp) w W6) := HK5.out.bel b6
          have HR6 : Hid (W6.heap[w.heap.size]? = some (.cells #[.int .i64 0, .string ⟨#[]⟩, .slice none 0 0, .int .i64 0, .int .i64 0] 25)) := (b6.block _ (lt_of_heap HR5.out)).trans HR5.out
          have HI6 : Hid (IsP F W6 ⟨y0, y1, y2, y3, y4, y5, y6⟩ t) := HI5.out.bel b6
          go_wp2_with (go_at_call 99; fail)
          rw [← hW6, ← hbv]
          clear hW6 hbv b6 HP5 HK5 HR5 HI5
          refine (wan_any C full bp W6 r5 41 HP6.out HF.out).mono ?_
          intro e w7 hw
          cases hwm : wantM 41 r5 with
          | error er =>
            rw [hwm] at hw
            obtain ⟨he, hk⟩ := hw
            have HVV : Hid (M = .error er) := by show _ = _; rw [HM5.out, hwm]
            clear hwm
            rcases id he with ⟨h, -⟩ | ⟨v, old, rfl, -⟩
            · cases h
            have HE : Hid (EnIn w.heap.size (fun _ => False) _ _ (.panicked ({ v := v, recovered := false } :: old))) := he.lo HK6.out.size
            have HKE : Hid (Kp (fun b => b = bp) w _) := HK6.out.seq hk
            clear he
            go_wp2
            refine ⟨rfl, ?_⟩
            rw [HVV.out]
            exact ⟨HE.out, HKE.out⟩
          | ok q =>
            obtain ⟨u, r7⟩ := q
            rw [hwm] at hw
            obtain ⟨v, rfl, hv, hp, hk⟩ := hw
            subst hv
            have HV : Hid (M = .ok (t, r7)) := by show _ = _; rw [HM5.out, hwm]
            have HP7 : Hid (PIn full bp w7 r7) := hp
            have HK7 : Hid (Kp (fun b => b = bp) w w7) := HK6.out.seq hk
            have HR7 : Hid (w7.heap[w.heap.size]? = some (.cells #[.int .i64 0, .string ⟨#[]⟩, .slice none 0 0, .int .i64 0, .int .i64 0] 25)) := hk.heap HR6.out (fun h => by have h : w.heap.size = bp := h; have := HBP.out; omega)
            have HG7 : Hid (w7.heap[bv]? = some (.cells #[.int .i64 y0, .string y1, .slice y2 y3 y4, .int .i64 y5, .int .i64 y6] 25)) := hk.heap HG6.out (fun h => by have h : bv = bp := h; have := HBP.out; have := HBV.out; omega)
            have HI7 : Hid (IsP F w7 ⟨y0, y1, y2, y3, y4, y5, y6⟩ t) := HI6.out.kp hk (fun b hb h => by have h : b = bp := h; have := HFF.out b hb; have := HBP.out; omega) fun _ _ h => h
            clear hp hk hwm HM5 HP6 HK6 HR6 HG6 HI6
            have c0 := cell_of_row _ _ 0 _ _ _ HG7.out
            have c1 := cell_of_row _ _ 1 _ _ _ HG7.out
            have c2 := cell_of_row _ _ 2 _ _ _ HG7.out
            have c3 := cell_of_row _ _ 3 _ _ _ HG7.out
            have c4 := cell_of_row _ _ 4 _ _ _ HG7.out
            simp only [List.getElem?_toArray, List.getElem?_cons_zero, List.getElem?_cons_succ] at c0 c1 c2 c3 c4
            obtain ⟨⟨z0, z1, z2, z3, z4⟩, ⟨f0, f1, f2, f3, f4⟩, g0, g1, g2, g3, g4⟩ := box5_facts HR7.out
            have HRX := HR7.out
            go_wp2
            obtain ⟨hs6, hs7⟩ := st5 HRX (.int .i64 y0) (.string y1) (.slice y2 y3 y4) (.int .i64 y5) (.int .i64 y6)
            generalize (((((w7.setCell ⟨w.heap.size, 0, none⟩ (.int .i64 y0)).setCell ⟨w.heap.size, 1, none⟩ (.string y1)).setCell ⟨w.heap.size, 2, none⟩ (.slice y2 y3 y4)).setCell ⟨w.heap.size, 3, none⟩ (.int .i64 y5)).setCell ⟨w.heap.size, 4, none⟩ (.int .i64 y6)) = W10 at hs6 hs7 ⊢
            have r0 := cell_of_row _ _ 0 _ _ _ hs6
            have r1 := cell_of_row _ _ 1 _ _ _ hs6
            have r2 := cell_of_row _ _ 2 _ _ _ hs6
            have r3 := cell_of_row _ _ 3 _ _ _ hs6
            have r4 := cell_of_row _ _ 4 _ _ _ hs6
            simp only [List.getElem?_toArray, List.getElem?_cons_zero, List.getElem?_cons_succ] at r0 r1 r2 r3 r4
            refine bodyPost_ret (v := .agg #[.int .i64 y0, .string y1, .slice y2 y3 y4, .int .i64 y5, .int .i64 y6]) (by simp [results, Tryz.results90, go_sem, r0, r1, r2, r3, r4]) rfl ?_
            rw [HV.out]
            refine ⟨_, rfl, ⟨⟨y0, y1, y2, y3, y4, y5, y6⟩, F, rfl, HI7.out.kp hs7 (fun b hb h => by have h : b = w.heap.size := h; have := HFF.out b hb; omega) fun _ _ h => h, fun b hb => by have := HFF.out b hb; omega⟩, HP7.out.kp hs7 (fun h => by have h : bp = w.heap.size := h; have := HBP.out; omega), HK7.out.trans hs7 fun b hb h => by have h : b = w.heap.size := h; omega⟩
    · skip
      have HV : Hid (M = named RP 2 s) := by
        show _ = _
        rw [HM.out]
        cases s with
        | nil => rfl
        | cons c r =>
          rw [single_cons, if_neg (fun e => HN94.out r (by rw [e])), if_neg (fun e => hs r (by rw [e]))]
      clear HM hs
      have HP3 : Hid (PIn full bp w3 s) := HP2.out.below b
      have HK3 : Hid (Kp (fun b => b = bp) w w3) := HK2.out.bel b
      have HE3 : Hid (EnvP lo w3) := HE2.out.below b
      have HR3 : Hid (w3.heap[w.heap.size]? = some (.cells #[.int .i64 0, .string ⟨#[]⟩, .slice none 0 0, .int .i64 0, .int .i64 0] 25)) := (b.block _ (lt_of_heap HR2.out)).trans HR2.out
      clear b HP2 HK2 HE2 HR2
      go_wp2_with (go_at_call 98; fail)
      refine (pna_any C full bp w3 s HP3.out HF.out).mono ?_
      intro e w4 hw
      cases hwm : namM s with
      | error er =>
        rw [hwm] at hw
        obtain ⟨he, hk⟩ := hw
        have HVV : Hid (M = .error er) := by show _ = _; rw [HV.out]; unfold named; rw [show RP.nam = namM from rfl, hwm]
        clear hwm
        rcases id he with ⟨h, -⟩ | ⟨v, old, rfl, -⟩
        · cases h
        have HE : Hid (EnIn w.heap.size (fun _ => False) _ _ (.panicked ({ v := v, recovered := false } :: old))) := he.lo HK3.out.size
        have HKE : Hid (Kp (fun b => b = bp) w _) := HK3.out.seq hk
        clear he
        go_wp2
        refine ⟨rfl, ?_⟩
        rw [HVV.out]
        exact ⟨HE.out, HKE.out⟩
      | ok q =>
        obtain ⟨l, r4⟩ := q
        rw [hwm] at hw
        obtain ⟨v, rfl, hv, hp, hk⟩ := hw
        subst hv
        have HVV : Hid (M = .ok (.mk 2 l [] 0 0, r4)) := by show _ = _; rw [HV.out]; unfold named; rw [show RP.nam = namM from rfl, hwm]
        clear HV
        have HV : Hid (M = .ok (.mk 2 l [] 0 0, r4)) := HVV.out
        have HP4 : Hid (PIn full bp w4 r4) := hp
        have HK4 : Hid (Kp (fun b => b = bp) w w4) := HK3.out.seq hk
        have HR4 : Hid (w4.heap[w.heap.size]? = some (.cells #[.int .i64 0, .string ⟨#[]⟩, .slice none 0 0, .int .i64 0, .int .i64 0] 25)) := hk.heap HR3.out (fun h => by have h : w.heap.size = bp := h; have := HBP.out; omega)
        clear hp hk hwm HVV
        obtain ⟨⟨z0, z1, z2, z3, z4⟩, ⟨f0, f1, f2, f3, f4⟩, g0, g1, g2, g3, g4⟩ := box5_facts HR4.out
        have HRX := HR4.out
        go_wp2
        obtain ⟨hs6, hs7⟩ := st5 HRX (.int .i64 2) (.string (str l)) (.slice none 0 0) (.int .i64 0) (.int .i64 0)
        generalize (((((w4.setCell ⟨w.heap.size, 0, none⟩ (.int .i64 2)).setCell ⟨w.heap.size, 1, none⟩ (.string (str l))).setCell ⟨w.heap.size, 2, none⟩ (.slice none 0 0)).setCell ⟨w.heap.size, 3, none⟩ (.int .i64 0)).setCell ⟨w.heap.size, 4, none⟩ (.int .i64 0)) = W10 at hs6 hs7 ⊢
        have r0 := cell_of_row _ _ 0 _ _ _ hs6
        have r1 := cell_of_row _ _ 1 _ _ _ hs6
        have r2 := cell_of_row _ _ 2 _ _ _ hs6
        have r3 := cell_of_row _ _ 3 _ _ _ hs6
        have r4 := cell_of_row _ _ 4 _ _ _ hs6
        simp only [List.getElem?_toArray, List.getElem?_cons_zero, List.getElem?_cons_succ] at r0 r1 r2 r3 r4
        refine bodyPost_ret (v := .agg #[.int .i64 2, .string (str l), .slice none 0 0, .int .i64 0, .int .i64 0]) (by simp [results, Tryz.results90, go_sem, r0, r1, r2, r3, r4]) rfl ?_
        rw [HV.out]
        refine ⟨_, rfl, ⟨⟨2, (str l), none, 0, 0, 0, 0⟩, fun _ => False, rfl, leaf_str _ _ 2 l, fun b hb => hb.elim⟩, HP4.out.kp hs7 (fun h => by have h : bp = w.heap.size := h; have := HBP.out; omega), HK4.out.trans hs7 fun b hb h => by have h : b = w.heap.size := h; omega⟩
end Go.Proofs.YtbgkfjelgnbfmaaGreatDoor
