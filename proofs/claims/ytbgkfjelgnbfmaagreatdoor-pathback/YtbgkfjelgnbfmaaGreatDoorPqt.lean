/- The parser: hex, quoted, name. -/
import Derived.Test.YtbgkfjelgnbfmaaGreatDoorPbo
namespace Go.Proofs.YtbgkfjelgnbfmaaGreatDoor
open Go.RowKit Fo
set_option maxRecDepth 100000
set_option linter.unusedSimpArgs false
set_option linter.unusedVariables false

namespace Fo
theorem hex_idx (c : UInt8) : Lib.indexByte hexDs.data.toList ((c.toNat : Int).toNat.toUInt8) = if hexV c.toNat < 16 then ((hexV c.toNat : Nat) : Int) else -1 := by
  have h : ∀ m : Fin 256, Lib.indexByte hexDs.data.toList ((((m.val : Nat) : Int).toNat).toUInt8) = if hexV m.val < 16 then ((hexV m.val : Nat) : Int) else -1 := by decide +kernel
  exact h ⟨c.toNat, UInt8.toNat_lt c⟩
theorem hexM_len {s r : List UInt8} {k : Nat} (h : hexM s = .ok (k, r)) : r.length < s.length := by
  cases s with
  | nil => cases h
  | cons c t =>
    have h' : (if hexV c.toNat < 16 then Except.ok (hexV c.toNat, t) else Except.error t.length) = Except.ok (k, r) := h
    by_cases e : hexV c.toNat < 16
    · rw [if_pos e] at h'; injection h' with h'; injection h' with h1 h2; subst h2; simp
    · rw [if_neg e] at h'; cases h'
theorem or_hex (a b : Nat) (ha : a < 16) (hb : b < 16) : bits BinOp.or IntKind.u8 ((a : Int) * 16 % 256) (b : Int) = ((UInt8.ofNat (a * 16 + b)).toNat : Int) := by
  have h : ∀ (i j : Fin 16), bits BinOp.or IntKind.u8 ((i.val : Int) * 16 % 256) (j.val : Int) = ((UInt8.ofNat (i.val * 16 + j.val)).toNat : Int) := by decide +kernel
  exact h ⟨a, ha⟩ ⟨b, hb⟩
end Fo
set_option maxHeartbeats 4000000 in
theorem hex_any (C : BailSays) (full : List UInt8) (bp : Nat) (w : World) (s : List UInt8) (h : PIn full bp w s) (hf : full.length ≤ 100000) :
    Calls Tryz.prog 116 #[.pointer (some ⟨bp, 0, none⟩)] w (PEnd full bp w (hexM s) (fun _ v k => v = .int .u8 k ∧ k < 16)) := by
  have HN : Hid (Calls _ _ _ _ _) := nxt_any C full bp w s h hf
  clear h
  go_enter Tryz.func116, Tryz.ntmps116
  go_wp2_with (go_at_call 115; fail)
  refine HN.out.mono ?_
  intro e w1 hw
  clear HN
  cases s with
  | nil =>
    obtain ⟨he, hk⟩ := hw
    rcases id he with ⟨h, -⟩ | ⟨v, old, rfl, -⟩
    · cases h
    have HE : Hid (EnIn w.heap.size (fun _ => False) _ _ (.panicked ({ v := v, recovered := false } :: old))) := he
    have HKE : Hid (Kp (fun b => b = bp) w _) := hk
    clear he
    go_wp2
    refine ⟨rfl, ?_⟩
    skip
    exact ⟨HE.out, HKE.out⟩
  | cons c r =>
    obtain ⟨v, rfl, hv, hp, hk⟩ := hw
    subst hv
    have HP1 : Hid (PIn full bp w1 r) := hp
    have HK1 : Hid (Kp (fun b => b = bp) w w1) := hk
    clear hp hk
    go_wp2_with (go_at_call 121; fail)
    refine (Tryz.strings_IndexByte hexDs c.toNat w1).mono ?_
    rw [hex_idx c]
    rintro e w2 ⟨rfl, rfl⟩
    by_cases hx : hexV c.toNat < 16
    · rw [if_pos hx]
      have HV : Hid (hexM (c :: r) = .ok (hexV c.toNat, r)) := by show (if hexV c.toNat < 16 then Except.ok (hexV c.toNat, r) else Except.error r.length) = _; rw [if_pos hx]
      generalize hexV c.toNat = k at hx HV
      have g1 : ¬ (k : Int) < 0 := by omega
      go_wp2
      go_ret
      rw [HV.out]
      exact ⟨_, rfl, ⟨by first | rfl | (simp; done) | (congr 1; omega), hx⟩, HP1.out, HK1.out⟩
    · rw [if_neg hx]
      have HV : Hid (hexM (c :: r) = .error r.length) := by show (if hexV c.toNat < 16 then Except.ok (hexV c.toNat, r) else Except.error r.length) = _; rw [if_neg hx]
      go_wp2_with (go_at_call 42; fail)
      refine (fai_any C full bp w2 _ HP1.out).mono ?_
      rintro e w3 ⟨he, hb⟩
      rcases id he with ⟨h, -⟩ | ⟨v, old, rfl, -⟩
      · cases h
      have HE : Hid (EnIn w.heap.size (fun _ => False) _ _ (.panicked ({ v := v, recovered := false } :: old))) := he.lo HK1.out.size
      have HKE : Hid (Kp (fun b => b = bp) w _) := HK1.out.bel hb
      clear he
      go_wp2
      refine ⟨rfl, ?_⟩
      rw [HV.out]
      exact ⟨HE.out, HKE.out⟩
set_option maxHeartbeats 8000000 in
theorem quo_any (C : BailSays) (full : List UInt8) (bp : Nat) (w : World) (s : List UInt8) (h : PIn full bp w s) (hf : full.length ≤ 100000) :
    Calls Tryz.prog 107 #[.pointer (some ⟨bp, 0, none⟩)] w (PEnd full bp w (qtM (s.length + 1) [] s) (fun _ v l => v = .string (str l))) := by
  have HP0 : Hid (PIn full bp w s) := h
  have HF : Hid (full.length ≤ 100000) := hf
  have HSL : Hid (s.length ≤ full.length) := h.suf.1
  have HBP : Hid (bp < w.heap.size) := lt_of_heap h.heap
  have HM : Hid (qtM (s.length + 1) [] s = qtM (s.length + 1) [] s) := rfl
  obtain ⟨M, hM⟩ : ∃ M, M = qtM (s.length + 1) [] s := ⟨_, rfl⟩
  rw [← hM]
  have HMM : Hid (M = qtM (s.length + 1) [] s) := hM
  clear h hf HM hM
  go_enter Tryz.func107, Tryz.ntmps107
  go_wp2
  go_loopw [3] (fun v3 wr => ∃ (n : Nat) (acc u : List UInt8) (a : Option Addr) (c : Nat), v3 = .slice a acc.length c ∧ Hid (M = qtM n acc u) ∧ Hid (u.length < n ∧ acc.length + u.length ≤ full.length) ∧ Hid (PIn full bp wr u) ∧ Hid (Kp (fun b => b = bp) w wr) ∧ Hid (Ow 5 w.heap.size wr (.slice a acc.length c) acc.length (bvs acc))) (fun _ wr => full.length - (boxInt wr (.pointer (some ⟨bp, 1, none⟩))).toNat)
  case atStart => exact ⟨s.length + 1, [], s, none, 0, rfl, HMM.out, ⟨Nat.lt_succ_self _, by have := HSL.out; simp; omega⟩, HP0.out, Kp.refl _ _, Ow.nil _ _ _ _⟩
  case round =>
    obtain ⟨n, acc, u, a, c, rfl, HQ, HN, HPu, HK, HO⟩ := hrel
    rename World => wr
    obtain ⟨n', hn'⟩ : ∃ n', n = n' + 1 := ⟨n - 1, by have := HN.out.1; omega⟩
    subst hn'
    have HPOS : Hid (boxInt wr (.pointer (some ⟨bp, 1, none⟩)) = ((full.length - u.length : Nat) : Int)) := HPu.out.pos
    have HSU : Hid (u.length ≤ full.length) := HPu.out.suf.1
    go_wp2_with (go_at_call 78; fail)
    refine (tak_any full bp wr u 62 (by decide) HPu.out HF.out).mono ?_
    intro e w1 ht
    cases u with
    | nil =>
      obtain ⟨rfl, b1⟩ := ht
      have HP1 : Hid (PIn full bp w1 []) := HPu.out.below b1
      have HK1 : Hid (Kp (fun b => b = bp) w w1) := HK.out.bel b1
      have HV : Hid (M = .error 0) := HQ.out
      clear b1
      go_wp2_with (go_at_call 115; fail)
      refine (nxt_any C full bp w1 [] HP1.out HF.out).mono ?_
      rintro e w2 ⟨he, hk⟩
      rcases id he with ⟨h, -⟩ | ⟨v, old, rfl, -⟩
      · cases h
      have HE : Hid (EnIn w.heap.size (fun _ => False) _ _ (.panicked ({ v := v, recovered := false } :: old))) := he.lo HK1.out.size
      have HKE : Hid (Kp (fun b => b = bp) w _) := HK1.out.seq hk
      clear he
      go_wp2
      refine ⟨rfl, ?_⟩
      rw [HV.out]
      exact ⟨HE.out, HKE.out⟩
    | cons d r =>
      rcases ht with ⟨hc, rfl, hp, hk⟩ | ⟨hc, rfl, b1⟩
      · have hd : d = 62 := u8_eq.1 hc
        have HP1 : Hid (PIn full bp w1 r) := hp
        have HK1 : Hid (Kp (fun b => b = bp) w w1) := HK.out.seq hk
        have HV : Hid (M = .ok (acc, r)) := by
          show _ = _
          rw [HQ.out]
          show (if d = 62 then _ else _) = _
          rw [if_pos hd]
        have HO1 : Hid (Ow 5 w.heap.size w1 (.slice a acc.length c) acc.length (bvs acc)) := HO.out.kp hk fun g hg hb => by have := HO.out.row g hg; have := HBP.out; omega
        have hcv := conv_ow rfl HO1.out
        clear hp hk hc hd
        go_wp2
        go_ret
        rw [HV.out]
        exact ⟨_, rfl, rfl, HP1.out, HK1.out⟩
      · have hd : d ≠ 62 := fun e => hc (u8_eq.2 e)
        have HP1 : Hid (PIn full bp w1 (d :: r)) := HPu.out.below b1
        have HK1 : Hid (Kp (fun b => b = bp) w w1) := HK.out.bel b1
        have HO1 : Hid (Ow 5 w.heap.size w1 (.slice a acc.length c) acc.length (bvs acc)) := HO.out.below b1
        have HV : Hid (M = if d = 92 then (match hexM r with | .error e => .error e | .ok (a, r1) => match hexM r1 with | .error e => .error e | .ok (b, r2) => qtM n' (acc ++ [UInt8.ofNat (a * 16 + b)]) r2) else qtM n' (acc ++ [d]) r) := by
          show _ = _
          rw [HQ.out]
          show (if d = 62 then _ else _) = _
          rw [if_neg hd]
          rfl
        clear b1 hc hd HO
        go_wp2_with (go_at_call 115; fail)
        refine (nxt_any C full bp w1 (d :: r) HP1.out HF.out).mono ?_
        rintro e w2 ⟨v, rfl, hv, hp, hk⟩
        subst hv
        have HP2 : Hid (PIn full bp w2 r) := hp
        have HK2 : Hid (Kp (fun b => b = bp) w w2) := HK1.out.seq hk
        have HO2 : Hid (Ow 5 w.heap.size w2 (.slice a acc.length c) acc.length (bvs acc)) := HO1.out.kp hk fun g hg hb => by have := HO1.out.row g hg; have := HBP.out; omega
        have hd256 : d.toNat < 256 := UInt8.toNat_lt d
        have HAL : Hid (acc.length ≤ 100000) := by have h1 := HN.out.2; have h2 := HF.out; show _ ≤ _; omega
        clear hp hk HO1 HK1 HP1
        by_cases h92 : d = 92
        · subst h92
          rw [show UInt8.toNat 92 = 92 from rfl]
          have HL2 : Hid (r.length ≤ r.length) := Nat.le_refl _
          have hv0 := HV.out
          rw [if_pos rfl] at hv0
          clear HV
          have HV : Hid (M = _) := hv0
          clear hv0
          go_wp2_with (go_at_call 116; fail)
          refine (hex_any C full bp w2 r HP2.out HF.out).mono ?_
          intro e w3 hw
          cases hwm : hexM r with
          | error er =>
            rw [hwm] at hw
            obtain ⟨he, hk⟩ := hw
            have HVV : Hid (M = .error er) := by show _ = _; rw [HV.out]; simp only [hwm]
            clear hwm
            rcases id he with ⟨h, -⟩ | ⟨v, old, rfl, -⟩
            · cases h
            have HE : Hid (EnIn w.heap.size (fun _ => False) _ _ (.panicked ({ v := v, recovered := false } :: old))) := he.lo HK2.out.size
            have HKE : Hid (Kp (fun b => b = bp) w _) := HK2.out.seq hk
            clear he
            go_wp2
            refine ⟨rfl, ?_⟩
            rw [HVV.out]
            exact ⟨HE.out, HKE.out⟩
          | ok q =>
            obtain ⟨k3, r3⟩ := q
            rw [hwm] at hw
            obtain ⟨v, rfl, ⟨hv, hk16⟩, hp, hk⟩ := hw
            subst hv
            have hlr : r3.length < r.length := hexM_len hwm
            have HP3 : Hid (PIn full bp w3 r3) := hp
            have HK3 : Hid (Kp (fun b => b = bp) w w3) := HK2.out.seq hk
            have HO3 : Hid (Ow 5 w.heap.size w3 (.slice a acc.length c) acc.length (bvs acc)) := HO2.out.kp hk fun g hg hb => by have := HO2.out.row g hg; have := HBP.out; omega
            have HL3 : Hid (r3.length ≤ r.length) := by have := HL2.out; show _ ≤ _; omega
            have H163 : Hid (k3 < 16) := hk16
            have hv := HV.out
            simp only [hwm] at hv
            clear HV
            have HV : Hid (M = _) := hv
            clear hp hk hwm hv hlr hk16
            go_wp2_with (go_at_call 116; fail)
            refine (hex_any C full bp w3 r3 HP3.out HF.out).mono ?_
            intro e w4 hw
            cases hwm : hexM r3 with
            | error er =>
              rw [hwm] at hw
              obtain ⟨he, hk⟩ := hw
              have HVV : Hid (M = .error er) := by show _ = _; rw [HV.out]; simp only [hwm]
              clear hwm
              rcases id he with ⟨h, -⟩ | ⟨v, old, rfl, -⟩
              · cases h
              have HE : Hid (EnIn w.heap.size (fun _ => False) _ _ (.panicked ({ v := v, recovered := false } :: old))) := he.lo HK3.out.size
              have HKE : Hid (Kp (fun b => b = bp) w _) := HK3.out.seq hk
              clear he
              go_wp2
              refine ⟨rfl, ?_⟩
              rw [HVV.out]
              exact ⟨HE.out, HKE.out⟩
            | ok q =>
              obtain ⟨k4, r4⟩ := q
              rw [hwm] at hw
              obtain ⟨v, rfl, ⟨hv, hk16⟩, hp, hk⟩ := hw
              subst hv
              have hlr : r4.length < r3.length := hexM_len hwm
              have HP4 : Hid (PIn full bp w4 r4) := hp
              have HK4 : Hid (Kp (fun b => b = bp) w w4) := HK3.out.seq hk
              have HO4 : Hid (Ow 5 w.heap.size w4 (.slice a acc.length c) acc.length (bvs acc)) := HO3.out.kp hk fun g hg hb => by have := HO3.out.row g hg; have := HBP.out; omega
              have HL4 : Hid (r4.length ≤ r.length) := by have := HL3.out; show _ ≤ _; omega
              have H164 : Hid (k4 < 16) := hk16
              have hv := HV.out
              simp only [hwm] at hv
              clear HV
              have HV : Hid (M = _) := hv
              clear hp hk hwm hv hlr hk16
              have h3 := H163.out
              have h4 := H164.out
              have hor := or_hex k3 k4 h3 h4
              obtain ⟨z, hz⟩ : ∃ z, z = UInt8.ofNat (k3 * 16 + k4) := ⟨_, rfl⟩
              rw [← hz] at HV hor
              clear hz
              go_wp2_with (at_builtin; refine wpList_app_at eByte rfl _ _ rfl (HO4.out.alloc _) (Nat.le_trans HK4.out.size (below1 w4 _).size) (one_cell w4 _ _) (by decide) (fun _ _ => rfl) (acc.length + 1) rfl (by have := HAL.out; omega) (bvs (acc ++ [z])) (fun j hj => catV_bv1 acc z j hj) rfl rfl ?_; intro a7 c7 w7 hO7 hG7 hA7)
              have hkr : Kp (fun b => (Value.slice a acc.length c).ownBlock = some b) w4 w7 := (Kp.of_below (F := fun b => (Value.slice a acc.length c).ownBlock = some b) (below1 w4 _)).trans (Kp.of_grown (F := fun b => (Value.slice a acc.length c).ownBlock = some b) hG7 fun _ h => h) fun _ _ h => h
              have hp7 : PIn full bp w7 r4 := HP4.out.kp hkr fun he => by have := HO4.out.row bp he; have := HBP.out; omega
              have hk7 : Kp (fun b => b = bp) w w7 := HK4.out.trans hkr fun b hb he => by have := HO4.out.row b he; omega
              have hm : full.length - (boxInt w7 (.pointer (some ⟨bp, 1, none⟩))).toNat < full.length - (boxInt wr (.pointer (some ⟨bp, 1, none⟩))).toNat := by
                rw [hp7.pos, HPOS.out]
                have h1 := HSU.out
                have h2 := HL4.out
                simp only [List.length_cons] at h1 ⊢
                omega
              refine ⟨⟨n', acc ++ [z], r4, a7, c7, by simp, HV.out, ⟨?_, ?_⟩, hp7, hk7, (by show Ow _ _ _ _ _ _; simpa using hO7)⟩, hm⟩
              · have h1 := HN.out.1
                have h2 := HL4.out
                simp only [List.length_cons] at h1
                omega
              · have h1 := HN.out.2
                have h2 := HL4.out
                simp only [List.length_cons, List.length_append, List.length_nil] at h1 ⊢
                omega
        · have hne : ((d.toNat : Int) == 92) = false := by
            simp
            intro e
            exact h92 (u8_eq.1 (by show d.toNat = 92; omega))
          have HV2 : Hid (M = qtM n' (acc ++ [d]) r) := by show _ = _; rw [HV.out, if_neg h92]
          clear h92 HV
          have HL2 : Hid (r.length ≤ r.length) := Nat.le_refl _
          go_wp2_with (at_builtin; refine wpList_app_at eByte rfl _ _ rfl (HO2.out.alloc _) (Nat.le_trans HK2.out.size (below1 w2 _).size) (one_cell w2 _ _) (by decide) (fun _ _ => rfl) (acc.length + 1) rfl (by have := HAL.out; omega) (bvs (acc ++ [d])) (fun j hj => catV_bv1 acc d j hj) rfl rfl ?_; intro a7 c7 w7 hO7 hG7 hA7)
          have hkr : Kp (fun b => (Value.slice a acc.length c).ownBlock = some b) w2 w7 := (Kp.of_below (F := fun b => (Value.slice a acc.length c).ownBlock = some b) (below1 w2 _)).trans (Kp.of_grown (F := fun b => (Value.slice a acc.length c).ownBlock = some b) hG7 fun _ h => h) fun _ _ h => h
          have hp7 : PIn full bp w7 r := HP2.out.kp hkr fun he => by have := HO2.out.row bp he; have := HBP.out; omega
          have hk7 : Kp (fun b => b = bp) w w7 := HK2.out.trans hkr fun b hb he => by have := HO2.out.row b he; omega
          have hm : full.length - (boxInt w7 (.pointer (some ⟨bp, 1, none⟩))).toNat < full.length - (boxInt wr (.pointer (some ⟨bp, 1, none⟩))).toNat := by
            rw [hp7.pos, HPOS.out]
            have h1 := HSU.out
            have h2 := HL2.out
            simp only [List.length_cons] at h1 ⊢
            omega
          refine ⟨⟨n', acc ++ [d], r, a7, c7, by simp, HV2.out, ⟨?_, ?_⟩, hp7, hk7, (by show Ow _ _ _ _ _ _; simpa using hO7)⟩, hm⟩
          · have h1 := HN.out.1
            have h2 := HL2.out
            simp only [List.length_cons] at h1
            omega
          · have h1 := HN.out.2
            have h2 := HL2.out
            simp only [List.length_cons, List.length_append, List.length_nil] at h1 ⊢
            omega
set_option maxHeartbeats 4000000 in
theorem pna_any (C : BailSays) (full : List UInt8) (bp : Nat) (w : World) (s : List UInt8) (h : PIn full bp w s) (hf : full.length ≤ 100000) :
    Calls Tryz.prog 98 #[.pointer (some ⟨bp, 0, none⟩)] w (PEnd full bp w (namM s) (fun _ v l => v = .string (str l))) := by
  have HP0 : Hid (PIn full bp w s) := h
  have HF : Hid (full.length ≤ 100000) := hf
  clear h hf
  go_enter Tryz.func98, Tryz.ntmps98
  go_wp2_with (go_at_call 78; fail)
  refine (tak_any full bp w s 60 (by decide) HP0.out HF.out).mono ?_
  intro e w1 ht
  have hcase : (∃ r, s = 60 :: r ∧ e = .returned (.bool true) ∧ PIn full bp w1 r ∧ Kp (fun b => b = bp) w w1) ∨ (namM s = wdM s ∧ e = .returned (.bool false) ∧ Below w.heap.size w w1) := by
    cases s with
    | nil =>
      obtain ⟨rfl, b1⟩ := ht
      exact Or.inr ⟨rfl, rfl, b1⟩
    | cons d r =>
      rcases ht with ⟨hc, rfl, hp, hk⟩ | ⟨hc, rfl, b1⟩
      · have hd : d = 60 := u8_eq.1 hc
        subst hd
        exact Or.inl ⟨r, rfl, rfl, hp, hk⟩
      · have hd : d ≠ 60 := fun e => hc (u8_eq.2 e)
        refine Or.inr ⟨?_, rfl, b1⟩
        show (if d = 60 then _ else _) = _
        rw [if_neg hd]
  clear ht
  rcases hcase with ⟨r, rfl, rfl, hp, hk⟩ | ⟨hm, rfl, b1⟩
  · have HP1 : Hid (PIn full bp w1 r) := hp
    have HK1 : Hid (Kp (fun b => b = bp) w w1) := hk
    have HV : Hid (namM (60 :: r) = qtM (r.length + 1) [] r) := rfl
    clear hp hk
    go_wp2_with (go_at_call 107; fail)
    refine (quo_any C full bp w1 r HP1.out HF.out).mono ?_
    intro e w2 hw
    cases hwm : qtM (r.length + 1) [] r with
    | error er =>
      rw [hwm] at hw
      obtain ⟨he, hk⟩ := hw
      have HVV : Hid (namM (60 :: r) = .error er) := by show _ = _; rw [HV.out, hwm]
      clear hwm
      rcases id he with ⟨h, -⟩ | ⟨v, old, rfl, -⟩
      · cases h
      have HE : Hid (EnIn w.heap.size (fun _ => False) _ _ (.panicked ({ v := v, recovered := false } :: old))) := he.lo HK1.out.size
      have HKE : Hid (Kp (fun b => b = bp) w _) := HK1.out.seq hk
      clear he
      go_wp2
      refine ⟨rfl, ?_⟩
      rw [HVV.out]
      exact ⟨HE.out, HKE.out⟩
    | ok q =>
      obtain ⟨l, r2⟩ := q
      rw [hwm] at hw
      obtain ⟨v, rfl, hv, hp, hk⟩ := hw
      subst hv
      have HVV : Hid (namM (60 :: r) = .ok (l, r2)) := by show _ = _; rw [HV.out, hwm]
      have HP2 : Hid (PIn full bp w2 r2) := hp
      have HK2 : Hid (Kp (fun b => b = bp) w w2) := HK1.out.seq hk
      clear hwm hp hk
      go_wp2
      go_ret
      rw [HVV.out]
      exact ⟨_, rfl, rfl, HP2.out, HK2.out⟩
  · have HP1 : Hid (PIn full bp w1 s) := HP0.out.below b1
    have HK1 : Hid (Kp (fun b => b = bp) w w1) := Kp.of_below b1
    have htl : (s.takeWhile wordB).length ≤ 100000 := Nat.le_trans (List.takeWhile_sublist _).length_le (Nat.le_trans HP0.out.suf.1 HF.out)
    have HRUN : Hid (Calls Tryz.prog 108 #[.pointer (some ⟨bp, 0, none⟩), .func (.func 49) #[] #[]] w1 fun e w' => e = .returned (.string (str (s.takeWhile wordB))) ∧ PIn full bp w' (s.dropWhile wordB) ∧ Kp (fun b => b = bp) w1 w') := run_any 49 wordN fnv_word wby_any full bp w1 s HP1.out HF.out
    have HV : Hid (namM s = if s.takeWhile wordB = [] then .error s.length else .ok (s.takeWhile wordB, s.dropWhile wordB)) := by show _ = _; rw [hm]; rfl
    have HDS : Hid (s.takeWhile wordB = [] → s.dropWhile wordB = s) := fun h => by
      have := List.takeWhile_append_dropWhile (p := wordB) (l := s)
      rw [h, List.nil_append] at this
      exact this
    generalize s.takeWhile wordB = T at HRUN HV HDS htl
    generalize s.dropWhile wordB = D at HRUN HV HDS
    clear hm b1
    go_wp2_with (go_at_call 108; fail)
    refine HRUN.out.mono ?_
    rintro e w2 ⟨rfl, hp, hk⟩
    have HP2 : Hid (PIn full bp w2 D) := hp
    have HK2 : Hid (Kp (fun b => b = bp) w w2) := HK1.out.seq hk
    clear hp hk HRUN
    have hsz := str_size T
    by_cases hT : T = []
    · have hD : D = s := HDS.out hT
      have HVV : Hid (namM s = .error D.length) := by show _ = _; rw [HV.out, if_pos hT, hD]
      subst hT
      have hst : str [] = ⟨#[]⟩ := rfl
      simp only [hst]
      clear HDS HV hD hsz
      go_wp2_with (go_at_call 42; fail)
      refine (fai_any C full bp w2 _ HP2.out).mono ?_
      rintro e w3 ⟨he, hb⟩
      rcases id he with ⟨h, -⟩ | ⟨v, old, rfl, -⟩
      · cases h
      have HE : Hid (EnIn w.heap.size (fun _ => False) _ _ (.panicked ({ v := v, recovered := false } :: old))) := he.lo HK2.out.size
      have HKE : Hid (Kp (fun b => b = bp) w _) := HK2.out.bel hb
      clear he
      go_wp2
      refine ⟨rfl, ?_⟩
      rw [HVV.out]
      exact ⟨HE.out, HKE.out⟩
    · have HVV : Hid (namM s = .ok (T, D)) := by show _ = _; rw [HV.out, if_neg hT]
      have hne : (str T).toList.isEmpty = false := by
        rw [ByteArray.toList_eq]
        cases T with
        | nil => exact absurd rfl hT
        | cons a r => rfl
      have HTT : Hid (T = T) := rfl
      clear HDS HV hT
      generalize hSS : str T = S at hsz hne
      have HSS : Hid (str T = S) := hSS
      clear hSS
      go_wp2_with (go_at_call 30; fail)
      refine (scl_any w2 S (by omega)).mono ?_
      rintro e w3 ⟨rfl, b3⟩
      have HP3 : Hid (PIn full bp w3 D) := HP2.out.below b3
      have HK3 : Hid (Kp (fun b => b = bp) w w3) := HK2.out.bel b3
      clear b3
      go_wp2
      go_ret
      rw [HVV.out]
      exact ⟨_, rfl, congrArg Value.string HSS.out.symm, HP3.out, HK3.out⟩
end Go.Proofs.YtbgkfjelgnbfmaaGreatDoor
