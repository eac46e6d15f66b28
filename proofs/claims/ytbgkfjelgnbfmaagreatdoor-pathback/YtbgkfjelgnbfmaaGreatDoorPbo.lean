/- The parser: bounds, hex, quoted. -/
import Derived.Test.YtbgkfjelgnbfmaaGreatDoorPnu
namespace Go.Proofs.YtbgkfjelgnbfmaaGreatDoor
open Go.RowKit Fo
set_option maxRecDepth 100000
set_option linter.unusedSimpArgs false
set_option linter.unusedVariables false

namespace Fo
def pr3 : Except Nat (Int × Int × List UInt8) → Except Nat ((Int × Int) × List UInt8)
  | .ok (a, b, r) => .ok ((a, b), r)
  | .error e => .error e
end Fo
def dummyBo := 0
set_option maxHeartbeats 8000000 in
theorem bou_any (C : BailSays) (lo : Nat) (full : List UInt8) (bp : Nat) (w : World) (s : List UInt8) (h : PIn full bp w s) (hf : full.length ≤ 100000) (henv : EnvP lo w) (hlo : lo ≤ bp) :
    Calls Tryz.prog 92 #[.pointer (some ⟨bp, 0, none⟩)] w (PEnd full bp w (pr3 (bndM s)) (fun _ v n => v = .tuple #[.int .i64 n.1, .int .i64 n.2])) := by
  have HP0 : Hid (PIn full bp w s) := h
  have HE0 : Hid (EnvP lo w) := henv
  have HLO : Hid (lo ≤ bp) := hlo
  have HF : Hid (full.length ≤ 100000) := hf
  have HK0 : Hid (Kp (fun b => b = bp) w w) := Kp.refl _ _
  have HM : Hid (pr3 (bndM s) = pr3 (match numM s with
    | .error e => .error e
    | .ok (lo, r) => match wantM 44 r with
      | .error e => .error e
      | .ok (_, r') => bndM1 lo r')) := rfl
  generalize pr3 (bndM s) = M at HM
  clear h henv hlo hf
  obtain ⟨w0, hw0⟩ : ∃ w0, w0 = w := ⟨_, rfl⟩
  go_enter Tryz.func92, Tryz.ntmps92
  go_wp2_with (go_at_call 100; fail)
  refine (num_any C lo full bp w s HP0.out HF.out HE0.out HLO.out).mono ?_
  intro e w1 hw
  cases hwm : numM s with
  | error er =>
    rw [hwm] at hw
    obtain ⟨he, hk⟩ := hw
    have HV : Hid (M = .error er) := by show _ = _; rw [HM.out]; simp only [hwm]; try rfl
    clear hwm
    rcases id he with ⟨h, -⟩ | ⟨v, old, rfl, -⟩
    · cases h
    have HE : Hid (EnIn w.heap.size (fun _ => False) _ _ (.panicked ({ v := v, recovered := false } :: old))) := he.lo HK0.out.size
    have HKE : Hid (Kp (fun b => b = bp) w _) := HK0.out.seq hk
    clear he
    go_wp2
    refine ⟨rfl, ?_⟩
    rw [HV.out]
    exact ⟨HE.out, HKE.out⟩
  | ok q =>
    obtain ⟨n1, r1⟩ := q
    rw [hwm] at hw
    obtain ⟨v, rfl, hv, hp, hk⟩ := hw
    subst hv
    have HP1 : Hid (PIn full bp w1 r1) := hp
    have HK1 : Hid (Kp (fun b => b = bp) w w1) := HK0.out.seq hk
    have HE1 : Hid (EnvP lo w1) := HE0.out.kp hk (fun b hb => by rw [hb]; exact HLO.out)
    have hv := HM.out
    simp only [hwm] at hv
    clear HM
    have HM : Hid (M = _) := hv
    clear hp hk hwm hv
    go_wp2_with (go_at_call 99; fail)
    refine (wan_any C full bp w1 r1 44 HP1.out HF.out).mono ?_
    intro e w2 hw
    cases hwm : wantM 44 r1 with
    | error er =>
      rw [hwm] at hw
      obtain ⟨he, hk⟩ := hw
      have HV : Hid (M = .error er) := by show _ = _; rw [HM.out]; simp only [hwm]; try rfl
      clear hwm
      rcases id he with ⟨h, -⟩ | ⟨v, old, rfl, -⟩
      · cases h
      have HE : Hid (EnIn w.heap.size (fun _ => False) _ _ (.panicked ({ v := v, recovered := false } :: old))) := he.lo HK1.out.size
      have HKE : Hid (Kp (fun b => b = bp) w _) := HK1.out.seq hk
      clear he
      go_wp2
      refine ⟨rfl, ?_⟩
      rw [HV.out]
      exact ⟨HE.out, HKE.out⟩
    | ok q =>
      obtain ⟨u, r2⟩ := q
      rw [hwm] at hw
      obtain ⟨v, rfl, hv, hp, hk⟩ := hw
      subst hv
      have HP2 : Hid (PIn full bp w2 r2) := hp
      have HK2 : Hid (Kp (fun b => b = bp) w w2) := HK1.out.seq hk
      have HE2 : Hid (EnvP lo w2) := HE1.out.kp hk (fun b hb => by rw [hb]; exact HLO.out)
      have hv := HM.out
      simp only [hwm] at hv
      clear HM
      have HM : Hid (M = _) := hv
      clear hp hk hwm hv
      go_wp2_with (go_at_call 78; fail)
      refine (tak_any full bp w2 r2 125 (by decide) HP2.out HF.out).mono ?_
      intro e w3 ht
      cases r2 with
      | nil =>
        obtain ⟨rfl, b3⟩ := ht
        have HP3 : Hid (PIn full bp w3 []) := HP2.out.below b3
        have HK3 : Hid (Kp (fun b => b = bp) w w3) := HK2.out.bel b3
        have HE3 : Hid (EnvP lo w3) := HE2.out.below b3
        clear b3
        have HMM : Hid (M = pr3 (bndM2 n1 [])) := HM.out
        unfold bndM2 at HMM
        clear HM
        have HM := HMM
        clear HMM
        go_wp2_with (go_at_call 100; fail)
        refine (num_any C lo full bp w3 [] HP3.out HF.out HE3.out HLO.out).mono ?_
        intro e w4 hw
        cases hwm : numM [] with
        | error er =>
          rw [hwm] at hw
          obtain ⟨he, hk⟩ := hw
          have HV : Hid (M = .error er) := by show _ = _; rw [HM.out]; simp only [hwm]; try rfl
          clear hwm
          rcases id he with ⟨h, -⟩ | ⟨v, old, rfl, -⟩
          · cases h
          have HE : Hid (EnIn w.heap.size (fun _ => False) _ _ (.panicked ({ v := v, recovered := false } :: old))) := he.lo HK3.out.size
          have HKE : Hid (Kp (fun b => b = bp) w _) := HK3.out.seq hk
          clear he
          go_wp2
          refine ⟨rfl, ?_⟩
          rw [HV.out]
          exact ⟨HE.out, HKE.out⟩
        | ok q =>
          obtain ⟨n4, r4⟩ := q
          rw [hwm] at hw
          obtain ⟨v, rfl, hv, hp, hk⟩ := hw
          subst hv
          have HP4 : Hid (PIn full bp w4 r4) := hp
          have HK4 : Hid (Kp (fun b => b = bp) w w4) := HK3.out.seq hk
          have HE4 : Hid (EnvP lo w4) := HE3.out.kp hk (fun b hb => by rw [hb]; exact HLO.out)
          have hv := HM.out
          simp only [hwm] at hv
          clear HM
          have HM : Hid (M = _) := hv
          clear hp hk hwm hv
          go_wp2_with (go_at_call 99; fail)
          refine (wan_any C full bp w4 r4 125 HP4.out HF.out).mono ?_
          intro e w5 hw
          cases hwm : wantM 125 r4 with
          | error er =>
            rw [hwm] at hw
            obtain ⟨he, hk⟩ := hw
            have HV : Hid (M = .error er) := by show _ = _; rw [HM.out]; simp only [hwm]; try rfl
            clear hwm
            rcases id he with ⟨h, -⟩ | ⟨v, old, rfl, -⟩
            · cases h
            have HE : Hid (EnIn w.heap.size (fun _ => False) _ _ (.panicked ({ v := v, recovered := false } :: old))) := he.lo HK4.out.size
            have HKE : Hid (Kp (fun b => b = bp) w _) := HK4.out.seq hk
            clear he
            go_wp2
            refine ⟨rfl, ?_⟩
            rw [HV.out]
            exact ⟨HE.out, HKE.out⟩
          | ok q =>
            obtain ⟨u, r5⟩ := q
            rw [hwm] at hw
            obtain ⟨v, rfl, hv, hp, hk⟩ := hw
            subst hv
            have HP5 : Hid (PIn full bp w5 r5) := hp
            have HK5 : Hid (Kp (fun b => b = bp) w w5) := HK4.out.seq hk
            have HE5 : Hid (EnvP lo w5) := HE4.out.kp hk (fun b hb => by rw [hb]; exact HLO.out)
            have hv := HM.out
            simp only [hwm] at hv
            clear HM
            have HM : Hid (M = _) := hv
            clear hp hk hwm hv
            go_wp2
            go_ret2
            rw [HM.out]
            exact ⟨_, rfl, rfl, HP5.out, HK5.out⟩
      | cons d r3 =>
        rcases ht with ⟨hc, rfl, hp, hk⟩ | ⟨hc, rfl, b3⟩
        · have hd : d = 125 := u8_eq.1 hc
          have HP3 : Hid (PIn full bp w3 r3) := hp
          have HK3 : Hid (Kp (fun b => b = bp) w w3) := HK2.out.seq hk
          have HMM : Hid (M = .ok ((n1, -1), r3)) := by
            show _ = _
            rw [HM.out]
            show pr3 (if d = 125 then _ else _) = _
            rw [if_pos hd]; rfl
          clear hp hk hc hd HM
          go_wp2
          go_ret2
          rw [HMM.out]
          exact ⟨_, rfl, rfl, HP3.out, HK3.out⟩
        · have hd : d ≠ 125 := fun e => hc (u8_eq.2 e)
          have HP3 : Hid (PIn full bp w3 (d :: r3)) := HP2.out.below b3
          have HK3 : Hid (Kp (fun b => b = bp) w w3) := HK2.out.bel b3
          have HE3 : Hid (EnvP lo w3) := HE2.out.below b3
          have HMM : Hid (M = pr3 (bndM2 n1 (d :: r3))) := by
            show _ = _
            rw [HM.out]
            show pr3 (if d = 125 then _ else _) = _
            rw [if_neg hd]
          unfold bndM2 at HMM
          clear b3 hc hd HM
          have HM := HMM
          clear HMM
          go_wp2_with (go_at_call 100; fail)
          refine (num_any C lo full bp w3 (d :: r3) HP3.out HF.out HE3.out HLO.out).mono ?_
          intro e w4 hw
          cases hwm : numM (d :: r3) with
          | error er =>
            rw [hwm] at hw
            obtain ⟨he, hk⟩ := hw
            have HV : Hid (M = .error er) := by show _ = _; rw [HM.out]; simp only [hwm]; try rfl
            clear hwm
            rcases id he with ⟨h, -⟩ | ⟨v, old, rfl, -⟩
            · cases h
            have HE : Hid (EnIn w.heap.size (fun _ => False) _ _ (.panicked ({ v := v, recovered := false } :: old))) := he.lo HK3.out.size
            have HKE : Hid (Kp (fun b => b = bp) w _) := HK3.out.seq hk
            clear he
            go_wp2
            refine ⟨rfl, ?_⟩
            rw [HV.out]
            exact ⟨HE.out, HKE.out⟩
          | ok q =>
            obtain ⟨n4, r4⟩ := q
            rw [hwm] at hw
            obtain ⟨v, rfl, hv, hp, hk⟩ := hw
            subst hv
            have HP4 : Hid (PIn full bp w4 r4) := hp
            have HK4 : Hid (Kp (fun b => b = bp) w w4) := HK3.out.seq hk
            have HE4 : Hid (EnvP lo w4) := HE3.out.kp hk (fun b hb => by rw [hb]; exact HLO.out)
            have hv := HM.out
            simp only [hwm] at hv
            clear HM
            have HM : Hid (M = _) := hv
            clear hp hk hwm hv
            go_wp2_with (go_at_call 99; fail)
            refine (wan_any C full bp w4 r4 125 HP4.out HF.out).mono ?_
            intro e w5 hw
            cases hwm : wantM 125 r4 with
            | error er =>
              rw [hwm] at hw
              obtain ⟨he, hk⟩ := hw
              have HV : Hid (M = .error er) := by show _ = _; rw [HM.out]; simp only [hwm]; try rfl
              clear hwm
              rcases id he with ⟨h, -⟩ | ⟨v, old, rfl, -⟩
              · cases h
              have HE : Hid (EnIn w.heap.size (fun _ => False) _ _ (.panicked ({ v := v, recovered := false } :: old))) := he.lo HK4.out.size
              have HKE : Hid (Kp (fun b => b = bp) w _) := HK4.out.seq hk
              clear he
              go_wp2
              refine ⟨rfl, ?_⟩
              rw [HV.out]
              exact ⟨HE.out, HKE.out⟩
            | ok q =>
              obtain ⟨u, r5⟩ := q
              rw [hwm] at hw
              obtain ⟨v, rfl, hv, hp, hk⟩ := hw
              subst hv
              have HP5 : Hid (PIn full bp w5 r5) := hp
              have HK5 : Hid (Kp (fun b => b = bp) w w5) := HK4.out.seq hk
              have HE5 : Hid (EnvP lo w5) := HE4.out.kp hk (fun b hb => by rw [hb]; exact HLO.out)
              have hv := HM.out
              simp only [hwm] at hv
              clear HM
              have HM : Hid (M = _) := hv
              clear hp hk hwm hv
              go_wp2
              go_ret2
              rw [HM.out]
              exact ⟨_, rfl, rfl, HP5.out, HK5.out⟩
end Go.Proofs.YtbgkfjelgnbfmaaGreatDoor
