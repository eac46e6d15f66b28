/- PathGrows. -/
import Derived.Test.YtbgkfjelgnbfmaaGreatDoorPgr
import Derived.Deep.RegionHeld3
namespace Go.Proofs.YtbgkfjelgnbfmaaGreatDoor
open Go.RowKit Fo
set_option maxRecDepth 100000
set_option linter.unusedSimpArgs false
set_option linter.unusedVariables false

set_option maxHeartbeats 16000000 in
theorem grows_any (C : BailSays) (w : World) (n kind : Int) (lo : Nat) (henv : EnvP lo w) :
    Calls Tryz.prog 5 #[.int .i64 n, .int .i64 kind] w fun e w' => e = .returned (.bool true) ∧ Below w.heap.size w w' := by
  have HENV : Hid (EnvP lo w) := henv
  have HB0 : Hid (Below w.heap.size w w) := below_refl w
  clear henv
  by_cases h0 : n < 0
  · go_enter Tryz.func5, Tryz.ntmps5
    go_wp2_with (go_at_call 8; fail)
    refine (awake_any C _ lo (HENV.out.below HB0.out)).mono ?_
    rintro e wz ⟨rfl, bz⟩
    have HBZ : Hid (Below w.heap.size w wz) := below_step HB0.out bz
    clear bz
    go_wp2
    go_ret
    exact ⟨rfl, HBZ.out⟩
  by_cases h30 : 30 < n
  · go_enter Tryz.func5, Tryz.ntmps5
    go_wp2_with (go_at_call 8; fail)
    refine (awake_any C _ lo (HENV.out.below HB0.out)).mono ?_
    rintro e wz ⟨rfl, bz⟩
    have HBZ : Hid (Below w.heap.size w wz) := below_step HB0.out bz
    clear bz
    go_wp2
    go_ret
    exact ⟨rfl, HBZ.out⟩
  obtain ⟨m, rfl⟩ : ∃ m : Nat, n = (m : Int) := ⟨n.toNat, by omega⟩
  have HM : Hid (m ≤ 30) := by show _ ≤ _; omega
  have h30' : ¬ (m : Int) > 30 := by omega
  clear h30
  go_enter Tryz.func5, Tryz.ntmps5
  go_wp2_with (go_at_call 18; fail)
  obtain ⟨w1, hW1⟩ : ∃ W, W = w.alloc (.cells #[.int .i64 6, .int .i64 7, .int .i64 8] 3) := ⟨_, rfl⟩
  have HB1 : Hid (Below w.heap.size w w1) := by show Below _ _ _; rw [hW1]; exact below1 w _
  have hg1 : w1.heap[w.heap.size]? = some (.cells #[.int .i64 6, .int .i64 7, .int .i64 8] 3) := by rw [hW1]; exact heap_new1 w _
  rw [← hW1]
  clear hW1
  refine (round_any _ _).mono ?_
  rintro e wr ⟨⟨r, rfl, hr⟩, hwr⟩
  replace hwr := hwr.symm
  subst hwr
  obtain ⟨q, rfl, hq⟩ : ∃ q : Nat, r = (q : Int) ∧ q < 3 := ⟨r.toNat, by omega, by omega⟩
  obtain ⟨k, hk, hcell⟩ : ∃ k : Int, (k = 6 ∨ k = 7 ∨ k = 8) ∧ w1.cell? ⟨w.heap.size, q, none⟩ = some (.int .i64 k) := by
    rcases (by omega : q = 0 ∨ q = 1 ∨ q = 2) with rfl | rfl | rfl
    · exact ⟨6, Or.inl rfl, by rw [cell_of_row _ _ _ _ _ _ hg1]; rfl⟩
    · exact ⟨7, Or.inr (Or.inl rfl), by rw [cell_of_row _ _ _ _ _ _ hg1]; rfl⟩
    · exact ⟨8, Or.inr (Or.inr rfl), by rw [cell_of_row _ _ _ _ _ _ hg1]; rfl⟩
  have HK : Hid (k = 6 ∨ k = 7 ∨ k = 8) := hk
  have q1 : (0 : Int) ≤ (q : Int) := by omega
  have q2 : (q : Int) < ((3 : Nat) : Int) := by omega
  have q3 : (q : Int) < 3 := by omega
  clear hr hk hg1
  go_wp2_with (go_at_call 19; fail)
  refine (fwd_any w1 ⟨#[97]⟩).mono ?_
  rintro e w2 ⟨rfl, b⟩
  have HB2 : Hid (Below w.heap.size w w2) := below_step HB1.out b
  clear b HB1 hcell q1 q2 q3 hq HB0
  unfold PV.v
  go_wp2
  obtain ⟨W3, hW3⟩ : ∃ W, W = w2.alloc (.cells #[.int .i64 2, .string ⟨#[97]⟩, .slice none 0 0, .int .i64 0, .int .i64 0] 25) := ⟨_, rfl⟩
  have HB3 : Hid (Below w.heap.size w W3) := by show Below _ _ _; rw [hW3]; exact below_step HB2.out (below1 w2 _)
  have HG3 : Hid (W3.heap[w2.heap.size]? = some (pbox ⟨2, ⟨#[97]⟩, none, 0, 0, 0, 0⟩)) := by show W3.heap[_]? = _; rw [hW3]; exact heap_new1 w2 _
  rw [← hW3]
  clear hW3
  obtain ⟨g, hg⟩ : ∃ g, g = w2.heap.size := ⟨_, rfl⟩
  have HGE : Hid (w.heap.size ≤ g) := by show _ ≤ _; rw [hg]; exact HB2.out.size
  rw [← hg] at HG3 ⊢
  clear hg HB2
  go_loopw [7] (fun v7 wr => ∃ (i : Nat) (x : PV), i ≤ m ∧ v7 = .int .i64 i ∧ Hid (Below w.heap.size w wr) ∧ Hid (wr.heap[g]? = some (pbox x)) ∧ Hid (IsP (fun b => b ≠ g) wr x (chain k i))) (fun v _ => m - (intOf v).toNat)
  case atStart => exact ⟨0, ⟨2, ⟨#[97]⟩, none, 0, 0, 0, 0⟩, Nat.zero_le _, rfl, HB3.out, HG3.out, IsP.leaf _ _ 2 0 0 ⟨#[97]⟩⟩
  case round =>
    obtain ⟨i, ⟨k0, k1, k2, k3, k4, k5, k6⟩, hi, rfl, HB, HG, HI⟩ := hrel
    rename World => wr
    have HG4 : Hid (wr.heap[g]? = some (.cells #[.int .i64 k0, .string k1, .slice k2 k3 k4, .int .i64 k5, .int .i64 k6] 25)) := HG.out
    clear HG HB3 HG3
    have c0 := cell_of_row _ _ 0 _ _ _ HG4.out
    have c1 := cell_of_row _ _ 1 _ _ _ HG4.out
    have c2 := cell_of_row _ _ 2 _ _ _ HG4.out
    have c3 := cell_of_row _ _ 3 _ _ _ HG4.out
    have c4 := cell_of_row _ _ 4 _ _ _ HG4.out
    simp only [List.getElem?_toArray, List.getElem?_cons_zero, List.getElem?_cons_succ] at c0 c1 c2 c3 c4
    by_cases hlt : i < m
    · have j1 : (i : Int) < (m : Int) := by omega
      have him := HM.out
      go_wp2
      obtain ⟨W5, hW5⟩ : ∃ W, W = (wr.alloc (.cells #[.int .i64 k0, .string k1, .slice k2 k3 k4, .int .i64 k5, .int .i64 k6] 25)).alloc (.cells #[.int .i64 k, .string ⟨#[]⟩, .slice (some ⟨wr.heap.size, 0, none⟩) 1 1, .int .i64 0, .int .i64 0] 25) := ⟨_, rfl⟩
      have b5 : Below wr.heap.size wr W5 := by rw [hW5]; exact (below1 wr _).alloc (by simp) _
      have HB5 : Hid (Below w.heap.size w W5) := below_step HB.out b5
      have HQ5 : Hid (W5.heap[wr.heap.size + 1]? = some (.cells #[.int .i64 k, .string ⟨#[]⟩, .slice (some ⟨wr.heap.size, 0, none⟩) 1 1, .int .i64 0, .int .i64 0] 25)) := by
        show W5.heap[_]? = _
        rw [hW5]
        have := heap_new1 (wr.alloc (.cells #[.int .i64 k0, .string k1, .slice k2 k3 k4, .int .i64 k5, .int .i64 k6] 25)) (.cells #[.int .i64 k, .string ⟨#[]⟩, .slice (some ⟨wr.heap.size, 0, none⟩) 1 1, .int .i64 0, .int .i64 0] 25)
        simpa using this
      have HN5 : Hid (W5.heap[wr.heap.size]? = some (.cells #[.int .i64 k0, .string k1, .slice k2 k3 k4, .int .i64 k5, .int .i64 k6] 25)) := by show W5.heap[_]? = _; rw [hW5]; exact heap_new2 wr _ _
      have HG5 : Hid (W5.heap[g]? = some (.cells #[.int .i64 k0, .string k1, .slice k2 k3 k4, .int .i64 k5, .int .i64 k6] 25)) := (b5.block _ (lt_of_heap HG4.out)).trans HG4.out
      have HI5 : Hid (IsP (fun b => b ≠ g) W5 ⟨k0, k1, k2, k3, k4, k5, k6⟩ (chain k i)) := HI.out.bel b5
      have HJ5 : Hid (IsP (fun b => b ≠ g) W5 ⟨k, ⟨#[]⟩, some ⟨wr.heap.size, 0, none⟩, 1, 1, 0, 0⟩ (chain k (i + 1))) :=
        isp_one k wr.heap.size ⟨k0, k1, k2, k3, k4, k5, k6⟩ (chain k i) _ HN5.out HI5.out (fun h => by have h : wr.heap.size = g := h; have := lt_of_heap HG4.out; omega)
      rw [← hW5]
      clear hW5 b5 c0 c1 c2 c3 c4
      obtain ⟨D, hD⟩ : ∃ D : Int, D = (i : Int) + 1 := ⟨_, rfl⟩
      have hwD : IntKind.i64.wrap (D + 1) = D + 1 := IntWalk.i64_in _ (by omega)
      have HDP : Hid (∀ (v : World) (x : PV) (F : Nat → Prop), IsP F v x (chain k i) → Calls Tryz.prog 20 #[x.v] v fun e w' => e = .returned (.int .i64 D) ∧ Below v.heap.size v w') := fun v x F h => by
        have := deep_any (chain k i) F v x h
        rwa [chain_deep, show ((min (i + 1) 41 : Nat) : Int) = D by omega] at this
      have HDQ : Hid (∀ (v : World) (x : PV) (F : Nat → Prop), IsP F v x (chain k (i + 1)) → Calls Tryz.prog 20 #[x.v] v fun e w' => e = .returned (.int .i64 (D + 1)) ∧ Below v.heap.size v w') := fun v x F h => by
        have := deep_any (chain k (i + 1)) F v x h
        rwa [chain_deep, show ((min (i + 1 + 1) 41 : Nat) : Int) = D + 1 by omega] at this
      clear hD
      have HSP : Hid (∀ (v : World) (x : PV) (F : Nat → Prop), IsP F v x (chain k i) → Calls Tryz.prog 21 #[x.v] v fun e w' => e = .returned (.int .i64 (sz (chain k i))) ∧ Below v.heap.size v w') := fun v x F h => by
        have := siz2_any (chain k i) F v x h
        rwa [chain_szD i (by omega)] at this
      have HSQ : Hid (∀ (v : World) (x : PV) (F : Nat → Prop), IsP F v x (chain k (i + 1)) → Calls Tryz.prog 21 #[x.v] v fun e w' => e = .returned (.int .i64 (sz (chain k (i + 1)))) ∧ Below v.heap.size v w') := fun v x F h => by
        have := siz2_any (chain k (i + 1)) F v x h
        rwa [chain_szD (i + 1) (by omega)] at this
      have hS : ¬ sz (chain k (i + 1)) ≤ sz (chain k i) := by have := chain_lt HK.out i (by omega); omega
      generalize sz (chain k i) = SP at HSP hS
      generalize sz (chain k (i + 1)) = SQ at HSQ hS
      have HW : Below W5.heap.size W5 W5 := below_refl W5
      obtain ⟨x0, x1, x2, x3, x4⟩ := box5_cells HG5.out HW; obtain ⟨y0, y1, y2, y3, y4⟩ := box5_cells HQ5.out HW; have m0 : True := trivial
      go_region_held3 (fun w' => w'.cell? ⟨g, 0, none⟩ = some (.int .i64 k0) ∧ w'.cell? ⟨g, 1, none⟩ = some (.string k1) ∧ w'.cell? ⟨g, 2, none⟩ = some (.slice k2 k3 k4) ∧ w'.cell? ⟨g, 3, none⟩ = some (.int .i64 k5) ∧ w'.cell? ⟨g, 4, none⟩ = some (.int .i64 k6) ∧ w'.cell? ⟨wr.heap.size + 1, 0, none⟩ = some (.int .i64 k) ∧ w'.cell? ⟨wr.heap.size + 1, 1, none⟩ = some (.string ⟨#[]⟩) ∧ w'.cell? ⟨wr.heap.size + 1, 2, none⟩ = some (.slice (some ⟨wr.heap.size, 0, none⟩) 1 1) ∧ w'.cell? ⟨wr.heap.size + 1, 3, none⟩ = some (.int .i64 0) ∧ w'.cell? ⟨wr.heap.size + 1, 4, none⟩ = some (.int .i64 0)) (first | exact ⟨x0, x1, x2, x3, x4, y0, y1, y2, y3, y4⟩ | go_keep) (first
        | (clear m3; go_at_call 21; refine (HSP.out _ ⟨k0, k1, k2, k3, k4, k5, k6⟩ _ (HI5.out.bel (by first | exact HW | exact HW.drew))).mono ?_; rintro e v4 ⟨rfl, b4⟩; replace HW := below_step (by first | exact HW | exact HW.drew) b4; clear b4 x0 x1 x2 x3 x4 y0 y1 y2 y3 y4; obtain ⟨x0, x1, x2, x3, x4⟩ := box5_cells HG5.out HW; obtain ⟨y0, y1, y2, y3, y4⟩ := box5_cells HQ5.out HW; have m4 : True := trivial)
        | (clear m2; go_at_call 21; refine (HSQ.out _ ⟨k, ⟨#[]⟩, some ⟨wr.heap.size, 0, none⟩, 1, 1, 0, 0⟩ _ (HJ5.out.bel (by first | exact HW | exact HW.drew))).mono ?_; rintro e v3 ⟨rfl, b3⟩; replace HW := below_step (by first | exact HW | exact HW.drew) b3; clear b3 x0 x1 x2 x3 x4 y0 y1 y2 y3 y4; obtain ⟨x0, x1, x2, x3, x4⟩ := box5_cells HG5.out HW; obtain ⟨y0, y1, y2, y3, y4⟩ := box5_cells HQ5.out HW; have m3 : True := trivial)
        | (clear m1; go_at_call 20; refine (HDP.out _ ⟨k0, k1, k2, k3, k4, k5, k6⟩ _ (HI5.out.bel (by first | exact HW | exact HW.drew))).mono ?_; rintro e v2 ⟨rfl, b2⟩; replace HW := below_step (by first | exact HW | exact HW.drew) b2; clear b2 x0 x1 x2 x3 x4 y0 y1 y2 y3 y4; obtain ⟨x0, x1, x2, x3, x4⟩ := box5_cells HG5.out HW; obtain ⟨y0, y1, y2, y3, y4⟩ := box5_cells HQ5.out HW; have m2 : True := trivial)
        | (clear m0; go_at_call 20; refine (HDQ.out _ ⟨k, ⟨#[]⟩, some ⟨wr.heap.size, 0, none⟩, 1, 1, 0, 0⟩ _ (HJ5.out.bel (by first | exact HW | exact HW.drew))).mono ?_; rintro e v1 ⟨rfl, b1⟩; replace HW := below_step (by first | exact HW | exact HW.drew) b1; clear b1 x0 x1 x2 x3 x4 y0 y1 y2 y3 y4; obtain ⟨x0, x1, x2, x3, x4⟩ := box5_cells HG5.out HW; obtain ⟨y0, y1, y2, y3, y4⟩ := box5_cells HQ5.out HW; have m1 : True := trivial)
        | (go_at_call 99; fail))
      rename World => w6
      have HB6 : Hid (Below w.heap.size w w6) := below_step HB5.out HW
      have HG6 : Hid (w6.heap[g]? = some (.cells #[.int .i64 k0, .string k1, .slice k2 k3 k4, .int .i64 k5, .int .i64 k6] 25)) := (HW.block _ (lt_of_heap HG5.out)).trans HG5.out
      have HJ6 : Hid (IsP (fun b => b ≠ g) w6 ⟨k, ⟨#[]⟩, some ⟨wr.heap.size, 0, none⟩, 1, 1, 0, 0⟩ (chain k (i + 1))) := HJ5.out.bel HW
      clear HB5 HG5 HJ5 HI5 HN5 HW HB HG4 HI HDP HDQ HSP HSQ hwD x0 x1 x2 x3 x4 m4
      obtain ⟨⟨z0, z1, z2, z3, z4⟩, ⟨f0, f1, f2, f3, f4⟩, g0, g1, g2, g3, g4⟩ := box5_facts HG6.out
      go_wp2
      have hb10 := below_set5 (w2 := w6) HB6.out HGE.out (.int .i64 k) (.string ⟨#[]⟩) (.slice (some ⟨wr.heap.size, 0, none⟩) 1 1) (.int .i64 0) (.int .i64 0)
      obtain ⟨hs6, hs7⟩ := st5 HG6.out (.int .i64 k) (.string ⟨#[]⟩) (.slice (some ⟨wr.heap.size, 0, none⟩) 1 1) (.int .i64 0) (.int .i64 0)
      refine ⟨⟨i + 1, ⟨k, ⟨#[]⟩, some ⟨wr.heap.size, 0, none⟩, 1, 1, 0, 0⟩, by omega, by simp, hb10, hs6, HJ6.out.kp hs7 (fun b hb h => hb h) fun _ _ h => h⟩, by simp [intOf]; omega⟩
    · have hn : i = m := by omega
      subst hn
      have hm := HM.out
      have hck := chain_chk HK.out i
      by_cases h20 : 20 ≤ i
      · have h20' : (i : Int) ≥ 20 := by omega
        rw [if_pos h20] at hck
        have HCK : Hid (∀ v, IsP (fun b => b ≠ g) v ⟨k0, k1, k2, k3, k4, k5, k6⟩ (chain k i) → Calls Tryz.prog 16 #[PV.v ⟨k0, k1, k2, k3, k4, k5, k6⟩] v fun e w' => e = .returned (.int .i64 4) ∧ Below v.heap.size v w') := fun v h => by
          have := chk_any (chain k i) _ v _ h
          rwa [hck] at this
        have HTX : Hid (∀ v, IsP (fun b => b ≠ g) v ⟨k0, k1, k2, k3, k4, k5, k6⟩ (chain k i) → Calls Tryz.prog 15 #[PV.v ⟨k0, k1, k2, k3, k4, k5, k6⟩] v fun e w' => e = .returned (.string ⟨#[]⟩) ∧ Below v.heap.size v w') := fun v h => by
          have := text_any (chain k i) _ v _ h
          rwa [show txt (chain k i) = [] by unfold txt; rw [hck, if_neg (by decide)]] at this
        clear hck h20
        go_wp2_with (go_at_call 16; fail)
        refine (HCK.out wr HI.out).mono ?_
        rintro e w5 ⟨rfl, b⟩
        have HB5 : Hid (Below w.heap.size w w5) := below_step HB.out b
        have HG5 : Hid (w5.heap[g]? = some (.cells #[.int .i64 k0, .string k1, .slice k2 k3 k4, .int .i64 k5, .int .i64 k6] 25)) := (b.block _ (lt_of_heap HG4.out)).trans HG4.out
        have HI5 : Hid (IsP (fun b => b ≠ g) w5 ⟨k0, k1, k2, k3, k4, k5, k6⟩ (chain k i)) := HI.out.bel b
        clear b c0 c1 c2 c3 c4 HB HG4 HI HCK
        have c0 := cell_of_row _ _ 0 _ _ _ HG5.out
        have c1 := cell_of_row _ _ 1 _ _ _ HG5.out
        have c2 := cell_of_row _ _ 2 _ _ _ HG5.out
        have c3 := cell_of_row _ _ 3 _ _ _ HG5.out
        have c4 := cell_of_row _ _ 4 _ _ _ HG5.out
        simp only [List.getElem?_toArray, List.getElem?_cons_zero, List.getElem?_cons_succ] at c0 c1 c2 c3 c4
        go_wp2_with (go_at_call 15; fail)
        refine (HTX.out w5 HI5.out).mono ?_
        rintro e w6 ⟨rfl, b⟩
        have HB6 : Hid (Below w.heap.size w w6) := below_step HB5.out b
        clear b c0 c1 c2 c3 c4 HB5 HG5 HI5 HTX
        go_wp2_with (go_at_call 8; fail)
        refine (awake_any C _ lo (HENV.out.below HB6.out)).mono ?_
        rintro e wz ⟨rfl, bz⟩
        have HBZ : Hid (Below w.heap.size w wz) := below_step HB6.out bz
        clear bz
        go_wp2
        go_ret
        exact ⟨rfl, HBZ.out⟩
      · have h20' : ¬ (i : Int) ≥ 20 := by omega
        rw [if_neg h20] at hck
        have HSP : Hid (∀ v, IsP (fun b => b ≠ g) v ⟨k0, k1, k2, k3, k4, k5, k6⟩ (chain k i) → Calls Tryz.prog 21 #[PV.v ⟨k0, k1, k2, k3, k4, k5, k6⟩] v fun e w' => e = .returned (.int .i64 (sz (chain k i))) ∧ Below v.heap.size v w') := fun v h => by
          have := siz2_any (chain k i) _ v _ h
          rwa [chain_szD i (by omega)] at this
        by_cases h60 : 60 < sz (chain k i)
        · rw [if_pos h60] at hck
          have h60' : sz (chain k i) > 60 := h60
          have HCK : Hid (∀ v, IsP (fun b => b ≠ g) v ⟨k0, k1, k2, k3, k4, k5, k6⟩ (chain k i) → Calls Tryz.prog 16 #[PV.v ⟨k0, k1, k2, k3, k4, k5, k6⟩] v fun e w' => e = .returned (.int .i64 5) ∧ Below v.heap.size v w') := fun v h => by
            have := chk_any (chain k i) _ v _ h
            rwa [hck] at this
          have HTX : Hid (∀ v, IsP (fun b => b ≠ g) v ⟨k0, k1, k2, k3, k4, k5, k6⟩ (chain k i) → Calls Tryz.prog 15 #[PV.v ⟨k0, k1, k2, k3, k4, k5, k6⟩] v fun e w' => e = .returned (.string ⟨#[]⟩) ∧ Below v.heap.size v w') := fun v h => by
            have := text_any (chain k i) _ v _ h
            rwa [show txt (chain k i) = [] by unfold txt; rw [hck, if_neg (by decide)]] at this
          clear hck h20 h60
          generalize sz (chain k i) = SP at HSP h60'
          go_wp2_with (go_at_call 21; fail)
          refine (HSP.out wr HI.out).mono ?_
          rintro e w4 ⟨rfl, b⟩
          have HB4 : Hid (Below w.heap.size w w4) := below_step HB.out b
          have HA4 : Hid (w4.heap[g]? = some (.cells #[.int .i64 k0, .string k1, .slice k2 k3 k4, .int .i64 k5, .int .i64 k6] 25)) := (b.block _ (lt_of_heap HG4.out)).trans HG4.out
          have HI4 : Hid (IsP (fun b => b ≠ g) w4 ⟨k0, k1, k2, k3, k4, k5, k6⟩ (chain k i)) := HI.out.bel b
          clear b c0 c1 c2 c3 c4 HB HG4 HI HSP
          have c0 := cell_of_row _ _ 0 _ _ _ HA4.out
          have c1 := cell_of_row _ _ 1 _ _ _ HA4.out
          have c2 := cell_of_row _ _ 2 _ _ _ HA4.out
          have c3 := cell_of_row _ _ 3 _ _ _ HA4.out
          have c4 := cell_of_row _ _ 4 _ _ _ HA4.out
          simp only [List.getElem?_toArray, List.getElem?_cons_zero, List.getElem?_cons_succ] at c0 c1 c2 c3 c4
          go_wp2_with (go_at_call 16; fail)
          refine (HCK.out w4 HI4.out).mono ?_
          rintro e w5 ⟨rfl, b⟩
          have HB5 : Hid (Below w.heap.size w w5) := below_step HB4.out b
          have HG5 : Hid (w5.heap[g]? = some (.cells #[.int .i64 k0, .string k1, .slice k2 k3 k4, .int .i64 k5, .int .i64 k6] 25)) := (b.block _ (lt_of_heap HA4.out)).trans HA4.out
          have HI5 : Hid (IsP (fun b => b ≠ g) w5 ⟨k0, k1, k2, k3, k4, k5, k6⟩ (chain k i)) := HI4.out.bel b
          clear b c0 c1 c2 c3 c4 HB4 HA4 HI4 HCK
          have c0 := cell_of_row _ _ 0 _ _ _ HG5.out
          have c1 := cell_of_row _ _ 1 _ _ _ HG5.out
          have c2 := cell_of_row _ _ 2 _ _ _ HG5.out
          have c3 := cell_of_row _ _ 3 _ _ _ HG5.out
          have c4 := cell_of_row _ _ 4 _ _ _ HG5.out
          simp only [List.getElem?_toArray, List.getElem?_cons_zero, List.getElem?_cons_succ] at c0 c1 c2 c3 c4
          go_wp2_with (go_at_call 15; fail)
          refine (HTX.out w5 HI5.out).mono ?_
          rintro e w6 ⟨rfl, b⟩
          have HB6 : Hid (Below w.heap.size w w6) := below_step HB5.out b
          clear b c0 c1 c2 c3 c4 HB5 HG5 HI5 HTX
          go_wp2_with (go_at_call 8; fail)
          refine (awake_any C _ lo (HENV.out.below HB6.out)).mono ?_
          rintro e wz ⟨rfl, bz⟩
          have HBZ : Hid (Below w.heap.size w wz) := below_step HB6.out bz
          clear bz
          go_wp2
          go_ret
          exact ⟨rfl, HBZ.out⟩
        · rw [if_neg h60] at hck
          have h60' : ¬ sz (chain k i) > 60 := h60
          have hnb : (str (tx (chain k i))).toList.isEmpty = false := by
            rw [ByteArray.toList_eq]
            have e : (str (tx (chain k i))).data.toList = tx (chain k i) := by simp [str]
            rw [e]
            cases h : tx (chain k i) with
            | nil => exact absurd h (chain_tx HK.out i)
            | cons c s => rfl
          have HCK : Hid (∀ v, IsP (fun b => b ≠ g) v ⟨k0, k1, k2, k3, k4, k5, k6⟩ (chain k i) → Calls Tryz.prog 16 #[PV.v ⟨k0, k1, k2, k3, k4, k5, k6⟩] v fun e w' => e = .returned (.int .i64 0) ∧ Below v.heap.size v w') := fun v h => by
            have := chk_any (chain k i) _ v _ h
            rwa [hck] at this
          have HTX : Hid (∀ v, IsP (fun b => b ≠ g) v ⟨k0, k1, k2, k3, k4, k5, k6⟩ (chain k i) → Calls Tryz.prog 15 #[PV.v ⟨k0, k1, k2, k3, k4, k5, k6⟩] v fun e w' => e = .returned (.string (str (tx (chain k i)))) ∧ Below v.heap.size v w') := fun v h => by
            have := text_any (chain k i) _ v _ h
            rwa [show txt (chain k i) = tx (chain k i) by unfold txt; rw [hck, if_pos rfl]] at this
          clear hck h20 h60
          generalize str (tx (chain k i)) = S at HTX hnb
          generalize sz (chain k i) = SP at HSP h60'
          go_wp2_with (go_at_call 21; fail)
          refine (HSP.out wr HI.out).mono ?_
          rintro e w4 ⟨rfl, b⟩
          have HB4 : Hid (Below w.heap.size w w4) := below_step HB.out b
          have HA4 : Hid (w4.heap[g]? = some (.cells #[.int .i64 k0, .string k1, .slice k2 k3 k4, .int .i64 k5, .int .i64 k6] 25)) := (b.block _ (lt_of_heap HG4.out)).trans HG4.out
          have HI4 : Hid (IsP (fun b => b ≠ g) w4 ⟨k0, k1, k2, k3, k4, k5, k6⟩ (chain k i)) := HI.out.bel b
          clear b c0 c1 c2 c3 c4 HB HG4 HI HSP
          have c0 := cell_of_row _ _ 0 _ _ _ HA4.out
          have c1 := cell_of_row _ _ 1 _ _ _ HA4.out
          have c2 := cell_of_row _ _ 2 _ _ _ HA4.out
          have c3 := cell_of_row _ _ 3 _ _ _ HA4.out
          have c4 := cell_of_row _ _ 4 _ _ _ HA4.out
          simp only [List.getElem?_toArray, List.getElem?_cons_zero, List.getElem?_cons_succ] at c0 c1 c2 c3 c4
          go_wp2_with (go_at_call 16; fail)
          refine (HCK.out w4 HI4.out).mono ?_
          rintro e w5 ⟨rfl, b⟩
          have HB5 : Hid (Below w.heap.size w w5) := below_step HB4.out b
          have HG5 : Hid (w5.heap[g]? = some (.cells #[.int .i64 k0, .string k1, .slice k2 k3 k4, .int .i64 k5, .int .i64 k6] 25)) := (b.block _ (lt_of_heap HA4.out)).trans HA4.out
          have HI5 : Hid (IsP (fun b => b ≠ g) w5 ⟨k0, k1, k2, k3, k4, k5, k6⟩ (chain k i)) := HI4.out.bel b
          clear b c0 c1 c2 c3 c4 HB4 HA4 HI4 HCK
          have c0 := cell_of_row _ _ 0 _ _ _ HG5.out
          have c1 := cell_of_row _ _ 1 _ _ _ HG5.out
          have c2 := cell_of_row _ _ 2 _ _ _ HG5.out
          have c3 := cell_of_row _ _ 3 _ _ _ HG5.out
          have c4 := cell_of_row _ _ 4 _ _ _ HG5.out
          simp only [List.getElem?_toArray, List.getElem?_cons_zero, List.getElem?_cons_succ] at c0 c1 c2 c3 c4
          go_wp2_with (go_at_call 15; fail)
          refine (HTX.out w5 HI5.out).mono ?_
          rintro e w6 ⟨rfl, b⟩
          have HB6 : Hid (Below w.heap.size w w6) := below_step HB5.out b
          clear b c0 c1 c2 c3 c4 HB5 HG5 HI5 HTX
          go_wp2_with (go_at_call 8; fail)
          refine (awake_any C _ lo (HENV.out.below HB6.out)).mono ?_
          rintro e wz ⟨rfl, bz⟩
          have HBZ : Hid (Below w.heap.size w wz) := below_step HB6.out bz
          clear bz
          go_wp2
          go_ret
          exact ⟨rfl, HBZ.out⟩
end Go.Proofs.YtbgkfjelgnbfmaaGreatDoor
