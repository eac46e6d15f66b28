/- nat's decimalBlocks: a number in blocks of nine decimal digits, the least first. -/
import Derived.Test.YtjdbapkmaggllaaGreatDoorQ38
import Derived.Test.YtjdbapkmaggllaaGreatDoorQ39
import Derived.Test.YtjdbapkmaggllaaGreatDoorQ19
import Derived.WalkKit
namespace Go.Proofs.YtjdbapkmaggllaaGreatDoor
open Go.RowKit Fo
set_option maxRecDepth 100000

theorem clone_any (b off n c : Nat) (L : Nat → Nat) (w : World) (h : Rd w (some ⟨b, off, none⟩) n c (u32s L)) (hn : n ≤ 100000) :
    Calls Tryz.prog 100 #[.slice (some ⟨b, off, none⟩) n c] w fun e w' => ∃ v', e = .returned v' ∧ Ow 66 w.heap.size w' v' n (u32s L) ∧ v' ≠ .slice none 0 0 ∧ Below w.heap.size w w' :=
  Tryz.slices_Clone Tryz.t66 (.int .u32 0) 1 4 (by kernel_rfl) (by kernel_rfl) (by kernel_rfl) (by kernel_rfl) rfl (by decide) (fun _ => by kernel_rfl) b off n c (fl (u32s L) n) w (by rw [fl_len, Nat.mul_one]) (by unfold maxLen; omega) (by omega) (fun j u hj => by
    obtain ⟨hj2, rfl⟩ := fl_some _ n j u hj
    obtain ⟨b', off', e, hc⟩ := h.at (by omega)
    obtain ⟨rfl, rfl⟩ : b = b' ∧ off = off' := by simpa using e
    exact hc j hj2) (fun u hu => by
    obtain ⟨j, hj, rfl⟩ := List.mem_map.1 hu
    rfl)
theorem one_rd (w : World) (x : Nat) : Rd (w.alloc (.cells #[.int .u32 (x : Int)] 66)) (some ⟨w.heap.size, 0, none⟩) 1 1 (u32s fun _ => x) := by
  refine ⟨Nat.le_refl _, by decide, Or.inr ⟨_, _, rfl, fun j hj => ?_⟩⟩
  obtain rfl : j = 0 := by omega
  rw [World.cell?_alloc_new]; rfl
theorem Fo.Ow.other {E : TypeId} {B g : Nat} {w w' : World} {v : Value} {n : Nat} {V : Nat → Value} (h : Ow E B w v n V) (hg : w.grownBy w' (some g)) (hl : g < B) : Ow E B w' v n V :=
  World.ownsRow.kept h hg (by
    rcases hv : v.ownBlock with _ | k
    · exact Or.inl rfl
    · refine Or.inr fun e => ?_
      have := (World.ownsRow.lt h k hv).1
      have e' : k = g := Option.some.inj e
      omega)
theorem Fo.Ow.base {E : TypeId} {B B' : Nat} {w : World} {v : Value} {n : Nat} {V : Nat → Value} (h : Ow E B w v n V) (hB : B' ≤ B) : Ow E B' w v n V := by
  refine ⟨h.1, ?_⟩
  rcases h.2 with hn | ⟨g, cap, cur, rfl, hb, rest⟩
  · exact Or.inl hn
  · exact Or.inr ⟨g, cap, cur, rfl, Nat.le_trans hB hb, rest⟩
theorem blk_cat (N i x : Nat) (hx : x = N / 1000000000 ^ i % 1000000000) : ∀ j, j < i + 1 → catV (u32s (bd N)) i (u32s fun _ => x) j = u32s (bd N) j := fun j hj => by
  unfold catV
  split
  · rfl
  · obtain rfl : j = i := by omega
    unfold u32s; rw [hx]; rfl
theorem pos_ln {M : Nat} (h : M ≠ 0) : 0 < ln M := by rw [ln_pos M h]; omega
set_option maxHeartbeats 4000000 in
theorem blocks_any (b off n c : Nat) (L : Nat → Nat) (w : World) (hr : Rd w (some ⟨b, off, none⟩) n c (u32s L)) (hL : ∀ j, L j < 4294967296) (hn : n ≤ 100000) (N : Nat) (hN : lv L n = N) :
    Calls Tryz.prog 79 #[.slice (some ⟨b, off, none⟩) n c] w fun e w' => (∃ a' c', e = .returned (.slice a' (bl N) c') ∧ Ow 66 w.heap.size w' (.slice a' (bl N) c') (bl N) (u32s (bd N))) ∧ Below w.heap.size w w' := by
  have HC := clone_any b off n c L w hr hn
  have HN : Hid (lv L n = N) := hN
  have HL : Hid (∀ j, L j < 4294967296) := hL
  have hbl : bl N ≤ 200000 := Nat.le_trans (bl_room N n (by rw [← hN]; exact lv_lt n fun j _ => hL j)) (by omega)
  clear hr hN hL
  go_enter Tryz.func79, Tryz.ntmps79
  go_wp2_with (go_at_call 100; fail)
  refine HC.mono ?_
  rintro e w1 ⟨v', rfl, hO, hne, hB⟩
  rcases hO.wt with ⟨rfl, -⟩ | ⟨g, cap, rfl, hg, hcap, hcm, hW⟩
  · exact absurd rfl hne
  have HT : Hid (Calls Tryz.prog 71 #[.slice (some ⟨g, 0, none⟩) n cap] w1 fun e w' => e = .returned (.slice (some ⟨g, 0, none⟩) (ln N) cap) ∧ w' = w1) := trim_any _ n cap L w1 (hW.rd hcap hcm) HL.out N HN.out
  have hlN := (hW.rd hcap hcm).trim HL.out HN.out
  have HW1 : Hid (Wt w1 g (ln N) (dg N)) := hW.head hlN.1 (fun j hj => by rw [← HN.out, dg_lv L n (fun j _ => HL.out j) j (by omega)])
  have hg1 : g < w1.heap.size := hW.lt
  have HB1 : Hid (Below w.heap.size w w1) := hB
  have HB' : Hid (w.heap.size ≤ w1.heap.size) := hB.size
  have hlc : ln N ≤ n := hlN.1
  clear hlN hO hne hB hW HC HL HN
  go_wp2_with (go_at_call 71; refine HT.out.mono ?_; rintro e w' ⟨rfl, hw⟩; replace hw := hw.symm; subst hw)
  clear HT
  go_loopw [2, 3] (fun v2 v3 wq => ∃ (i M : Nat) (a2 : Option Addr) (c2 : Nat), i ≤ bl N ∧ v2 = .slice a2 i c2 ∧ v3 = .slice (some ⟨g, 0, none⟩) (ln M) cap ∧ ln M ≤ n ∧ Hid (M = N / 1000000000 ^ i) ∧ Hid (Ow 66 w1.heap.size wq (.slice a2 i c2) i (u32s (bd N))) ∧ Hid (Wt wq g (ln M) (dg M)) ∧ Hid (Below w.heap.size w wq) ∧ Hid (w1.heap.size ≤ wq.heap.size)) (fun v2 _ _ => bl N - sLen v2)
  case atStart => exact ⟨0, N, none, 0, Nat.zero_le _, rfl, rfl, hlc, by show N = _; rw [Nat.pow_zero, Nat.div_one], Ow.nil _ _ _ _, HW1, HB1, Nat.le_refl _⟩
  case round =>
    obtain ⟨i, M, a2, c2, hi, rfl, rfl, hlM, HM, HO, HW, HB, HS⟩ := hrel
    rename World => wq
    clear HW1 HB1
    by_cases h0 : M = 0
    · have hib : i = bl N := by
        rcases Nat.lt_or_ge i (bl N) with h | h
        · have h1 := div_pos_of N i h
          have h2 := HM.out
          omega
        · omega
      subst hib
      have hl0 : ln M = 0 := by rw [h0, ln_zero]
      rw [hl0]
      have HO' : Hid (Ow 66 w.heap.size wq (.slice a2 (bl N) c2) (bl N) (u32s (bd N))) := by
        have hs := HB'.out
        exact HO.out.base hs
      clear HM HW HS h0 hl0 HO
      go_wp2
      go_ret
      exact ⟨⟨a2, c2, rfl, HO'.out⟩, HB.out⟩
    · have hpos : (0 : Int) < (ln M : Int) := by have := pos_ln h0; omega
      have hMV : lv (dg M) (ln M) = M := lv_ln M
      obtain ⟨r, hr⟩ : ∃ r, r = M % 1000000000 := ⟨_, rfl⟩
      have HD : Hid (Calls Tryz.prog 101 #[.slice (some ⟨g, 0, none⟩) (ln M) cap, .int .u64 1000000000] wq fun e w' => e = .returned (.int .u32 (r : Int)) ∧ (∃ K, Wt w' g (ln M) K ∧ (∀ j, K j < 4294967296) ∧ lv K (ln M) = M / 1000000000) ∧ wq.grownBy w' (some g)) := by
        rw [hr]
        exact divide_any g (ln M) cap (dg M) wq HW.out (dg_lt M) (by omega) (by omega) hcm M hMV
      clear hMV
      have HX : Hid (∀ j, j < i + 1 → catV (u32s (bd N)) i (u32s fun _ => r) j = u32s (bd N) j) := blk_cat N i r (by rw [hr, HM.out])
      have HP : Hid (i < bl N) := lt_of_div N i (by rw [← HM.out]; exact h0)
      have HM' : Hid (M / 1000000000 = N / 1000000000 ^ (i + 1)) := by
        show M / 1000000000 = _
        rw [HM.out, div_step]
      clear HM HW h0 hr
      go_wp2_with (go_at_call 101; fail)
      refine HD.out.mono ?_
      rintro e w2 ⟨rfl, ⟨K, hK, hKd, hKv⟩, hG⟩
      have HO2 : Hid (Ow 66 w1.heap.size w2 (.slice a2 i c2) i (u32s (bd N))) := HO.out.other hG hg1
      have HB2 : Hid (Below w.heap.size w w2) := HB.out.grown hG (by have := HS.out; have := HB'.out; omega) (fun k hk => by
        have : g = k := Option.some.inj hk
        omega)
      have HS2 : Hid (w1.heap.size ≤ w2.heap.size) := Nat.le_trans HS.out hG.size
      have HR2 : Hid (Rd (w2.alloc (.cells #[.int .u32 (r : Int)] 66)) (some ⟨w2.heap.size, 0, none⟩) 1 1 (u32s fun _ => r)) := one_rd w2 _
      have HSA : Hid (w1.heap.size ≤ (w2.alloc (.cells #[.int .u32 (r : Int)] 66)).heap.size) := by
        show _ ≤ _
        have := HS2.out
        simp; omega
      have HLE : Hid (i + 1 ≤ 1000000000) := by have := HP.out; show i + 1 ≤ 1000000000; omega
      have HK : Hid (Wt w2 g (ln M) K) := hK
      have HKd : Hid (∀ j, K j < 4294967296) := hKd
      have HKv : Hid (lv K (ln M) = M / 1000000000) := hKv
      clear hK hKd hKv hG HD HO HB HS
      go_wp2_with (at_builtin; refine wpList_app eU32 rfl _ _ rfl (HO2.out.alloc _) HSA.out HR2.out (u32s_one _ 1) (i + 1) rfl HLE.out (u32s (bd N)) HX.out rfl rfl ?_; intro a3 c3 w3 hO3 hG3)
      have HO3 : Hid (Ow 66 w1.heap.size w3 (.slice a3 (i + 1) c3) (i + 1) (u32s (bd N))) := hO3
      have hne : ∀ k, (Value.slice a2 i c2).ownBlock = some k → w1.heap.size ≤ k := HO2.out.row
      have HK3 : Hid (Wt w3 g (ln M) K) := HK.out.kept ((hG3.block g (by have := HS2.out; simp; omega) (fun e => by have := hne g e.symm; omega)).trans (Below.heap_alloc _ _ _ (by have := HS2.out; omega)))
      have HB3 : Hid (Below w.heap.size w w3) := (HB2.out.alloc HB2.out.size _).grown hG3 (by have := HB2.out.size; simp; omega) (fun k hk => by have := hne k hk; have := HB'.out; omega)
      have HS3 : Hid (w1.heap.size ≤ w3.heap.size) := Nat.le_trans HSA.out hG3.size
      have hlm : ln M ≤ cap := by omega
      have hT := HK3.out.rd (c := cap) hlm hcm
      have HT : Hid (Calls Tryz.prog 71 #[.slice (some ⟨g, 0, none⟩) (ln M) cap] w3 fun e w' => e = .returned (.slice (some ⟨g, 0, none⟩) (ln (M / 1000000000)) cap) ∧ w' = w3) := trim_any _ (ln M) cap K w3 hT HKd.out _ HKv.out
      have hl2 := (hT.trim HKd.out HKv.out).1
      have HK4 : Hid (Wt w3 g (ln (M / 1000000000)) (dg (M / 1000000000))) := HK3.out.head hl2 (fun j hj => by rw [← HKv.out, dg_lv K (ln M) (fun j _ => HKd.out j) j (by omega)])
      have hln : ln (M / 1000000000) ≤ n := by omega
      have hib : i + 1 ≤ bl N := HP.out
      clear hT hl2 hO3 hG3 hne HK3 HK HKd HKv HO2 HB2 HS2 HR2 HSA HLE HX
      obtain ⟨M', hM'⟩ : ∃ M', M' = M / 1000000000 := ⟨_, rfl⟩
      rw [← hM'] at HT HK4 HM' hln
      clear hM'
      go_wp2_with (go_at_call 71; refine HT.out.mono ?_; rintro e w' ⟨rfl, hw⟩; replace hw := hw.symm; subst hw)
      go_roundw
      case rel => exact ⟨i + 1, M', a3, c3, hib, rfl, rfl, hln, HM', HO3, HK4, HB3, HS3⟩
      case measure => simp [sLen]; omega
end Go.Proofs.YtjdbapkmaggllaaGreatDoor
