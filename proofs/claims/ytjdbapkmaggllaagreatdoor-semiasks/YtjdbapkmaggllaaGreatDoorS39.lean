/- Plain mathematics of numbers in blocks of nine decimal digits. nat's decimalBlocks: a number in blocks of nine decimal digits, the least first. -/
import Derived.Test.YtjdbapkmaggllaaGreatDoorS00
import Derived.Lib.ItoaNum
import Derived.Test.YtjdbapkmaggllaaGreatDoorS38
import Derived.Test.YtjdbapkmaggllaaGreatDoorS17
import Derived.WalkKit
namespace Go.Proofs.YtjdbapkmaggllaaGreatDoor.Fo
set_option maxRecDepth 100000

/-- The block at a place. -/
def bd (N j : Nat) : Nat := N / 1000000000 ^ j % 1000000000
/-- How many blocks a number has. -/
def bl (N : Nat) : Nat := if h : N = 0 then 0 else bl (N / 1000000000) + 1
termination_by N
decreasing_by exact Nat.div_lt_self (by omega) (by decide)
theorem dp (n : Nat) : 0 < 1000000000 ^ n := Nat.pow_pos (by decide)
theorem bd_lt (N j : Nat) : bd N j < 1000000000 := Nat.mod_lt _ (by decide)
theorem bl_zero : bl 0 = 0 := by unfold bl; simp
theorem bl_pos (N : Nat) (h : N ≠ 0) : bl N = bl (N / 1000000000) + 1 := by rw [bl, dif_neg h]
theorem bl_le : ∀ k N, N < 1000000000 ^ k → bl N ≤ k
  | 0, N, h => by
    have : N = 0 := by rw [Nat.pow_zero] at h; omega
    rw [this, bl_zero]; exact Nat.le_refl _
  | k + 1, N, h => by
    by_cases h0 : N = 0
    · rw [h0, bl_zero]; omega
    · rw [bl_pos N h0]
      have : N / 1000000000 < 1000000000 ^ k := by
        rw [Nat.pow_succ] at h
        exact Nat.div_lt_of_lt_mul (by rw [Nat.mul_comm]; exact h)
      have := bl_le k _ this
      omega
theorem lt_bl : ∀ k N, bl N = k → N < 1000000000 ^ k
  | 0, N, h => by
    by_cases h0 : N = 0
    · rw [h0]; decide
    · rw [bl_pos N h0] at h; omega
  | k + 1, N, h => by
    by_cases h0 : N = 0
    · rw [h0]; exact dp _
    · rw [bl_pos N h0] at h
      have h1 := lt_bl k (N / 1000000000) (by omega)
      rw [Nat.pow_succ]
      have h2 := Nat.div_add_mod N 1000000000
      have h3 := Nat.mod_lt N (show 0 < 1000000000 by decide)
      omega
theorem ge_bl : ∀ k N, bl N = k + 1 → 1000000000 ^ k ≤ N
  | 0, N, h => by
    by_cases h0 : N = 0
    · rw [h0, bl_zero] at h; omega
    · rw [Nat.pow_zero]; omega
  | k + 1, N, h => by
    by_cases h0 : N = 0
    · rw [h0, bl_zero] at h; omega
    · rw [bl_pos N h0] at h
      have h1 := ge_bl k (N / 1000000000) (by omega)
      rw [Nat.pow_succ]
      have h2 := Nat.div_add_mod N 1000000000
      omega
theorem bl_room (N n : Nat) (h : N < 4294967296 ^ n) : bl N ≤ 2 * n := by
  refine bl_le _ _ (Nat.lt_of_lt_of_le h ?_)
  rw [Nat.pow_mul]
  exact Nat.pow_le_pow_left (by decide) n
theorem div_pos_of (N i : Nat) (h : i < bl N) : 0 < N / 1000000000 ^ i := by
  obtain ⟨k, hk⟩ : ∃ k, bl N = k + 1 := ⟨bl N - 1, by omega⟩
  have h1 := ge_bl k N hk
  have h2 : 1000000000 ^ i ≤ 1000000000 ^ k := Nat.pow_le_pow_right (by decide) (by omega)
  exact Nat.div_pos (by omega) (dp i)
theorem lt_of_div (N i : Nat) (h : N / 1000000000 ^ i ≠ 0) : i < bl N := by
  rcases Nat.lt_or_ge i (bl N) with h' | h'
  · exact h'
  · exfalso
    have h1 := lt_bl _ N rfl
    have h2 : 1000000000 ^ bl N ≤ 1000000000 ^ i := Nat.pow_le_pow_right (by decide) h'
    exact h (Nat.div_eq_of_lt (by omega))
theorem div_end (N : Nat) : N / 1000000000 ^ bl N = 0 := Nat.div_eq_of_lt (lt_bl _ N rfl)
theorem div_step (N i : Nat) : N / 1000000000 ^ i / 1000000000 = N / 1000000000 ^ (i + 1) := by rw [Nat.div_div_eq_div_mul, Nat.pow_succ]
/-- A number's decimal digits, so many of them. -/
def padk : Nat → Nat → List UInt8
  | 0, _ => []
  | k + 1, r => padk k (r / 10) ++ [UInt8.ofNat (48 + r % 10)]
theorem dec_big (u : Nat) (h : ¬ u < 10) : Lib.decDigits u = Lib.decDigits (u / 10) ++ [UInt8.ofNat (48 + u % 10)] := by rw [Lib.decDigits, dif_neg h]
theorem dec_pad : ∀ k q r, 0 < q → r < 10 ^ k → Lib.decDigits (q * 10 ^ k + r) = Lib.decDigits q ++ padk k r
  | 0, q, r, hq, hr => by
    have : r = 0 := by rw [Nat.pow_zero] at hr; omega
    rw [this, Nat.pow_zero, Nat.mul_one, Nat.add_zero, padk, List.append_nil]
  | k + 1, q, r, hq, hr => by
    have hp : 0 < 10 ^ k := Nat.pow_pos (by decide)
    have h10 : q * 10 ^ (k + 1) = 10 * (q * 10 ^ k) := by rw [Nat.pow_succ, ← Nat.mul_assoc, Nat.mul_comm]
    have hq1 : 0 < q * 10 ^ k := Nat.mul_pos hq hp
    rw [dec_big _ (by omega), show (q * 10 ^ (k + 1) + r) / 10 = q * 10 ^ k + r / 10 by omega, show (q * 10 ^ (k + 1) + r) % 10 = r % 10 by omega,
      dec_pad k q (r / 10) hq (by rw [Nat.pow_succ] at hr; omega), padk, List.append_assoc]
theorem padk_zero : ∀ k, padk k 0 = List.replicate k 48
  | 0 => rfl
  | k + 1 => by
    rw [padk, show 0 / 10 = 0 from rfl, padk_zero k, List.replicate_succ']
    rfl
theorem padk_eq : ∀ k r, 1 ≤ k → r < 10 ^ k → padk k r = List.replicate (k - (Lib.decDigits r).length) 48 ++ Lib.decDigits r
  | 0, _, h, _ => by omega
  | k + 1, r, _, hr => by
    by_cases h : r < 10
    · rw [padk, show r / 10 = 0 by omega, padk_zero, Lib.decDigits_one h, show r % 10 = r by omega]
      rfl
    · have hk : 1 ≤ k := by
        rcases Nat.eq_zero_or_pos k with h0 | h0
        · rw [h0] at hr; omega
        · exact h0
      rw [padk, padk_eq k (r / 10) hk (by rw [Nat.pow_succ] at hr; omega), dec_big r h, List.append_assoc, List.length_append]
      simp only [List.length_singleton]
      rw [show k + 1 - ((Lib.decDigits (r / 10)).length + 1) = k - (Lib.decDigits (r / 10)).length by omega]
theorem dec_len9 (r : Nat) (h : r < 1000000000) : (Lib.decDigits r).length ≤ 9 := by
  have h1 := padk_eq 9 r (by decide) (by simpa using h)
  have h2 : ∀ k r, (padk k r).length = k := fun k => by
    induction k with
    | zero => intro r; rfl
    | succ k ih => intro r; rw [padk, List.length_append, ih]; rfl
  have h3 := congrArg List.length h1
  rw [h2, List.length_append] at h3
  omega
/-- One block more. -/
theorem dec_block (N i : Nat) (h : 0 < N / 1000000000 ^ (i + 1)) : Lib.decDigits (N / 1000000000 ^ i) = Lib.decDigits (N / 1000000000 ^ (i + 1)) ++ (List.replicate (9 - (Lib.decDigits (bd N i)).length) 48 ++ Lib.decDigits (bd N i)) := by
  have h1 := dec_pad 9 (N / 1000000000 ^ (i + 1)) (bd N i) h (by have := bd_lt N i; simpa using this)
  rw [padk_eq 9 (bd N i) (by decide) (by have := bd_lt N i; simpa using this)] at h1
  rw [← h1]
  congr 1
  rw [← div_step]
  unfold bd
  have := Nat.div_add_mod (N / 1000000000 ^ i) 1000000000
  rw [Nat.mul_comm] at this
  exact this.symm
theorem dec_top (N i : Nat) (h : bl N = i + 1) : Lib.decDigits (N / 1000000000 ^ i) = Lib.decDigits (bd N i) := by
  unfold bd
  rw [Nat.mod_eq_of_lt]
  have h1 := lt_bl _ N h
  rw [Nat.pow_succ] at h1
  exact Nat.div_lt_of_lt_mul h1
end Go.Proofs.YtjdbapkmaggllaaGreatDoor.Fo

namespace Go.Proofs.YtjdbapkmaggllaaGreatDoor
open Go.RowKit Fo
set_option maxRecDepth 100000

theorem clone_any (b off n c : Nat) (L : Nat → Nat) (w : World) (h : Rd w (some ⟨b, off, none⟩) n c (u32s L)) (hn : n ≤ 100000) :
    Calls Tryz.prog 100 #[.slice (some ⟨b, off, none⟩) n c] w fun e w' => ∃ v', e = .returned v' ∧ Ow 66 w.heap.size w' v' n (u32s L) ∧ v' ≠ .slice none 0 0 ∧ Below w.heap.size w w' :=
  Tryz.slices_Clone Tryz.t66 (.int .u32 0) 1 4 (by kernel_rfl) (by kernel_rfl) (by kernel_rfl) (by kernel_rfl) rfl (by decide) (fun _ => by kernel_rfl) b off n c (fl (u32s L) n) w (by rw [fl_len, Nat.mul_one]) (by unfold maxLen; omega) (by omega) (fun j u hj => by
    obtain ⟨hj2, rfl⟩ := fl_some _ n j u hj
    obtain ⟨b', off', e, hc⟩ := h.at (by omega)
    obtain ⟨rfl, rfl⟩ : b = b' ∧ off = off' := by simpa using e
    exact hc j hj2) (fun u hu => by
    obtain ⟨j, hj, rfl⟩ := List.mem_map.1 hu
    rfl)
theorem one_rd (w : World) (x : Nat) : Rd (w.alloc (.cells #[.int .u32 (x : Int)] 66)) (some ⟨w.heap.size, 0, none⟩) 1 1 (u32s fun _ => x) := by
  refine ⟨Nat.le_refl _, by decide, Or.inr ⟨_, _, rfl, fun j hj => ?_⟩⟩
  obtain rfl : j = 0 := by omega
  rw [World.cell?_alloc_new]; rfl
theorem Fo.Ow.other {E : TypeId} {B g : Nat} {w w' : World} {v : Value} {n : Nat} {V : Nat → Value} (h : Ow E B w v n V) (hg : w.grownBy w' (some g)) (hl : g < B) : Ow E B w' v n V :=
  World.ownsRow.kept h hg (by
    rcases hv : v.ownBlock with _ | k
    · exact Or.inl rfl
    · refine Or.inr fun e => ?_
      have := (World.ownsRow.lt h k hv).1
      have e' : k = g := Option.some.inj e
      omega)
theorem Fo.Ow.base {E : TypeId} {B B' : Nat} {w : World} {v : Value} {n : Nat} {V : Nat → Value} (h : Ow E B w v n V) (hB : B' ≤ B) : Ow E B' w v n V := by
  refine ⟨h.1, ?_⟩
  rcases h.2 with hn | ⟨g, cap, cur, rfl, hb, rest⟩
  · exact Or.inl hn
  · exact Or.inr ⟨g, cap, cur, rfl, Nat.le_trans hB hb, rest⟩
theorem blk_cat (N i x : Nat) (hx : x = N / 1000000000 ^ i % 1000000000) : ∀ j, j < i + 1 → catV (u32s (bd N)) i (u32s fun _ => x) j = u32s (bd N) j := fun j hj => by
  unfold catV
  split
  · rfl
  · obtain rfl : j = i := by omega
    unfold u32s; rw [hx]; rfl
theorem pos_ln {M : Nat} (h : M ≠ 0) : 0 < ln M := by rw [ln_pos M h]; omega
set_option maxHeartbeats 4000000 in
theorem blocks_any (b off n c : Nat) (L : Nat → Nat) (w : World) (hr : Rd w (some ⟨b, off, none⟩) n c (u32s L)) (hL : ∀ j, L j < 4294967296) (hn : n ≤ 100000) (N : Nat) (hN : lv L n = N) :
    Calls Tryz.prog 79 #[.slice (some ⟨b, off, none⟩) n c] w fun e w' => (∃ a' c', e = .returned (.slice a' (bl N) c') ∧ Ow 66 w.heap.size w' (.slice a' (bl N) c') (bl N) (u32s (bd N))) ∧ Below w.heap.size w w' := by
  have HC := clone_any b off n c L w hr hn
  have HN : Hid (lv L n = N) := hN
  have HL : Hid (∀ j, L j < 4294967296) := hL
  have hbl : bl N ≤ 200000 := Nat.le_trans (bl_room N n (by rw [← hN]; exact lv_lt n fun j _ => hL j)) (by omega)
  clear hr hN hL
  go_enter Tryz.func79, Tryz.ntmps79
  go_wp2_with (go_at_call 100; fail)
  refine HC.mono ?_
  rintro e w1 ⟨v', rfl, hO, hne, hB⟩
  rcases hO.wt with ⟨rfl, -⟩ | ⟨g, cap, rfl, hg, hcap, hcm, hW⟩
  · exact absurd rfl hne
  have HT : Hid (Calls Tryz.prog 71 #[.slice (some ⟨g, 0, none⟩) n cap] w1 fun e w' => e = .returned (.slice (some ⟨g, 0, none⟩) (ln N) cap) ∧ w' = w1) := trim_any _ n cap L w1 (hW.rd hcap hcm) HL.out N HN.out
  have hlN := (hW.rd hcap hcm).trim HL.out HN.out
  have HW1 : Hid (Wt w1 g (ln N) (dg N)) := hW.head hlN.1 (fun j hj => by rw [← HN.out, dg_lv L n (fun j _ => HL.out j) j (by omega)])
  have hg1 : g < w1.heap.size := hW.lt
  have HB1 : Hid (Below w.heap.size w w1) := hB
  have HB' : Hid (w.heap.size ≤ w1.heap.size) := hB.size
  have hlc : ln N ≤ n := hlN.1
  clear hlN hO hne hB hW HC HL HN
  go_wp2_with (go_at_call 71; refine HT.out.mono ?_; rintro e w' ⟨rfl, hw⟩; replace hw := hw.symm; subst hw)
  clear HT
  go_loopw [2, 3] (fun v2 v3 wq => ∃ (i M : Nat) (a2 : Option Addr) (c2 : Nat), i ≤ bl N ∧ v2 = .slice a2 i c2 ∧ v3 = .slice (some ⟨g, 0, none⟩) (ln M) cap ∧ ln M ≤ n ∧ Hid (M = N / 1000000000 ^ i) ∧ Hid (Ow 66 w1.heap.size wq (.slice a2 i c2) i (u32s (bd N))) ∧ Hid (Wt wq g (ln M) (dg M)) ∧ Hid (Below w.heap.size w wq) ∧ Hid (w1.heap.size ≤ wq.heap.size)) (fun v2 _ _ => bl N - sLen v2)
  case atStart => exact ⟨0, N, none, 0, Nat.zero_le _, rfl, rfl, hlc, by show N = _; rw [Nat.pow_zero, Nat.div_one], Ow.nil _ _ _ _, HW1, HB1, Nat.le_refl _⟩
  case round =>
    obtain ⟨i, M, a2, c2, hi, rfl, rfl, hlM, HM, HO, HW, HB, HS⟩ := hrel
    rename World => wq
    clear HW1 HB1
    by_cases h0 : M = 0
    · have hib : i = bl N := by
        rcases Nat.lt_or_ge i (bl N) with h | h
        · have h1 := div_pos_of N i h
          have h2 := HM.out
          omega
        · omega
      subst hib
      have hl0 : ln M = 0 := by rw [h0, ln_zero]
      rw [hl0]
      have HO' : Hid (Ow 66 w.heap.size wq (.slice a2 (bl N) c2) (bl N) (u32s (bd N))) := by
        have hs := HB'.out
        exact HO.out.base hs
      clear HM HW HS h0 hl0 HO
      go_wp2
      go_ret
      exact ⟨⟨a2, c2, rfl, HO'.out⟩, HB.out⟩
    · have hpos : (0 : Int) < (ln M : Int) := by have := pos_ln h0; omega
      have hMV : lv (dg M) (ln M) = M := lv_ln M
      obtain ⟨r, hr⟩ : ∃ r, r = M % 1000000000 := ⟨_, rfl⟩
      have HD : Hid (Calls Tryz.prog 101 #[.slice (some ⟨g, 0, none⟩) (ln M) cap, .int .u64 1000000000] wq fun e w' => e = .returned (.int .u32 (r : Int)) ∧ (∃ K, Wt w' g (ln M) K ∧ (∀ j, K j < 4294967296) ∧ lv K (ln M) = M / 1000000000) ∧ wq.grownBy w' (some g)) := by
        rw [hr]
        exact divide_any g (ln M) cap (dg M) wq HW.out (dg_lt M) (by omega) (by omega) hcm M hMV
      clear hMV
      have HX : Hid (∀ j, j < i + 1 → catV (u32s (bd N)) i (u32s fun _ => r) j = u32s (bd N) j) := blk_cat N i r (by rw [hr, HM.out])
      have HP : Hid (i < bl N) := lt_of_div N i (by rw [← HM.out]; exact h0)
      have HM' : Hid (M / 1000000000 = N / 1000000000 ^ (i + 1)) := by
        show M / 1000000000 = _
        rw [HM.out, div_step]
      clear HM HW h0 hr
      go_wp2_with (go_at_call 101; fail)
      refine HD.out.mono ?_
      rintro e w2 ⟨rfl, ⟨K, hK, hKd, hKv⟩, hG⟩
      have HO2 : Hid (Ow 66 w1.heap.size w2 (.slice a2 i c2) i (u32s (bd N))) := HO.out.other hG hg1
      have HB2 : Hid (Below w.heap.size w w2) := HB.out.grown hG (by have := HS.out; have := HB'.out; omega) (fun k hk => by
        have : g = k := Option.some.inj hk
        omega)
      have HS2 : Hid (w1.heap.size ≤ w2.heap.size) := Nat.le_trans HS.out hG.size
      have HR2 : Hid (Rd (w2.alloc (.cells #[.int .u32 (r : Int)] 66)) (some ⟨w2.heap.size, 0, none⟩) 1 1 (u32s fun _ => r)) := one_rd w2 _
      have HSA : Hid (w1.heap.size ≤ (w2.alloc (.cells #[.int .u32 (r : Int)] 66)).heap.size) := by
        show _ ≤ _
        have := HS2.out
        simp; omega
      have HLE : Hid (i + 1 ≤ 1000000000) := by have := HP.out; show i + 1 ≤ 1000000000; omega
      have HK : Hid (Wt w2 g (ln M) K) := hK
      have HKd : Hid (∀ j, K j < 4294967296) := hKd
      have HKv : Hid (lv K (ln M) = M / 1000000000) := hKv
      clear hK hKd hKv hG HD HO HB HS
      go_wp2_with (at_builtin; refine wpList_app eU32 rfl _ _ rfl (HO2.out.alloc _) HSA.out HR2.out (u32s_one _ 1) (i + 1) rfl HLE.out (u32s (bd N)) HX.out rfl rfl ?_; intro a3 c3 w3 hO3 hG3)
      have HO3 : Hid (Ow 66 w1.heap.size w3 (.slice a3 (i + 1) c3) (i + 1) (u32s (bd N))) := hO3
      have hne : ∀ k, (Value.slice a2 i c2).ownBlock = some k → w1.heap.size ≤ k := HO2.out.row
      have HK3 : Hid (Wt w3 g (ln M) K) := HK.out.kept ((hG3.block g (by have := HS2.out; simp; omega) (fun e => by have := hne g e.symm; omega)).trans (Below.heap_alloc _ _ _ (by have := HS2.out; omega)))
      have HB3 : Hid (Below w.heap.size w w3) := (HB2.out.alloc HB2.out.size _).grown hG3 (by have := HB2.out.size; simp; omega) (fun k hk => by have := hne k hk; have := HB'.out; omega)
      have HS3 : Hid (w1.heap.size ≤ w3.heap.size) := Nat.le_trans HSA.out hG3.size
      have hlm : ln M ≤ cap := by omega
      have hT := HK3.out.rd (c := cap) hlm hcm
      have HT : Hid (Calls Tryz.prog 71 #[.slice (some ⟨g, 0, none⟩) (ln M) cap] w3 fun e w' => e = .returned (.slice (some ⟨g, 0, none⟩) (ln (M / 1000000000)) cap) ∧ w' = w3) := trim_any _ (ln M) cap K w3 hT HKd.out _ HKv.out
      have hl2 := (hT.trim HKd.out HKv.out).1
      have HK4 : Hid (Wt w3 g (ln (M / 1000000000)) (dg (M / 1000000000))) := HK3.out.head hl2 (fun j hj => by rw [← HKv.out, dg_lv K (ln M) (fun j _ => HKd.out j) j (by omega)])
      have hln : ln (M / 1000000000) ≤ n := by omega
      have hib : i + 1 ≤ bl N := HP.out
      clear hT hl2 hO3 hG3 hne HK3 HK HKd HKv HO2 HB2 HS2 HR2 HSA HLE HX
      obtain ⟨M', hM'⟩ : ∃ M', M' = M / 1000000000 := ⟨_, rfl⟩
      rw [← hM'] at HT HK4 HM' hln
      clear hM'
      go_wp2_with (go_at_call 71; refine HT.out.mono ?_; rintro e w' ⟨rfl, hw⟩; replace hw := hw.symm; subst hw)
      go_roundw
      case rel => exact ⟨i + 1, M', a3, c3, hib, rfl, rfl, hln, HM', HO3, HK4, HB3, HS3⟩
      case measure => simp [sLen]; omega
end Go.Proofs.YtjdbapkmaggllaaGreatDoor
