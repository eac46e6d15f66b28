/- unionSizes. -/
import Derived.Test.YteaajhpgmndomaaAbs
import Derived.Test.YteaajhpgmndomaaUni2
namespace Go.Proofs.Yteaajhpgmndomaa
open Go.RowKit Fo
set_option maxRecDepth 100000

noncomputable def eI32 : Elt Try.prog 73 21 := ⟨Try.t21, .int .i32 0, 4, Try.underlying73, by kernel_rfl, by kernel_rfl, by kernel_rfl, by kernel_rfl, rfl, by decide⟩
namespace Fo
/-- The size of a union of pairs, row by row. -/
def szs (L R : List (List Int)) (k : Nat) : Nat := (uniL (gs L (k / R.length)) (gs R (k % R.length))).length
def szV (L R : List (List Int)) (k : Nat) : Value := .int .i32 (szs L R k)
theorem szs_at (L R : List (List Int)) (i j : Nat) (hj : j < R.length) : szs L R (i * R.length + j) = (uniL (gs L i) (gs R j)).length := by
  unfold szs
  have h : 0 < R.length := by omega
  rw [Nat.mul_comm, Nat.mul_add_div h, Nat.mul_add_mod, Nat.div_eq_of_lt hj, Nat.mod_eq_of_lt hj, Nat.add_zero]
end Fo
set_option maxHeartbeats 16000000 in
theorem sizes_any (w : World) (vl vr : Value) (L R : List (List Int)) (hL : IsLL w vl L) (hR : IsLL w vr R) (rL : ∀ a, a ∈ L → Rise a) (rR : ∀ a, a ∈ R → Rise a) (lL : ∀ a, a ∈ L → a.length ≤ 10000) (lR : ∀ a, a ∈ R → a.length ≤ 10000) (nL : L.length ≤ 5000) (nR : R.length ≤ 5000) :
    Calls Try.prog 60 #[vl, vr] w fun e w' => (∃ u, e = .returned u ∧ Ow 21 w.heap.size w' u (L.length * R.length) (szV L R)) ∧ Below w.heap.size w w' := by
  obtain ⟨la, lc, VL, rfl, hrl, hsl⟩ := hL
  obtain ⟨ra, rc, VR, rfl, hrr, hsr⟩ := hR
  obtain ⟨n, hn⟩ : ∃ n, n = L.length := ⟨_, rfl⟩
  obtain ⟨m, hm⟩ : ∃ m, m = R.length := ⟨_, rfl⟩
  obtain ⟨P, hP⟩ : ∃ P, P = n * m := ⟨_, rfl⟩
  rw [← hn] at hrl hsl nL ⊢
  rw [← hm] at hrr hsr nR ⊢
  have HNq : Hid (n = L.length) := hn
  have HMq : Hid (m = R.length) := hm
  have hPle : P ≤ 25000000 := by rw [hP]; exact Nat.le_trans (Nat.mul_le_mul nL nR) (by decide)
  have hmul : (n : Int) * (m : Int) = (P : Int) := by rw [hP, Int.natCast_mul]
  have HPq : Hid (P = n * m) := hP
  have HRL : Hid (Rd w la n lc VL) := hrl
  have HRR : Hid (Rd w ra m rc VR) := hrr
  have HSL : Hid (∀ j, j < n → IsL w (VL j) (gs L j)) := hsl
  have HSR : Hid (∀ j, j < m → IsL w (VR j) (gs R j)) := hsr
  have HrL : Hid (∀ j, j < n → Rise (gs L j) ∧ (gs L j).length ≤ 10000) := fun j hj => by have := gs_mem.2 ⟨j, hn ▸ hj, rfl⟩; exact ⟨rL _ this, lL _ this⟩
  have HrR : Hid (∀ j, j < m → Rise (gs R j) ∧ (gs R j).length ≤ 10000) := fun j hj => by have := gs_mem.2 ⟨j, hm ▸ hj, rfl⟩; exact ⟨rR _ this, lR _ this⟩
  have hl1 := hrl.1
  have hl2 := hrl.2.1
  have hr1 := hrr.1
  have hr2 := hrr.2.1
  rw [← hP]
  clear hrl hrr hsl hsr rL rR lL lR hn hm hP
  go_enter Try.func60, Try.ntmps60
  go_wp2_with (first
    | (at_make; refine wpList_make_own w rfl _ _ 73 rfl w.heap.size 21 eI32.i eI32.z 1 eI32.hT eI32.hi eI32.hz eI32.hsize _ _ _ P rfl rfl rfl (by rw [eI32.hby]; exact Nat.le_trans (Nat.mul_le_mul eI32.hb8 hPle) (by decide)) (by unfold maxLen; omega) (Nat.le_refl _) ?_
       intro w1 hO1 hG1
       have HO1 : Hid (Ow 21 w.heap.size w1 (.slice (some ⟨w.heap.size, 0, none⟩) 0 P) 0 (szV L R)) := hO1
       have HB1 : Hid (Below w.heap.size w w1) := (below_refl w).grown hG1 (Nat.le_refl _) fun k hk => by cases hk
       clear hO1 hG1))
  go_loopw [5, 18] (fun v5 v18 wr => ∃ (i k : Nat) (a5 : Option Addr) (c5 : Nat), v18 = .int .i64 i ∧ i ≤ n ∧ v5 = .slice a5 k c5 ∧ Hid (k = i * m) ∧ Hid (Ow 21 w.heap.size wr (.slice a5 k c5) k (szV L R)) ∧ Hid (Below w.heap.size w wr)) (fun _ v18 _ => n - (intOf v18).toNat)
  case atStart => exact ⟨0, 0, _, _, rfl, Nat.zero_le _, rfl, (Nat.zero_mul _).symm, HO1, HB1⟩
  case round =>
    obtain ⟨i, k, a5, c5, rfl, hi, rfl, HK, HO, HB⟩ := hrel
    rename World => wr
    by_cases hlt : i < n
    · obtain ⟨b, off, rfl, hcell⟩ := (HRL.out.below HB.out).at (by omega)
      have hci := hcell i hlt
      obtain ⟨sa, sc, hvi, hsd⟩ := id (HSL.out i hlt)
      rw [hvi] at hci
      have HSi : Hid (IsL w (.slice sa (gs L i).length sc) (gs L i)) := by have := HSL.out i hlt; rw [hvi] at this; exact this
      have j1 : (0 : Int) ≤ (i : Int) := by omega
      have j2 : (i : Int) < (n : Int) := by omega
      clear hcell hvi hsd
      go_wp2
      go_loopw [5, 24] (fun v5 v24 wq => ∃ (j h : Nat) (a6 : Option Addr) (c6 : Nat), v24 = .int .i64 j ∧ j ≤ m ∧ v5 = .slice a6 h c6 ∧ Hid (h = i * m + j) ∧ Hid (Ow 21 w.heap.size wq (.slice a6 h c6) h (szV L R)) ∧ Hid (Below w.heap.size w wq)) (fun _ v24 _ => m - (intOf v24).toNat)
      case atStart => exact ⟨0, k, a5, c5, rfl, Nat.zero_le _, rfl, HK, HO, HB⟩
      case round =>
        obtain ⟨j, h, a6, c6, rfl, hj, rfl, HH, HO2, HB2⟩ := hrel
        rename World => wq
        by_cases hlt2 : j < m
        · obtain ⟨b2, off2, rfl, hcell2⟩ := (HRR.out.below HB2.out).at (by omega)
          have hcj := hcell2 j hlt2
          obtain ⟨ta, tc, hvj, hsd2⟩ := id (HSR.out j hlt2)
          rw [hvj] at hcj
          have HSj : Hid (IsL w (.slice ta (gs R j).length tc) (gs R j)) := by have := HSR.out j hlt2; rw [hvj] at this; exact this
          have j3 : (0 : Int) ≤ (j : Int) := by omega
          have j4 : (j : Int) < (m : Int) := by omega
          have hul := uni2_len _ _ (HrL.out i hlt).1 (HrR.out j hlt2).1
          have hbl := (HrL.out i hlt).2
          have hbr := (HrR.out j hlt2).2
          have HSz : Hid (szs L R h = (uniL (gs L i) (gs R j)).length) := by
            show _ = _
            rw [HH.out, HMq.out]
            exact szs_at L R i j (by rw [← HMq.out]; exact hlt2)
          have HHb : Hid (h < P) := by
            show h < P
            rw [HH.out, HPq.out]
            have : (i + 1) * m ≤ n * m := Nat.mul_le_mul_right m hlt
            rw [Nat.add_mul, Nat.one_mul] at this
            omega
          obtain ⟨x, hx⟩ : ∃ x, x = (uniL (gs L i) (gs R j)).length := ⟨_, rfl⟩
          obtain ⟨c, hc⟩ : ∃ c, c = cnt (gs L i) (gs R j) := ⟨_, rfl⟩
          rw [← hx] at HSz
          rw [← hx, ← hc] at hul
          have HC := cnt_any wq _ _ (gs L i) (gs R j) (HSi.out.below HB2.out) (HSj.out.below HB2.out) (HrL.out i hlt).1 (HrR.out j hlt2).1
          rw [← hc] at HC
          obtain ⟨p, hp⟩ : ∃ p, p = (gs L i).length := ⟨_, rfl⟩
          obtain ⟨q, hq⟩ : ∃ q, q = (gs R j).length := ⟨_, rfl⟩
          rw [← hp] at hci hul hbl HC ⊢
          rw [← hq] at hcj hul hbr HC
          have hx2 : x ≤ 20000 := by omega
          have hsub : (p : Int) + (q : Int) - (c : Int) = (x : Int) := by omega
          have hh2 : h < P := HHb.out
          clear hcell2 hvj hsd2 hx hc hp hq HHb
          go_wp2_with (go_at_call 56; fail)
          refine HC.mono ?_
          rintro e w2 ⟨rfl, hw2⟩
          clear HC
          have HB3 : Hid (Below w.heap.size w w2) := below_step HB2.out hw2.below
          have HO3 : Hid (Ow 21 w.heap.size w2 (.slice a6 h c6) h (szV L R)) := HO2.out.below hw2.below
          clear hw2 HO2 hci hcj
          have HB4 : Hid (Below w.heap.size w (w2.alloc (.cells #[.int .i32 x] 21))) := HB3.out.alloc HB3.out.size _
          have HZq : Hid (∀ t, t < h + 1 → catV (szV L R) h (fun _ => .int .i32 x) t = szV L R t) := fun t ht => by
            unfold catV
            by_cases e : t < h
            · rw [if_pos e]
            · obtain rfl : t = h := by omega
              rw [if_neg e]
              unfold szV
              rw [HSz.out]
          go_wp2_with (at_builtin; refine wpList_app eI32 rfl _ _ rfl (HO3.out.alloc _) HB4.out.size (one_cell w2 _ (.int .i32 x)) (fun _ _ => rfl) (h + 1) rfl (by omega) (szV L R) HZq.out rfl rfl ?_; intro a7 c7 w7 hO7 hG7)
          have HO7 : Hid (Ow 21 w.heap.size w7 (.slice a7 (h + 1) c7) (h + 1) (szV L R)) := hO7
          have HB7 : Hid (Below w.heap.size w w7) := HB4.out.grown hG7 HB4.out.size fun k hk => HO3.out.row k hk
          have HH7 : Hid (h + 1 = i * m + (j + 1)) := by show _ = _; rw [HH.out]; omega
          clear hO7 hG7 HO3 HB3 HB4 HZq hul hsub
          go_wp2
          go_roundw
          case rel => exact ⟨j + 1, h + 1, a7, c7, by go_num, by omega, rfl, HH7, HO7, HB7⟩
          case measure => simp [intOf]; omega
        · obtain rfl : j = m := by omega
          have hge : ¬ (j : Int) < (j : Int) := by omega
          have HH7 : Hid (h = (i + 1) * j) := by show _ = _; rw [HH.out, Nat.add_mul, Nat.one_mul]
          clear hci
          go_wp2
          go_roundw
          case rel => exact ⟨i + 1, h, a6, c6, by go_num, by omega, rfl, HH7, HO2, HB2⟩
          case measure => simp [intOf]; omega
    · obtain rfl : i = n := by omega
      have hge : ¬ (i : Int) < (i : Int) := by omega
      obtain rfl : k = P := HK.out.trans HPq.out.symm
      have HOf : Hid (Ow 21 w.heap.size wr (.slice a5 k c5) k (szV L R)) := HO
      clear HO HK HPq hmul
      go_wp2
      go_ret
      exact ⟨⟨_, rfl, HOf.out⟩, HB.out⟩
end Go.Proofs.Yteaajhpgmndomaa
