/- The document's own TextNat. -/
import Derived.Test.YtklkcnpcjmeejaaDoorTmt
namespace Go.Proofs.YtklkcnpcjmeejaaDoor
open Go.RowKit Fo
set_option maxRecDepth 100000

theorem rtext_inf (a : Option Addr) (n c : Nat) (w : World) : Calls Tryd.prog 30 #[.agg #[.bool true, .slice a n c]] w fun e w' => e = .returned (.string ⟨(otext none).toArray⟩) ∧ Below w.heap.size w w' := by
  have HB : Hid (Below w.heap.size w (w.alloc (.cells #[.bool true, .slice a n c] 24))) := (below_refl w).alloc (Nat.le_refl _) _
  have HC := clean_inf a n c (w.alloc (.cells #[.bool true, .slice a n c] 24))
  go_enter Tryd.func30, Tryd.ntmps30
  go_wp2_with (go_at_call 36; refine HC.mono ?_; rintro e w1 ⟨rfl, b1⟩)
  go_ret
  exact ⟨rfl, (below_step HB.out b1).alloc (below_step HB.out b1).size _⟩
theorem dd_cat (N i k y : Nat) (hy : y = dd N (9 * i + k)) (j : Nat) (hj : j < 9 * i + k + 1) : catV (u8s (dd N)) (9 * i + k) (u8s fun _ => y) j = u8s (dd N) j := by
  unfold catV
  split
  · rfl
  · obtain rfl : j = 9 * i + k := by omega
    unfold u8s; rw [hy]
theorem field1 (a : Option Addr) (n c : Nat) (w : World) : (Instr.field 24 (.agg #[.bool false, .slice a n c]) 1).run Tryd.prog w = .ok (.slice a n c) w := by kernel_rfl
/-- A block of the call's own whose first cells are these bytes. -/
def W8 (w : World) (g n : Nat) (F : Nat → Nat) : Prop := ∃ cur, w.heap[g]? = some (.cells cur 5 (0, 0)) ∧ n ≤ cur.size ∧ ∀ j, j < n → cur[j]? = some (.int .u8 (F j : Int))
theorem W8.cell {w : World} {g n : Nat} {F : Nat → Nat} (h : W8 w g n F) (j : Nat) (hj : j < n) : w.cell? ⟨g, j, none⟩ = some (.int .u8 (F j)) := by
  obtain ⟨cur, h1, -, h3⟩ := h
  rw [cell_of_row w g j _ _ _ h1]; exact h3 j hj
theorem W8.frozen {w : World} {g n : Nat} {F : Nat → Nat} (h : W8 w g n F) (j : Nat) : w.frozen? ⟨g, j, none⟩ = false := by
  obtain ⟨cur, h1, -⟩ := h
  simp [World.frozen?, h1]
theorem W8.set {w : World} {g n : Nat} {F : Nat → Nat} (h : W8 w g n F) (p v : Nat) : W8 (w.setCell ⟨g, p, none⟩ (.int .u8 (v : Int))) g n (upd F p v) := by
  obtain ⟨cur, h1, h2, h3⟩ := h
  refine ⟨cur.setIfInBounds p (.int .u8 (v : Int)), by simp [World.setCell, Array.getElem?_modify, h1], by simpa using h2, fun j hj => ?_⟩
  rw [Array.getElem?_setIfInBounds]
  by_cases e : p = j
  · subst e
    rw [if_pos rfl, if_pos (by omega), upd_at]
  · rw [if_neg e, upd_ne F p v j (by omega)]; exact h3 j hj
theorem W8.congr {w : World} {g n : Nat} {F G : Nat → Nat} (h : W8 w g n F) (he : ∀ j, j < n → F j = G j) : W8 w g n G := by
  obtain ⟨cur, h1, h2, h3⟩ := h
  exact ⟨cur, h1, h2, fun j hj => by rw [← he j hj]; exact h3 j hj⟩
theorem W8.head {w : World} {g n m : Nat} {F : Nat → Nat} (h : W8 w g n F) (hm : m ≤ n) : W8 w g m F := by
  obtain ⟨cur, h1, h2, h3⟩ := h
  exact ⟨cur, h1, by omega, fun j hj => h3 j (by omega)⟩
theorem Fo.Ow.w8 {B : Nat} {w : World} {v : Value} {n : Nat} {F : Nat → Nat} (h : Ow 5 B w v n (u8s F)) (h0 : 0 < n) : ∃ g cap, v = .slice (some ⟨g, 0, none⟩) n cap ∧ B ≤ g ∧ n ≤ cap ∧ cap ≤ 9223372036854775807 ∧ W8 w g n F := by
  rcases h.2 with ⟨-, h'⟩ | ⟨g, cap, cur, rfl, hb, hg, hnc, hcm, hcs, ht⟩
  · omega
  · refine ⟨g, cap, rfl, hb, hnc, by unfold maxLen at hcm; omega, cur, hg, by omega, fun j hj => ?_⟩
    have h1 : (cur.toList.take (n * 1))[j]? = (fl (u8s F) n)[j]? := by rw [ht]
    rw [fl_get _ n j hj, List.getElem?_take_of_lt (by omega)] at h1
    simpa [u8s] using h1
/-- Turned about up to a place. -/
def tb (N q s j : Nat) : Nat := if j < s ∨ q - 1 - s < j then dd N (q - 1 - j) else dd N j
theorem tb_step (N q s t : Nat) (hst : s + t = q - 1) (hlt : s < t) (j : Nat) (hj : j < q) : upd (upd (tb N q s) s (dd N t)) t (dd N s) j = tb N q (s + 1) j := by
  by_cases h1 : j = t
  · subst h1
    rw [upd_at]; unfold tb
    rw [if_pos (Or.inr (by omega)), show q - 1 - j = s by omega]
  · rw [upd_ne _ _ _ _ h1]
    by_cases h2 : j = s
    · subst h2
      rw [upd_at]; unfold tb
      rw [if_pos (Or.inl (by omega)), show q - 1 - j = t by omega]
    · rw [upd_ne _ _ _ _ h2]; unfold tb
      by_cases h3 : j < s ∨ q - 1 - s < j
      · rw [if_pos h3, if_pos (by omega)]
      · rw [if_neg h3, if_neg (by omega)]
theorem tb_step' (N q s t : Nat) (hst : s + t = q - 1) (hlt : s < t) (j : Nat) (hj : j < q) : upd (upd (tb N q s) t (dd N s)) s (dd N t) j = tb N q (s + 1) j := by
  rw [← tb_step N q s t hst hlt j hj]
  show (if j = s then dd N t else if j = t then dd N s else tb N q s j) = (if j = t then dd N s else if j = s then dd N t else tb N q s j)
  by_cases h1 : j = t
  · have h2 : ¬ j = s := by omega
    rw [if_neg h2, if_pos h1, if_pos h1]
  · rw [if_neg h1, if_neg h1]
theorem tb_end (N q s t : Nat) (hst : s + t = q - 1) (hge : t ≤ s) (j : Nat) : tb N q s j = dd N (q - 1 - j) := by
  unfold tb
  split
  · rfl
  · rename_i h
    rw [show q - 1 - j = j by omega]
theorem tb_zero (N q : Nat) (j : Nat) (hj : j < q) : dd N j = tb N q 0 j := by
  unfold tb
  rw [if_neg (by omega)]
theorem conv_dec (N p g c : Nat) (w : World) (hN : N < 10 ^ (p + 1)) (hge : p = 0 ∨ 10 ^ p ≤ N) (h : W8 w g (p + 1) (fun j => dd N (p - j))) : (convert 34 9 (.slice (some ⟨g, 0, none⟩) (p + 1) c)).run Tryd.prog w = .ok (.string ⟨(Lib.decDigits N).toArray⟩) w := by
  have hl := dec_list (p + 1) N (by omega) (by rw [Nat.add_sub_cancel]; omega) hN
  have hlen : (Lib.decDigits N).length = p + 1 := by rw [hl]; simp
  have := run_convert_bytes_back (P := Tryd.prog) w 34 9 5 ⟨g, 0, none⟩ c (Lib.decDigits N) Tryd.underlying34 Tryd.underlying5 Tryd.underlying9 (fun j hj => by
    rw [add_off, Nat.zero_add, h.cell j (by omega)]
    have hb := dd_lt N (p - j)
    have : (Lib.decDigits N)[j] = UInt8.ofNat (dd N (p - j)) := by
      simp only [hl, List.getElem_map, List.getElem_range]
      rw [Nat.add_sub_cancel]
    rw [this, UInt8.toNat_ofNat', Nat.mod_eq_of_lt (by omega)])
  rw [hlen] at this
  exact this
set_option maxHeartbeats 16000000 in
theorem rtext_fin (a : Option Addr) (n c : Nat) (L : Nat → Nat) (w : World) (hr : Rd w a n c (u32s L)) (hL : ∀ j, L j < 4294967296) (hn : n ≤ 10000) (N : Nat) (hN : lv L n = N) :
    Calls Tryd.prog 30 #[.agg #[.bool false, .slice a n c]] w fun e w' => e = .returned (.string ⟨(otext (some N)).toArray⟩) ∧ Below w.heap.size w w' := by
  have HB : Hid (Below w.heap.size w (w.alloc (.cells #[.bool false, .slice a n c] 24))) := (below_refl w).alloc (Nat.le_refl _) _
  have HC : Hid (Calls Tryd.prog 36 #[.agg #[.bool false, .slice a n c]] (w.alloc (.cells #[.bool false, .slice a n c] 24)) fun e w' => (∃ a' c', e = .returned (.agg #[.bool false, .slice a' (ln N) c']) ∧ Rd w' a' (ln N) c' (u32s (dg N)) ∧ Tg w' a') ∧ Below (w.alloc (.cells #[.bool false, .slice a n c] 24)).heap.size (w.alloc (.cells #[.bool false, .slice a n c] 24)) w') := clean2_fin a n c L _ (hr.below HB.out) hL (by omega) N hN
  have hlN : ln N ≤ n := by rw [← hN]; exact ln_le n _ (lv_lt n fun j _ => hL j)
  have hbl : bl N ≤ 20000 := Nat.le_trans (bl_room N n (by rw [← hN]; exact lv_lt n fun j _ => hL j)) (by omega)
  clear hr hL hN
  go_enter Tryd.func30, Tryd.ntmps30
  go_wp2_with (go_at_call 36; fail)
  refine HC.out.mono ?_
  rintro e w1 ⟨⟨a1, c1, rfl, hr1, ht1⟩, b1⟩
  obtain ⟨W1, hW1⟩ : ∃ W1, W1 = w1.alloc (.cells #[.bool false, .slice a1 (ln N) c1] 24) := ⟨_, rfl⟩
  have hb1 : Below w1.heap.size w1 W1 := by rw [hW1]; exact (below_refl w1).alloc (Nat.le_refl _) _
  have HB1 : Hid (Below w.heap.size w W1) := below_step (below_step HB.out b1) hb1
  have HR1 : Hid (Rd W1 a1 (ln N) c1 (u32s (dg N))) := hr1.below hb1
  have HT1 : Hid (Tg W1 a1) := ht1.below hb1
  clear hr1 ht1 b1 hb1 HC HB
  go_wp2
  rw [← hW1]
  clear hW1
  go_loopw [4, 5] (fun v4 v5 wq => ∃ (i M : Nat) (a4 : Option Addr) (c4 : Nat) (a5 : Option Addr) (c5 : Nat), i ≤ bl N ∧ v4 = .slice a4 (9 * i) c4 ∧ v5 = .slice a5 (ln M) c5 ∧ ln M ≤ n ∧ Hid (M = N / 1000000000 ^ i) ∧ Hid (Below w.heap.size w wq) ∧ Hid (Ow 5 w.heap.size wq (.slice a4 (9 * i) c4) (9 * i) (u8s (dd N))) ∧ Hid (Rd wq a5 (ln M) c5 (u32s (dg M))) ∧ Hid (Tg wq a5)) (fun v4 _ _ => 9 * bl N - sLen v4)
  case atStart => exact ⟨0, N, none, 0, a1, c1, Nat.zero_le _, rfl, rfl, hlN, by show N = _; rw [Nat.pow_zero, Nat.div_one], HB1, Ow.nil _ _ _ _, HR1, HT1⟩
  case round =>
    obtain ⟨i, M, a4, c4, a5, c5, hi, rfl, rfl, hlM, HM, HBq, HO, HR, HT⟩ := hrel
    rename World => wq
    clear HB1 HR1 HT1 hlN
    by_cases h0 : M = 0
    · have hib : i = bl N := by
        rcases Nat.lt_or_ge i (bl N) with h | h
        · have h1 := div_pos_of N i h
          have h2 := HM.out
          omega
        · omega
      subst hib
      have hl0 : ln M = 0 := by rw [h0, ln_zero]
      rw [hl0]
      by_cases hN0 : N = 0
      · subst hN0
        have hb0 : bl 0 = 0 := bl_zero
        rw [hb0] at HO ⊢
        clear HM HR HT h0 hl0 HO hb0
        go_wp2
        go_loop [4] (fun v => v = .slice a4 0 c4) (fun _ => 0)
        case atStart => rfl
        case round =>
          obtain rfl := hrel
          go_wp2
          go_ret
          refine ⟨?_, HBq.out⟩
          show _ = Ending.returned (.string ⟨(Lib.decDigits 0).toArray⟩)
          rw [Lib.decDigits_one (by decide)]
          rfl
      · have HN : Hid (N < 10 ^ (9 * bl N)) := by
          show N < _
          rw [← ten9]; exact lt_bl _ N rfl
        have hbp := blocks_pos hN0
        obtain ⟨g, cap, hv, hg, hcap, hcm, hW⟩ := HO.out.w8 (by omega)
        obtain ⟨rfl, rfl⟩ : a4 = some ⟨g, 0, none⟩ ∧ c4 = cap := by simpa using hv
        have HW8 : Hid (W8 wq g (9 * bl N) (dd N)) := hW
        have HNp : Hid (0 < N) := Nat.pos_of_ne_zero hN0
        clear HM HR HT h0 hl0 HO hv hW hN0
        obtain ⟨qq, hqq⟩ : ∃ qq, Hid (qq = 9 * bl N) := ⟨_, rfl⟩
        have hqb : qq ≤ 180000 ∧ 9 ≤ qq := by have := hqq.out; omega
        rw [← hqq.out] at HN HW8 hcap ⊢
        go_wp2
        go_loop [4] (fun v => ∃ q : Nat, 1 ≤ q ∧ q ≤ qq ∧ v = .slice (some ⟨g, 0, none⟩) q c4 ∧ Hid (N < 10 ^ q)) (fun v => sLen v)
        case atStart => exact ⟨qq, by omega, Nat.le_refl _, rfl, HN⟩
        case round =>
          obtain ⟨q, hq1, hq2, rfl, HNq⟩ := hrel
          clear HN
          obtain ⟨p, rfl⟩ : ∃ p, q = p + 1 := ⟨q - 1, by omega⟩
          by_cases hq : p = 0
          · have HGe : Hid (p = 0 ∨ 10 ^ p ≤ N) := Or.inl hq
            have j1 : ¬ (1 : Int) < ((p + 1 : Nat) : Int) := by omega
            have j2 : ((p + 1 : Nat) : Int) - 1 = (p : Int) := by omega
            have HP0 : Hid (p = 0) := hq
            clear hq
            go_wp2
            go_loopw [11, 12] (fun v11 v12 wz => ∃ s t : Nat, s + t = p ∧ v11 = .int .i64 s ∧ v12 = .int .i64 t ∧ Hid (Below w.heap.size w wz) ∧ Hid (W8 wz g (p + 1) (tb N (p + 1) s))) (fun v11 _ _ => p + 1 - (intOf v11).toNat)
            case atStart => exact ⟨0, p, Nat.zero_add _, rfl, rfl, HBq, (HW8.out.head (by omega)).congr (tb_zero N (p + 1))⟩
            case round =>
              obtain ⟨s, t, hst, rfl, rfl, HBz, HWz⟩ := hrel
              rename World => wz
              by_cases hlt : s < t
              · exfalso; have := HP0.out; omega
              · have HCV : Hid ((convert 34 9 (.slice (some ⟨g, 0, none⟩) (p + 1) c4)).run Tryd.prog wz = .ok (.string ⟨(Lib.decDigits N).toArray⟩) wz) := conv_dec N p g c4 wz HNq.out HGe.out (HWz.out.congr fun j _ => by rw [tb_end N (p + 1) s t (by omega) (by omega) j, Nat.add_sub_cancel])
                have i5 : ¬ (s : Int) < (t : Int) := by omega
                have hcv : (convert 34 9 (.slice (some ⟨g, 0, none⟩) (p + 1) c4)).run Tryd.prog wz = .ok (.string ⟨(Lib.decDigits N).toArray⟩) wz := HCV.out
                clear HWz HCV
                go_wp2
                go_ret
                exact ⟨rfl, HBz.out⟩
          · have j1 : (1 : Int) < ((p + 1 : Nat) : Int) := by omega
            have hck := HW8.out.cell p (by omega)
            obtain ⟨y, hy⟩ : ∃ y, y = dd N p := ⟨_, rfl⟩
            rw [← hy] at hck
            have j2 : ((p + 1 : Nat) : Int) - 1 = (p : Int) := by omega
            have j3 : (0 : Int) ≤ (p : Int) := by omega
            by_cases hz : y = 48
            · have HNp' : Hid (N < 10 ^ p) := trim_step N p HNq.out (by rw [← hy]; exact hz)
              rw [hz] at hck
              clear hy hz HNq
              go_wp2
              go_round
              case rel => exact ⟨p, by omega, by omega, by go_num, HNp'⟩
              case measure => simp [sLen]
            · have hz' : ((y : Int) == 48) = false := by simp; omega
              have HGe : Hid (p = 0 ∨ 10 ^ p ≤ N) := Or.inr (trim_end N p (by rw [← hy]; exact hz))
              clear hy hz
              go_wp2
              go_loopw [11, 12] (fun v11 v12 wz => ∃ s t : Nat, s + t = p ∧ v11 = .int .i64 s ∧ v12 = .int .i64 t ∧ Hid (Below w.heap.size w wz) ∧ Hid (W8 wz g (p + 1) (tb N (p + 1) s))) (fun v11 _ _ => p + 1 - (intOf v11).toNat)
              case atStart => exact ⟨0, p, Nat.zero_add _, rfl, rfl, HBq, (HW8.out.head (by omega)).congr (tb_zero N (p + 1))⟩
              case round =>
                obtain ⟨s, t, hst, rfl, rfl, HBz, HWz⟩ := hrel
                rename World => wz
                by_cases hlt : s < t
                · have hcs := HWz.out.cell s (by omega)
                  have hct := HWz.out.cell t (by omega)
                  have ex : tb N (p + 1) s s = dd N s := by unfold tb; rw [if_neg (by omega)]
                  have ey : tb N (p + 1) s t = dd N t := by unfold tb; rw [if_neg (by omega)]
                  rw [ex] at hcs
                  rw [ey] at hct
                  obtain ⟨x, hx⟩ : ∃ x, x = dd N s := ⟨_, rfl⟩
                  obtain ⟨y, hy⟩ : ∃ y, y = dd N t := ⟨_, rfl⟩
                  rw [← hx] at hcs
                  rw [← hy] at hct
                  have hfs := HWz.out.frozen s
                  have hft := HWz.out.frozen t
                  have hne : s ≠ t := by omega
                  have hs2 : ∀ v, (wz.setCell ⟨g, s, none⟩ v).cell? ⟨g, t, none⟩ = some (.int .u8 (y : Int)) := fun v => (World.cell?_setCell_other wz ⟨g, s, none⟩ ⟨g, t, none⟩ v (by simp <;> omega)).trans hct
                  have ht2 : ∀ v, (wz.setCell ⟨g, t, none⟩ v).cell? ⟨g, s, none⟩ = some (.int .u8 (x : Int)) := fun v => (World.cell?_setCell_other wz ⟨g, t, none⟩ ⟨g, s, none⟩ v (by simp <;> omega)).trans hcs
                  have HA : Hid (W8 ((wz.setCell ⟨g, s, none⟩ (.int .u8 (y : Int))).setCell ⟨g, t, none⟩ (.int .u8 (x : Int))) g (p + 1) (tb N (p + 1) (s + 1))) := ((HWz.out.set s y).set t x).congr (by rw [hx, hy]; exact tb_step N (p + 1) s t (by omega) hlt)
                  have HBA : Hid (Below w.heap.size w ((wz.setCell ⟨g, s, none⟩ (.int .u8 (y : Int))).setCell ⟨g, t, none⟩ (.int .u8 (x : Int)))) := (HBz.out.setCell (p := ⟨g, s, none⟩) hg _).setCell (p := ⟨g, t, none⟩) hg _
                  have i1 : (0 : Int) ≤ (s : Int) := by omega
                  have i2 : (s : Int) < ((p + 1 : Nat) : Int) := by omega
                  have i3 : (0 : Int) ≤ (t : Int) := by omega
                  have i4 : (t : Int) < ((p + 1 : Nat) : Int) := by omega
                  have i5 : (s : Int) < (t : Int) := by omega
                  have i6 : (s : Int) < (p : Int) + 1 := by omega
                  have i7 : (t : Int) < (p : Int) + 1 := by omega
                  clear ex ey hx hy HWz
                  go_wp2
                  go_region
                  go_wp2
                  go_roundw
                  case rel => exact ⟨s + 1, t - 1, by omega, by go_num, by congr 1; omega, HBA.out.drew, HA.out⟩
                  case measure => simp [intOf]; omega
                · have HCV : Hid ((convert 34 9 (.slice (some ⟨g, 0, none⟩) (p + 1) c4)).run Tryd.prog wz = .ok (.string ⟨(Lib.decDigits N).toArray⟩) wz) := conv_dec N p g c4 wz HNq.out HGe.out (HWz.out.congr fun j _ => by rw [tb_end N (p + 1) s t (by omega) (by omega) j, Nat.add_sub_cancel])
                  have i5 : ¬ (s : Int) < (t : Int) := by omega
                  have hcv : (convert 34 9 (.slice (some ⟨g, 0, none⟩) (p + 1) c4)).run Tryd.prog wz = .ok (.string ⟨(Lib.decDigits N).toArray⟩) wz := HCV.out
                  clear HWz HCV
                  go_wp2
                  go_ret
                  exact ⟨rfl, HBz.out⟩
    · have hlp := pos_ln h0
      have hpos : (0 : Int) < (ln M : Int) := by omega
      obtain ⟨q, hq⟩ : ∃ q, Hid (q = ln M) := ⟨_, rfl⟩
      have hnc : ln M ≤ c5 := HR.out.1
      have hcm : c5 ≤ 9223372036854775807 := HR.out.2.1
      have HMV : Hid (lv (dg M) q = M) := by show _ = _; rw [hq.out]; exact lv_ln M
      have HP : Hid (i < bl N) := lt_of_div N i (by rw [← HM.out]; exact h0)
      rw [← hq.out] at hlM HR hpos hlp hnc ⊢
      have hmk : ∀ w, (Instr.makeSlice 22 (.int .i64 (q : Int)) (.int .i64 (q : Int))).run Tryd.prog w = .ok (.slice (some ⟨w.heap.size, 0, none⟩) q q) (w.alloc (.cells (madeCells #[.int .u32 0] q) 62)) := fun w =>
        run_make_row' (P := Tryd.prog) 22 62 (.int .u32 0) 4 Tryd.underlying22 (by kernel_rfl) rfl .i64 .i64 q (by omega) (by omega) w
      go_wp2
      clear hmk
      have HBK0 : Hid (Bk (wq.alloc (.cells (madeCells #[.int .u32 0] q) 62)) wq.heap.size q (fun _ => 0)) := bk_made wq q
      have HBW0 : Hid (Below wq.heap.size wq (wq.alloc (.cells (madeCells #[.int .u32 0] q) 62))) := (below_refl wq).alloc (Nat.le_refl _) _
      go_loopw [6, 8] (fun v6 v8 wr => ∃ (k r : Nat) (K : Nat → Nat), k ≤ q ∧ v8 = .int .i64 ((k : Int) - 1) ∧ v6 = .int .u64 r ∧ r < 1000000000 ∧ Hid (Below wq.heap.size wq wr) ∧ Hid (Bk wr wq.heap.size q K) ∧ Hid ((∀ j, K j < 4294967296) ∧ (∀ j, j < k → K j = 0) ∧ lv K q * 1000000000 + r * 4294967296 ^ k + lv (dg M) k = M)) (fun _ v8 _ => (intOf v8 + 1).toNat)
      case atStart => exact ⟨q, 0, fun _ => 0, Nat.le_refl _, by go_num, rfl, by decide, HBW0, HBK0, fun _ => Nat.lt_of_lt_of_le Nat.zero_lt_one (by decide), fun _ _ => rfl, by rw [lv_noughts (fun _ => 0) 0 q (Nat.zero_le _) (fun _ _ _ => rfl), HMV.out]; simp [lv]⟩
      case round =>
        obtain ⟨k, r, K, hk, rfl, rfl, hr9, HW, HK, HI⟩ := hrel
        rename World => wr
        clear HBK0 HBW0
        by_cases hk0 : k = 0
        · subst hk0
          have hV : lv K q = M / 1000000000 ∧ r = M % 1000000000 := by
            have h1 := HI.out.2.2
            rw [Nat.pow_zero] at h1
            simp only [lv] at h1
            omega
          have HC2 : Hid (Calls Tryd.prog 36 #[.agg #[.bool false, .slice (some ⟨wq.heap.size, 0, none⟩) q q]] wr fun e w' => (∃ a' c', e = .returned (.agg #[.bool false, .slice a' (ln (M / 1000000000)) c']) ∧ Rd w' a' (ln (M / 1000000000)) c' (u32s (dg (M / 1000000000))) ∧ Tg w' a') ∧ Below wr.heap.size wr w') := clean2_fin _ q q K wr (HK.out.rd (by omega)) HI.out.1 (by omega) _ hV.1
          have HM2 : Hid (M / 1000000000 = N / 1000000000 ^ (i + 1)) := by
            show M / 1000000000 = _
            rw [HM.out, div_step]
          have HRr : Hid (r = N / 1000000000 ^ i % 1000000000) := by show r = _; rw [hV.2, HM.out]
          have hl2 : ln (M / 1000000000) ≤ n := Nat.le_trans (ln_mono (Nat.div_le_self _ _)) (by rw [← hq.out]; exact hlM)
          have HOr : Hid (Ow 5 w.heap.size wr (.slice a4 (9 * i) c4) (9 * i) (u8s (dd N))) := HO.out.below HW.out
          have HBr : Hid (Below w.heap.size w wr) := below_step HBq.out HW.out
          clear hV HI HK HW HO HBq HR HT HMV HM
          go_wp2_with (go_at_call 36; fail)
          refine HC2.out.mono ?_
          rintro e w2 ⟨⟨a6, c6, rfl, hr6, ht6⟩, b2⟩
          obtain ⟨M2, hM2⟩ : ∃ M2, M2 = M / 1000000000 := ⟨_, rfl⟩
          rw [← hM2] at HM2 hl2 hr6 ⊢
          have HO2 : Hid (Ow 5 w.heap.size w2 (.slice a4 (9 * i) c4) (9 * i) (u8s (dd N))) := HOr.out.below b2
          have HB2 : Hid (Below w.heap.size w w2) := below_step HBr.out b2
          have HR6 : Hid (Rd w2 a6 (ln M2) c6 (u32s (dg M2))) := hr6
          have HT6 : Hid (Tg w2 a6) := ht6
          clear hM2 hr6 ht6 b2 HC2 HOr HBr
          have hfd := field1 a6 (ln M2) c6
          go_wp2
          clear hfd
          go_loopw [4, 6, 10] (fun v4 v6 v10 wz => ∃ (k : Nat) (rk : Nat) (a7 : Option Addr) (c7 : Nat), k ≤ 9 ∧ v10 = .int .i64 k ∧ Hid (rk = r / 10 ^ k) ∧ v6 = .int .u64 rk ∧ v4 = .slice a7 (9 * i + k) c7 ∧ Hid (Below w.heap.size w wz) ∧ Hid (Ow 5 w.heap.size wz (.slice a7 (9 * i + k) c7) (9 * i + k) (u8s (dd N))) ∧ Hid (Rd wz a6 (ln M2) c6 (u32s (dg M2))) ∧ Hid (Tg wz a6)) (fun _ _ v10 _ => 9 - (intOf v10).toNat)
          case atStart => exact ⟨0, r, a4, c4, by decide, rfl, by show r = _; rw [Nat.pow_zero, Nat.div_one], rfl, rfl, HB2, HO2, HR6, HT6⟩
          case round =>
            clear HO2 HB2 HR6 HT6
            obtain ⟨k, rk, a7, c7, hk9, rfl, HRK, rfl, rfl, HBz, HOz, HRz, HTz⟩ := hrel
            rename World => wz
            by_cases hk : k < 9
            · have hrk : rk < 1000000000 := by rw [HRK.out]; exact Nat.lt_of_le_of_lt (Nat.div_le_self _ _) hr9
              obtain ⟨y, hy⟩ : ∃ y, y = 48 + rk % 10 := ⟨_, rfl⟩
              have hyd : y = dd N (9 * i + k) := by
                rw [hy, HRK.out, HRr.out]
                exact dd_pos N i k hk
              have HCt : Hid (∀ j, j < 9 * i + k + 1 → catV (u8s (dd N)) (9 * i + k) (u8s fun _ => y) j = u8s (dd N) j) := dd_cat N i k y hyd
              have HRK2 : Hid (rk / 10 = r / 10 ^ (k + 1)) := by
                show rk / 10 = _
                rw [HRK.out, Nat.div_div_eq_div_mul, Nat.pow_succ]
              have m1 : (rk : Int).tmod 10 = ((rk % 10 : Nat) : Int) := by rw [Int.tmod_eq_emod_of_nonneg (by omega)]; omega
              have m2 : (rk : Int).tdiv 10 = ((rk / 10 : Nat) : Int) := by rw [Int.tdiv_eq_ediv_of_nonneg (by omega)]; omega
              have m3 : IntKind.u64.wrap (48 + ((rk % 10 : Nat) : Int)) = (y : Int) := by rw [IntKind.wrap_u64, hy]; omega
              have m3' : (48 : Int) + ((rk % 10 : Nat) : Int) = (y : Int) := by rw [hy]; omega
              have m4 : IntKind.u64.wrap ((rk / 10 : Nat) : Int) = ((rk / 10 : Nat) : Int) := by rw [IntKind.wrap_u64]; omega
              have m5 : IntKind.u8.wrap (y : Int) = (y : Int) := by rw [IntKind.wrap_u8, hy]; omega
              have m6 : (y : Int) % 256 = (y : Int) := by rw [hy]; omega
              have HRy : Hid (Rd (wz.alloc (.cells #[.int .u8 (y : Int)] 5)) (some ⟨wz.heap.size, 0, none⟩) 1 1 (u8s fun _ => y)) := one_rd8 wz y
              have HSA : Hid (w.heap.size ≤ (wz.alloc (.cells #[.int .u8 (y : Int)] 5)).heap.size) := by
                show _ ≤ _
                have := HBz.out.size
                simp; omega
              have hle : 9 * i + k + 1 ≤ 1000000000 := by have := HP.out; omega
              clear hy hyd
              generalize hQ0 : rk % 10 = d0 at m1 m3 m3'
              generalize hQ1 : rk / 10 = d1 at m2 m4 HRK2
              clear hQ0 hQ1
              go_wp2_with (at_builtin; refine wpList_app eU8 rfl _ _ rfl (HOz.out.alloc _) HSA.out HRy.out (u8s_one _ 1) (9 * i + k + 1) rfl hle (u8s (dd N)) HCt.out rfl rfl ?_; intro a8 c8 w8 hO8 hG8)
              have HO8 : Hid (Ow 5 w.heap.size w8 (.slice a8 (9 * i + k + 1) c8) (9 * i + k + 1) (u8s (dd N))) := hO8
              have HB8 : Hid (Below w.heap.size w w8) := (HBz.out.alloc HBz.out.size _).grown hG8 HSA.out (fun k' hk' => HOz.out.row k' hk')
              obtain ⟨hT8, hR8⟩ := tg_app HTz.out HRz.out HOz.out ((below_refl wz).alloc (Nat.le_refl _) _) hG8
              have HT8 : Hid (Tg w8 a6) := hT8
              have HR8 : Hid (Rd w8 a6 (ln M2) c6 (u32s (dg M2))) := hR8
              clear hO8 hG8 hT8 hR8 HOz HBz HRz HTz HSA HRy HCt
              go_wp2
              go_roundw
              case rel => exact ⟨k + 1, d1, a8, c8, by omega, by go_num, HRK2, rfl, rfl, HB8, HO8, HR8, HT8⟩
              case measure => simp [intOf]; omega
            · obtain rfl : k = 9 := by omega
              have hib : i + 1 ≤ bl N := HP.out
              go_wp2
              go_roundw
              case rel => exact ⟨i + 1, M2, a7, c7, a6, c6, hib, by rw [show 9 * (i + 1) = 9 * i + 9 by omega], rfl, hl2, HM2, HBz, by rw [show 9 * (i + 1) = 9 * i + 9 by omega]; exact HOz, HRz, HTz⟩
              case measure => simp [sLen]; omega
        · obtain ⟨m, rfl⟩ : ∃ m, k = m + 1 := ⟨k - 1, by omega⟩
          have hKm := HI.out.2.1 m (by omega)
          have HINV := rdiv_inv K (dg M) q m r M (by omega) hKm HI.out.2.2
          obtain ⟨e, he⟩ : ∃ e, e = dg M m := ⟨_, rfl⟩
          have hel : e < 4294967296 := by rw [he]; exact dg_lt M m
          obtain ⟨gb, ob, rfl, hcb⟩ := (HR.out.below HW.out).at (by omega)
          have hck := hcb m (by omega)
          unfold u32s at hck
          have hfk := HK.out.frozen m
          have hnk := HK.out.cell m (by omega)
          rw [← he] at hck HINV
          obtain ⟨T, hT⟩ : ∃ T, T = r * 4294967296 + e := ⟨_, rfl⟩
          rw [← hT] at HINV
          have hTl : T < 4294967296000000000 := by omega
          have hq1 : T / 1000000000 < 4294967296 := by omega
          have hq2 : T % 1000000000 < 1000000000 := Nat.mod_lt _ (by decide)
          have HJ : Hid ((∀ j, upd K m (T / 1000000000) j < 4294967296) ∧ (∀ j, j < m → upd K m (T / 1000000000) j = 0) ∧ lv (upd K m (T / 1000000000)) q * 1000000000 + T % 1000000000 * 4294967296 ^ m + lv (dg M) m = M) := ⟨fun j => by
            unfold upd; split
            · exact hq1
            · exact HI.out.1 j, fun j hj => by rw [upd_ne _ _ _ _ (by omega)]; exact HI.out.2.1 j (by omega), HINV⟩
          have hor : bits .or .u64 ((r : Int) * 4294967296) (e : Int) = (T : Int) := by
            have h1 := u64_or_nat (r * 4294967296) e (by omega) (by omega)
            rw [shl_or r e hel, ← hT] at h1
            rw [← h1]; congr 1
          have htm : (T : Int).tmod 1000000000 = ((T % 1000000000 : Nat) : Int) := by rw [Int.tmod_eq_emod_of_nonneg (by omega)]; omega
          have htd : (T : Int).tdiv 1000000000 = ((T / 1000000000 : Nat) : Int) := by rw [Int.tdiv_eq_ediv_of_nonneg (by omega)]; omega
          have hwd : IntKind.u64.wrap ((T / 1000000000 : Nat) : Int) = ((T / 1000000000 : Nat) : Int) := by rw [IntKind.wrap_u64]; omega
          have hwe : ((T / 1000000000 : Nat) : Int) % 4294967296 = ((T / 1000000000 : Nat) : Int) := by omega
          have i1 : (m : Int) < (q : Int) := by omega
          clear HINV HI hKm he hT hcb
          generalize hQ0 : T % 1000000000 = t0 at HJ htm hq2
          generalize hQ1 : T / 1000000000 = t1 at HJ htd hwd hwe hq1
          clear hQ0 hQ1
          go_wp2
          go_roundw
          case rel => exact ⟨m, t0, upd K m t1, by omega, rfl, rfl, hq2, HW.out.setCell (p := ⟨wq.heap.size, m, none⟩) (Nat.le_refl _) _, HK.out.set m t1 (by omega), HJ.out⟩
          case measure => simp [intOf]
/-- The document's own TextNat. -/
theorem rtext_any (w : World) (v : Value) (X : Option Nat) (h : ∃ (i : Bool) (a : Option Addr) (n c : Nat) (L : Nat → Nat), v = .agg #[.bool i, .slice a n c] ∧ Rd w a n c (u32s L) ∧ (∀ j, L j < 4294967296) ∧ n ≤ 10000 ∧ X = if i then none else some (lv L n)) : Calls Tryd.prog 30 #[v] w fun e w' => e = .returned (.string ⟨(otext X).toArray⟩) ∧ Below w.heap.size w w' := by
  obtain ⟨i, a, n, c, L, rfl, hr, hL, hn, rfl⟩ := h
  cases i
  · exact rtext_fin a n c L w hr hL hn _ rfl
  · exact rtext_inf a n c w
end Go.Proofs.YtklkcnpcjmeejaaDoor
