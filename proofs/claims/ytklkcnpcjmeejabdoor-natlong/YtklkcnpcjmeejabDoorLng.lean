/- NatLong's walk. -/
import Derived.Test.YtklkcnpcjmeejabDoorDcl
import Derived.Test.YtklkcnpcjmeejabDoorLft
import Derived.Deep.RegionHeld3
namespace Go.Proofs.YtklkcnpcjmeejabDoor
open Go.RowKit Fo
set_option maxRecDepth 100000

theorem idx_byte (l : List UInt8) (k : Nat) (h : k < (⟨l.toArray⟩ : ByteArray).size) : ((⟨l.toArray⟩ : ByteArray)[k]'h).toNat = byt l k := by
  have hk : k < l.length := by simpa [ByteArray.size] using h
  unfold byt
  rw [List.getD_eq_getElem?_getD, List.getElem?_eq_getElem hk]
  rfl
theorem long_out (l : List UInt8) (c : Int) (W : World) (henv : Env W) (h : l = [] ∨ 720 < l.length ∨ byt l 0 = 48) :
    Calls Tryd.prog 3 #[.string ⟨l.toArray⟩, .int .i64 c] W fun e w' => e = .returned (.bool true) ∧ Below W.heap.size W w' := by
  have CA := awake_any W henv
  have hsz : (⟨l.toArray⟩ : ByteArray).size = l.length := by simp [ByteArray.size]
  clear henv
  by_cases h0 : l = []
  · subst h0
    go_enter Tryd.func3, Tryd.ntmps3
    go_wp2_with (go_at_call 4; refine CA.mono ?_; rintro e w1 ⟨rfl, b1⟩)
    go_ret
    exact ⟨rfl, b1⟩
  · have hpos : 0 < l.length := by cases l <;> simp_all
    have hz : ((l.length : Int) == 0) = false := by simpa using h0
    by_cases h1 : 720 < l.length
    · have h1' : (720 : Int) < (l.length : Int) := by omega
      clear h h0
      go_enter Tryd.func3, Tryd.ntmps3
      go_wp2_with (go_at_call 4; refine CA.mono ?_; rintro e w1 ⟨rfl, b1⟩)
      go_ret
      exact ⟨rfl, b1⟩
    · have h1' : ¬ (720 : Int) < (l.length : Int) := by omega
      have h48 : byt l 0 = 48 := by rcases h with h | h | h; exact absurd h h0; exact absurd h h1; exact h
      have hfb := first_byte l
      rw [h48] at hfb
      clear h h0
      go_enter Tryd.func3, Tryd.ntmps3
      go_wp2_with (go_at_call 4; refine CA.mono ?_; rintro e w1 ⟨rfl, b1⟩)
      go_ret
      exact ⟨rfl, b1⟩
theorem long_bad (l : List UInt8) (c : Int) (W : World) (henv : Env W) (h0 : l ≠ []) (h1 : l.length ≤ 720) (h48 : byt l 0 ≠ 48) (hd : ¬ digB l) :
    Calls Tryd.prog 3 #[.string ⟨l.toArray⟩, .int .i64 c] W fun e w' => e = .returned (.bool true) ∧ Below W.heap.size W w' := by
  have CA := awake_any W henv
  have hsz : (⟨l.toArray⟩ : ByteArray).size = l.length := by simp [ByteArray.size]
  have hpos : 0 < l.length := by cases l <;> simp_all
  have hz : ((l.length : Int) == 0) = false := by simpa using h0
  have h1' : ¬ (720 : Int) < (l.length : Int) := by omega
  have hfb := first_byte l
  have hz48 : ¬ ((byt l 0 : Nat) : Int) = 48 := by omega
  have HD : Hid (¬ digB l) := hd
  clear henv h0 h48 hd
  go_enter Tryd.func3, Tryd.ntmps3
  go_wp2
  clear hfb hz48
  go_loop [5] (fun v => ∃ k : Nat, k ≤ l.length ∧ v = .int .i64 k ∧ Hid (∀ j, j < k → 48 ≤ byt l j ∧ byt l j ≤ 57)) (fun v => l.length - (intOf v).toNat)
  case atStart => exact ⟨0, Nat.zero_le _, rfl, fun j hj => absurd hj (by omega)⟩
  case round =>
    obtain ⟨k, hk, rfl, HK⟩ := hrel
    by_cases hkl : k < l.length
    · have hib := idx_byte l k
      obtain ⟨x, hx⟩ : ∃ x, x = byt l k := ⟨_, rfl⟩
      rw [← hx] at hib
      have i1 : (0 : Int) ≤ (k : Int) := by omega
      have i2 : (k : Int) < (l.length : Int) := by omega
      by_cases hlo : x < 48
      · have j1 : (x : Int) < 48 := by omega
        clear hx
        go_wp2_with (go_at_call 4; refine CA.mono ?_; rintro e w1 ⟨rfl, b1⟩)
        go_ret
        exact ⟨rfl, b1⟩
      · by_cases hhi : 57 < x
        · have j1 : ¬ (x : Int) < 48 := by omega
          have j2 : (57 : Int) < (x : Int) := by omega
          clear hx
          go_wp2_with (go_at_call 4; refine CA.mono ?_; rintro e w1 ⟨rfl, b1⟩)
          go_ret
          exact ⟨rfl, b1⟩
        · have HK' : Hid (∀ j, j < k + 1 → 48 ≤ byt l j ∧ byt l j ≤ 57) := fun j hj => by
            by_cases e : j = k
            · rw [e, ← hx]; omega
            · exact HK.out j (by omega)
          have j1 : ¬ (x : Int) < 48 := by omega
          have j2 : ¬ (57 : Int) < (x : Int) := by omega
          clear hx HK
          go_wp2
          go_round
          case rel => exact ⟨k + 1, by omega, by go_num, HK'⟩
          case measure => simp [intOf]; omega
    · exfalso
      obtain rfl : k = l.length := by omega
      exact HD.out HK.out
/-- What the law asks of Parse where the text is digits. -/
theorem pr_big {l : List UInt8} {X : Option Nat} {q : Int} (h : PR l X q) (hl : 700 < l.length) : X = some 0 ∧ q = 5 := by
  rcases h with h | h | h | h
  · exact h.2
  · omega
  · omega
  · omega
theorem pr_good {l : List UInt8} {X : Option Nat} {q : Int} (h : PR l X q) (hl : l.length ≤ 700) (hd : decT l) : X = some (dv l l.length) ∧ q = 0 := by
  rcases h with h | h | h | h
  · omega
  · exact absurd (h.2.1 ▸ hd) inf_not_dec
  · exact absurd hd h.2.2.1
  · exact h.2.2
theorem nout_fin {w : World} {v : Value} {N : Nat} (h : NOut w v (some N)) : ∃ a c, v = .agg #[.bool false, .slice a (ln N) c] := by
  rcases h with ⟨h, -⟩ | ⟨M, a, c, h, rfl, -⟩
  · cases h
  · obtain rfl := Option.some.inj h
    exact ⟨a, c, rfl⟩
theorem conv_one (w : World) (o : Obj) (x : Nat) (hx : x < 256) : (convert 29 9 (.slice (some ⟨w.heap.size + 1, 0, none⟩) 1 1)).run Tryd.prog ((w.alloc o).alloc (.cells #[.int .u8 (x : Int)] 5)) = .ok (.string ⟨#[UInt8.ofNat x]⟩) ((w.alloc o).alloc (.cells #[.int .u8 (x : Int)] 5)) := by
  refine run_convert_bytes_back (P := Tryd.prog) _ 29 9 5 ⟨w.heap.size + 1, 0, none⟩ 1 [UInt8.ofNat x] Tryd.underlying29 Tryd.underlying5 Tryd.underlying9 (fun j hj => ?_)
  have hj' : j < 1 := hj
  obtain rfl : j = 0 := by omega
  have hw : w.heap.size + 1 = (w.alloc o).heap.size := by simp
  rw [add_off, hw, World.cell?_alloc_new]
  simp [UInt8.toNat_ofNat', Nat.mod_eq_of_lt hx]
theorem cat_one (l : List UInt8) (x : UInt8) : (⟨l.toArray⟩ : ByteArray) ++ ⟨#[x]⟩ = ⟨(l ++ [x]).toArray⟩ := by
  apply ByteArray.ext
  simp
theorem dig_i (c : Int) : ∃ d : Nat, d < 10 ∧ (c.tmod 10 + 10).tmod 10 = (d : Int) ∧ -10 < c.tmod 10 ∧ c.tmod 10 < 10 := by
  have h1 := Int.tmod_lt_of_pos c (show (0 : Int) < 10 by decide)
  have h2 : -10 < c.tmod 10 := by
    rcases Int.le_total 0 c with h | h
    · have := Int.tmod_nonneg 10 h; omega
    · have h4 := Int.tmod_lt_of_pos (-c) (show (0 : Int) < 10 by decide)
      rw [Int.neg_tmod] at h4
      omega
  have h3 : (c.tmod 10 + 10).tmod 10 = (c.tmod 10 + 10) % 10 := Int.tmod_eq_emod_of_nonneg (by omega)
  refine ⟨((c.tmod 10 + 10) % 10).toNat, by omega, by rw [h3]; omega, by omega, h1⟩
theorem dv_lt (l : List UInt8) (hd : digB l) : ∀ k, k ≤ l.length → dv l k < 10 ^ k
  | 0, _ => by show 0 < 1; decide
  | k + 1, h => by
    have ih := dv_lt l hd k (by omega)
    have h9 := (hd k (by omega)).2
    show dv l k * 10 + (byt l k - 48) < 10 ^ (k + 1)
    rw [Nat.pow_succ]
    omega
theorem dv_ln (l : List UInt8) (hd : digB l) : ln (dv l l.length) ≤ l.length :=
  ln_le _ _ (Nat.lt_of_lt_of_le (dv_lt l hd _ (Nat.le_refl _)) (Nat.pow_le_pow_left (by decide) _))
theorem snoc_dec (l : List UInt8) (x : UInt8) (h : decT l) (h48 : byt l 0 ≠ 48) (hx : 48 ≤ x.toNat ∧ x.toNat ≤ 57) : decT (l ++ [x]) := by
  have hp := len_pos h.1
  refine ⟨by simp, Or.inl (by rw [byt_app l x 0 hp]; exact h48), fun j hj => ?_⟩
  rw [List.length_append, List.length_singleton] at hj
  by_cases e : j < l.length
  · rw [byt_app _ _ _ e]; exact h.2.2 j e
  · obtain rfl : j = l.length := by omega
    rw [byt_last]; exact hx
theorem same_at (w : World) (v1 v2 : Value) (X1 X2 : Option Nat) (h1 : NIn w v1 X1) (h2 : NIn w v2 X2) (e : X1 = X2) : Calls Tryd.prog 6 #[v1, v2] w fun e w' => e = .returned (.bool true) ∧ Below w.heap.size w w' := by
  have := same_any w v1 v2 X1 X2 h1 h2
  rw [decide_eq_true e] at this
  exact this
theorem add_at (w : World) (v1 v2 : Value) (X1 X2 X : Option Nat) (h1 : NIn w v1 X1) (h2 : NIn w v2 X2) (hb1 : ∀ N, X1 = some N → ln N ≤ 10000) (hb2 : ∀ N, X2 = some N → ln N ≤ 10000) (e : oadd X1 X2 = X) :
    Calls Tryd.prog 7 #[v1, v2] w fun e w' => (∃ u, e = .returned u ∧ NOut w' u X) ∧ Below w.heap.size w w' := by
  rw [← e]; exact add_any w v1 v2 X1 X2 h1 h2 hb1 hb2
set_option maxHeartbeats 16000000 in
theorem long_good (l : List UInt8) (c : Int) (W : World) (henv : Env W) (h0 : l ≠ []) (h1 : l.length ≤ 720) (h48 : byt l 0 ≠ 48) (hd : digB l) :
    Calls Tryd.prog 3 #[.string ⟨l.toArray⟩, .int .i64 c] W fun e w' => e = .returned (.bool true) ∧ Below W.heap.size W w' := by
  have HEnv : Hid (Env W) := henv
  have hsz : (⟨l.toArray⟩ : ByteArray).size = l.length := by simp [ByteArray.size]
  have hpos : 0 < l.length := by cases l <;> simp_all
  have hz : ((l.length : Int) == 0) = false := by simpa using h0
  have h1' : ¬ (720 : Int) < (l.length : Int) := by omega
  have hfb := first_byte l
  have hz48 : ¬ ((byt l 0 : Nat) : Int) = 48 := by omega
  have HD : Hid (digB l) := hd
  have HT : Hid (decT l) := ⟨h0, Or.inl h48, hd⟩
  have H48 : Hid (byt l 0 ≠ 48) := h48
  clear henv h0 h48 hd
  go_enter Tryd.func3, Tryd.ntmps3
  go_wp2
  clear hfb hz48
  go_loop [5] (fun v => ∃ k : Nat, k ≤ l.length ∧ v = .int .i64 k) (fun v => l.length - (intOf v).toNat)
  case atStart => exact ⟨0, Nat.zero_le _, rfl⟩
  case round =>
    obtain ⟨k, hk, rfl⟩ := hrel
    by_cases hkl : k < l.length
    · have hib := idx_byte l k
      obtain ⟨x, hx⟩ : ∃ x, x = byt l k := ⟨_, rfl⟩
      have hxd := HD.out k hkl
      rw [← hx] at hib hxd
      have i1 : (0 : Int) ≤ (k : Int) := by omega
      have i2 : (k : Int) < (l.length : Int) := by omega
      have j1 : ¬ (x : Int) < 48 := by omega
      have j2 : ¬ (57 : Int) < (x : Int) := by omega
      clear hx hxd
      go_wp2
      go_round
      case rel => exact ⟨k + 1, by omega, by go_num⟩
      case measure => simp [intOf]; omega
    · obtain rfl : k = l.length := by omega
      have HP : Hid (Calls Tryd.prog 5 #[.string ⟨l.toArray⟩] W fun e w' => (∃ u X q, e = .returned (.tuple #[u, .int .i64 q]) ∧ NOut w' u X ∧ PR l X q) ∧ Below W.heap.size W w') := parse_any l W
      go_wp2_with (go_at_call 5; fail)
      refine HP.out.mono ?_
      rintro e w1 ⟨⟨u, X, q, rfl, hu, hq⟩, b1⟩
      have HB1 : Hid (Below W.heap.size W w1) := b1
      clear b1 HP
      by_cases hl7 : 700 < l.length
      · obtain ⟨rfl, rfl⟩ := pr_big hq hl7
        obtain ⟨au, cu, rfl⟩ := nout_fin hu
        rw [ln_zero]
        have hl7' : (700 : Int) < (l.length : Int) := by omega
        have CA : Hid (Calls Tryd.prog 4 #[] (w1.alloc (.cells #[.bool false, .slice au 0 cu] 25)) fun e w' => e = .returned (.bool true) ∧ Below (w1.alloc (.cells #[.bool false, .slice au 0 cu] 25)).heap.size (w1.alloc (.cells #[.bool false, .slice au 0 cu] 25)) w') := awake_any _ (HEnv.out.below (HB1.out.alloc HB1.out.size _))
        clear hu hq
        go_wp2_with (go_at_call 4; refine CA.out.mono ?_; rintro e w2 ⟨rfl, b2⟩)
        go_ret
        exact ⟨rfl, below_step (HB1.out.alloc HB1.out.size _) b2⟩
      · obtain ⟨rfl, rfl⟩ := pr_good hq (by omega) HT.out
        obtain ⟨au, cu, rfl⟩ := nout_fin hu
        have hl7' : ¬ (700 : Int) < (l.length : Int) := by omega
        have HU : Hid (NOut w1 (.agg #[.bool false, .slice au (ln (dv l l.length)) cu]) (some (dv l l.length))) := hu
        obtain ⟨d, hd10, hdv, hm1, hm2⟩ := dig_i c
        have hw1 : wrap64 (c.tmod 10 + 10) = c.tmod 10 + 10 := by unfold wrap64; omega
        have hw2 : IntKind.u8.wrap (48 + (d : Int)) = ((48 + d : Nat) : Int) := by rw [IntKind.wrap_u8]; omega
        clear hu hq
        have hcv := conv_one w1 (.cells #[.bool false, .slice au (ln (dv l l.length)) cu] 25) (48 + d) (by omega)
        have hca := cat_one l (UInt8.ofNat (48 + d))
        have hx48 : (UInt8.ofNat (48 + d)).toNat = 48 + d := dig_toNat d hd10
        generalize UInt8.ofNat (48 + d) = x at hcv hca hx48
        have hwc : ((48 + d : Nat) : Int) = 48 + (d : Int) := by omega
        rw [hwc] at hcv hw2
        obtain ⟨n, hn⟩ : ∃ n, Hid (n = ln (dv l l.length)) := ⟨_, rfl⟩
        rw [← hn.out] at HU hcv ⊢
        have HBox : Hid (Below W.heap.size W ((w1.alloc (.cells #[.bool false, .slice au n cu] 25)).alloc (.cells #[.int .u8 (48 + (d : Int))] 5))) := (HB1.out.alloc HB1.out.size _).alloc (by have := HB1.out.size; simp; omega) _
        have HP2 : Hid (Calls Tryd.prog 5 #[.string ⟨(l ++ [x]).toArray⟩] ((w1.alloc (.cells #[.bool false, .slice au n cu] 25)).alloc (.cells #[.int .u8 (48 + (d : Int))] 5)) fun e w' => (∃ u X q, e = .returned (.tuple #[u, .int .i64 q]) ∧ NOut w' u X ∧ PR (l ++ [x]) X q) ∧ Below ((w1.alloc (.cells #[.bool false, .slice au n cu] 25)).alloc (.cells #[.int .u8 (48 + (d : Int))] 5)).heap.size ((w1.alloc (.cells #[.bool false, .slice au n cu] 25)).alloc (.cells #[.int .u8 (48 + (d : Int))] 5)) w') := parse_any _ _
        have Hg0 : Hid (((w1.alloc (.cells #[.bool false, .slice au n cu] 25)).alloc (.cells #[.int .u8 (48 + (d : Int))] 5)).heap[w1.heap.size]? = some (.cells #[.bool false, .slice au n cu] 25)) := heap_1st w1 _ _
        go_wp2_with (go_at_call 5; fail)
        refine HP2.out.mono ?_
        rintro e w3 ⟨⟨u, X, q, rfl, hu, hq⟩, b3⟩
        have HB3 : Hid (Below W.heap.size W w3) := below_step HBox.out b3
        have hg3 : w3.heap[w1.heap.size]? = some (.cells #[.bool false, .slice au n cu] 25) := (b3.block _ (by simp; omega)).trans Hg0.out
        have hs3 : w1.heap.size < w3.heap.size := by have := b3.size; simp at this; omega
        have HU3 : Hid (NOut w3 (.agg #[.bool false, .slice au n cu]) (some (dv l l.length))) := HU.out.below (((below_refl w1).alloc (Nat.le_refl _) _).alloc (by simp) _ |>.trans (b3.mono (by simp; omega)))
        clear b3 HP2 Hg0 HBox hcv hca HU
        have hlx : (l ++ [x]).length = l.length + 1 := by simp
        by_cases h7 : l.length = 700
        · obtain ⟨rfl, rfl⟩ := pr_big hq (by omega)
          obtain ⟨av, cv, rfl⟩ := nout_fin hu
          have h7' : (l.length : Int) = 700 := by omega
          have h7b : ((l.length : Int) == 700) = true := by simp; omega
          have CA : Hid (∀ o, Calls Tryd.prog 4 #[] (w3.alloc o) fun e w' => e = .returned (.bool true) ∧ Below (w3.alloc o).heap.size (w3.alloc o) w') := fun o => awake_any _ (HEnv.out.below (HB3.out.alloc HB3.out.size _))
          clear hu hq hg3 h7
          go_wp2_with (go_at_call 4; refine (CA.out _).mono ?_; rintro e w5 ⟨rfl, b5⟩)
          go_ret
          exact ⟨rfl, below_step (HB3.out.alloc HB3.out.size _) b5⟩
        · obtain ⟨rfl, rfl⟩ := pr_good hq (by omega) (snoc_dec l x HT.out H48.out (by omega))
          obtain ⟨av, cv, rfl⟩ := nout_fin hu
          have h7b : ((l.length : Int) == 700) = false := by simp; omega
          have HM0 : Hid (dv (l ++ [x]) (l ++ [x]).length = dv l l.length * 10 + d) := by
            show dv (l ++ [x]) (l ++ [x]).length = _
            rw [dv_snoc, hx48]
            congr 1; omega
          have HTX0 : Hid (otext (some (dv l l.length)) = l) := dv_dec l HT.out
          have hlN := dv_ln l HD.out
          have hlM := dv_ln (l ++ [x]) (snoc_dec l x HT.out H48.out (by omega)).2.2
          obtain ⟨N, hN⟩ : ∃ N, N = dv l l.length := ⟨_, rfl⟩
          obtain ⟨M, hM⟩ : ∃ M, M = dv (l ++ [x]) (l ++ [x]).length := ⟨_, rfl⟩
          rw [← hN] at HU3 HM0 HTX0 hlN
          rw [← hM] at hu HM0 hlM ⊢
          have HM : Hid (M = N * 10 + d) := HM0
          have HTX : Hid (otext (some N) = l) := HTX0
          obtain ⟨W4, hW4⟩ : ∃ W4, W4 = w3.alloc (.cells #[.bool false, .slice av (ln M) cv] 25) := ⟨_, rfl⟩
          have HB4 : Hid (Below W.heap.size W W4) := by rw [hW4]; exact HB3.out.alloc HB3.out.size _
          have hb34 : Below w3.heap.size w3 W4 := by rw [hW4]; exact (below_refl w3).alloc (Nat.le_refl _) _
          have Hg1 : Hid (W4.heap[w1.heap.size]? = some (.cells #[.bool false, .slice au n cu] 25)) := (hb34.block _ hs3).trans hg3
          have Hg2 : Hid (W4.heap[w3.heap.size]? = some (.cells #[.bool false, .slice av (ln M) cv] 25)) := by
            show W4.heap[w3.heap.size]? = _
            rw [hW4]; exact heap_alloc_new _ _
          have H1 : Hid (NIn W4 (.agg #[.bool false, .slice au n cu]) (some N)) := (HU3.out.below hb34).word (by omega)
          have H2 : Hid (NIn W4 (.agg #[.bool false, .slice av (ln M) cv]) (some M)) := (hu.below hb34).word (by omega)
          have HLN : Hid (ln N ≤ 10000) := by show ln N ≤ 10000; omega
          have HLM : Hid (ln (N * 10 + d) ≤ 100000) := by
            show ln (N * 10 + d) ≤ 100000
            rw [← HM.out]; omega
          have HL10' : Hid (ln (N * 10) ≤ 10000) := by
            show ln (N * 10) ≤ 10000
            have : ln (N * 10) ≤ ln M := ln_mono (by rw [HM.out]; omega)
            omega
          have HL10 : Hid (ln (N * 10) ≤ 100000) := Nat.le_trans HL10'.out (by decide)
          have HLD' : Hid (ln d ≤ 10000) := Nat.le_trans (ln_word (by omega)) (by decide)
          have HLD : Hid (ln d ≤ 100000) := Nat.le_trans HLD'.out (by decide)
          have HLT' : Hid (ln 10 ≤ 10000) := Nat.le_trans (ln_word (by decide)) (by decide)
          have HLT : Hid (ln 10 ≤ 100000) := Nat.le_trans HLT'.out (by decide)
          have hwd : IntKind.u64.wrap (d : Int) = (d : Int) := by rw [IntKind.wrap_u64]; omega
          obtain ⟨mm, hmm⟩ : ∃ mm, Hid (mm = ln M) := ⟨_, rfl⟩
          rw [← hmm.out] at hW4 Hg2 H2 ⊢
          clear hu hq hg3 h7 hN hM HM0 HTX0 hlN hlM HU3 HB3 hs3 hb34 hx48 hlx
          go_upto_region 15 with fail
          rw [← hW4]
          clear hW4
          have HW : Below W4.heap.size W4 W4 := below_refl W4
          obtain ⟨x0, x1⟩ := box_cell Hg1.out HW
          obtain ⟨x2, x3⟩ := box_cell Hg2.out HW
          have m0 : True := trivial
          go_region_held3 (fun w' => w'.cell? ⟨w1.heap.size, 0, none⟩ = some (.bool false) ∧ w'.cell? ⟨w1.heap.size, 1, none⟩ = some (.slice au n cu) ∧ w'.cell? ⟨w3.heap.size, 0, none⟩ = some (.bool false) ∧ w'.cell? ⟨w3.heap.size, 1, none⟩ = some (.slice av mm cv)) (first | exact ⟨x0, x1, x2, x3⟩ | go_keep) (first
            | (clear m6; go_at_call 4; refine (awake_any _ (by exact HEnv.out.below (below_step HB4.out (by first | exact HW | exact HW.drew)))).mono ?_; rintro e v6 ⟨rfl, b6⟩; replace HW := below_step (by first | exact HW | exact HW.drew) b6; clear b6; obtain ⟨x0, x1⟩ := box_cell Hg1.out HW; obtain ⟨x2, x3⟩ := box_cell Hg2.out HW; have m7 : True := trivial)
            | (clear m5; go_at_call 10; refine (text_at _ _ (some N) l (by exact H1.out.below (by first | exact HW | exact HW.drew)) (by exact HEnv.out.below (below_step HB4.out (by first | exact HW | exact HW.drew))) HTX.out).mono ?_; rintro e v5 ⟨rfl, b5⟩; replace HW := below_step (by first | exact HW | exact HW.drew) b5; clear b5; obtain ⟨x0, x1⟩ := box_cell Hg1.out HW; obtain ⟨x2, x3⟩ := box_cell Hg2.out HW; have m6 : True := trivial)
            | (clear m4; go_at_call 6; refine (same_at _ _ _ (some M) (some (N * 10 + d)) (by exact H2.out.below (by first | exact HW | exact HW.drew)) (by exact Fo.NOut.word (by exact o3) HLM.out) (by rw [HM.out])).mono ?_; rintro e v4 ⟨rfl, b4⟩; replace HW := below_step (by first | exact HW | exact HW.drew) b4; clear b4; obtain ⟨x0, x1⟩ := box_cell Hg1.out HW; obtain ⟨x2, x3⟩ := box_cell Hg2.out HW; have m5 : True := trivial)
            | (clear m3; go_at_call 7; refine (add_at _ _ _ (some (N * 10)) (some d) (some (N * 10 + d)) (by exact Fo.NOut.word (by exact o1) HL10.out) (by exact Fo.NOut.word (by exact o2) HLD.out) (some_le HL10'.out) (some_le HLD'.out) rfl).mono ?_; rintro e v3 ⟨⟨u3, rfl, o3⟩, b3⟩; replace HW := below_step (by first | exact HW | exact HW.drew) b3; clear b3; obtain ⟨x0, x1⟩ := box_cell Hg1.out HW; obtain ⟨x2, x3⟩ := box_cell Hg2.out HW; have m4 : True := trivial)
            | (clear m2; go_at_call 9; refine (of_any d (by omega) _).mono ?_; rintro e v2 ⟨⟨u2, rfl, o2⟩, b2⟩; replace o1 := Fo.NOut.below (by exact o1) b2; replace HW := below_step (by first | exact HW | exact HW.drew) b2; clear b2; obtain ⟨x0, x1⟩ := box_cell Hg1.out HW; obtain ⟨x2, x3⟩ := box_cell Hg2.out HW; have m3 : True := trivial)
            | (clear m1; go_at_call 8; refine (mul_at _ _ _ (some N) (some 10) (some (N * 10)) (by exact H1.out.below (by first | exact HW | exact HW.drew)) (by exact Fo.NOut.word (by exact o0) HLT.out) (some_le HLN.out) (some_le HLT'.out) rfl).mono ?_; rintro e v1 ⟨⟨u1, rfl, o1⟩, b1⟩; replace HW := below_step (by first | exact HW | exact HW.drew) b1; clear b1; obtain ⟨x0, x1⟩ := box_cell Hg1.out HW; obtain ⟨x2, x3⟩ := box_cell Hg2.out HW; have m2 : True := trivial)
            | (clear m0; go_at_call 9; refine (of_any 10 (by decide) _).mono ?_; rintro e v0 ⟨⟨u0, rfl, o0⟩, b0⟩; replace HW := below_step (by first | exact HW | exact HW.drew) b0; clear b0; obtain ⟨x0, x1⟩ := box_cell Hg1.out HW; obtain ⟨x2, x3⟩ := box_cell Hg2.out HW; have m1 : True := trivial)
            | (go_at_call 99; fail))
          go_wp2
          go_ret
          exact ⟨rfl, below_step HB4.out HW⟩
theorem long_all (l : List UInt8) (c : Int) (W : World) (henv : Env W) :
    Calls Tryd.prog 3 #[.string ⟨l.toArray⟩, .int .i64 c] W fun e w' => e = .returned (.bool true) ∧ Below W.heap.size W w' := by
  by_cases h : l = [] ∨ 720 < l.length ∨ byt l 0 = 48
  · exact long_out l c W henv h
  · have h0 : l ≠ [] := fun e => h (Or.inl e)
    have h1 : l.length ≤ 720 := by
      rcases Nat.lt_or_ge 720 l.length with h' | h'
      · exact absurd (Or.inr (Or.inl h')) h
      · exact h'
    have h2 : byt l 0 ≠ 48 := fun e => h (Or.inr (Or.inr e))
    by_cases hd : digB l
    · exact long_good l c W henv h0 h1 h2 hd
    · exact long_bad l c W henv h0 h1 h2 hd
end Go.Proofs.YtklkcnpcjmeejabDoor
