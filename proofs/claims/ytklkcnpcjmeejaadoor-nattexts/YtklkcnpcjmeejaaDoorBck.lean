/- NatBack's walk. -/
import Derived.Test.YtklkcnpcjmeejaaDoorBmt
import Derived.Test.YtklkcnpcjmeejaaDoorLft
namespace Go.Proofs.YtklkcnpcjmeejaaDoor
open Go.RowKit Fo
set_option maxRecDepth 100000

theorem back_big (i : Bool) (a : Option Addr) (n c : Nat) (ab : Option Addr) (nb cb : Nat) (w : World) (henv : Env w) (h : 64 < n ∨ 300 < nb) :
    Calls Tryd.prog 7 #[.agg #[.bool i, .slice a n c], .slice ab nb cb] w fun e w' => e = .returned (.bool true) ∧ Below w.heap.size w w' := by
  have HB : Hid (Below w.heap.size w (w.alloc (.cells #[.bool i, .slice a n c] 24))) := (below_refl w).alloc (Nat.le_refl _) _
  have CA : Hid (Calls Tryd.prog 10 #[] (w.alloc (.cells #[.bool i, .slice a n c] 24)) fun e w' => e = .returned (.bool true) ∧ Below (w.alloc (.cells #[.bool i, .slice a n c] 24)).heap.size (w.alloc (.cells #[.bool i, .slice a n c] 24)) w') := awake_any _ (henv.below HB.out)
  clear henv
  by_cases h1 : 64 < n
  · have h1' : (64 : Int) < (n : Int) := by omega
    clear h
    go_enter Tryd.func7, Tryd.ntmps7
    go_wp2_with (go_at_call 10; refine CA.out.mono ?_; rintro e w1 ⟨rfl, b1⟩)
    go_ret
    exact ⟨rfl, below_step HB.out b1⟩
  · have h1' : ¬ (64 : Int) < (n : Int) := by omega
    have h2' : (300 : Int) < (nb : Int) := by omega
    clear h
    go_enter Tryd.func7, Tryd.ntmps7
    go_wp2_with (go_at_call 10; refine CA.out.mono ?_; rintro e w1 ⟨rfl, b1⟩)
    go_ret
    exact ⟨rfl, below_step HB.out b1⟩
theorem same_eq (w : World) (v1 v2 : Value) (X1 X2 : Option Nat) (h1 : NIn w v1 X1) (h2 : NIn w v2 X2) (e : X1 = X2) : Calls Tryd.prog 18 #[v1, v2] w fun e w' => e = .returned (.bool true) ∧ Below w.heap.size w w' := by
  have := same_any w v1 v2 X1 X2 h1 h2
  rw [decide_eq_true e] at this
  exact this
theorem cat_nought (l : List UInt8) : (⟨#[48]⟩ : ByteArray) ++ ⟨l.toArray⟩ = ⟨(48 :: l).toArray⟩ := by
  apply ByteArray.ext
  simp
theorem text_len_if (i : Bool) (L : Nat → Nat) (n k : Nat) (hL : ∀ j, L j < 4294967296) (hk : 10 * n ≤ k) (h3 : 3 ≤ k) : (otext (if i then none else some (lv L n))).length ≤ k := by
  refine text_len _ k h3 fun N e => ?_
  cases i
  · obtain rfl : lv L n = N := by simpa using e
    exact Nat.lt_of_lt_of_le (val_bound L n hL) (Nat.pow_le_pow_right (by decide) hk)
  · cases e
theorem made_row {g k m c : Nat} (h : (Value.slice (some ⟨g, 0, none⟩) m c).ownBlock = some k) : g ≤ k := by
  have : g = k := by simpa [Value.ownBlock] using h
  omega
theorem br_byte {i : Bool} {n m : Nat} {L F : Nat → Nat} {q : Int} (h : BR i n L m F q) (hn : n ≤ 64) (j : Nat) (hj : j < m) : F j < 256 := by
  rcases h with h | h | h | h
  · omega
  · obtain rfl : j = 0 := by omega
    rw [h.2.2.2.1]; decide
  · omega
  · rw [h.2.2.2.2.1]
    unfold bnat
    split
    · omega
    · exact Nat.mod_lt _ (by decide)
set_option maxHeartbeats 16000000 in
theorem back_core (i : Bool) (a : Option Addr) (n c : Nat) (L : Nat → Nat) (ab : Option Addr) (nb cb : Nat) (Lb : Nat → Nat) (w : World) (henv : Env w) (hR : Rd w a n c (u32s L)) (hL : ∀ j, L j < 4294967296) (hRb : Rd w ab nb cb (u8s Lb)) (hLb : ∀ j, Lb j < 256) (hn : n ≤ 64) (hnb : nb ≤ 300) :
    Calls Tryd.prog 7 #[.agg #[.bool i, .slice a n c], .slice ab nb cb] w fun e w' => e = .returned (.bool true) ∧ Below w.heap.size w w' := by
  have HEnv : Hid (Env w) := henv
  have HR : Hid (Rd w a n c (u32s L)) := hR
  have HRb : Hid (Rd w ab nb cb (u8s Lb)) := hRb
  have HL : Hid (∀ j, L j < 4294967296) := hL
  have HLb : Hid (∀ j, Lb j < 256) := hLb
  obtain ⟨X, hX⟩ : ∃ X : Option Nat, X = if i then none else some (lv L n) := ⟨_, rfl⟩
  have HXi : Hid (X = if i then none else some (lv L n)) := hX
  have hlen : (otext X).length ≤ 640 := by
    rw [hX]
    exact text_len_if i L n 640 hL (by omega) (by decide)
  have HA : Hid (NIn w (.agg #[.bool i, .slice a n c]) X) := ⟨i, a, n, c, L, rfl, hR, hL, by omega, hX⟩
  have HlX : Hid (∀ N, X = some N → ln N ≤ 100000) := fun N e => by
    rw [hX] at e
    cases i
    · obtain rfl : lv L n = N := by simpa using e
      exact Nat.le_trans (ln_le n _ (lv_lt n fun j _ => hL j)) (by omega)
    · cases e
  have h1' : ¬ (64 : Int) < (n : Int) := by omega
  have h2' : ¬ (300 : Int) < (nb : Int) := by omega
  clear henv hR hRb hL hLb hX
  obtain ⟨W0, hW0⟩ : ∃ W0, W0 = w.alloc (.cells #[.bool i, .slice a n c] 24) := ⟨_, rfl⟩
  have HB0 : Hid (Below w.heap.size w W0) := by rw [hW0]; exact (below_refl w).alloc (Nat.le_refl _) _
  have HgA : Hid (W0.heap[w.heap.size]? = some (.cells #[.bool i, .slice a n c] 24)) := by
    show W0.heap[w.heap.size]? = _
    rw [hW0]; exact heap_alloc_new _ _
  have CT : Hid (Calls Tryd.prog 29 #[.agg #[.bool i, .slice a n c]] W0 fun e w' => e = .returned (.string ⟨(otext X).toArray⟩) ∧ Below W0.heap.size W0 w') := text_any W0 _ X (HA.out.below HB0.out) (HEnv.out.below HB0.out)
  go_enter Tryd.func7, Tryd.ntmps7
  go_wp2_with (go_at_call 29; fail)
  rw [← hW0]
  clear hW0
  refine CT.out.mono ?_
  rintro e w1 ⟨rfl, b1⟩
  obtain ⟨l, hl⟩ : ∃ l, Hid (l = otext X) := ⟨_, rfl⟩
  rw [← hl.out] at hlen ⊢
  have HB1 : Hid (Below W0.heap.size W0 w1) := b1
  have CP : Hid (Calls Tryd.prog 23 #[.string ⟨l.toArray⟩] w1 fun e w' => (∃ u X q, e = .returned (.tuple #[u, .int .i64 q]) ∧ NOut w' u X ∧ PR l X q) ∧ Below w1.heap.size w1 w') := parse_any l w1
  clear b1 CT
  go_wp2_with (go_at_call 23; fail)
  refine CP.out.mono ?_
  rintro e w2 ⟨⟨u, X', q, rfl, hu, hq⟩, b2⟩
  obtain ⟨rfl, rfl⟩ := pr_text (X := X) (by rw [← hl.out]; omega) (by rw [← hl.out]; exact hq)
  obtain ⟨ix, ax, nx, cx, rfl, -, -, -⟩ := hu.form
  have HB2 : Hid (Below W0.heap.size W0 w2) := below_step HB1.out b2
  have HU2 : Hid (NOut w2 (.agg #[.bool ix, .slice ax nx cx]) X') := hu
  clear hu hq b2 CP HB1
  obtain ⟨W2, hW2⟩ : ∃ W2, W2 = w2.alloc (.cells #[.bool ix, .slice ax nx cx] 24) := ⟨_, rfl⟩
  have HBx : Hid (Below w2.heap.size w2 W2) := by rw [hW2]; exact (below_refl w2).alloc (Nat.le_refl _) _
  have HgX : Hid (W2.heap[w2.heap.size]? = some (.cells #[.bool ix, .slice ax nx cx] 24)) := by
    show W2.heap[w2.heap.size]? = _
    rw [hW2]; exact heap_alloc_new _ _
  have HB02 : Hid (Below W0.heap.size W0 W2) := below_step HB2.out HBx.out
  have hca := cat_nought l
  have CP2 : Hid (Calls Tryd.prog 23 #[.string ⟨(48 :: l).toArray⟩] W2 fun e w' => (∃ u X q, e = .returned (.tuple #[u, .int .i64 q]) ∧ NOut w' u X ∧ PR (48 :: l) X q) ∧ Below W2.heap.size W2 w') := parse_any _ W2
  go_wp2_with (go_at_call 23; fail)
  rw [← hW2]
  clear hW2
  refine CP2.out.mono ?_
  rintro e w3 ⟨⟨u3, X3, q3, rfl, hu3, hq3⟩, b3⟩
  obtain rfl := pr_nought (X := X') (by rw [← hl.out]; omega) (by rw [← hl.out]; exact hq3)
  obtain ⟨i3, a3, n3, c3, rfl, -, -, -⟩ := hu3.form
  clear hu3 hq3 CP2 hca hl hlen
  obtain ⟨W3, hW3⟩ : ∃ W3, W3 = w3.alloc (.cells #[.bool i3, .slice a3 n3 c3] 24) := ⟨_, rfl⟩
  have HB3 : Hid (Below W2.heap.size W2 W3) := by rw [hW3]; exact below_step b3 ((below_refl w3).alloc (Nat.le_refl _) _)
  have HB03 : Hid (Below W0.heap.size W0 W3) := below_step HB02.out HB3.out
  clear b3
  obtain ⟨x0, x1⟩ := box_cell HgX.out HB3.out
  obtain ⟨x2, x3⟩ := box_cell HgA.out HB03.out
  have HXn : Hid (NOut W3 (.agg #[.bool ix, .slice ax nx cx]) X') := HU2.out.below (below_step HBx.out HB3.out)
  have CS : Hid (Calls Tryd.prog 18 #[.agg #[.bool ix, .slice ax nx cx], .agg #[.bool i, .slice a n c]] W3 fun e w' => e = .returned (.bool true) ∧ Below W3.heap.size W3 w') := same_eq W3 _ _ X' X' (HXn.out.nin HlX.out) (HA.out.below (below_step HB0.out HB03.out)) rfl
  rw [hW3] at x0 x1 x2 x3
  go_wp2_with (go_at_call 18; fail)
  rw [← hW3] at x0 x1 x2 x3 ⊢
  clear hW3
  refine CS.out.mono ?_
  rintro e w4 ⟨rfl, b4⟩
  clear x0 x1 x2 x3
  have HB4 : Hid (Below W2.heap.size W2 w4) := below_step HB3.out b4
  have HB04 : Hid (Below W0.heap.size W0 w4) := below_step HB03.out b4
  obtain ⟨x0, x1⟩ := box_cell HgX.out HB4.out
  have CM : Hid (Calls Tryd.prog 19 #[.agg #[.bool ix, .slice ax nx cx]] w4 fun e w' => e = .returned (.bool true) ∧ Below w4.heap.size w4 w') := nout_may (HXn.out.below b4)
  clear b4 CS HB3 HB03 HXn
  go_wp2_with (go_at_call 19; fail)
  refine CM.out.mono ?_
  rintro e w5 ⟨rfl, b5⟩
  clear x0 x1
  have HB5 : Hid (Below W2.heap.size W2 w5) := below_step HB4.out b5
  have HB05 : Hid (Below W0.heap.size W0 w5) := below_step HB04.out b5
  obtain ⟨x2, x3⟩ := box_cell HgA.out HB05.out
  have CB : Hid (Calls Tryd.prog 25 #[.agg #[.bool i, .slice a n c]] w5 fun e w' => BOut w5 w' e i n L ∧ Below w5.heap.size w5 w') := bytes_any i a n c L w5 (HR.out.below (below_step HB0.out HB05.out)) HL.out
  clear b5 CM HB4 HB04
  go_wp2_with (go_at_call 25; fail)
  refine CB.out.mono ?_
  rintro e w6 ⟨⟨a6, m6, c6, F, q6, rfl, hO6, hBR⟩, b6⟩
  clear x2 x3
  have HB6 : Hid (Below W2.heap.size W2 w6) := below_step HB5.out b6
  have HB06 : Hid (Below W0.heap.size W0 w6) := below_step HB05.out b6
  obtain ⟨x2, x3⟩ := box_cell HgA.out HB06.out
  clear b6 CB HB5 HB05
  by_cases hm : mayB i n L = true
  · obtain rfl : q6 = 0 := by
      rcases hBR with h | h | h | h
      · rw [h.1] at hm; cases hm
      · exact h.2.2.2.2
      · omega
      · exact h.2.2.2.2.2
    have hm6 : m6 ≤ 257 := by
      rcases hBR with h | h | h | h
      · rw [h.1] at hm; cases hm
      · omega
      · omega
      · omega
    have HBR : Hid (BR i n L m6 F 0) := hBR
    have HF : Hid (Rd w6 a6 m6 c6 (u8s F)) := hO6.rd1
    clear hO6 hBR hm x2 x3
    obtain ⟨G, hG⟩ : ∃ G : Nat → Nat, G = fun j => if j < m6 then F j else Lb (j - m6) := ⟨_, rfl⟩
    have HG : Hid (∀ j, j < m6 → G j = F j) := fun j hj => by rw [hG]; simp [hj]
    have HG256 : Hid (∀ j, G j < 256) := fun j => by
      rw [hG]
      by_cases h : j < m6
      · simp only [h, if_true]; exact br_byte HBR.out hn j h
      · simp only [h, if_false]; exact HLb.out _
    have HCat : Hid (∀ j, j < m6 + nb → catV (u8s F) m6 (u8s Lb) j = u8s G j) := fun j _ => by
      rw [hG]; unfold catV u8s
      by_cases h : j < m6
      · simp [h]
      · simp [h]
    clear hG
    obtain ⟨W6, hW6⟩ : ∃ W6, W6 = w6.alloc (.cells #[] 5) := ⟨_, rfl⟩
    have HBw6 : Hid (Below w6.heap.size w6 W6) := by rw [hW6]; exact (below_refl w6).alloc (Nat.le_refl _) _
    have HO0 : Hid (Ow 5 w6.heap.size W6 (.slice (some ⟨w6.heap.size, 0, none⟩) 0 0) 0 (u8s F)) := by
      show Ow _ _ _ _ _ _
      rw [hW6]; exact Ow.made 5 w6.heap.size w6 _ (Nat.le_refl _)
    have HF6 : Hid (Rd W6 a6 m6 c6 (u8s F)) := HF.out.below HBw6.out
    have k0 : True := trivial
    rw [hW6] at HO0 HF6
    go_wp2_with (first
      | (clear k1; at_builtin; refine wpList_app eU8 rfl _ _ rfl HO7.out HS7.out HR7.out (u8s_one _ _) (m6 + nb) rfl (by omega) (u8s G) HCat.out rfl rfl ?_; intro a8 c8 w8 hO8 hG8; have k2 : True := trivial)
      | (clear k0; at_builtin; refine wpList_app eU8 rfl _ _ rfl HO0.out (by simp) HF6.out (u8s_one F m6) m6 (Nat.zero_add _) (by omega) (u8s F) (fun j _ => catV_zero _ _ j) rfl rfl ?_; intro a7 c7 w7 hO7 hG7; have HO7 : Hid (Ow 5 w6.heap.size w7 (.slice a7 m6 c7) m6 (u8s F)) := hO7; have HB7 : Hid (Below w6.heap.size w6 w7) := ((below_refl w6).alloc (Nat.le_refl _) _).grown hG7 (by simp) (fun k hk => made_row hk); have HS7 : Hid (w6.heap.size ≤ w7.heap.size) := HB7.out.size; have HR7 : Hid (Rd w7 ab nb cb (u8s Lb)) := HRb.out.below (below_step (below_step HB0.out HB06.out) HB7.out); clear hO7 hG7; have k1 : True := trivial)
      | (go_at_call 27; fail))
    have HB8 : Hid (Below w6.heap.size w6 w8) := HB7.out.grown hG8 HS7.out (fun k hk => HO7.out.row k hk)
    have CU : Hid (Calls Tryd.prog 27 #[.slice a8 (m6 + nb) c8] w8 fun e w' => UOut w' e (m6 + nb) G ∧ Below w8.heap.size w8 w') := unb_any a8 (m6 + nb) c8 G w8 hO8.rd1 (by omega) HG256.out
    clear hO8 hG8 HO7 HB7 HS7 HR7 HO0 HF6 HF HCat HBw6 hW6
    refine CU.out.mono ?_
    rintro e w9 ⟨⟨u9, X9, n9, q9, rfl, hu9, hq9⟩, b9⟩
    obtain ⟨hX9, rfl, rfl⟩ := ur_back HL.out hn HBR.out HG.out hq9
    rw [← HXi.out] at hX9
    subst hX9
    obtain ⟨i9, a9, n9, c9, rfl, -, -, -⟩ := hu9.form
    have HB9 : Hid (Below w6.heap.size w6 w9) := below_step HB8.out b9
    obtain ⟨W9, hW9⟩ : ∃ W9, W9 = w9.alloc (.cells #[.bool i9, .slice a9 n9 c9] 24) := ⟨_, rfl⟩
    have HBy : Hid (Below w9.heap.size w9 W9) := by rw [hW9]; exact (below_refl w9).alloc (Nat.le_refl _) _
    have HgY : Hid (W9.heap[w9.heap.size]? = some (.cells #[.bool i9, .slice a9 n9 c9] 24)) := by
      show W9.heap[w9.heap.size]? = _
      rw [hW9]; exact heap_alloc_new _ _
    have HB69 : Hid (Below w6.heap.size w6 W9) := below_step HB9.out HBy.out
    obtain ⟨x0, x1⟩ := box_cell HgX.out (below_step HB6.out HB69.out)
    obtain ⟨y0, y1⟩ := box_cell HgY.out (below_refl W9)
    have CSm : Hid (Calls Tryd.prog 11 #[.agg #[.bool i9, .slice a9 n9 c9], .agg #[.bool ix, .slice ax nx cx]] W9 fun e w' => e = .returned (.bool true) ∧ Below W9.heap.size W9 w') := same_true W9 _ _ X9 (hu9.below HBy.out) (HU2.out.below (below_step HBx.out (below_step HB6.out HB69.out))) (fun N e => Nat.le_trans (HlX.out N e) (by decide))
    have HB09 : Hid (Below w.heap.size w W9) := below_step (below_step HB0.out HB06.out) HB69.out
    clear hu9 hq9 b9 CU HBR HG HG256
    rw [hW9] at x0 x1 y0 y1
    go_wp2_with (go_at_call 11; fail)
    rw [← hW9]
    clear hW9 x0 x1 y0 y1
    refine CSm.out.mono ?_
    rintro e w10 ⟨rfl, b10⟩
    have CA : Hid (Calls Tryd.prog 10 #[] w10 fun e w' => e = .returned (.bool true) ∧ Below w10.heap.size w10 w') := awake_any w10 (HEnv.out.below (below_step HB09.out b10))
    have HB10 : Hid (Below w.heap.size w w10) := below_step HB09.out b10
    clear b10 CSm
    go_wp2_with (go_at_call 10; refine CA.out.mono ?_; rintro e w11 ⟨rfl, b11⟩)
    go_ret
    exact ⟨rfl, below_step HB10.out b11⟩
  · obtain rfl : q6 = 16 := by
      rcases hBR with h | h | h | h
      · exact h.2.2
      · exact absurd h.1 hm
      · exact absurd h.1 hm
      · exact absurd h.1 hm
    have hm' : mayB i n L = false := by simpa using hm
    have CMa := may_any i a n c L w6 (HR.out.below (below_step HB0.out HB06.out)) HL.out
    rw [hm'] at CMa
    have HB6' : Hid (Below w.heap.size w w6) := below_step HB0.out HB06.out
    clear hBR hO6 hm hm'
    go_wp2_with (go_at_call 19; fail)
    refine CMa.mono ?_
    rintro e w7 ⟨rfl, b7⟩
    have HB7 : Hid (Below w.heap.size w w7) := below_step HB6'.out b7
    have CA : Hid (Calls Tryd.prog 10 #[] w7 fun e w' => e = .returned (.bool true) ∧ Below w7.heap.size w7 w') := awake_any w7 (HEnv.out.below HB7.out)
    clear b7 CMa x2 x3
    go_wp2_with (go_at_call 10; refine CA.out.mono ?_; rintro e w11 ⟨rfl, b11⟩)
    go_ret
    exact ⟨rfl, below_step HB7.out b11⟩
theorem back_all (i : Bool) (a : Option Addr) (n c : Nat) (L : Nat → Nat) (ab : Option Addr) (nb cb : Nat) (Lb : Nat → Nat) (w : World) (henv : Env w) (hR : Rd w a n c (u32s L)) (hL : ∀ j, L j < 4294967296) (hRb : Rd w ab nb cb (u8s Lb)) (hLb : ∀ j, Lb j < 256) :
    Calls Tryd.prog 7 #[.agg #[.bool i, .slice a n c], .slice ab nb cb] w fun e w' => e = .returned (.bool true) ∧ Below w.heap.size w w' := by
  by_cases h : 64 < n ∨ 300 < nb
  · exact back_big i a n c ab nb cb w henv h
  · exact back_core i a n c L ab nb cb Lb w henv hR hL hRb hLb (by omega) (by omega)
end Go.Proofs.YtklkcnpcjmeejaaDoor
