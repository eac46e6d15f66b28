/- The walk of NatWords, out of what nat's functions answer. What the laws ask of the program besides: awake. The laws' small and awake; Text of a count. The laws' awake. The document's own MayValue. What the laws of the semirings say of worths. -/
import Derived.Test.YtjdbapkmaggllaaDoorMul
import Derived.Test.YtjdbapkmaggllaaDoorBld
import Derived.Laws.BitsAll
import Derived.Test.YtjdbapkmaggllaaDoorTxt
import Derived.Test.YtjdbapkmaggllaaDoorMln
import Derived.Deep.RegionHeld3
import Derived.Test.YtjdbapkmaggllaaDoorVbt
import Derived.Test.YtjdbapkmaggllaaDoorVmz
import Derived.Test.YtjdbapkmaggllaaDoorFX
namespace Go.Proofs.YtjdbapkmaggllaaDoor
open Go.RowKit Fo
set_option maxRecDepth 100000

theorem ln_word {m : Nat} (h : m < 18446744073709551616) : ln m ≤ 2 := ln_le 2 m (by simpa using h)
theorem ln_words {X : Option Nat} {m : Nat} (hm : m < 18446744073709551616) (hX : X = some m) : ∀ N, X = some N → ln N ≤ 10000 := fun N e => by
  have : m = N := Option.some.inj (hX.symm.trans e)
  have := ln_word hm
  subst_vars; omega
theorem Fo.NOut.word {w : World} {v : Value} {m : Nat} (h : NOut w v (some m)) (hm : ln m ≤ 100000) : NIn w v (some m) := h.nin fun N e => by
  obtain rfl := Option.some.inj e
  exact hm
theorem some_le {m : Nat} (hm : ln m ≤ 10000) : ∀ N, some m = some N → ln N ≤ 10000 := fun N e => by
  obtain rfl := Option.some.inj e
  exact hm
theorem and32 (x : Nat) (h : x < 18446744073709551616) : bits .and .u64 (x : Int) 4294967295 = ((x % 4294967296 : Nat) : Int) := by
  have := u64_and_nat x 4294967295 h (by omega)
  rw [show (4294967295 : Nat) = 2 ^ 32 - 1 by decide, Nat.and_two_pow_sub_one_eq_mod] at this
  simpa using this
theorem cmp_lt (x y : Nat) : (ocmp (some x) (some y) < 0) ↔ x < y := by
  show (if x < y then (-1 : Int) else if x = y then 0 else 1) < 0 ↔ x < y
  by_cases h : x < y
  · simp [h]
  · rw [if_neg h]; split <;> simp [h]
end Go.Proofs.YtjdbapkmaggllaaDoor

namespace Go.Proofs.YtjdbapkmaggllaaDoor
open Go.RowKit Fo
set_option maxRecDepth 100000

theorem text_big : otext (some (4294967296 * 4294967296)) = [49, 56, 52, 52, 54, 55, 52, 52, 48, 55, 51, 55, 48, 57, 53, 53, 49, 54, 49, 54] := by
  show Lib.decDigits 18446744073709551616 = _
  repeat rw [dec_big _ (by decide)]
  rw [Lib.decDigits_one (by decide)]
  decide
theorem text_zero : otext (some 0) = [48] := by
  show Lib.decDigits 0 = _
  rw [Lib.decDigits_one (by decide)]
  decide
theorem text_at (w : World) (v : Value) (X : Option Nat) (l : List UInt8) (h : NIn w v X) (henv : Env w) (hl : otext X = l) : Calls Tryd.prog 39 #[v] w fun e w' => e = .returned (.string ⟨l.toArray⟩) ∧ Below w.heap.size w w' := by
  rw [← hl]; exact text_any w v X h henv
theorem mul_at (w : World) (v1 v2 : Value) (X1 X2 X : Option Nat) (h1 : NIn w v1 X1) (h2 : NIn w v2 X2) (hb1 : ∀ N, X1 = some N → ln N ≤ 10000) (hb2 : ∀ N, X2 = some N → ln N ≤ 10000) (e : omul X1 X2 = X) :
    Calls Tryd.prog 44 #[v1, v2] w fun e w' => (∃ u, e = .returned u ∧ NOut w' u X) ∧ Below w.heap.size w w' := by
  rw [← e]; exact mul_any w v1 v2 X1 X2 h1 h2 hb1 hb2
theorem nin_inf (w : World) : NIn w (.agg #[.bool true, .slice none 0 0]) none := (nout_inf w).nin fun _ e => by cases e
theorem ln_big : ln (4294967296 * 4294967296) ≤ 100000 := Nat.le_trans (ln_le 3 _ (by decide)) (by decide)
theorem compare_at (w : World) (v1 v2 : Value) (X1 X2 : Option Nat) (q : Int) (h1 : NIn w v1 X1) (h2 : NIn w v2 X2) (e : ocmp X1 X2 = q) : Calls Tryd.prog 32 #[v1, v2] w fun e w' => e = .returned (.int .i64 q) ∧ Below w.heap.size w w' := by
  rw [← e]; exact compare_any w v1 v2 X1 X2 h1 h2
end Go.Proofs.YtjdbapkmaggllaaDoor

namespace Go.Proofs.YtjdbapkmaggllaaDoor
open Go.RowKit Fo
set_option maxRecDepth 100000

theorem vsmall_any (g k : Nat) (A : Nat → Option Addr) (n C : Nat → Nat) (w : World) (hk : k ≤ 10) (hk1 : 1 ≤ k) (R : Bool) (hc : ∀ j, j < k → w.cell? ⟨g, j * 5 + 2, none⟩ = some (.slice (A j) (n j) (C j)))
    (hT : (∀ j, j < k → n j ≤ 60) → true = R) (hF : ∀ j, j < k → 60 < n j → false = R) :
    Calls Tryd.prog 6 #[.slice (some ⟨g, 0, none⟩) k k] w fun e w' => e = .returned (.bool R) ∧ w' = w := by
  have HT : Hid ((∀ j, j < k → n j ≤ 60) → true = R) := hT
  have HF : Hid (∀ j, j < k → 60 < n j → false = R) := hF
  clear hT hF
  go_enter Tryd.func6, Tryd.ntmps6
  go_wp2
  go_loop [3] (fun v => ∃ i : Nat, i ≤ k ∧ v = .int .i64 i ∧ Hid (∀ j, j < i → n j ≤ 60)) (fun v => k - (intOf v).toNat)
  case atStart => exact ⟨0, Nat.zero_le _, rfl, fun j hj => absurd hj (by omega)⟩
  case round =>
    obtain ⟨i, hi, rfl, HK⟩ := hrel
    by_cases hlt : i < k
    · have hci := hc i hlt
      by_cases h : 60 < n i
      · have HE : Hid (false = R) := HF.out i hlt h
        have h1 : (60 : Int) < (n i : Int) := by omega
        clear HT HF HK hc
        go_wp2
        go_ret
        exact ⟨ret_bool HE.out, rfl⟩
      · have HK' : Hid (∀ j, j < i + 1 → n j ≤ 60) := fun j hj => by
          by_cases e : j = i
          · subst e; omega
          · exact HK.out j (by omega)
        have h1 : ¬ (60 : Int) < (n i : Int) := by omega
        clear HT HF HK hc h
        go_wp2
        go_round
        case rel => exact ⟨i + 1, by omega, by go_num, HK'⟩
        case measure => simp [intOf]; omega
    · obtain rfl : i = k := by omega
      have HE : Hid (true = R) := HT.out HK.out
      clear HT HF HK hc
      go_wp2
      go_ret
      exact ⟨ret_bool HE.out, rfl⟩
theorem text_one : otext (some 1) = [49] := by
  show Lib.decDigits 1 = _
  rw [Lib.decDigits_one (by decide)]
  decide
theorem vtext_count (w : World) (v1 : Value) (V1 : Vl) (h1 : VIn w v1 V1) (l : List UInt8) (es1 : V1.s = 1) (m1 : mayV V1 = 0) (hl : otext (numV V1) = l) (henv : Env w) : Calls Tryd.prog 18 #[v1] w fun e w' => e = .returned (.string ⟨l.toArray⟩) ∧ Below w.heap.size w w' := by
  have H1' := h1
  obtain ⟨a1, c1, rfl, hr1, hL1, hn1, hx1, hl1, hs1⟩ := h1
  rw [es1] at H1' ⊢
  obtain ⟨W0, hW0⟩ : ∃ W0, W0 = (w.alloc (.cells #[.int .i64 1, .bool V1.i, .slice a1 V1.n c1, .int .i64 V1.l, .float .f64 V1.x] 27)) := ⟨_, rfl⟩
  have HB0 : Hid (Below w.heap.size w W0) := by rw [hW0]; exact below1 w _
  have Hg1 : Hid (W0.heap[w.heap.size]? = some (.cells #[.int .i64 1, .bool V1.i, .slice a1 V1.n c1, .int .i64 V1.l, .float .f64 V1.x] 27)) := by
    show W0.heap[w.heap.size]? = _
    rw [hW0]; exact heap_at1_0 w _
  have H1 : Hid (VIn W0 (.agg #[.int .i64 1, .bool V1.i, .slice a1 V1.n c1, .int .i64 V1.l, .float .f64 V1.x]) V1) := H1'.below HB0.out
  have HW : Below W0.heap.size W0 W0 := below_refl W0
  clear hr1 hL1 hn1 hx1 hl1 hs1 H1'
  obtain ⟨p10, p11, p12, p13, p14⟩ := box5 Hg1.out HW
  have E1 : Hid (mayV V1 = 0) := m1
  have HL : Hid (otext (numV V1) = l) := hl
  have HEnv : Hid (Env w) := henv
  clear m1 hl henv es1
  go_enter Tryd.func18, Tryd.ntmps18
  go_wp2_with (go_at_call 15; fail)
  rw [← hW0]
  clear hW0
  refine (vmay_at _ _ V1 0 (by exact H1.out.below HW) E1.out).mono ?_
  rintro e w1 ⟨rfl, b⟩
  replace HW := below_step HW b
  clear b
  clear p10 p11 p12 p13 p14; obtain ⟨p10, p11, p12, p13, p14⟩ := box5 Hg1.out HW
  go_wp2_with (go_at_call 39; fail)
  refine (text_at _ _ (numV V1) l (by exact (H1.out.below HW).num') (by exact HEnv.out.below (below_step HB0.out HW)) HL.out).mono ?_
  rintro e w2 ⟨rfl, b⟩
  replace HW := below_step HW b
  clear b
  clear p10 p11 p12 p13 p14; obtain ⟨p10, p11, p12, p13, p14⟩ := box5 Hg1.out HW
  go_wp2
  go_ret
  exact ⟨rfl, below_step HB0.out HW⟩
end Go.Proofs.YtjdbapkmaggllaaDoor

namespace Go.Proofs.YtjdbapkmaggllaaDoor
open Go.RowKit Fo
set_option maxRecDepth 100000

theorem star_of (w : World) (v : Value) (s : Int) (P : Option Nat) (h : VOk w v s P) : Calls Tryd.prog 8 #[v] w fun e w' => (∃ u, e = .returned (.tuple #[u, .int .i64 0]) ∧ VOut w' u s (pstar s P)) ∧ Below w.heap.size w w' := by
  obtain ⟨V, h1, m, rfl, rfl⟩ := h
  exact star_ok w v V h1 m
theorem text_count (w : World) (v : Value) (N : Nat) (l : List UInt8) (h : VOk w v 1 (some N)) (hl : otext (some N) = l) (henv : Env w) : Calls Tryd.prog 18 #[v] w fun e w' => e = .returned (.string ⟨l.toArray⟩) ∧ Below w.heap.size w w' := by
  obtain ⟨V, h1, m, e1, e2⟩ := h
  rw [den_nat (Or.inl e1)] at e2
  exact vtext_count w v V h1 l e1 m (by rw [e2]; exact hl) henv
set_option maxHeartbeats 16000000 in
/-- THE LAWS' AWAKE. -/
theorem vawake_any (w : World) (henv : Env w) : Calls Tryd.prog 7 #[] w fun e w' => e = .returned (.bool true) ∧ Below w.heap.size w w' := by
  have hsf := st_flo
  have HEnv : Hid (Env w) := henv
  have C1 := vone_any 1 w (Or.inl rfl)
  clear henv
  go_enter Tryd.func7, Tryd.ntmps7
  go_wp2_with (go_at_call 10; fail)
  refine C1.mono ?_
  rintro e w1 ⟨⟨u, rfl, o⟩, b⟩
  clear C1
  have HB : Hid (Below w.heap.size w w1) := b
  clear b
  obtain ⟨s, i, a, n, c, l, x, rfl⟩ := o.form
  obtain ⟨W1, hW1⟩ : ∃ W1, W1 = w1.alloc (.cells #[.int .i64 s, .bool i, .slice a n c, .int .i64 l, .float .f64 x] 27) := ⟨_, rfl⟩
  have HB1 : Hid (Below w.heap.size w W1) := by show Below _ _ W1; rw [hW1]; exact HB.out.alloc HB.out.size _
  have Hg1 : Hid (W1.heap[w1.heap.size]? = some (.cells #[.int .i64 s, .bool i, .slice a n c, .int .i64 l, .float .f64 x] 27)) := by show W1.heap[w1.heap.size]? = _; rw [hW1]; exact heap_alloc_new _ _
  have O1 : Hid (VOk W1 (.agg #[.int .i64 s, .bool i, .slice a n c, .int .i64 l, .float .f64 x]) 1 (some 1)) := by show VOk W1 _ _ _; rw [hW1]; exact (o.ok (pone_short 1)).below (below1 _ _)
  clear o HB
  go_wp2_with (go_at_call 8; fail)
  rw [← hW1]
  clear hW1
  refine (star_of _ _ 1 (some 1) (by exact O1.out)).mono ?_
  rintro e w2 ⟨⟨u2, rfl, o2⟩, b⟩
  obtain ⟨a2, c2, rfl⟩ : ∃ a2 c2, u2 = .agg #[.int .i64 1, .bool true, .slice a2 0 c2, .int .i64 0, .float .f64 0] := by
    rcases o2 with ⟨-, i, a, n, c, rfl, h⟩ | ⟨h, -⟩ | ⟨h, -⟩
    · rcases h with ⟨-, a', c', e, -⟩ | ⟨N, a', c', e, -⟩
      · simp at e
        obtain ⟨rfl, rfl, rfl, rfl⟩ := e
        exact ⟨_, _, rfl⟩
      · cases e
    · exact absurd h (by decide)
    · exact absurd h (by decide)
  clear o2
  have HW : Hid (Below W1.heap.size W1 w2) := b
  clear b
  go_wp2_with (go_at_call 17; fail)
  obtain ⟨W2, hW2⟩ : ∃ W2, W2 = w2.alloc (.cells #[.int .i64 1, .bool true, .slice a2 0 c2, .int .i64 0, .float .f64 0] 27) := ⟨_, rfl⟩
  rw [← hW2]
  have HW2 : Hid (Below W1.heap.size W1 W2) := by show Below _ _ W2; rw [hW2]; exact HW.out.alloc HW.out.size _
  have Hg2 : Hid (W2.heap[w2.heap.size]? = some (.cells #[.int .i64 1, .bool true, .slice a2 0 c2, .int .i64 0, .float .f64 0] 27)) := by show W2.heap[w2.heap.size]? = _; rw [hW2]; exact heap_alloc_new _ _
  clear hW2 HW
  refine (vzero_not 0 _ (by unfold isSem; omega)).mono ?_
  rintro e w3 ⟨rfl, b⟩
  unfold noV
  have HW3 : Hid (Below W1.heap.size W1 w3) := below_step HW2.out b
  obtain ⟨p0, p1, p2, p3, p4⟩ := box5 Hg1.out HW3.out
  obtain ⟨q0, q1, q2, q3, q4⟩ := box5 Hg2.out b
  clear b
  have l1 : w1.heap.size < w3.heap.size := World.block_lt_of_cell? w3 _ p0
  have l2 : w2.heap.size < w3.heap.size := World.block_lt_of_cell? w3 _ q0
  go_wp2_with (go_at_call 18; fail)
  refine (text_count _ _ 1 [49] (by exact O1.out.below (HW3.out.alloc HW3.out.size _)) text_one (by exact HEnv.out.below (below_step HB1.out (HW3.out.alloc HW3.out.size _)))).mono ?_
  rintro e w4 ⟨rfl, b⟩
  have HW4 : Hid (Below W1.heap.size W1 w4) := below_step (HW3.out.alloc HW3.out.size _) b
  clear b
  go_wp2
  go_ret
  exact ⟨rfl, below_step HB1.out HW4.out⟩
end Go.Proofs.YtjdbapkmaggllaaDoor

namespace Go.Proofs.YtjdbapkmaggllaaDoor
open Go.RowKit Fo
set_option maxRecDepth 100000

theorem rmv_nat (s : Int) (i : Bool) (a : Option Addr) (n c : Nat) (L : Nat → Nat) (l : Int) (x : Nat) (w : World) (hs : s = 1 ∨ s = 3) (hr : Rd w a n c (u32s L)) (hn : n ≤ 100000) :
    Calls Tryd.prog 9 #[.agg #[.int .i64 s, .bool i, .slice a n c, .int .i64 l, .float .f64 x]] w fun e w' => e = .returned (.int .i64 (if mayB i n L then 0 else 16)) ∧ Below w.heap.size w w' := by
  have HB : Hid (Below w.heap.size w (w.alloc (.cells #[.int .i64 s, .bool i, .slice a n c, .int .i64 l, .float .f64 x] 27))) := below1 w _
  have cM := rmay_any i a n c L _ (hr.below HB.out) hn
  generalize mayB i n L = b at cM ⊢
  clear hr hn
  cases b
  · rcases hs with rfl | rfl
    · go_enter Tryd.func9, Tryd.ntmps9
      go_wp2_with (go_at_call 22; refine cM.mono ?_; rintro e w1 ⟨rfl, b1⟩; replace b1 : Hid (Below _ _ _) := b1)
      go_ret
      exact ⟨rfl, below_step HB.out b1.out⟩
    · go_enter Tryd.func9, Tryd.ntmps9
      go_wp2_with (go_at_call 22; refine cM.mono ?_; rintro e w1 ⟨rfl, b1⟩; replace b1 : Hid (Below _ _ _) := b1)
      go_ret
      exact ⟨rfl, below_step HB.out b1.out⟩
  · rcases hs with rfl | rfl
    · go_enter Tryd.func9, Tryd.ntmps9
      go_wp2_with (go_at_call 22; refine cM.mono ?_; rintro e w1 ⟨rfl, b1⟩; replace b1 : Hid (Below _ _ _) := b1)
      go_ret
      exact ⟨rfl, below_step HB.out b1.out⟩
    · go_enter Tryd.func9, Tryd.ntmps9
      go_wp2_with (go_at_call 22; refine cM.mono ?_; rintro e w1 ⟨rfl, b1⟩; replace b1 : Hid (Below _ _ _) := b1)
      go_ret
      exact ⟨rfl, below_step HB.out b1.out⟩
theorem rmv_lev20 (s : Int) (i : Bool) (a : Option Addr) (n c : Nat) (l : Int) (x : Nat) (w : World) (hs : s = 2) (hl : l = 0) :
    Calls Tryd.prog 9 #[.agg #[.int .i64 s, .bool i, .slice a n c, .int .i64 l, .float .f64 x]] w fun e w' => e = .returned (.int .i64 0) ∧ Below w.heap.size w w' := by
  have HB : Hid (Below w.heap.size w (w.alloc (.cells #[.int .i64 s, .bool i, .slice a n c, .int .i64 l, .float .f64 x] 27))) := below1 w _
  subst hs
  subst hl
  go_enter Tryd.func9, Tryd.ntmps9
  go_wp2
  go_ret
  exact ⟨rfl, HB.out⟩
theorem rmv_lev21 (s : Int) (i : Bool) (a : Option Addr) (n c : Nat) (l : Int) (x : Nat) (w : World) (hs : s = 2) (hl : l = 1) :
    Calls Tryd.prog 9 #[.agg #[.int .i64 s, .bool i, .slice a n c, .int .i64 l, .float .f64 x]] w fun e w' => e = .returned (.int .i64 0) ∧ Below w.heap.size w w' := by
  have HB : Hid (Below w.heap.size w (w.alloc (.cells #[.int .i64 s, .bool i, .slice a n c, .int .i64 l, .float .f64 x] 27))) := below1 w _
  subst hs
  subst hl
  go_enter Tryd.func9, Tryd.ntmps9
  go_wp2
  go_ret
  exact ⟨rfl, HB.out⟩
theorem rmv_lev22 (s : Int) (i : Bool) (a : Option Addr) (n c : Nat) (l : Int) (x : Nat) (w : World) (hs : s = 2) (h0 : (l == 0) = false) (h1 : (l == 1) = false) :
    Calls Tryd.prog 9 #[.agg #[.int .i64 s, .bool i, .slice a n c, .int .i64 l, .float .f64 x]] w fun e w' => e = .returned (.int .i64 16) ∧ Below w.heap.size w w' := by
  have HB : Hid (Below w.heap.size w (w.alloc (.cells #[.int .i64 s, .bool i, .slice a n c, .int .i64 l, .float .f64 x] 27))) := below1 w _
  subst hs
  skip
  go_enter Tryd.func9, Tryd.ntmps9
  go_wp2
  go_ret
  exact ⟨rfl, HB.out⟩
theorem rmv_lev40 (s : Int) (i : Bool) (a : Option Addr) (n c : Nat) (l : Int) (x : Nat) (w : World) (hs : s = 4) (h0 : 0 ≤ l) (h1 : l ≤ 7) :
    Calls Tryd.prog 9 #[.agg #[.int .i64 s, .bool i, .slice a n c, .int .i64 l, .float .f64 x]] w fun e w' => e = .returned (.int .i64 0) ∧ Below w.heap.size w w' := by
  have HB : Hid (Below w.heap.size w (w.alloc (.cells #[.int .i64 s, .bool i, .slice a n c, .int .i64 l, .float .f64 x] 27))) := below1 w _
  subst hs
  skip
  go_enter Tryd.func9, Tryd.ntmps9
  go_wp2
  go_ret
  exact ⟨rfl, HB.out⟩
theorem rmv_lev41 (s : Int) (i : Bool) (a : Option Addr) (n c : Nat) (l : Int) (x : Nat) (w : World) (hs : s = 4) (h0 : ¬ 0 ≤ l) :
    Calls Tryd.prog 9 #[.agg #[.int .i64 s, .bool i, .slice a n c, .int .i64 l, .float .f64 x]] w fun e w' => e = .returned (.int .i64 16) ∧ Below w.heap.size w w' := by
  have HB : Hid (Below w.heap.size w (w.alloc (.cells #[.int .i64 s, .bool i, .slice a n c, .int .i64 l, .float .f64 x] 27))) := below1 w _
  subst hs
  skip
  go_enter Tryd.func9, Tryd.ntmps9
  go_wp2
  go_ret
  exact ⟨rfl, HB.out⟩
theorem rmv_lev42 (s : Int) (i : Bool) (a : Option Addr) (n c : Nat) (l : Int) (x : Nat) (w : World) (hs : s = 4) (h0 : 0 ≤ l) (h1 : ¬ l ≤ 7) :
    Calls Tryd.prog 9 #[.agg #[.int .i64 s, .bool i, .slice a n c, .int .i64 l, .float .f64 x]] w fun e w' => e = .returned (.int .i64 16) ∧ Below w.heap.size w w' := by
  have HB : Hid (Below w.heap.size w (w.alloc (.cells #[.int .i64 s, .bool i, .slice a n c, .int .i64 l, .float .f64 x] 27))) := below1 w _
  subst hs
  skip
  go_enter Tryd.func9, Tryd.ntmps9
  go_wp2
  go_ret
  exact ⟨rfl, HB.out⟩
theorem rmv_flo50 (s : Int) (i : Bool) (a : Option Addr) (n c : Nat) (l : Int) (x : Nat) (w : World) (hs : s = 5) (o0 : (FloatKind.f64.format.order x 0 == some Ordering.gt || FloatKind.f64.format.order x 0 == some Ordering.eq) = true) (o1 : (FloatKind.f64.format.order x 4607182418800017408 == some Ordering.lt || FloatKind.f64.format.order x 4607182418800017408 == some Ordering.eq) = true) (hx : x < 18446744073709551616) (hb : Fl.Fo.bitsOf x < 9223372036854775808) :
    Calls Tryd.prog 9 #[.agg #[.int .i64 s, .bool i, .slice a n c, .int .i64 l, .float .f64 x]] w fun e w' => e = .returned (.int .i64 0) ∧ Below w.heap.size w w' := by
  have HB : Hid (Below w.heap.size w (w.alloc (.cells #[.int .i64 s, .bool i, .slice a n c, .int .i64 l, .float .f64 x] 27))) := below1 w _
  subst hs
  have cb := Fl.rbits_any x hx
  have hbI : ((Fl.Fo.bitsOf x : Nat) : Int) < 9223372036854775808 := by omega
  clear hb
  go_enter Tryd.func9, Tryd.ntmps9
  go_wp2_with (go_at_call 23; refine (cb _).mono ?_; rintro e w1 ⟨rfl, rfl⟩)
  go_ret
  exact ⟨rfl, HB.out⟩
theorem rmv_flo51 (s : Int) (i : Bool) (a : Option Addr) (n c : Nat) (l : Int) (x : Nat) (w : World) (hs : s = 5) (o0 : (FloatKind.f64.format.order x 0 == some Ordering.gt || FloatKind.f64.format.order x 0 == some Ordering.eq) = false) :
    Calls Tryd.prog 9 #[.agg #[.int .i64 s, .bool i, .slice a n c, .int .i64 l, .float .f64 x]] w fun e w' => e = .returned (.int .i64 16) ∧ Below w.heap.size w w' := by
  have HB : Hid (Below w.heap.size w (w.alloc (.cells #[.int .i64 s, .bool i, .slice a n c, .int .i64 l, .float .f64 x] 27))) := below1 w _
  subst hs
  go_enter Tryd.func9, Tryd.ntmps9
  go_wp2
  go_ret
  exact ⟨rfl, HB.out⟩
theorem rmv_flo52 (s : Int) (i : Bool) (a : Option Addr) (n c : Nat) (l : Int) (x : Nat) (w : World) (hs : s = 5) (o0 : (FloatKind.f64.format.order x 0 == some Ordering.gt || FloatKind.f64.format.order x 0 == some Ordering.eq) = true) (o1 : (FloatKind.f64.format.order x 4607182418800017408 == some Ordering.lt || FloatKind.f64.format.order x 4607182418800017408 == some Ordering.eq) = false) :
    Calls Tryd.prog 9 #[.agg #[.int .i64 s, .bool i, .slice a n c, .int .i64 l, .float .f64 x]] w fun e w' => e = .returned (.int .i64 16) ∧ Below w.heap.size w w' := by
  have HB : Hid (Below w.heap.size w (w.alloc (.cells #[.int .i64 s, .bool i, .slice a n c, .int .i64 l, .float .f64 x] 27))) := below1 w _
  subst hs
  go_enter Tryd.func9, Tryd.ntmps9
  go_wp2
  go_ret
  exact ⟨rfl, HB.out⟩
theorem rmv_flo5n (s : Int) (i : Bool) (a : Option Addr) (n c : Nat) (l : Int) (x : Nat) (w : World) (hs : s = 5) (hx : x = 9223372036854775808) :
    Calls Tryd.prog 9 #[.agg #[.int .i64 s, .bool i, .slice a n c, .int .i64 l, .float .f64 x]] w fun e w' => e = .returned (.int .i64 16) ∧ Below w.heap.size w w' := by
  have HB : Hid (Below w.heap.size w (w.alloc (.cells #[.int .i64 s, .bool i, .slice a n c, .int .i64 l, .float .f64 x] 27))) := below1 w _
  subst hs
  subst hx
  have cb : ∀ w, Calls Tryd.prog 23 #[.float .f64 9223372036854775808] w fun e w' => e = .returned (.int .u64 9223372036854775808) ∧ w' = w := Fl.rbits_any 9223372036854775808 (by decide)
  have o0 : (FloatKind.f64.format.order 9223372036854775808 0 == some Ordering.gt || FloatKind.f64.format.order 9223372036854775808 0 == some Ordering.eq) = true := by decide +kernel
  have o1 : (FloatKind.f64.format.order 9223372036854775808 4607182418800017408 == some Ordering.lt || FloatKind.f64.format.order 9223372036854775808 4607182418800017408 == some Ordering.eq) = true := by decide +kernel
  go_enter Tryd.func9, Tryd.ntmps9
  go_wp2_with (go_at_call 23; refine (cb _).mono ?_; rintro e w1 ⟨rfl, rfl⟩)
  go_ret
  exact ⟨rfl, HB.out⟩
theorem rmv_flo60 (s : Int) (i : Bool) (a : Option Addr) (n c : Nat) (l : Int) (x : Nat) (w : World) (hs : s = 6) (o0 : (FloatKind.f64.format.order x 0 == some Ordering.gt || FloatKind.f64.format.order x 0 == some Ordering.eq) = true) (hx : x < 18446744073709551616) (hb : Fl.Fo.bitsOf x < 9223372036854775808) :
    Calls Tryd.prog 9 #[.agg #[.int .i64 s, .bool i, .slice a n c, .int .i64 l, .float .f64 x]] w fun e w' => e = .returned (.int .i64 0) ∧ Below w.heap.size w w' := by
  have HB : Hid (Below w.heap.size w (w.alloc (.cells #[.int .i64 s, .bool i, .slice a n c, .int .i64 l, .float .f64 x] 27))) := below1 w _
  subst hs
  have cb := Fl.rbits_any x hx
  have hbI : ((Fl.Fo.bitsOf x : Nat) : Int) < 9223372036854775808 := by omega
  clear hb
  go_enter Tryd.func9, Tryd.ntmps9
  go_wp2_with (go_at_call 23; refine (cb _).mono ?_; rintro e w1 ⟨rfl, rfl⟩)
  go_ret
  exact ⟨rfl, HB.out⟩
theorem rmv_flo61 (s : Int) (i : Bool) (a : Option Addr) (n c : Nat) (l : Int) (x : Nat) (w : World) (hs : s = 6) (o0 : (FloatKind.f64.format.order x 0 == some Ordering.gt || FloatKind.f64.format.order x 0 == some Ordering.eq) = false) :
    Calls Tryd.prog 9 #[.agg #[.int .i64 s, .bool i, .slice a n c, .int .i64 l, .float .f64 x]] w fun e w' => e = .returned (.int .i64 16) ∧ Below w.heap.size w w' := by
  have HB : Hid (Below w.heap.size w (w.alloc (.cells #[.int .i64 s, .bool i, .slice a n c, .int .i64 l, .float .f64 x] 27))) := below1 w _
  subst hs
  go_enter Tryd.func9, Tryd.ntmps9
  go_wp2
  go_ret
  exact ⟨rfl, HB.out⟩
theorem rmv_flo6n (s : Int) (i : Bool) (a : Option Addr) (n c : Nat) (l : Int) (x : Nat) (w : World) (hs : s = 6) (hx : x = 9223372036854775808) :
    Calls Tryd.prog 9 #[.agg #[.int .i64 s, .bool i, .slice a n c, .int .i64 l, .float .f64 x]] w fun e w' => e = .returned (.int .i64 16) ∧ Below w.heap.size w w' := by
  have HB : Hid (Below w.heap.size w (w.alloc (.cells #[.int .i64 s, .bool i, .slice a n c, .int .i64 l, .float .f64 x] 27))) := below1 w _
  subst hs
  subst hx
  have cb : ∀ w, Calls Tryd.prog 23 #[.float .f64 9223372036854775808] w fun e w' => e = .returned (.int .u64 9223372036854775808) ∧ w' = w := Fl.rbits_any 9223372036854775808 (by decide)
  have o0 : (FloatKind.f64.format.order 9223372036854775808 0 == some Ordering.gt || FloatKind.f64.format.order 9223372036854775808 0 == some Ordering.eq) = true := by decide +kernel
  have o1 : (FloatKind.f64.format.order 9223372036854775808 4607182418800017408 == some Ordering.lt || FloatKind.f64.format.order 9223372036854775808 4607182418800017408 == some Ordering.eq) = true := by decide +kernel
  go_enter Tryd.func9, Tryd.ntmps9
  go_wp2_with (go_at_call 23; refine (cb _).mono ?_; rintro e w1 ⟨rfl, rfl⟩)
  go_ret
  exact ⟨rfl, HB.out⟩
theorem rmv_no (s : Int) (i : Bool) (a : Option Addr) (n c : Nat) (l : Int) (x : Nat) (w : World) (h1 : (s == 1) = false) (h2 : (s == 2) = false) (h3 : (s == 3) = false) (h4 : (s == 4) = false) (h5 : (s == 5) = false) (h6 : (s == 6) = false) :
    Calls Tryd.prog 9 #[.agg #[.int .i64 s, .bool i, .slice a n c, .int .i64 l, .float .f64 x]] w fun e w' => e = .returned (.int .i64 9) ∧ Below w.heap.size w w' := by
  have HB : Hid (Below w.heap.size w (w.alloc (.cells #[.int .i64 s, .bool i, .slice a n c, .int .i64 l, .float .f64 x] 27))) := below1 w _
  go_enter Tryd.func9, Tryd.ntmps9
  go_wp2
  go_ret
  exact ⟨rfl, HB.out⟩
theorem ge_zero (x : Nat) (hx : x < 18446744073709551616) (h : x ≤ 9218868437227405312) : (FloatKind.f64.format.order x 0 == some Ordering.gt || FloatKind.f64.format.order x 0 == some Ordering.eq) = true := by
  rw [Fl.ord_pos x 0 h (by decide)]
  by_cases h0 : x = 0
  · subst h0; decide
  · rw [Fl.cmp_of_gt (by omega)]; rfl
theorem ge_zero_not (x : Nat) (hx : x < 18446744073709551616) (h : ¬ x ≤ 9218868437227405312) (hz : x ≠ 9223372036854775808) : (FloatKind.f64.format.order x 0 == some Ordering.gt || FloatKind.f64.format.order x 0 == some Ordering.eq) = false := by
  cases hn : Fl.Fo.isN x
  · rw [Fl.ord_of x 0 hx (by decide) hn Fl.isN0, Fl.key0]
    have : Fl.Fo.key x < 0 := by
      unfold Fl.Fo.isN at hn
      have hn' := of_decide_eq_false hn
      unfold Fl.Fo.key
      split <;> omega
    rw [Fl.cmp_of_lt this]; rfl
  · rw [Fl.ord_none x 0 hx (by decide) hn]; rfl
theorem le_one (x : Nat) (h : x ≤ 9218868437227405312) : (FloatKind.f64.format.order x 4607182418800017408 == some Ordering.lt || FloatKind.f64.format.order x 4607182418800017408 == some Ordering.eq) = decide (x ≤ 4607182418800017408) := by
  rw [Fl.ord_pos x 4607182418800017408 h (by decide)]
  rcases Nat.lt_trichotomy x 4607182418800017408 with h1 | h1 | h1
  · rw [Fl.cmp_of_lt (by omega), decide_eq_true (by omega)]; rfl
  · subst h1; decide
  · rw [Fl.cmp_of_gt (by omega), decide_eq_false (by omega)]; rfl
theorem bits_low' {x : Nat} (h : x ≤ 9218868437227405312) : Fl.Fo.bitsOf x = x := by
  unfold Fl.Fo.bitsOf Fl.Fo.isN
  rw [if_neg]
  simp; omega
/-- THE DOCUMENT's OWN MAYVALUE. -/
theorem rmv_any (w : World) (v : Value) (V : Vl) (h : VIn w v V) : Calls Tryd.prog 9 #[v] w fun e w' => e = .returned (.int .i64 (mayV V)) ∧ Below w.heap.size w w' := by
  obtain ⟨a, c, rfl, hr, hL, hn, hx, hl, hs⟩ := h
  unfold mayV
  by_cases h13 : V.s = 1 ∨ V.s = 3
  · rw [if_pos h13]; exact rmv_nat V.s V.i a V.n c V.L V.l V.x w h13 hr (by omega)
  rw [if_neg h13]
  by_cases h2 : V.s = 2
  · rw [if_pos h2]
    by_cases h0 : V.l = 0
    · rw [if_pos (by omega)]; exact rmv_lev20 V.s V.i a V.n c V.l V.x w h2 h0
    by_cases h1 : V.l = 1
    · rw [if_pos (by omega)]; exact rmv_lev21 V.s V.i a V.n c V.l V.x w h2 h1
    rw [if_neg (by omega)]; exact rmv_lev22 V.s V.i a V.n c V.l V.x w h2 (by simp [h0]) (by simp [h1])
  rw [if_neg h2]
  by_cases h4 : V.s = 4
  · rw [if_pos h4]
    by_cases h0 : 0 ≤ V.l
    · by_cases h1 : V.l ≤ 7
      · rw [if_pos ⟨h0, h1⟩]; exact rmv_lev40 V.s V.i a V.n c V.l V.x w h4 h0 h1
      · rw [if_neg (fun h => h1 h.2)]; exact rmv_lev42 V.s V.i a V.n c V.l V.x w h4 h0 h1
    · rw [if_neg (fun h => h0 h.1)]; exact rmv_lev41 V.s V.i a V.n c V.l V.x w h4 h0
  rw [if_neg h4]
  by_cases hz : V.x = 9223372036854775808
  · by_cases h5 : V.s = 5
    · rw [if_pos h5, if_neg (by omega)]; exact rmv_flo5n V.s V.i a V.n c V.l V.x w h5 hz
    rw [if_neg h5]
    by_cases h6 : V.s = 6
    · rw [if_pos h6, if_neg (by omega)]; exact rmv_flo6n V.s V.i a V.n c V.l V.x w h6 hz
    rw [if_neg h6]
    exact rmv_no V.s V.i a V.n c V.l V.x w (beq_eq_false_iff_ne.2 (by omega)) (beq_eq_false_iff_ne.2 (by omega)) (beq_eq_false_iff_ne.2 (by omega)) (beq_eq_false_iff_ne.2 (by omega)) (beq_eq_false_iff_ne.2 (by omega)) (beq_eq_false_iff_ne.2 (by omega))
  by_cases h5 : V.s = 5
  · rw [if_pos h5]
    by_cases hi : V.x ≤ 9218868437227405312
    · have o1 := le_one V.x hi
      by_cases ho : V.x ≤ 4607182418800017408
      · rw [decide_eq_true ho] at o1
        rw [if_pos ho]; exact rmv_flo50 V.s V.i a V.n c V.l V.x w h5 (ge_zero V.x hx hi) o1 hx (by rw [bits_low' hi]; omega)
      · rw [decide_eq_false ho] at o1
        rw [if_neg ho]; exact rmv_flo52 V.s V.i a V.n c V.l V.x w h5 (ge_zero V.x hx hi) o1
    · rw [if_neg (by omega)]; exact rmv_flo51 V.s V.i a V.n c V.l V.x w h5 (ge_zero_not V.x hx hi hz)
  rw [if_neg h5]
  by_cases h6 : V.s = 6
  · rw [if_pos h6]
    by_cases hi : V.x ≤ 9218868437227405312
    · rw [if_pos hi]; exact rmv_flo60 V.s V.i a V.n c V.l V.x w h6 (ge_zero V.x hx hi) hx (by rw [bits_low' hi]; omega)
    · rw [if_neg hi]; exact rmv_flo61 V.s V.i a V.n c V.l V.x w h6 (ge_zero_not V.x hx hi hz)
  rw [if_neg h6]
  exact rmv_no V.s V.i a V.n c V.l V.x w (beq_eq_false_iff_ne.2 (by omega)) (beq_eq_false_iff_ne.2 (by omega)) (beq_eq_false_iff_ne.2 (by omega)) (beq_eq_false_iff_ne.2 (by omega)) (beq_eq_false_iff_ne.2 (by omega)) (beq_eq_false_iff_ne.2 (by omega))
theorem rmv_at (w : World) (v : Value) (V : Vl) (r : Int) (h : VIn w v V) (e : mayV V = r) : Calls Tryd.prog 9 #[v] w fun e w' => e = .returned (.int .i64 r) ∧ Below w.heap.size w w' := by
  rw [← e]; exact rmv_any w v V h
end Go.Proofs.YtjdbapkmaggllaaDoor

namespace Go.Proofs.YtjdbapkmaggllaaDoor
open Go.RowKit Fo
set_option maxRecDepth 100000

theorem blk_below {w1 w2 : World} {g : Nat} {o : Obj} (h : w1.heap[g]? = some o) (b : Below w1.heap.size w1 w2) : w2.heap[g]? = some o := (b.block g (Array.getElem?_eq_some_iff.1 h).1).trans h
theorem blk_lt {w1 : World} {g : Nat} {o : Obj} (h : w1.heap[g]? = some o) : g < w1.heap.size := (Array.getElem?_eq_some_iff.1 h).1
namespace Fo
/-- A worth that may be. -/
def okP (s : Int) (P : Option Nat) : Prop := (s = 1 ∨ s = 3) ∨ ((s = 2 ∨ s = 4) ∧ ∃ l, P = some l ∧ l ≤ topL s) ∨ ((s = 5 ∨ s = 6) ∧ ∃ x, P = some x ∧ x ≤ topX s)
theorem okP_of {V : Vl} (h : mayV V = 0) : okP V.s (denV V) := by
  rcases may_range h with ⟨hs, -⟩ | ⟨hs, ha⟩ | ⟨hs, ha⟩ | ⟨hs, hx⟩ | ⟨hs, hx⟩
  · exact Or.inl hs
  · exact Or.inr (Or.inl ⟨Or.inl hs, _, den_lev (Or.inl hs), by rw [hs]; show _ ≤ 1; omega⟩)
  · exact Or.inr (Or.inl ⟨Or.inr hs, _, den_lev (Or.inr hs), by rw [hs]; show _ ≤ 7; omega⟩)
  · exact Or.inr (Or.inr ⟨Or.inl hs, _, den_flo (Or.inl hs), by rw [hs]; exact hx⟩)
  · exact Or.inr (Or.inr ⟨Or.inr hs, _, den_flo (Or.inr hs), by rw [hs]; exact hx⟩)
theorem omin_eq (P Q : Option Nat) : omin P Q = match P, Q with | none, Q => Q | P, none => P | some p, some q => some (min p q) := by
  cases P <;> cases Q <;> simp [omin, ocmp]
  rename_i p q
  by_cases h : q < p
  · simp [h]; omega
  · by_cases e : q = p
    · simp [e]
    · simp [h, e]; omega
theorem omin_none_left (Q : Option Nat) : omin none Q = Q := by rw [omin_eq]
theorem omin_some (p q : Nat) : omin (some p) (some q) = some (min p q) := by rw [omin_eq]
theorem omin_none_right (p : Nat) : omin (some p) none = some p := by rw [omin_eq]
theorem tm_to_one (x : Nat) (hx : x ≤ 4607182418800017408) : Fl.Fo.tm x 4607182418800017408 = x := by
  have := (Fl.Fo.tm_one x (by omega) (Fl.Fo.in_of _ x (by decide) hx)).1
  rwa [Nat.mod_eq_of_lt (by omega)] at this
theorem ps_to_zero (x : Nat) (hx : x ≤ 9218868437227405312) : Fl.Fo.ps x 0 = x := by
  have := (Fl.Fo.ps_zero x (by omega) (Fl.Fo.in_of _ x (by decide) hx)).1
  rwa [Nat.mod_eq_of_lt (by omega)] at this
theorem star_rule (s : Int) (P : Option Nat) (h : okP s P) : padd s (pone s) (pmul s P (pstar s P)) = pstar s P := by
  rcases h with (rfl | rfl) | ⟨rfl | rfl, l, rfl, hl⟩ | ⟨rfl | rfl, x, rfl, hx⟩
  · by_cases h0 : P = some 0
    · subst h0; rfl
    · have e : pstar 1 P = none := by unfold pstar; rw [if_pos ⟨rfl, h0⟩]
      rw [e]
      show oadd (some 1) (omul P none) = none
      cases P with
      | none => rfl
      | some p =>
        have : p ≠ 0 := fun e => h0 (by rw [e])
        simp [omul, this, oadd]
  · show omin (some 0) (oadd P (some 0)) = some 0
    cases P with
    | none => rfl
    | some p => show omin (some 0) (some (p + 0)) = _; rw [omin_some]; simp
  · replace hl : l ≤ 1 := hl
    show some (max 1 (min l 1)) = some 1
    exact congrArg some (by omega)
  · replace hl : l ≤ 7 := hl
    show some (max 7 (min l 7)) = some 7
    exact congrArg some (by omega)
  · replace hx : x ≤ 4607182418800017408 := hx
    show some (max 4607182418800017408 (Fl.Fo.tm x 4607182418800017408)) = some 4607182418800017408
    rw [tm_to_one x hx]; exact congrArg some (by omega)
  · replace hx : x ≤ 9218868437227405312 := hx
    show some (min 0 (Fl.Fo.ps x 0)) = some 0
    rw [Nat.zero_min]
theorem plus_self (s : Int) (P : Option Nat) (h : okP s P) (h1 : s ≠ 1) : padd s P P = P := by
  rcases h with (rfl | rfl) | ⟨rfl | rfl, l, rfl, hl⟩ | ⟨rfl | rfl, x, rfl, hx⟩
  · exact absurd rfl h1
  · show omin P P = P
    cases P with
    | none => rfl
    | some p => rw [omin_some, Nat.min_self]
  · show some (max l l) = _; rw [Nat.max_self]
  · show some (max l l) = _; rw [Nat.max_self]
  · show some (max x x) = _; rw [Nat.max_self]
  · show some (min x x) = _; rw [Nat.min_self]
theorem den_short {w : World} {v : Value} {V : Vl} {k : Nat} (h : VIn w v V) (hk : V.n ≤ k) (hs : V.s = 1 ∨ V.s = 3) : Short k (denV V) := by
  rw [den_nat hs]; exact h.shortn hk
theorem pstar_short (s : Int) (P : Option Nat) (hs : s = 1 ∨ s = 3) : Short 2 (pstar s P) := by
  unfold pstar
  split
  · exact fun N e => by cases e
  · intro N e
    rcases hs with rfl | rfl
    · obtain rfl : 1 = N := Option.some.inj e
      exact Nat.le_trans (ln_le 1 1 (by decide)) (by decide)
    · obtain rfl : 0 = N := Option.some.inj e
      rw [ln_zero]; decide
end Fo
theorem vsame_yes (w : World) (v1 v2 : Value) (V1 V2 : Vl) (h1 : VIn w v1 V1) (h2 : VIn w v2 V2) (m1 : mayV V1 = 0) (m2 : mayV V2 = 0) (es : V1.s = V2.s) (ed : denV V1 = denV V2) : Calls Tryd.prog 13 #[v1, v2] w fun e w' => e = .returned (.bool true) ∧ Below w.heap.size w w' := by
  refine calls_bool (vsame_any w v1 v2 V1 V2 h1 h2) ?_
  unfold sameV
  rw [ok_err m1 m2 es, ed]; simp
theorem vplus_at (w : World) (v1 v2 : Value) (V1 V2 : Vl) (s : Int) (P Q : Option Nat) (h1 : VIn w v1 V1) (h2 : VIn w v2 V2) (m1 : mayV V1 = 0) (m2 : mayV V2 = 0) (e1 : V1.s = s) (e2 : V2.s = s) (d1 : denV V1 = P) (d2 : denV V2 = Q) :
    Calls Tryd.prog 12 #[v1, v2] w fun e w' => (∃ u, e = .returned (.tuple #[u, .int .i64 0]) ∧ VOut w' u s (padd s P Q)) ∧ Below w.heap.size w w' := by
  have := plus_ok w v1 v2 V1 V2 h1 h2 (ok_err m1 m2 (e1.trans e2.symm)) m1 m2 (e1.trans e2.symm)
  rwa [e1, d1, d2] at this
theorem vtimes_at (w : World) (v1 v2 : Value) (V1 V2 : Vl) (s : Int) (P Q : Option Nat) (h1 : VIn w v1 V1) (h2 : VIn w v2 V2) (m1 : mayV V1 = 0) (m2 : mayV V2 = 0) (e1 : V1.s = s) (e2 : V2.s = s) (d1 : denV V1 = P) (d2 : denV V2 = Q) :
    Calls Tryd.prog 11 #[v1, v2] w fun e w' => (∃ u, e = .returned (.tuple #[u, .int .i64 0]) ∧ VOut w' u s (pmul s P Q)) ∧ Below w.heap.size w w' := by
  have := times_ok w v1 v2 V1 V2 h1 h2 (ok_err m1 m2 (e1.trans e2.symm)) m1 m2 (e1.trans e2.symm)
  rwa [e1, d1, d2] at this
end Go.Proofs.YtjdbapkmaggllaaDoor
