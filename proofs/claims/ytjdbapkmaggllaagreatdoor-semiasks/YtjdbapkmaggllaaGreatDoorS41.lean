/- The walk of NatWords, out of what nat's functions answer. What the laws ask of the program besides: awake. The laws' small and awake; Text of a count. The laws' awake. -/
import Derived.Test.YtjdbapkmaggllaaGreatDoorS06
import Derived.Test.YtjdbapkmaggllaaGreatDoorS18
import Derived.Laws.BitsAll
import Derived.Test.YtjdbapkmaggllaaGreatDoorS40
import Derived.Test.YtjdbapkmaggllaaGreatDoorS26
import Derived.Deep.RegionHeld3
import Derived.Test.YtjdbapkmaggllaaGreatDoorS37
namespace Go.Proofs.YtjdbapkmaggllaaGreatDoor
open Go.RowKit Fo
set_option maxRecDepth 100000

theorem ln_word {m : Nat} (h : m < 18446744073709551616) : ln m ≤ 2 := ln_le 2 m (by simpa using h)
theorem ln_words {X : Option Nat} {m : Nat} (hm : m < 18446744073709551616) (hX : X = some m) : ∀ N, X = some N → ln N ≤ 10000 := fun N e => by
  have : m = N := Option.some.inj (hX.symm.trans e)
  have := ln_word hm
  subst_vars; omega
theorem Fo.NOut.word {w : World} {v : Value} {m : Nat} (h : NOut w v (some m)) (hm : ln m ≤ 100000) : NIn w v (some m) := h.nin fun N e => by
  obtain rfl := Option.some.inj e
  exact hm
theorem some_le {m : Nat} (hm : ln m ≤ 10000) : ∀ N, some m = some N → ln N ≤ 10000 := fun N e => by
  obtain rfl := Option.some.inj e
  exact hm
theorem and32 (x : Nat) (h : x < 18446744073709551616) : bits .and .u64 (x : Int) 4294967295 = ((x % 4294967296 : Nat) : Int) := by
  have := u64_and_nat x 4294967295 h (by omega)
  rw [show (4294967295 : Nat) = 2 ^ 32 - 1 by decide, Nat.and_two_pow_sub_one_eq_mod] at this
  simpa using this
theorem cmp_lt (x y : Nat) : (ocmp (some x) (some y) < 0) ↔ x < y := by
  show (if x < y then (-1 : Int) else if x = y then 0 else 1) < 0 ↔ x < y
  by_cases h : x < y
  · simp [h]
  · rw [if_neg h]; split <;> simp [h]
end Go.Proofs.YtjdbapkmaggllaaGreatDoor

namespace Go.Proofs.YtjdbapkmaggllaaGreatDoor
open Go.RowKit Fo
set_option maxRecDepth 100000

theorem text_big : otext (some (4294967296 * 4294967296)) = [49, 56, 52, 52, 54, 55, 52, 52, 48, 55, 51, 55, 48, 57, 53, 53, 49, 54, 49, 54] := by
  show Lib.decDigits 18446744073709551616 = _
  repeat rw [dec_big _ (by decide)]
  rw [Lib.decDigits_one (by decide)]
  decide
theorem text_zero : otext (some 0) = [48] := by
  show Lib.decDigits 0 = _
  rw [Lib.decDigits_one (by decide)]
  decide
theorem text_at (w : World) (v : Value) (X : Option Nat) (l : List UInt8) (h : NIn w v X) (henv : Env w) (hl : otext X = l) : Calls Tryz.prog 56 #[v] w fun e w' => e = .returned (.string ⟨l.toArray⟩) ∧ Below w.heap.size w w' := by
  rw [← hl]; exact text_any w v X h henv
theorem mul_at (w : World) (v1 v2 : Value) (X1 X2 X : Option Nat) (h1 : NIn w v1 X1) (h2 : NIn w v2 X2) (hb1 : ∀ N, X1 = some N → ln N ≤ 10000) (hb2 : ∀ N, X2 = some N → ln N ≤ 10000) (e : omul X1 X2 = X) :
    Calls Tryz.prog 67 #[v1, v2] w fun e w' => (∃ u, e = .returned u ∧ NOut w' u X) ∧ Below w.heap.size w w' := by
  rw [← e]; exact mul_any w v1 v2 X1 X2 h1 h2 hb1 hb2
theorem nin_inf (w : World) : NIn w (.agg #[.bool true, .slice none 0 0]) none := (nout_inf w).nin fun _ e => by cases e
theorem ln_big : ln (4294967296 * 4294967296) ≤ 100000 := Nat.le_trans (ln_le 3 _ (by decide)) (by decide)
theorem compare_at (w : World) (v1 v2 : Value) (X1 X2 : Option Nat) (q : Int) (h1 : NIn w v1 X1) (h2 : NIn w v2 X2) (e : ocmp X1 X2 = q) : Calls Tryz.prog 45 #[v1, v2] w fun e w' => e = .returned (.int .i64 q) ∧ Below w.heap.size w w' := by
  rw [← e]; exact compare_any w v1 v2 X1 X2 h1 h2
end Go.Proofs.YtjdbapkmaggllaaGreatDoor

namespace Go.Proofs.YtjdbapkmaggllaaGreatDoor
open Go.RowKit Fo
set_option maxRecDepth 100000

theorem vsmall_any (g k : Nat) (A : Nat → Option Addr) (n C : Nat → Nat) (w : World) (hk : k ≤ 10) (hk1 : 1 ≤ k) (R : Bool) (hc : ∀ j, j < k → w.cell? ⟨g, j * 5 + 2, none⟩ = some (.slice (A j) (n j) (C j)))
    (hT : (∀ j, j < k → n j ≤ 60) → true = R) (hF : ∀ j, j < k → 60 < n j → false = R) :
    Calls Tryz.prog 6 #[.slice (some ⟨g, 0, none⟩) k k] w fun e w' => e = .returned (.bool R) ∧ w' = w := by
  have HT : Hid ((∀ j, j < k → n j ≤ 60) → true = R) := hT
  have HF : Hid (∀ j, j < k → 60 < n j → false = R) := hF
  clear hT hF
  go_enter Tryz.func6, Tryz.ntmps6
  go_wp2
  go_loop [3] (fun v => ∃ i : Nat, i ≤ k ∧ v = .int .i64 i ∧ Hid (∀ j, j < i → n j ≤ 60)) (fun v => k - (intOf v).toNat)
  case atStart => exact ⟨0, Nat.zero_le _, rfl, fun j hj => absurd hj (by omega)⟩
  case round =>
    obtain ⟨i, hi, rfl, HK⟩ := hrel
    by_cases hlt : i < k
    · have hci := hc i hlt
      by_cases h : 60 < n i
      · have HE : Hid (false = R) := HF.out i hlt h
        have h1 : (60 : Int) < (n i : Int) := by omega
        clear HT HF HK hc
        go_wp2
        go_ret
        exact ⟨ret_bool HE.out, rfl⟩
      · have HK' : Hid (∀ j, j < i + 1 → n j ≤ 60) := fun j hj => by
          by_cases e : j = i
          · subst e; omega
          · exact HK.out j (by omega)
        have h1 : ¬ (60 : Int) < (n i : Int) := by omega
        clear HT HF HK hc h
        go_wp2
        go_round
        case rel => exact ⟨i + 1, by omega, by go_num, HK'⟩
        case measure => simp [intOf]; omega
    · obtain rfl : i = k := by omega
      have HE : Hid (true = R) := HT.out HK.out
      clear HT HF HK hc
      go_wp2
      go_ret
      exact ⟨ret_bool HE.out, rfl⟩
theorem text_one : otext (some 1) = [49] := by
  show Lib.decDigits 1 = _
  rw [Lib.decDigits_one (by decide)]
  decide
theorem vtext_count (w : World) (v1 : Value) (V1 : Vl) (h1 : VIn w v1 V1) (l : List UInt8) (es1 : V1.s = 1) (m1 : mayV V1 = 0) (hl : otext (numV V1) = l) (henv : Env w) : Calls Tryz.prog 30 #[v1] w fun e w' => e = .returned (.string ⟨l.toArray⟩) ∧ Below w.heap.size w w' := by
  have H1' := h1
  obtain ⟨a1, c1, rfl, hr1, hL1, hn1, hx1, hl1, hs1⟩ := h1
  rw [es1] at H1' ⊢
  obtain ⟨W0, hW0⟩ : ∃ W0, W0 = (w.alloc (.cells #[.int .i64 1, .bool V1.i, .slice a1 V1.n c1, .int .i64 V1.l, .float .f64 V1.x] 27)) := ⟨_, rfl⟩
  have HB0 : Hid (Below w.heap.size w W0) := by rw [hW0]; exact below1 w _
  have Hg1 : Hid (W0.heap[w.heap.size]? = some (.cells #[.int .i64 1, .bool V1.i, .slice a1 V1.n c1, .int .i64 V1.l, .float .f64 V1.x] 27)) := by
    show W0.heap[w.heap.size]? = _
    rw [hW0]; exact heap_at1_0 w _
  have H1 : Hid (VIn W0 (.agg #[.int .i64 1, .bool V1.i, .slice a1 V1.n c1, .int .i64 V1.l, .float .f64 V1.x]) V1) := H1'.below HB0.out
  have HW : Below W0.heap.size W0 W0 := below_refl W0
  clear hr1 hL1 hn1 hx1 hl1 hs1 H1'
  obtain ⟨p10, p11, p12, p13, p14⟩ := box5 Hg1.out HW
  have E1 : Hid (mayV V1 = 0) := m1
  have HL : Hid (otext (numV V1) = l) := hl
  have HEnv : Hid (Env w) := henv
  clear m1 hl henv es1
  go_enter Tryz.func30, Tryz.ntmps30
  go_wp2_with (go_at_call 21; fail)
  rw [← hW0]
  clear hW0
  refine (vmay_at _ _ V1 0 (by exact H1.out.below HW) E1.out).mono ?_
  rintro e w1 ⟨rfl, b⟩
  replace HW := below_step HW b
  clear b
  clear p10 p11 p12 p13 p14; obtain ⟨p10, p11, p12, p13, p14⟩ := box5 Hg1.out HW
  go_wp2_with (go_at_call 56; fail)
  refine (text_at _ _ (numV V1) l (by exact (H1.out.below HW).num') (by exact HEnv.out.below (below_step HB0.out HW)) HL.out).mono ?_
  rintro e w2 ⟨rfl, b⟩
  replace HW := below_step HW b
  clear b
  clear p10 p11 p12 p13 p14; obtain ⟨p10, p11, p12, p13, p14⟩ := box5 Hg1.out HW
  go_wp2
  go_ret
  exact ⟨rfl, below_step HB0.out HW⟩
end Go.Proofs.YtjdbapkmaggllaaGreatDoor

namespace Go.Proofs.YtjdbapkmaggllaaGreatDoor
open Go.RowKit Fo
set_option maxRecDepth 100000

theorem star_of (w : World) (v : Value) (s : Int) (P : Option Nat) (h : VOk w v s P) : Calls Tryz.prog 16 #[v] w fun e w' => (∃ u, e = .returned (.tuple #[u, .int .i64 0]) ∧ VOut w' u s (pstar s P)) ∧ Below w.heap.size w w' := by
  obtain ⟨V, h1, m, rfl, rfl⟩ := h
  exact star_ok w v V h1 m
theorem text_count (w : World) (v : Value) (N : Nat) (l : List UInt8) (h : VOk w v 1 (some N)) (hl : otext (some N) = l) (henv : Env w) : Calls Tryz.prog 30 #[v] w fun e w' => e = .returned (.string ⟨l.toArray⟩) ∧ Below w.heap.size w w' := by
  obtain ⟨V, h1, m, e1, e2⟩ := h
  rw [den_nat (Or.inl e1)] at e2
  exact vtext_count w v V h1 l e1 m (by rw [e2]; exact hl) henv
set_option maxHeartbeats 16000000 in
/-- THE LAWS' AWAKE. -/
theorem vawake_any (w : World) (henv : Env w) : Calls Tryz.prog 7 #[] w fun e w' => e = .returned (.bool true) ∧ Below w.heap.size w w' := by
  have hsf := st_flo
  have HEnv : Hid (Env w) := henv
  have C1 := vone_any 1 w (Or.inl rfl)
  clear henv
  go_enter Tryz.func7, Tryz.ntmps7
  go_wp2_with (go_at_call 10; fail)
  refine C1.mono ?_
  rintro e w1 ⟨⟨u, rfl, o⟩, b⟩
  clear C1
  have HB : Hid (Below w.heap.size w w1) := b
  clear b
  obtain ⟨s, i, a, n, c, l, x, rfl⟩ := o.form
  obtain ⟨W1, hW1⟩ : ∃ W1, W1 = w1.alloc (.cells #[.int .i64 s, .bool i, .slice a n c, .int .i64 l, .float .f64 x] 27) := ⟨_, rfl⟩
  have HB1 : Hid (Below w.heap.size w W1) := by show Below _ _ W1; rw [hW1]; exact HB.out.alloc HB.out.size _
  have Hg1 : Hid (W1.heap[w1.heap.size]? = some (.cells #[.int .i64 s, .bool i, .slice a n c, .int .i64 l, .float .f64 x] 27)) := by show W1.heap[w1.heap.size]? = _; rw [hW1]; exact heap_alloc_new _ _
  have O1 : Hid (VOk W1 (.agg #[.int .i64 s, .bool i, .slice a n c, .int .i64 l, .float .f64 x]) 1 (some 1)) := by show VOk W1 _ _ _; rw [hW1]; exact (o.ok (pone_short 1)).below (below1 _ _)
  clear o HB
  go_wp2_with (go_at_call 16; fail)
  rw [← hW1]
  clear hW1
  refine (star_of _ _ 1 (some 1) (by exact O1.out)).mono ?_
  rintro e w2 ⟨⟨u2, rfl, o2⟩, b⟩
  obtain ⟨a2, c2, rfl⟩ : ∃ a2 c2, u2 = .agg #[.int .i64 1, .bool true, .slice a2 0 c2, .int .i64 0, .float .f64 0] := by
    rcases o2 with ⟨-, i, a, n, c, rfl, h⟩ | ⟨h, -⟩ | ⟨h, -⟩
    · rcases h with ⟨-, a', c', e, -⟩ | ⟨N, a', c', e, -⟩
      · simp at e
        obtain ⟨rfl, rfl, rfl, rfl⟩ := e
        exact ⟨_, _, rfl⟩
      · cases e
    · exact absurd h (by decide)
    · exact absurd h (by decide)
  clear o2
  have HW : Hid (Below W1.heap.size W1 w2) := b
  clear b
  go_wp2_with (go_at_call 8; fail)
  obtain ⟨W2, hW2⟩ : ∃ W2, W2 = w2.alloc (.cells #[.int .i64 1, .bool true, .slice a2 0 c2, .int .i64 0, .float .f64 0] 27) := ⟨_, rfl⟩
  rw [← hW2]
  have HW2 : Hid (Below W1.heap.size W1 W2) := by show Below _ _ W2; rw [hW2]; exact HW.out.alloc HW.out.size _
  have Hg2 : Hid (W2.heap[w2.heap.size]? = some (.cells #[.int .i64 1, .bool true, .slice a2 0 c2, .int .i64 0, .float .f64 0] 27)) := by show W2.heap[w2.heap.size]? = _; rw [hW2]; exact heap_alloc_new _ _
  clear hW2 HW
  refine (vzero_not 0 _ (by unfold isSem; omega)).mono ?_
  rintro e w3 ⟨rfl, b⟩
  unfold noV
  have HW3 : Hid (Below W1.heap.size W1 w3) := below_step HW2.out b
  obtain ⟨p0, p1, p2, p3, p4⟩ := box5 Hg1.out HW3.out
  obtain ⟨q0, q1, q2, q3, q4⟩ := box5 Hg2.out b
  clear b
  have l1 : w1.heap.size < w3.heap.size := World.block_lt_of_cell? w3 _ p0
  have l2 : w2.heap.size < w3.heap.size := World.block_lt_of_cell? w3 _ q0
  go_wp2_with (go_at_call 30; fail)
  refine (text_count _ _ 1 [49] (by exact O1.out.below (HW3.out.alloc HW3.out.size _)) text_one (by exact HEnv.out.below (below_step HB1.out (HW3.out.alloc HW3.out.size _)))).mono ?_
  rintro e w4 ⟨rfl, b⟩
  have HW4 : Hid (Below W1.heap.size W1 w4) := below_step (HW3.out.alloc HW3.out.size _) b
  clear b
  go_wp2
  go_ret
  exact ⟨rfl, below_step HB1.out HW4.out⟩
end Go.Proofs.YtjdbapkmaggllaaGreatDoor
