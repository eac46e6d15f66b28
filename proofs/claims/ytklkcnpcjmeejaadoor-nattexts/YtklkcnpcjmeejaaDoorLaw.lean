/- The walk of NatWords, out of what nat's functions answer. -/
import Derived.Test.YtklkcnpcjmeejaaDoorMul
import Derived.Test.YtklkcnpcjmeejaaDoorBld
import Derived.Laws.BitsAll
namespace Go.Proofs.YtklkcnpcjmeejaaDoor
open Go.RowKit Fo
set_option maxRecDepth 100000

/-- What nat's functions answer: what the walks of the laws ask. -/
structure NatSays : Prop where
  of : ∀ m : Nat, m < 18446744073709551616 → ∀ w, Calls Tryd.prog 21 #[.int .u64 m] w fun e w' => (∃ u, e = .returned u ∧ NOut w' u (some m)) ∧ Below w.heap.size w w'
  add : ∀ w v1 v2 X1 X2, NIn w v1 X1 → NIn w v2 X2 → (∀ N, X1 = some N → ln N ≤ 10000) → (∀ N, X2 = some N → ln N ≤ 10000) → Calls Tryd.prog 12 #[v1, v2] w fun e w' => (∃ u, e = .returned u ∧ NOut w' u (oadd X1 X2)) ∧ Below w.heap.size w w'
  mul : ∀ w v1 v2 X1 X2, NIn w v1 X1 → NIn w v2 X2 → (∀ N, X1 = some N → ln N ≤ 10000) → (∀ N, X2 = some N → ln N ≤ 10000) → Calls Tryd.prog 14 #[v1, v2] w fun e w' => (∃ u, e = .returned u ∧ NOut w' u (omul X1 X2)) ∧ Below w.heap.size w w'
  cmp : ∀ w v1 v2 X1 X2, NIn w v1 X1 → NIn w v2 X2 → Calls Tryd.prog 16 #[v1, v2] w fun e w' => e = .returned (.int .i64 (ocmp X1 X2)) ∧ Below w.heap.size w w'
  same : ∀ w v1 v2 X1 X2, NIn w v1 X1 → NIn w v2 X2 → Calls Tryd.prog 18 #[v1, v2] w fun e w' => e = .returned (.bool (decide (X1 = X2))) ∧ Below w.heap.size w w'
  inf : ∀ w, Calls Tryd.prog 31 #[] w fun e w' => (∃ u, e = .returned u ∧ NOut w' u none) ∧ Below w.heap.size w w'
  awake : ∀ w, Env w → Calls Tryd.prog 10 #[] w fun e w' => e = .returned (.bool true) ∧ Below w.heap.size w w'
theorem ln_word {m : Nat} (h : m < 18446744073709551616) : ln m ≤ 2 := ln_le 2 m (by simpa using h)
theorem ln_words {X : Option Nat} {m : Nat} (hm : m < 18446744073709551616) (hX : X = some m) : ∀ N, X = some N → ln N ≤ 10000 := fun N e => by
  have : m = N := Option.some.inj (hX.symm.trans e)
  have := ln_word hm
  subst_vars; omega
theorem same_yes (C : NatSays) (w : World) (v1 v2 : Value) (X1 X2 : Option Nat) (h1 : NIn w v1 X1) (h2 : NIn w v2 X2) (e : X1 = X2) : Calls Tryd.prog 18 #[v1, v2] w fun e w' => e = .returned (.bool true) ∧ Below w.heap.size w w' := by
  have := C.same w v1 v2 X1 X2 h1 h2
  rw [decide_eq_true e] at this
  exact this
theorem Fo.NOut.word {w : World} {v : Value} {m : Nat} (h : NOut w v (some m)) (hm : ln m ≤ 100000) : NIn w v (some m) := h.nin fun N e => by
  obtain rfl := Option.some.inj e
  exact hm
theorem some_le {m : Nat} (hm : ln m ≤ 10000) : ∀ N, some m = some N → ln N ≤ 10000 := fun N e => by
  obtain rfl := Option.some.inj e
  exact hm
theorem and32 (x : Nat) (h : x < 18446744073709551616) : bits .and .u64 (x : Int) 4294967295 = ((x % 4294967296 : Nat) : Int) := by
  have := u64_and_nat x 4294967295 h (by omega)
  rw [show (4294967295 : Nat) = 2 ^ 32 - 1 by decide, Nat.and_two_pow_sub_one_eq_mod] at this
  simpa using this
theorem cmp_lt (x y : Nat) : (ocmp (some x) (some y) < 0) ↔ x < y := by
  show (if x < y then (-1 : Int) else if x = y then 0 else 1) < 0 ↔ x < y
  by_cases h : x < y
  · simp [h]
  · rw [if_neg h]; split <;> simp [h]
set_option maxHeartbeats 8000000 in
theorem words_any (C : NatSays) (a b : Nat) (ha : a < 18446744073709551616) (hb : b < 18446744073709551616) (w : World) (henv : Env w) :
    Calls Tryd.prog 8 #[.int .u64 a, .int .u64 b] w fun e w' => e = .returned (.bool true) ∧ Below w.heap.size w w' := by
  have HEnv : Hid (Env w) := henv
  clear henv
  obtain ⟨x, hx⟩ : ∃ x, x = a / 2 := ⟨_, rfl⟩
  obtain ⟨y, hy⟩ : ∃ y, y = b / 2 := ⟨_, rfl⟩
  have hxl : x < 9223372036854775808 := by omega
  have hyl : y < 9223372036854775808 := by omega
  have hx64 : x < 18446744073709551616 := by omega
  have hy64 : y < 18446744073709551616 := by omega
  have s1 : (a : Int) / 2 = (x : Int) := by omega
  have s2 : (b : Int) / 2 = (y : Int) := by omega
  obtain ⟨s, hs⟩ : ∃ s, s = x + y := ⟨_, rfl⟩
  have hs64 : s < 18446744073709551616 := by omega
  have s3 : (x : Int) + (y : Int) = (s : Int) := by omega
  have HS : Hid (s = x + y) := hs
  clear hs
  have HB : Below w.heap.size w w := below_refl w
  clear hx hy
  obtain ⟨lo, hlo⟩ : ∃ lo, lo = x % 4294967296 := ⟨_, rfl⟩
  obtain ⟨kk, hkk⟩ : ∃ kk, kk = y % 4294967296 := ⟨_, rfl⟩
  have s4 : bits .and .u64 (x : Int) 4294967295 = (lo : Int) := by rw [hlo]; exact and32 x hx64
  have s5 : bits .and .u64 (y : Int) 4294967295 = (kk : Int) := by rw [hkk]; exact and32 y hy64
  have hll : lo < 4294967296 := by omega
  have hkl : kk < 4294967296 := by omega
  clear hlo hkk
  have hl64 : lo < 18446744073709551616 := by omega
  have hk64 : kk < 18446744073709551616 := by omega
  obtain ⟨pr, hpr⟩ : ∃ pr, pr = lo * kk := ⟨_, rfl⟩
  have hp64 : pr < 18446744073709551616 := by rw [hpr]; exact Nat.lt_of_le_of_lt (Nat.mul_le_mul (show lo ≤ 4294967295 by omega) (show kk ≤ 4294967295 by omega)) (by decide)
  have s6 : (lo : Int) * (kk : Int) = (pr : Int) := by rw [hpr]; rfl
  have HPR : Hid (pr = lo * kk) := hpr
  clear hpr
  go_enter Tryd.func8, Tryd.ntmps8
  go_wp2_with (go_at_call 21; fail)
  refine (C.of x (by omega) _).mono ?_
  rintro e w1 ⟨⟨u1, rfl, o1⟩, b1⟩
  replace HB := below_step HB b1
  clear b1
  go_wp2_with (go_at_call 21; fail)
  refine (C.of y (by omega) _).mono ?_
  rintro e w2 ⟨⟨u2, rfl, o2⟩, b2⟩
  replace o1 := Fo.NOut.below o1 b2
  replace HB := below_step HB b2
  clear b2
  go_wp2_with (go_at_call 12; fail)
  refine (C.add _ _ _ _ _ (Fo.NOut.word o1 (by have := ln_word hx64; omega)) (Fo.NOut.word o2 (by have := ln_word hy64; omega)) (some_le (by have := ln_word hx64; omega)) (some_le (by have := ln_word hy64; omega))).mono ?_
  rintro e w3 ⟨⟨u3, rfl, o3⟩, b3⟩
  replace o1 := Fo.NOut.below o1 b3
  replace o2 := Fo.NOut.below o2 b3
  replace HB := below_step HB b3
  clear b3
  go_wp2_with (go_at_call 21; fail)
  refine (C.of s hs64 _).mono ?_
  rintro e w4 ⟨⟨u4, rfl, o4⟩, b4⟩
  replace o1 := Fo.NOut.below o1 b4
  replace o2 := Fo.NOut.below o2 b4
  replace o3 := Fo.NOut.below o3 b4
  replace HB := below_step HB b4
  clear b4
  go_wp2_with (go_at_call 18; fail)
  refine (same_yes C _ _ _ _ _ (Fo.NOut.word o3 (by have := ln_word hs64; rw [HS.out] at this; omega)) (Fo.NOut.word o4 (by have := ln_word hs64; omega)) (congrArg some HS.out.symm)).mono ?_
  rintro e w5 ⟨rfl, b5⟩
  replace o1 := Fo.NOut.below o1 b5
  replace o2 := Fo.NOut.below o2 b5
  replace o3 := Fo.NOut.below o3 b5
  replace o4 := Fo.NOut.below o4 b5
  replace HB := below_step HB b5
  clear b5
  go_wp2_with (go_at_call 21; fail)
  refine (C.of lo (by omega) _).mono ?_
  rintro e w6 ⟨⟨u6, rfl, o6⟩, b6⟩
  replace o1 := Fo.NOut.below o1 b6
  replace o2 := Fo.NOut.below o2 b6
  replace o3 := Fo.NOut.below o3 b6
  replace o4 := Fo.NOut.below o4 b6
  replace HB := below_step HB b6
  clear b6
  go_wp2_with (go_at_call 21; fail)
  refine (C.of kk (by omega) _).mono ?_
  rintro e w7 ⟨⟨u7, rfl, o7⟩, b7⟩
  replace o1 := Fo.NOut.below o1 b7
  replace o2 := Fo.NOut.below o2 b7
  replace o3 := Fo.NOut.below o3 b7
  replace o4 := Fo.NOut.below o4 b7
  replace o6 := Fo.NOut.below o6 b7
  replace HB := below_step HB b7
  clear b7
  go_wp2_with (go_at_call 14; fail)
  refine (C.mul _ _ _ _ _ (Fo.NOut.word o6 (by have := ln_word hl64; omega)) (Fo.NOut.word o7 (by have := ln_word hk64; omega)) (some_le (by have := ln_word hl64; omega)) (some_le (by have := ln_word hk64; omega))).mono ?_
  rintro e w8 ⟨⟨u8, rfl, o8⟩, b8⟩
  replace o1 := Fo.NOut.below o1 b8
  replace o2 := Fo.NOut.below o2 b8
  replace o3 := Fo.NOut.below o3 b8
  replace o4 := Fo.NOut.below o4 b8
  replace o6 := Fo.NOut.below o6 b8
  replace o7 := Fo.NOut.below o7 b8
  replace HB := below_step HB b8
  clear b8
  go_wp2_with (go_at_call 21; fail)
  refine (C.of pr hp64 _).mono ?_
  rintro e w9 ⟨⟨u9, rfl, o9⟩, b9⟩
  replace o1 := Fo.NOut.below o1 b9
  replace o2 := Fo.NOut.below o2 b9
  replace o3 := Fo.NOut.below o3 b9
  replace o4 := Fo.NOut.below o4 b9
  replace o6 := Fo.NOut.below o6 b9
  replace o7 := Fo.NOut.below o7 b9
  replace o8 := Fo.NOut.below o8 b9
  replace HB := below_step HB b9
  clear b9
  go_wp2_with (go_at_call 18; fail)
  refine (same_yes C _ _ _ _ _ (Fo.NOut.word o8 (by have := ln_word hp64; rw [HPR.out] at this; omega)) (Fo.NOut.word o9 (by have := ln_word hp64; omega)) (congrArg some HPR.out.symm)).mono ?_
  rintro e w10 ⟨rfl, b10⟩
  replace o1 := Fo.NOut.below o1 b10
  replace o2 := Fo.NOut.below o2 b10
  replace o3 := Fo.NOut.below o3 b10
  replace o4 := Fo.NOut.below o4 b10
  replace o6 := Fo.NOut.below o6 b10
  replace o7 := Fo.NOut.below o7 b10
  replace o8 := Fo.NOut.below o8 b10
  replace o9 := Fo.NOut.below o9 b10
  replace HB := below_step HB b10
  clear b10
  go_wp2_with (go_at_call 21; fail)
  refine (C.of x hx64 _).mono ?_
  rintro e w11 ⟨⟨u11, rfl, o11⟩, b11⟩
  replace o1 := Fo.NOut.below o1 b11
  replace o2 := Fo.NOut.below o2 b11
  replace o3 := Fo.NOut.below o3 b11
  replace o4 := Fo.NOut.below o4 b11
  replace o6 := Fo.NOut.below o6 b11
  replace o7 := Fo.NOut.below o7 b11
  replace o8 := Fo.NOut.below o8 b11
  replace o9 := Fo.NOut.below o9 b11
  replace HB := below_step HB b11
  clear b11
  go_wp2_with (go_at_call 21; fail)
  refine (C.of y hy64 _).mono ?_
  rintro e w12 ⟨⟨u12, rfl, o12⟩, b12⟩
  replace o1 := Fo.NOut.below o1 b12
  replace o2 := Fo.NOut.below o2 b12
  replace o3 := Fo.NOut.below o3 b12
  replace o4 := Fo.NOut.below o4 b12
  replace o6 := Fo.NOut.below o6 b12
  replace o7 := Fo.NOut.below o7 b12
  replace o8 := Fo.NOut.below o8 b12
  replace o9 := Fo.NOut.below o9 b12
  replace o11 := Fo.NOut.below o11 b12
  replace HB := below_step HB b12
  clear b12
  go_wp2_with (go_at_call 16; fail)
  refine (C.cmp _ _ _ _ _ (Fo.NOut.word o11 (by have := ln_word hx64; omega)) (Fo.NOut.word o12 (by have := ln_word hy64; omega))).mono ?_
  rintro e w13 ⟨rfl, b13⟩
  replace o1 := Fo.NOut.below o1 b13
  replace o2 := Fo.NOut.below o2 b13
  replace o3 := Fo.NOut.below o3 b13
  replace o4 := Fo.NOut.below o4 b13
  replace o6 := Fo.NOut.below o6 b13
  replace o7 := Fo.NOut.below o7 b13
  replace o8 := Fo.NOut.below o8 b13
  replace o9 := Fo.NOut.below o9 b13
  replace o11 := Fo.NOut.below o11 b13
  replace o12 := Fo.NOut.below o12 b13
  replace HB := below_step HB b13
  clear b13
  have hq := cmp_lt x y
  generalize ocmp (some x) (some y) = q at hq ⊢
  have HQ : Hid ((q < 0) ↔ x < y) := hq
  clear hq HS HPR o1 o2 o3 o4 o6 o7 o8 o9 o11 o12
  by_cases hxy : (x : Int) < (y : Int)
  · have q1 : q < 0 := HQ.out.2 (by omega)
    clear HQ
    go_wp2_with (go_at_call 10; refine (C.awake _ (HEnv.out.below HB)).mono ?_; rintro e w20 ⟨rfl, b20⟩)
    go_ret
    exact ⟨rfl, below_step HB b20⟩
  · have q1 : ¬ q < 0 := fun h => hxy (by have := HQ.out.1 h; omega)
    clear HQ
    go_wp2_with (go_at_call 10; refine (C.awake _ (HEnv.out.below HB)).mono ?_; rintro e w20 ⟨rfl, b20⟩)
    go_ret
    exact ⟨rfl, below_step HB b20⟩
end Go.Proofs.YtklkcnpcjmeejaaDoor
