/- The contract of the document's own Text: a number's text. -/
import Derived.Test.YtmeohldomplegaaDoorS
import Derived.Test.YtmeohldomplegaaDoorQ
namespace Go.Proofs.YtmeohldomplegaaDoor
open Go.RowKit Fo Go.Sort
set_option maxRecDepth 100000

theorem decimal_any (n : Int) (h0 : -9223372036854775808 ≤ n) (h1 : n ≤ 9223372036854775807) (w : World) :
    Calls Tryd.prog 42 #[.int .i64 n] w fun r w' => r = .returned (.string ⟨(Lib.itoa n).toArray⟩) ∧ Below w.heap.size w w' := by
  by_cases hn : n < 0
  · obtain ⟨u, rfl⟩ : ∃ u : Nat, n = -(u : Int) := ⟨n.natAbs, by omega⟩
    rw [Lib.itoa_neg u (by omega)]
    exact decimal_neg u (by omega) (by omega) w
  · obtain ⟨u, rfl⟩ : ∃ u : Nat, n = (u : Int) := ⟨n.toNat, by omega⟩
    rw [Lib.itoa_nonneg]
    exact decimal_pos u (by omega) w

namespace Fo
theorem odd_unique (q j q' j' : Nat) (h : q * 2 ^ j = q' * 2 ^ j') (ho : q % 2 = 1) (ho' : q' % 2 = 1) : q = q' ∧ j = j' := by
  have key : ∀ a i b k : Nat, a * 2 ^ i = b * 2 ^ k → a % 2 = 1 → ¬ i < k := by
    intro a i b k h ha hlt
    have e : a = b * 2 ^ (k - i) := by
      have : a * 2 ^ i = b * 2 ^ (k - i) * 2 ^ i := by rw [h, Nat.mul_assoc, ← Nat.pow_add, show k - i + i = k by omega]
      exact Nat.eq_of_mul_eq_mul_right (Nat.two_pow_pos _) this
    have e2 : 2 ^ (k - i) = 2 * 2 ^ (k - i - 1) := by rw [show k - i = (k - i - 1) + 1 by omega, Nat.pow_succ, Nat.mul_comm, show k - i - 1 + 1 - 1 = k - i - 1 by omega]
    rw [e2, ← Nat.mul_assoc, Nat.mul_comm b 2, Nat.mul_assoc] at e
    omega
  have hj : j = j' := by
    have h1 := key q j q' j' h ho
    have h2 := key q' j' q j h.symm ho'
    omega
  subst hj
  exact ⟨Nat.eq_of_mul_eq_mul_right (Nat.two_pow_pos _) h, rfl⟩
theorem split_unique (b q j : Nat) (h : q * 2 ^ j = mant b) (ho : q % 2 = 1) : spM b = q ∧ spE b = expo b + j := by
  have hm := mant_lt b
  have hp := Nat.mul_pos (show 0 < q by omega) (Nat.two_pow_pos j)
  have h0 : mant b ≠ 0 := by omega
  obtain ⟨m, hx, hz⟩ := Lib.ctzFrom_spec 64 (mant b) (by omega) (by omega)
  have hc : Lib.ctz 64 (mant b) = Lib.ctzFrom 64 (mant b) := by unfold Lib.ctz; rw [if_neg h0]
  obtain ⟨e1, e2⟩ := odd_unique q j (2 * m + 1) (Lib.ctzFrom 64 (mant b)) (by rw [h, Nat.mul_comm]; exact hx) ho (by omega)
  constructor
  · unfold spM; rw [if_neg h0, hc, ← e2, ← h]; exact Nat.mul_div_cancel _ (Nat.two_pow_pos _)
  · unfold spE; rw [if_neg h0, hc, e2]
end Fo
theorem rtext_nan (b : Nat) (hb : b < 18446744073709551616) (h : isN b = true) (w : World) :
    Calls Tryd.prog 22 #[.float .f64 b] w fun e w' => e = .returned (.string ⟨#[110, 97, 110]⟩) ∧ w' = w := by
  have o := ord_none b b hb hb h
  go_enter Tryd.func22, Tryd.ntmps22
  go_wp2_with (go_at_call 14; refine (rbits_any _ hb _).mono ?_; rintro e w' ⟨rfl, rfl⟩)
  go_ret
  exact ⟨rfl, rfl⟩
theorem rtext_inf (w : World) : Calls Tryd.prog 22 #[.float .f64 9218868437227405312] w fun e w' => e = .returned (.string ⟨#[105, 110, 102]⟩) ∧ w' = w := by
  have o : FloatKind.f64.format.order 9218868437227405312 9218868437227405312 = some .eq := by decide +kernel
  have b1 : bits .and .u64 9218868437227405312 9223372036854775808 = 0 := by decide +kernel
  have b2 : bits .and .u64 2047 2047 = 2047 := by decide +kernel
  have c14 : ∀ w, Calls Tryd.prog 14 #[.float .f64 9218868437227405312] w fun e w' => e = .returned (.int .u64 9218868437227405312) ∧ w' = w := fun w => rbits_num _ (by decide) (by decide) w
  go_enter Tryd.func22, Tryd.ntmps22
  go_wp2_with (go_at_call 14; refine (c14 _).mono ?_; rintro e w' ⟨rfl, rfl⟩)
  go_ret
  exact ⟨congrArg (fun x => Ending.returned (.string x)) (ba [] [105, 110, 102]), rfl⟩
theorem rtext_ninf (w : World) : Calls Tryd.prog 22 #[.float .f64 18442240474082181120] w fun e w' => e = .returned (.string ⟨#[45, 105, 110, 102]⟩) ∧ w' = w := by
  have o : FloatKind.f64.format.order 18442240474082181120 18442240474082181120 = some .eq := by decide +kernel
  have b1 : bits .and .u64 18442240474082181120 9223372036854775808 = 9223372036854775808 := by decide +kernel
  have b2 : bits .and .u64 4095 2047 = 2047 := by decide +kernel
  have c14 : ∀ w, Calls Tryd.prog 14 #[.float .f64 18442240474082181120] w fun e w' => e = .returned (.int .u64 18442240474082181120) ∧ w' = w := fun w => rbits_num _ (by decide) (by decide) w
  go_enter Tryd.func22, Tryd.ntmps22
  go_wp2_with (go_at_call 14; refine (c14 _).mono ?_; rintro e w' ⟨rfl, rfl⟩)
  go_ret
  exact ⟨congrArg (fun x => Ending.returned (.string x)) (ba [45] [105, 110, 102]), rfl⟩
theorem rtext_zero (b : Nat) (s : Bool) (hb : b < 18446744073709551616) (hn : isN b = false) (w : World)
    (hs : bits .and .u64 (b : Int) 9223372036854775808 = if s then 9223372036854775808 else 0)
    (hf : bits .and .u64 (b : Int) 4503599627370495 = 0) (he : bits .and .u64 ((b : Int) / 4503599627370496) 2047 = 0) :
    Calls Tryd.prog 22 #[.float .f64 b] w fun e w' => e = .returned (.string ⟨((if s then [45] else []) ++ ([48, 98, 48] : List UInt8)).toArray⟩) ∧ w' = w := by
  have o := o_self_num b hb hn
  cases s
  · simp only [Bool.false_eq_true, if_false] at hs
    go_enter Tryd.func22, Tryd.ntmps22
    go_wp2_with (go_at_call 14; refine (rbits_num _ hb hn _).mono ?_; rintro e w' ⟨rfl, rfl⟩)
    go_ret
    exact ⟨congrArg (fun x => Ending.returned (.string x)) (ba [] [48, 98, 48]), rfl⟩
  · simp only [if_true] at hs
    go_enter Tryd.func22, Tryd.ntmps22
    go_wp2_with (go_at_call 14; refine (rbits_num _ hb hn _).mono ?_; rintro e w' ⟨rfl, rfl⟩)
    go_ret
    exact ⟨congrArg (fun x => Ending.returned (.string x)) (ba [45] [48, 98, 48]), rfl⟩
theorem halve (q j Mn : Nat) (h : q * 2 ^ j = Mn) (he : q % 2 = 0) : q / 2 * 2 ^ (j + 1) = Mn := by
  rw [Nat.pow_succ, ← Nat.mul_assoc, Nat.mul_right_comm, show q / 2 * 2 = q by omega, h]
theorem exp_bd (q j Mn : Nat) (h : q * 2 ^ j = Mn) (hq : 0 < q) (hM : Mn < 9007199254740992) : j < 53 := by
  rcases Nat.lt_or_ge j 53 with h' | h'
  · exact h'
  · have h1 : 2 ^ 53 ≤ 2 ^ j := Nat.pow_le_pow_right (by decide) h'
    have h2 : 2 ^ j ≤ q * 2 ^ j := Nat.le_mul_of_pos_left _ hq
    omega
set_option maxHeartbeats 4000000 in
theorem rtext_fin (b F E : Nat) (s : Bool) (hb : b < 18446744073709551616) (hn : isN b = false) (w : World)
    (hs : bits .and .u64 (b : Int) 9223372036854775808 = if s then 9223372036854775808 else 0)
    (hf : bits .and .u64 (b : Int) 4503599627370495 = (F : Int)) (he : bits .and .u64 ((b : Int) / 4503599627370496) 2047 = (E : Int)) (hE : E < 2047) (hF : F < 4503599627370496)
    (hor : bits .or .u64 (F : Int) 4503599627370496 = ((F + 4503599627370496 : Nat) : Int)) (hz : E = 0 → F ≠ 0) :
    Calls Tryd.prog 22 #[.float .f64 b] w fun e w' => (∃ q j : Nat, q % 2 = 1 ∧ q * 2 ^ j = (if E = 0 then F else F + 4503599627370496) ∧ e = .returned (.string ⟨((if s then [45] else []) ++ (Lib.decDigits q ++ (98 :: Lib.itoa ((if E = 0 then 1 - 1075 else (E : Int) - 1075) + j)))).toArray⟩)) ∧ Below w.heap.size w w' := by
  have o := o_self_num b hb hn
  obtain ⟨Mn, hMn⟩ : ∃ Mn : Nat, Mn = if E = 0 then F else F + 4503599627370496 := ⟨_, rfl⟩
  obtain ⟨E0, hE0⟩ : ∃ E0 : Int, E0 = if E = 0 then 1 - 1075 else (E : Int) - 1075 := ⟨_, rfl⟩
  rw [← hMn, ← hE0]
  have hMpos : 0 < Mn := by rw [hMn]; split <;> omega
  have hMlt : Mn < 9007199254740992 := by rw [hMn]; split <;> omega
  have hEb : -1075 ≤ E0 ∧ E0 ≤ 1000 := by rw [hE0]; split <;> omega
  have hMi : ((Mn : Int) == 0) = false := by simp; omega
  have hMM : Hid (Mn * 2 ^ 0 = Mn) := Nat.mul_one _
  by_cases h0 : E = 0
  · rw [if_pos h0] at hMn hE0
    subst h0
    simp only [Int.ofNat_zero] at he
    subst hMn
    have hE1 : Hid (E0 = 1 - 1075) := hE0
    clear hor hz hF hE hE0
    cases s
    · simp only [Bool.false_eq_true, if_false] at hs
      go_enter Tryd.func22, Tryd.ntmps22
      go_wp2_with (go_at_call 14; refine (rbits_num _ hb hn _).mono ?_; rintro e w' ⟨rfl, rfl⟩)
      rename World => w
      go_loop [5, 6] (fun ve vm => ∃ q j : Nat, ve = .int .i64 (E0 + j) ∧ vm = .int .u64 q ∧ 0 < q ∧ q < 9007199254740992 ∧ Hid (q * 2 ^ j = Mn)) (fun _ vm => (intOf vm).toNat)
      case atStart => exact ⟨Mn, 0, by rw [hE1.out]; rfl, rfl, hMpos, hMlt, hMM.out⟩
      case round =>
        obtain ⟨q, j, rfl, rfl, hq0, hq1, HQ⟩ := hrel
        have hj := exp_bd q j Mn HQ.out hq0 hMlt
        by_cases hev : q % 2 = 0
        · have hH := halve q j Mn HQ.out hev
          have HH : Hid (q / 2 * 2 ^ (j + 1) = Mn) := hH
          have hc : ((q : Int) % 2 == 0) = true := by simp; omega
          clear hH
          go_wp2
          go_round
          case rel => exact ⟨q / 2, j + 1, by go_num, by go_num, by omega, by omega, HH.out⟩
          case measure => simp [intOf]; omega
        · have hc : ((q : Int) % 2 == 0) = false := by simp; omega
          have hl1 := itoa_len (q : Int) (by omega) (by omega)
          have hl2 := itoa_len (E0 + j) (by omega) (by omega)
          have c42 : ∀ n : Int, -9223372036854775808 ≤ n → n ≤ 9223372036854775807 → ∀ w', Below w.heap.size w w' → Calls Tryd.prog 42 #[.int .i64 n] w' fun r w'' => r = .returned (.string ⟨(Lib.itoa n).toArray⟩) ∧ Below w.heap.size w w'' :=
            fun n h1 h2 w' hB => (decimal_any n h1 h2 w').mono fun _ _ hh => ⟨hh.1, hB.trans (hh.2.mono hB.size)⟩
          have HO : Hid (q % 2 = 1) := by show q % 2 = 1; omega
          have hB0 := Below.refl w.heap.size w
          have HT : Hid (Lib.itoa (q : Int) = Lib.decDigits q) := Lib.itoa_nonneg q
          obtain ⟨tx, htx⟩ : ∃ tx, tx = Lib.itoa := ⟨_, rfl⟩
          rw [← htx] at c42 hl1 hl2 HT
          have HX : Hid (tx = Lib.itoa) := htx
          clear htx
          go_wp2_with (go_at_call 42; refine (c42 _ (by omega) (by omega) _ (by assumption)).mono ?_; rintro e w' ⟨rfl, hB'⟩)
          go_ret
          exact ⟨⟨q, HO.out, j, HQ.out, by rw [← HX.out, ← HT.out]; exact congrArg (fun x => Ending.returned (.string x)) (cat4 [] (tx (q : Int)) (tx (E0 + j)))⟩, by assumption⟩
    · simp only [if_true] at hs
      go_enter Tryd.func22, Tryd.ntmps22
      go_wp2_with (go_at_call 14; refine (rbits_num _ hb hn _).mono ?_; rintro e w' ⟨rfl, rfl⟩)
      rename World => w
      go_loop [5, 6] (fun ve vm => ∃ q j : Nat, ve = .int .i64 (E0 + j) ∧ vm = .int .u64 q ∧ 0 < q ∧ q < 9007199254740992 ∧ Hid (q * 2 ^ j = Mn)) (fun _ vm => (intOf vm).toNat)
      case atStart => exact ⟨Mn, 0, by rw [hE1.out]; rfl, rfl, hMpos, hMlt, hMM.out⟩
      case round =>
        obtain ⟨q, j, rfl, rfl, hq0, hq1, HQ⟩ := hrel
        have hj := exp_bd q j Mn HQ.out hq0 hMlt
        by_cases hev : q % 2 = 0
        · have hH := halve q j Mn HQ.out hev
          have HH : Hid (q / 2 * 2 ^ (j + 1) = Mn) := hH
          have hc : ((q : Int) % 2 == 0) = true := by simp; omega
          clear hH
          go_wp2
          go_round
          case rel => exact ⟨q / 2, j + 1, by go_num, by go_num, by omega, by omega, HH.out⟩
          case measure => simp [intOf]; omega
        · have hc : ((q : Int) % 2 == 0) = false := by simp; omega
          have hl1 := itoa_len (q : Int) (by omega) (by omega)
          have hl2 := itoa_len (E0 + j) (by omega) (by omega)
          have c42 : ∀ n : Int, -9223372036854775808 ≤ n → n ≤ 9223372036854775807 → ∀ w', Below w.heap.size w w' → Calls Tryd.prog 42 #[.int .i64 n] w' fun r w'' => r = .returned (.string ⟨(Lib.itoa n).toArray⟩) ∧ Below w.heap.size w w'' :=
            fun n h1 h2 w' hB => (decimal_any n h1 h2 w').mono fun _ _ hh => ⟨hh.1, hB.trans (hh.2.mono hB.size)⟩
          have HO : Hid (q % 2 = 1) := by show q % 2 = 1; omega
          have hB0 := Below.refl w.heap.size w
          have HT : Hid (Lib.itoa (q : Int) = Lib.decDigits q) := Lib.itoa_nonneg q
          obtain ⟨tx, htx⟩ : ∃ tx, tx = Lib.itoa := ⟨_, rfl⟩
          rw [← htx] at c42 hl1 hl2 HT
          have HX : Hid (tx = Lib.itoa) := htx
          clear htx
          go_wp2_with (go_at_call 42; refine (c42 _ (by omega) (by omega) _ (by assumption)).mono ?_; rintro e w' ⟨rfl, hB'⟩)
          go_ret
          exact ⟨⟨q, HO.out, j, HQ.out, by rw [← HX.out, ← HT.out]; exact congrArg (fun x => Ending.returned (.string x)) (cat4 [45] (tx (q : Int)) (tx (E0 + j)))⟩, by assumption⟩
  · rw [if_neg h0] at hMn hE0
    rw [← hMn] at hor
    have hE1 : Hid (E0 = (E : Int) - 1075) := hE0
    have hEi : ((E : Int) == 0) = false := by simp; omega
    have hE7 : ((E : Int) == 2047) = false := by simp; omega
    clear hz hE0 hMn
    cases s
    · simp only [Bool.false_eq_true, if_false] at hs
      go_enter Tryd.func22, Tryd.ntmps22
      go_wp2_with (go_at_call 14; refine (rbits_num _ hb hn _).mono ?_; rintro e w' ⟨rfl, rfl⟩)
      rename World => w
      go_loop [5, 6] (fun ve vm => ∃ q j : Nat, ve = .int .i64 (E0 + j) ∧ vm = .int .u64 q ∧ 0 < q ∧ q < 9007199254740992 ∧ Hid (q * 2 ^ j = Mn)) (fun _ vm => (intOf vm).toNat)
      case atStart => exact ⟨Mn, 0, by rw [hE1.out]; go_num, rfl, hMpos, hMlt, hMM.out⟩
      case round =>
        obtain ⟨q, j, rfl, rfl, hq0, hq1, HQ⟩ := hrel
        have hj := exp_bd q j Mn HQ.out hq0 hMlt
        by_cases hev : q % 2 = 0
        · have hH := halve q j Mn HQ.out hev
          have HH : Hid (q / 2 * 2 ^ (j + 1) = Mn) := hH
          have hc : ((q : Int) % 2 == 0) = true := by simp; omega
          clear hH
          go_wp2
          go_round
          case rel => exact ⟨q / 2, j + 1, by go_num, by go_num, by omega, by omega, HH.out⟩
          case measure => simp [intOf]; omega
        · have hc : ((q : Int) % 2 == 0) = false := by simp; omega
          have hl1 := itoa_len (q : Int) (by omega) (by omega)
          have hl2 := itoa_len (E0 + j) (by omega) (by omega)
          have c42 : ∀ n : Int, -9223372036854775808 ≤ n → n ≤ 9223372036854775807 → ∀ w', Below w.heap.size w w' → Calls Tryd.prog 42 #[.int .i64 n] w' fun r w'' => r = .returned (.string ⟨(Lib.itoa n).toArray⟩) ∧ Below w.heap.size w w'' :=
            fun n h1 h2 w' hB => (decimal_any n h1 h2 w').mono fun _ _ hh => ⟨hh.1, hB.trans (hh.2.mono hB.size)⟩
          have HO : Hid (q % 2 = 1) := by show q % 2 = 1; omega
          have hB0 := Below.refl w.heap.size w
          have HT : Hid (Lib.itoa (q : Int) = Lib.decDigits q) := Lib.itoa_nonneg q
          obtain ⟨tx, htx⟩ : ∃ tx, tx = Lib.itoa := ⟨_, rfl⟩
          rw [← htx] at c42 hl1 hl2 HT
          have HX : Hid (tx = Lib.itoa) := htx
          clear htx
          go_wp2_with (go_at_call 42; refine (c42 _ (by omega) (by omega) _ (by assumption)).mono ?_; rintro e w' ⟨rfl, hB'⟩)
          go_ret
          exact ⟨⟨q, HO.out, j, HQ.out, by rw [← HX.out, ← HT.out]; exact congrArg (fun x => Ending.returned (.string x)) (cat4 [] (tx (q : Int)) (tx (E0 + j)))⟩, by assumption⟩
    · simp only [if_true] at hs
      go_enter Tryd.func22, Tryd.ntmps22
      go_wp2_with (go_at_call 14; refine (rbits_num _ hb hn _).mono ?_; rintro e w' ⟨rfl, rfl⟩)
      rename World => w
      go_loop [5, 6] (fun ve vm => ∃ q j : Nat, ve = .int .i64 (E0 + j) ∧ vm = .int .u64 q ∧ 0 < q ∧ q < 9007199254740992 ∧ Hid (q * 2 ^ j = Mn)) (fun _ vm => (intOf vm).toNat)
      case atStart => exact ⟨Mn, 0, by rw [hE1.out]; go_num, rfl, hMpos, hMlt, hMM.out⟩
      case round =>
        obtain ⟨q, j, rfl, rfl, hq0, hq1, HQ⟩ := hrel
        have hj := exp_bd q j Mn HQ.out hq0 hMlt
        by_cases hev : q % 2 = 0
        · have hH := halve q j Mn HQ.out hev
          have HH : Hid (q / 2 * 2 ^ (j + 1) = Mn) := hH
          have hc : ((q : Int) % 2 == 0) = true := by simp; omega
          clear hH
          go_wp2
          go_round
          case rel => exact ⟨q / 2, j + 1, by go_num, by go_num, by omega, by omega, HH.out⟩
          case measure => simp [intOf]; omega
        · have hc : ((q : Int) % 2 == 0) = false := by simp; omega
          have hl1 := itoa_len (q : Int) (by omega) (by omega)
          have hl2 := itoa_len (E0 + j) (by omega) (by omega)
          have c42 : ∀ n : Int, -9223372036854775808 ≤ n → n ≤ 9223372036854775807 → ∀ w', Below w.heap.size w w' → Calls Tryd.prog 42 #[.int .i64 n] w' fun r w'' => r = .returned (.string ⟨(Lib.itoa n).toArray⟩) ∧ Below w.heap.size w w'' :=
            fun n h1 h2 w' hB => (decimal_any n h1 h2 w').mono fun _ _ hh => ⟨hh.1, hB.trans (hh.2.mono hB.size)⟩
          have HO : Hid (q % 2 = 1) := by show q % 2 = 1; omega
          have hB0 := Below.refl w.heap.size w
          have HT : Hid (Lib.itoa (q : Int) = Lib.decDigits q) := Lib.itoa_nonneg q
          obtain ⟨tx, htx⟩ : ∃ tx, tx = Lib.itoa := ⟨_, rfl⟩
          rw [← htx] at c42 hl1 hl2 HT
          have HX : Hid (tx = Lib.itoa) := htx
          clear htx
          go_wp2_with (go_at_call 42; refine (c42 _ (by omega) (by omega) _ (by assumption)).mono ?_; rintro e w' ⟨rfl, hB'⟩)
          go_ret
          exact ⟨⟨q, HO.out, j, HQ.out, by rw [← HX.out, ← HT.out]; exact congrArg (fun x => Ending.returned (.string x)) (cat4 [45] (tx (q : Int)) (tx (E0 + j)))⟩, by assumption⟩
theorem rtext_any (b : Nat) (hb : b < 18446744073709551616) (w : World) :
    Calls Tryd.prog 22 #[.float .f64 b] w fun e w' => e = .returned (.string ⟨(textOf b).toArray⟩) ∧ Below w.heap.size w w' := by
  unfold textOf
  by_cases hn : isN b = true
  · rw [if_pos hn]
    exact (rtext_nan b hb hn w).mono fun _ _ hh => ⟨hh.1, hh.2 ▸ Below.refl _ _⟩
  rw [if_neg hn]
  by_cases hi : b = 9218868437227405312
  · rw [if_pos hi]; subst hi
    exact (rtext_inf w).mono fun _ _ hh => ⟨hh.1, hh.2 ▸ Below.refl _ _⟩
  rw [if_neg hi]
  by_cases hj : b = 18442240474082181120
  · rw [if_pos hj]; subst hj
    exact (rtext_ninf w).mono fun _ _ hh => ⟨hh.1, hh.2 ▸ Below.refl _ _⟩
  rw [if_neg hj]
  have hn' : ¬ (9218868437227405312 < b % 9223372036854775808) := by simpa [isN] using hn
  have hf : bits .and .u64 (b : Int) 4503599627370495 = (frac b : Int) := by
    have := u64_and_nat b 4503599627370495 hb (by omega)
    rw [nat_mask52] at this; exact this
  have he : bits .and .u64 ((b : Int) / 4503599627370496) 2047 = (expf b : Int) := by
    have := u64_and_nat (b / 4503599627370496) 2047 (by omega) (by omega)
    rw [nat_mask11] at this; exact this
  have hF : frac b < 4503599627370496 := by unfold frac; omega
  have hE : expf b < 2047 := by unfold expf; omega
  have hor : bits .or .u64 (frac b : Int) 4503599627370496 = ((frac b + 4503599627370496 : Nat) : Int) := by
    have := u64_or_nat (frac b) 4503599627370496 (by omega) (by omega)
    have e := Nat.two_pow_add_eq_or_of_lt (i := 52) (b := frac b) (by omega) 1
    simp only [Nat.reducePow, Nat.mul_one] at e
    rw [Nat.or_comm, ← e, Nat.add_comm] at this
    exact this
  have hs : bits .and .u64 (b : Int) 9223372036854775808 = if decide (9223372036854775808 ≤ b) then 9223372036854775808 else 0 := by
    by_cases h : 9223372036854775808 ≤ b
    · rw [if_pos (by simpa using h)]; exact and63_hi b h hb
    · rw [if_neg (by simpa using h)]; exact and63_lo b (by omega)
  have sgn : (if decide (9223372036854775808 ≤ b) = true then [45] else ([] : List UInt8)) = if b < 9223372036854775808 then [] else [45] := by
    by_cases hl : b < 9223372036854775808
    · rw [if_pos hl, if_neg (by simp; omega)]
    · rw [if_neg hl, if_pos (by simp; omega)]
  by_cases hz : expf b = 0 ∧ frac b = 0
  · have m0 : mant b = 0 := by unfold mant; rw [if_pos hz.1]; exact hz.2
    have e1 : spM b = 0 := by unfold spM; rw [if_pos m0]
    have e2 : spE b = 0 := by unfold spE; rw [if_pos m0]
    have e3 : textFin b = (if b < 9223372036854775808 then [] else [45]) ++ [48, 98, 48] := by
      unfold textFin; rw [e1, e2]
      congr 1
      decide +kernel
    rw [e3, ← sgn]
    exact (rtext_zero b (decide (9223372036854775808 ≤ b)) hb (by simpa using hn) w hs (by rw [hf, hz.2]; rfl) (by rw [he, hz.1]; rfl)).mono fun _ _ hh => ⟨hh.1, hh.2 ▸ Below.refl _ _⟩
  · refine (rtext_fin b (frac b) (expf b) (decide (9223372036854775808 ≤ b)) hb (by simpa using hn) w hs hf he hE hF hor (fun h h' => hz ⟨h, h'⟩)).mono fun e w' hh => ?_
    obtain ⟨⟨q, j, ho, hq, rfl⟩, hB⟩ := hh
    obtain ⟨u1, u2⟩ := split_unique b q j hq ho
    refine ⟨?_, hB⟩
    unfold textFin
    rw [u1, u2, sgn]
    rfl
end Go.Proofs.YtmeohldomplegaaDoor
