/- Plain mathematics: masks and marks of a double's bits as arithmetic. Contracts of flo's small functions: the bits, the place in the order, whether two are the same, whether one is ahead, chances and prices. -/
import Derived.Laws.BitsAll
import Derived.WalkKit
import Derived.Test.YtjdbapkmaggllaaGreatDoorRows
import Derived.Test.YtjdbapkmaggllaaGreatDoorS09
import Derived.WalkLawsBesides
namespace Go.Proofs.YtjdbapkmaggllaaGreatDoor.Fl.Fo
open Go

theorem and63_lo (x : Nat) (h : x < 9223372036854775808) : bits .and .u64 (x : Int) 9223372036854775808 = 0 := by
  have := u64_and_nat x 9223372036854775808 (by omega) (by omega)
  rw [nat_bit63, show x / 9223372036854775808 = 0 by omega] at this
  simpa using this
theorem and63_hi (x : Nat) (h : 9223372036854775808 ≤ x) (h2 : x < 18446744073709551616) : bits .and .u64 (x : Int) 9223372036854775808 = 9223372036854775808 := by
  have := u64_and_nat x 9223372036854775808 (by omega) (by omega)
  rw [nat_bit63, show x / 9223372036854775808 = 1 by omega] at this
  simpa using this
theorem or63 (x : Nat) (h : x < 9223372036854775808) : bits .or .u64 (x : Int) 9223372036854775808 = ((x + 9223372036854775808 : Nat) : Int) := by
  have := u64_or_nat x 9223372036854775808 (by omega) (by omega)
  rw [Nat.or_comm] at this
  have e : 9223372036854775808 ||| x = 2 ^ 63 * 1 + x := (Nat.two_pow_add_eq_or_of_lt (i := 63) (by omega) 1).symm
  rw [e] at this
  refine this.trans ?_
  congr 1
  omega
theorem not64 (x : Nat) (h : x < 18446744073709551616) : bits .xor .u64 IntKind.u64.max (x : Int) = ((18446744073709551615 - x : Nat) : Int) := by
  have := u64_xor_nat 18446744073709551615 x (by omega) h
  have e : 18446744073709551615 ^^^ x = 18446744073709551615 - x := by
    have hb : (BitVec.ofNat 64 x).toNat = x := by simp; omega
    have h1 : (BitVec.allOnes 64 ^^^ BitVec.ofNat 64 x).toNat = 18446744073709551615 ^^^ x := by rw [BitVec.toNat_xor, hb]; rfl
    have h2 : BitVec.allOnes 64 ^^^ BitVec.ofNat 64 x = ~~~ BitVec.ofNat 64 x := by rw [BitVec.allOnes_xor]
    rw [← h1, h2, BitVec.toNat_not, hb]
  rw [e] at this
  exact this
theorem andNot63 (x : Nat) (h : x < 18446744073709551616) : bits .andNot .u64 (x : Int) 9223372036854775808 = ((x % 9223372036854775808 : Nat) : Int) := by
  have := u64_andNot_nat x 9223372036854775808 h (by omega)
  rw [show 18446744073709551615 - 9223372036854775808 = 9223372036854775807 by rfl, nat_mask63] at this
  exact this
end Go.Proofs.YtjdbapkmaggllaaGreatDoor.Fl.Fo

namespace Go.Proofs.YtjdbapkmaggllaaGreatDoor.Fl
open Go.RowKit Fo
set_option maxRecDepth 100000

theorem ret_bool {a b : Bool} (h : a = b) : Ending.returned (.bool a) = .returned (.bool b) := by rw [h]
theorem ret_float {k : FloatKind} {a b : Nat} (h : a = b) : Ending.returned (.float k a) = .returned (.float k b) := by rw [h]
theorem ret_int {k : IntKind} {a b : Int} (h : a = b) : Ending.returned (.int k a) = .returned (.int k b) := by rw [h]

theorem c32 (b : Nat) (w : World) : (callFunc 75 #[.float .f64 b]).run Tryz.prog w = .ok (.value (.int .u64 b)) w := by
  rw [run_callFunc_extern Tryz.func75 (by kernel_rfl) (by kernel_rfl) (by kernel_rfl) (e := Extern.MathFloatBits.float64bits) (by kernel_rfl)]; rfl
theorem c36 (n : Int) (w : World) : (callFunc 61 #[.int .u64 n]).run Tryz.prog w = .ok (.value (.float .f64 n.toNat)) w := by
  rw [run_callFunc_extern Tryz.func61 (by kernel_rfl) (by kernel_rfl) (by kernel_rfl) (e := Extern.MathFloatBits.float64frombits) (by kernel_rfl)]; rfl
theorem isnan_any (b : Nat) (hb : b < 18446744073709551616) (w : World) :
    Calls Tryz.prog 85 #[.float .f64 b] w fun e w' => e = .returned (.bool (isN b)) ∧ w' = w := by
  go_enter Tryz.func85, Tryz.ntmps85
  go_wp2
  go_ret
  exact ⟨ret_bool (ne_self b hb), rfl⟩

theorem bits_any (b : Nat) (hb : b < 18446744073709551616) (w : World) :
    Calls Tryz.prog 96 #[.float .f64 b] w fun e w' => e = .returned (.int .u64 (bitsOf b)) ∧ w' = w := by
  have k32 := c32 b
  cases h : isN b
  · go_enter Tryz.func96, Tryz.ntmps96
    go_wp2_with (go_at_call 85; refine (isnan_any _ hb _).mono ?_; rintro e w' ⟨rfl, rfl⟩)
    go_ret
    exact ⟨ret_int (by simp [bitsOf, h]), rfl⟩
  · go_enter Tryz.func96, Tryz.ntmps96
    go_wp2_with (go_at_call 85; refine (isnan_any _ hb _).mono ?_; rintro e w' ⟨rfl, rfl⟩)
    go_ret
    exact ⟨ret_int (by simp [bitsOf, h]), rfl⟩

theorem bits_nan (b : Nat) (hb : b < 18446744073709551616) (h : isN b = true) (w : World) :
    Calls Tryz.prog 96 #[.float .f64 b] w fun e w' => e = .returned (.int .u64 9221120237041090560) ∧ w' = w :=
  (bits_any b hb w).mono fun _ _ hh => ⟨hh.1.trans (ret_int (by rw [bitsOf, if_pos h]; rfl)), hh.2⟩
theorem bits_num (b : Nat) (hb : b < 18446744073709551616) (h : isN b = false) (w : World) :
    Calls Tryz.prog 96 #[.float .f64 b] w fun e w' => e = .returned (.int .u64 b) ∧ w' = w :=
  (bits_any b hb w).mono fun _ _ hh => ⟨hh.1.trans (ret_int (by rw [bitsOf, if_neg (by rw [h]; decide)])), hh.2⟩
theorem same_any (a b : Nat) (ha : a < 18446744073709551616) (hb : b < 18446744073709551616) (w : World) :
    Calls Tryz.prog 73 #[.float .f64 a, .float .f64 b] w fun e w' => e = .returned (.bool (decide (bitsOf a = bitsOf b))) ∧ w' = w := by
  go_enter Tryz.func73, Tryz.ntmps73
  go_wp2_with (go_at_call 96; refine (bits_any _ (by assumption) _).mono ?_; rintro e w' ⟨rfl, rfl⟩)
  go_ret
  exact ⟨ret_bool (by rw [Bool.eq_iff_iff]; simp only [beq_iff_eq, decide_eq_true_eq]; omega), rfl⟩

theorem abs_any (b : Nat) (hb : b < 18446744073709551616) (w : World) :
    Calls Tryz.prog 97 #[.float .f64 b] w fun e w' => e = .returned (.float .f64 (b % 9223372036854775808)) ∧ w' = w := by
  have h := andNot63 b hb
  have k32 := c32 b
  have k36 := c36
  go_enter Tryz.func97, Tryz.ntmps97
  go_wp2
  go_ret
  exact ⟨ret_float (by omega), rfl⟩

theorem up_ok (b t : Nat) (hb : b < 18446744073709551616) (h0 : FloatKind.f64.format.order b 0 = some .gt ∨ FloatKind.f64.format.order b 0 = some .eq) (h1 : FloatKind.f64.format.order b t = some .lt ∨ FloatKind.f64.format.order b t = some .eq) (w : World) :
    Calls Tryz.prog 74 #[.float .f64 t, .float .f64 b] w fun e w' => e = .returned (.tuple #[.float .f64 (b % 9223372036854775808), .int .i64 0]) ∧ w' = w := by
  rcases h0 with h0 | h0 <;> rcases h1 with h1 | h1
  all_goals
    go_enter Tryz.func74, Tryz.ntmps74
    go_wp2_with (go_at_call 97; refine (abs_any _ (by assumption) _).mono ?_; rintro e w' ⟨rfl, rfl⟩)
    go_ret2
    exact ⟨rfl, rfl⟩
theorem up_no0 (b t : Nat) (h0 : FloatKind.f64.format.order b 0 = some .lt ∨ FloatKind.f64.format.order b 0 = none) (w : World) :
    Calls Tryz.prog 74 #[.float .f64 t, .float .f64 b] w fun e w' => e = .returned (.tuple #[.float .f64 0, .int .i64 16]) ∧ w' = w := by
  rcases h0 with h0 | h0
  all_goals
    go_enter Tryz.func74, Tryz.ntmps74
    go_wp2
    go_ret2
    exact ⟨rfl, rfl⟩
theorem up_no1 (b t : Nat) (h0 : FloatKind.f64.format.order b 0 = some .gt) (h1 : FloatKind.f64.format.order b t = some .gt) (w : World) :
    Calls Tryz.prog 74 #[.float .f64 t, .float .f64 b] w fun e w' => e = .returned (.tuple #[.float .f64 0, .int .i64 16]) ∧ w' = w := by
  go_enter Tryz.func74, Tryz.ntmps74
  go_wp2
  go_ret2
  exact ⟨rfl, rfl⟩

/-- A number from 0 to another one. -/
def inTo (t b : Nat) : Bool := !isN b && decide (0 ≤ key b) && decide (key b ≤ key t)
theorem ord_of (a b : Nat) (ha : a < 18446744073709551616) (hb : b < 18446744073709551616) (na : isN a = false) (nb : isN b = false) : FloatKind.f64.format.order a b = some (compare (key a) (key b)) := by
  have := order_eq a b ha hb
  rw [na, nb] at this; exact this
theorem ord_none (a b : Nat) (ha : a < 18446744073709551616) (hb : b < 18446744073709551616) (na : isN a = true) : FloatKind.f64.format.order a b = none := by
  have := order_eq a b ha hb
  rw [na] at this; exact this
theorem cmp_of_lt {x y : Int} (h : x < y) : compare x y = .lt := by simp [compare, compareOfLessAndEq, h]
theorem cmp_of_eq {x y : Int} (h : x = y) : compare x y = .eq := by simp [compare, compareOfLessAndEq, h]
theorem cmp_of_gt {x y : Int} (h : y < x) : compare x y = .gt := by simp only [compare, compareOfLessAndEq]; rw [if_neg (by omega), if_neg (by omega)]
theorem key0 : key 0 = 0 := by decide
theorem isN0 : isN 0 = false := by decide
theorem upto_any (b t : Nat) (hb : b < 18446744073709551616) (ht : t < 18446744073709551616) (nt : isN t = false) (pt : 0 < key t) (w : World) :
    Calls Tryz.prog 74 #[.float .f64 t, .float .f64 b] w fun e w' => e = .returned (if inTo t b then .tuple #[.float .f64 (b % 9223372036854775808), .int .i64 0] else .tuple #[.float .f64 0, .int .i64 16]) ∧ w' = w := by
  cases hn : isN b
  · have o0 := ord_of b 0 hb (by omega) hn isN0
    have o1 := ord_of b t hb ht hn nt
    rw [key0] at o0
    by_cases h0 : key b < 0
    · rw [if_neg (by simp [inTo, hn]; omega)]
      exact up_no0 b t (Or.inl (by rw [o0, cmp_of_lt h0])) w
    · by_cases h1 : key t < key b
      · rw [if_neg (by simp [inTo, hn]; omega)]
        exact up_no1 b t (by rw [o0, cmp_of_gt (by omega)]) (by rw [o1, cmp_of_gt h1]) w
      · rw [if_pos (by simp [inTo, hn]; omega)]
        refine up_ok b t hb ?_ ?_ w
        · rcases Int.lt_trichotomy 0 (key b) with h | h | h
          · exact Or.inl (by rw [o0, cmp_of_gt h])
          · exact Or.inr (by rw [o0, cmp_of_eq h.symm])
          · omega
        · rcases Int.lt_trichotomy (key b) (key t) with h | h | h
          · exact Or.inl (by rw [o1, cmp_of_lt h])
          · exact Or.inr (by rw [o1, cmp_of_eq h])
          · omega
  · rw [if_neg (by simp [inTo, hn])]
    exact up_no0 b t (Or.inr (ord_none b 0 hb (by omega) hn)) w
end Go.Proofs.YtjdbapkmaggllaaGreatDoor.Fl
