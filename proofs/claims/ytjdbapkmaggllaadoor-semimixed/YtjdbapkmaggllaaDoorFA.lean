/- Contracts of flo's small functions: the bits, the place in the order, whether two are the same, whether one is ahead, chances and prices. -/
import Derived.Test.YtjdbapkmaggllaaDoorRows
import Derived.Test.YtjdbapkmaggllaaDoorFOrd
import Derived.Test.YtjdbapkmaggllaaDoorFBit
import Derived.WalkKit
import Derived.WalkLawsBesides
namespace Go.Proofs.YtjdbapkmaggllaaDoor.Fl
open Go.RowKit Fo
set_option maxRecDepth 100000

theorem ret_bool {a b : Bool} (h : a = b) : Ending.returned (.bool a) = .returned (.bool b) := by rw [h]
theorem ret_float {k : FloatKind} {a b : Nat} (h : a = b) : Ending.returned (.float k a) = .returned (.float k b) := by rw [h]
theorem ret_int {k : IntKind} {a b : Int} (h : a = b) : Ending.returned (.int k a) = .returned (.int k b) := by rw [h]

theorem c32 (b : Nat) (w : World) : (callFunc 42 #[.float .f64 b]).run Tryd.prog w = .ok (.value (.int .u64 b)) w := by
  rw [run_callFunc_extern Tryd.func42 (by kernel_rfl) (by kernel_rfl) (by kernel_rfl) (e := Extern.MathFloatBits.float64bits) (by kernel_rfl)]; rfl
theorem c36 (n : Int) (w : World) : (callFunc 54 #[.int .u64 n]).run Tryd.prog w = .ok (.value (.float .f64 n.toNat)) w := by
  rw [run_callFunc_extern Tryd.func54 (by kernel_rfl) (by kernel_rfl) (by kernel_rfl) (e := Extern.MathFloatBits.float64frombits) (by kernel_rfl)]; rfl
theorem isnan_any (b : Nat) (hb : b < 18446744073709551616) (w : World) :
    Calls Tryd.prog 62 #[.float .f64 b] w fun e w' => e = .returned (.bool (isN b)) ∧ w' = w := by
  go_enter Tryd.func62, Tryd.ntmps62
  go_wp2
  go_ret
  exact ⟨ret_bool (ne_self b hb), rfl⟩

theorem bits_any (b : Nat) (hb : b < 18446744073709551616) (w : World) :
    Calls Tryd.prog 69 #[.float .f64 b] w fun e w' => e = .returned (.int .u64 (bitsOf b)) ∧ w' = w := by
  have k32 := c32 b
  cases h : isN b
  · go_enter Tryd.func69, Tryd.ntmps69
    go_wp2_with (go_at_call 62; refine (isnan_any _ hb _).mono ?_; rintro e w' ⟨rfl, rfl⟩)
    go_ret
    exact ⟨ret_int (by simp [bitsOf, h]), rfl⟩
  · go_enter Tryd.func69, Tryd.ntmps69
    go_wp2_with (go_at_call 62; refine (isnan_any _ hb _).mono ?_; rintro e w' ⟨rfl, rfl⟩)
    go_ret
    exact ⟨ret_int (by simp [bitsOf, h]), rfl⟩

theorem bits_nan (b : Nat) (hb : b < 18446744073709551616) (h : isN b = true) (w : World) :
    Calls Tryd.prog 69 #[.float .f64 b] w fun e w' => e = .returned (.int .u64 9221120237041090560) ∧ w' = w :=
  (bits_any b hb w).mono fun _ _ hh => ⟨hh.1.trans (ret_int (by rw [bitsOf, if_pos h]; rfl)), hh.2⟩
theorem bits_num (b : Nat) (hb : b < 18446744073709551616) (h : isN b = false) (w : World) :
    Calls Tryd.prog 69 #[.float .f64 b] w fun e w' => e = .returned (.int .u64 b) ∧ w' = w :=
  (bits_any b hb w).mono fun _ _ hh => ⟨hh.1.trans (ret_int (by rw [bitsOf, if_neg (by rw [h]; decide)])), hh.2⟩
theorem same_any (a b : Nat) (ha : a < 18446744073709551616) (hb : b < 18446744073709551616) (w : World) :
    Calls Tryd.prog 50 #[.float .f64 a, .float .f64 b] w fun e w' => e = .returned (.bool (decide (bitsOf a = bitsOf b))) ∧ w' = w := by
  go_enter Tryd.func50, Tryd.ntmps50
  go_wp2_with (go_at_call 69; refine (bits_any _ (by assumption) _).mono ?_; rintro e w' ⟨rfl, rfl⟩)
  go_ret
  exact ⟨ret_bool (by rw [Bool.eq_iff_iff]; simp only [beq_iff_eq, decide_eq_true_eq]; omega), rfl⟩

theorem abs_any (b : Nat) (hb : b < 18446744073709551616) (w : World) :
    Calls Tryd.prog 72 #[.float .f64 b] w fun e w' => e = .returned (.float .f64 (b % 9223372036854775808)) ∧ w' = w := by
  have h := andNot63 b hb
  have k32 := c32 b
  have k36 := c36
  go_enter Tryd.func72, Tryd.ntmps72
  go_wp2
  go_ret
  exact ⟨ret_float (by omega), rfl⟩

theorem up_ok (b t : Nat) (hb : b < 18446744073709551616) (h0 : FloatKind.f64.format.order b 0 = some .gt ∨ FloatKind.f64.format.order b 0 = some .eq) (h1 : FloatKind.f64.format.order b t = some .lt ∨ FloatKind.f64.format.order b t = some .eq) (w : World) :
    Calls Tryd.prog 53 #[.float .f64 t, .float .f64 b] w fun e w' => e = .returned (.tuple #[.float .f64 (b % 9223372036854775808), .int .i64 0]) ∧ w' = w := by
  rcases h0 with h0 | h0 <;> rcases h1 with h1 | h1
  all_goals
    go_enter Tryd.func53, Tryd.ntmps53
    go_wp2_with (go_at_call 72; refine (abs_any _ (by assumption) _).mono ?_; rintro e w' ⟨rfl, rfl⟩)
    go_ret2
    exact ⟨rfl, rfl⟩
theorem up_no0 (b t : Nat) (h0 : FloatKind.f64.format.order b 0 = some .lt ∨ FloatKind.f64.format.order b 0 = none) (w : World) :
    Calls Tryd.prog 53 #[.float .f64 t, .float .f64 b] w fun e w' => e = .returned (.tuple #[.float .f64 0, .int .i64 16]) ∧ w' = w := by
  rcases h0 with h0 | h0
  all_goals
    go_enter Tryd.func53, Tryd.ntmps53
    go_wp2
    go_ret2
    exact ⟨rfl, rfl⟩
theorem up_no1 (b t : Nat) (h0 : FloatKind.f64.format.order b 0 = some .gt) (h1 : FloatKind.f64.format.order b t = some .gt) (w : World) :
    Calls Tryd.prog 53 #[.float .f64 t, .float .f64 b] w fun e w' => e = .returned (.tuple #[.float .f64 0, .int .i64 16]) ∧ w' = w := by
  go_enter Tryd.func53, Tryd.ntmps53
  go_wp2
  go_ret2
  exact ⟨rfl, rfl⟩

/-- A number from 0 to another one. -/
def inTo (t b : Nat) : Bool := !isN b && decide (0 ≤ key b) && decide (key b ≤ key t)
theorem ord_of (a b : Nat) (ha : a < 18446744073709551616) (hb : b < 18446744073709551616) (na : isN a = false) (nb : isN b = false) : FloatKind.f64.format.order a b = some (compare (key a) (key b)) := by
  have := order_eq a b ha hb
  rw [na, nb] at this; exact this
theorem ord_none (a b : Nat) (ha : a < 18446744073709551616) (hb : b < 18446744073709551616) (na : isN a = true) : FloatKind.f64.format.order a b = none := by
  have := order_eq a b ha hb
  rw [na] at this; exact this
theorem cmp_of_lt {x y : Int} (h : x < y) : compare x y = .lt := by simp [compare, compareOfLessAndEq, h]
theorem cmp_of_eq {x y : Int} (h : x = y) : compare x y = .eq := by simp [compare, compareOfLessAndEq, h]
theorem cmp_of_gt {x y : Int} (h : y < x) : compare x y = .gt := by simp only [compare, compareOfLessAndEq]; rw [if_neg (by omega), if_neg (by omega)]
theorem key0 : key 0 = 0 := by decide
theorem isN0 : isN 0 = false := by decide
theorem upto_any (b t : Nat) (hb : b < 18446744073709551616) (ht : t < 18446744073709551616) (nt : isN t = false) (pt : 0 < key t) (w : World) :
    Calls Tryd.prog 53 #[.float .f64 t, .float .f64 b] w fun e w' => e = .returned (if inTo t b then .tuple #[.float .f64 (b % 9223372036854775808), .int .i64 0] else .tuple #[.float .f64 0, .int .i64 16]) ∧ w' = w := by
  cases hn : isN b
  · have o0 := ord_of b 0 hb (by omega) hn isN0
    have o1 := ord_of b t hb ht hn nt
    rw [key0] at o0
    by_cases h0 : key b < 0
    · rw [if_neg (by simp [inTo, hn]; omega)]
      exact up_no0 b t (Or.inl (by rw [o0, cmp_of_lt h0])) w
    · by_cases h1 : key t < key b
      · rw [if_neg (by simp [inTo, hn]; omega)]
        exact up_no1 b t (by rw [o0, cmp_of_gt (by omega)]) (by rw [o1, cmp_of_gt h1]) w
      · rw [if_pos (by simp [inTo, hn]; omega)]
        refine up_ok b t hb ?_ ?_ w
        · rcases Int.lt_trichotomy 0 (key b) with h | h | h
          · exact Or.inl (by rw [o0, cmp_of_gt h])
          · exact Or.inr (by rw [o0, cmp_of_eq h.symm])
          · omega
        · rcases Int.lt_trichotomy (key b) (key t) with h | h | h
          · exact Or.inl (by rw [o1, cmp_of_lt h])
          · exact Or.inr (by rw [o1, cmp_of_eq h])
          · omega
  · rw [if_neg (by simp [inTo, hn])]
    exact up_no0 b t (Or.inr (ord_none b 0 hb (by omega) hn)) w
end Go.Proofs.YtjdbapkmaggllaaDoor.Fl
