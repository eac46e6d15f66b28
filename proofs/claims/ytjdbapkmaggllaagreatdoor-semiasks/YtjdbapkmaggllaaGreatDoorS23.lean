/- The document's own MayValue. -/
import Derived.Test.YtjdbapkmaggllaaGreatDoorS21
import Derived.Test.YtjdbapkmaggllaaGreatDoorS22
namespace Go.Proofs.YtjdbapkmaggllaaGreatDoor
open Go.RowKit Fo
set_option maxRecDepth 100000

theorem rmv_nat (s : Int) (i : Bool) (a : Option Addr) (n c : Nat) (L : Nat → Nat) (l : Int) (x : Nat) (w : World) (hs : s = 1 ∨ s = 3) (hr : Rd w a n c (u32s L)) (hn : n ≤ 100000) :
    Calls Tryz.prog 22 #[.agg #[.int .i64 s, .bool i, .slice a n c, .int .i64 l, .float .f64 x]] w fun e w' => e = .returned (.int .i64 (if mayB i n L then 0 else 16)) ∧ Below w.heap.size w w' := by
  have HB : Hid (Below w.heap.size w (w.alloc (.cells #[.int .i64 s, .bool i, .slice a n c, .int .i64 l, .float .f64 x] 27))) := below1 w _
  have cM := rmay_any i a n c L _ (hr.below HB.out) hn
  generalize mayB i n L = b at cM ⊢
  clear hr hn
  cases b
  · rcases hs with rfl | rfl
    · go_enter Tryz.func22, Tryz.ntmps22
      go_wp2_with (go_at_call 53; refine cM.mono ?_; rintro e w1 ⟨rfl, b1⟩; replace b1 : Hid (Below _ _ _) := b1)
      go_ret
      exact ⟨rfl, below_step HB.out b1.out⟩
    · go_enter Tryz.func22, Tryz.ntmps22
      go_wp2_with (go_at_call 53; refine cM.mono ?_; rintro e w1 ⟨rfl, b1⟩; replace b1 : Hid (Below _ _ _) := b1)
      go_ret
      exact ⟨rfl, below_step HB.out b1.out⟩
  · rcases hs with rfl | rfl
    · go_enter Tryz.func22, Tryz.ntmps22
      go_wp2_with (go_at_call 53; refine cM.mono ?_; rintro e w1 ⟨rfl, b1⟩; replace b1 : Hid (Below _ _ _) := b1)
      go_ret
      exact ⟨rfl, below_step HB.out b1.out⟩
    · go_enter Tryz.func22, Tryz.ntmps22
      go_wp2_with (go_at_call 53; refine cM.mono ?_; rintro e w1 ⟨rfl, b1⟩; replace b1 : Hid (Below _ _ _) := b1)
      go_ret
      exact ⟨rfl, below_step HB.out b1.out⟩
theorem rmv_lev20 (s : Int) (i : Bool) (a : Option Addr) (n c : Nat) (l : Int) (x : Nat) (w : World) (hs : s = 2) (hl : l = 0) :
    Calls Tryz.prog 22 #[.agg #[.int .i64 s, .bool i, .slice a n c, .int .i64 l, .float .f64 x]] w fun e w' => e = .returned (.int .i64 0) ∧ Below w.heap.size w w' := by
  have HB : Hid (Below w.heap.size w (w.alloc (.cells #[.int .i64 s, .bool i, .slice a n c, .int .i64 l, .float .f64 x] 27))) := below1 w _
  subst hs
  subst hl
  go_enter Tryz.func22, Tryz.ntmps22
  go_wp2
  go_ret
  exact ⟨rfl, HB.out⟩
theorem rmv_lev21 (s : Int) (i : Bool) (a : Option Addr) (n c : Nat) (l : Int) (x : Nat) (w : World) (hs : s = 2) (hl : l = 1) :
    Calls Tryz.prog 22 #[.agg #[.int .i64 s, .bool i, .slice a n c, .int .i64 l, .float .f64 x]] w fun e w' => e = .returned (.int .i64 0) ∧ Below w.heap.size w w' := by
  have HB : Hid (Below w.heap.size w (w.alloc (.cells #[.int .i64 s, .bool i, .slice a n c, .int .i64 l, .float .f64 x] 27))) := below1 w _
  subst hs
  subst hl
  go_enter Tryz.func22, Tryz.ntmps22
  go_wp2
  go_ret
  exact ⟨rfl, HB.out⟩
theorem rmv_lev22 (s : Int) (i : Bool) (a : Option Addr) (n c : Nat) (l : Int) (x : Nat) (w : World) (hs : s = 2) (h0 : (l == 0) = false) (h1 : (l == 1) = false) :
    Calls Tryz.prog 22 #[.agg #[.int .i64 s, .bool i, .slice a n c, .int .i64 l, .float .f64 x]] w fun e w' => e = .returned (.int .i64 16) ∧ Below w.heap.size w w' := by
  have HB : Hid (Below w.heap.size w (w.alloc (.cells #[.int .i64 s, .bool i, .slice a n c, .int .i64 l, .float .f64 x] 27))) := below1 w _
  subst hs
  skip
  go_enter Tryz.func22, Tryz.ntmps22
  go_wp2
  go_ret
  exact ⟨rfl, HB.out⟩
theorem rmv_lev40 (s : Int) (i : Bool) (a : Option Addr) (n c : Nat) (l : Int) (x : Nat) (w : World) (hs : s = 4) (h0 : 0 ≤ l) (h1 : l ≤ 7) :
    Calls Tryz.prog 22 #[.agg #[.int .i64 s, .bool i, .slice a n c, .int .i64 l, .float .f64 x]] w fun e w' => e = .returned (.int .i64 0) ∧ Below w.heap.size w w' := by
  have HB : Hid (Below w.heap.size w (w.alloc (.cells #[.int .i64 s, .bool i, .slice a n c, .int .i64 l, .float .f64 x] 27))) := below1 w _
  subst hs
  skip
  go_enter Tryz.func22, Tryz.ntmps22
  go_wp2
  go_ret
  exact ⟨rfl, HB.out⟩
theorem rmv_lev41 (s : Int) (i : Bool) (a : Option Addr) (n c : Nat) (l : Int) (x : Nat) (w : World) (hs : s = 4) (h0 : ¬ 0 ≤ l) :
    Calls Tryz.prog 22 #[.agg #[.int .i64 s, .bool i, .slice a n c, .int .i64 l, .float .f64 x]] w fun e w' => e = .returned (.int .i64 16) ∧ Below w.heap.size w w' := by
  have HB : Hid (Below w.heap.size w (w.alloc (.cells #[.int .i64 s, .bool i, .slice a n c, .int .i64 l, .float .f64 x] 27))) := below1 w _
  subst hs
  skip
  go_enter Tryz.func22, Tryz.ntmps22
  go_wp2
  go_ret
  exact ⟨rfl, HB.out⟩
theorem rmv_lev42 (s : Int) (i : Bool) (a : Option Addr) (n c : Nat) (l : Int) (x : Nat) (w : World) (hs : s = 4) (h0 : 0 ≤ l) (h1 : ¬ l ≤ 7) :
    Calls Tryz.prog 22 #[.agg #[.int .i64 s, .bool i, .slice a n c, .int .i64 l, .float .f64 x]] w fun e w' => e = .returned (.int .i64 16) ∧ Below w.heap.size w w' := by
  have HB : Hid (Below w.heap.size w (w.alloc (.cells #[.int .i64 s, .bool i, .slice a n c, .int .i64 l, .float .f64 x] 27))) := below1 w _
  subst hs
  skip
  go_enter Tryz.func22, Tryz.ntmps22
  go_wp2
  go_ret
  exact ⟨rfl, HB.out⟩
theorem rmv_flo50 (s : Int) (i : Bool) (a : Option Addr) (n c : Nat) (l : Int) (x : Nat) (w : World) (hs : s = 5) (o0 : (FloatKind.f64.format.order x 0 == some Ordering.gt || FloatKind.f64.format.order x 0 == some Ordering.eq) = true) (o1 : (FloatKind.f64.format.order x 4607182418800017408 == some Ordering.lt || FloatKind.f64.format.order x 4607182418800017408 == some Ordering.eq) = true) (hx : x < 18446744073709551616) (hb : Fl.Fo.bitsOf x < 9223372036854775808) :
    Calls Tryz.prog 22 #[.agg #[.int .i64 s, .bool i, .slice a n c, .int .i64 l, .float .f64 x]] w fun e w' => e = .returned (.int .i64 0) ∧ Below w.heap.size w w' := by
  have HB : Hid (Below w.heap.size w (w.alloc (.cells #[.int .i64 s, .bool i, .slice a n c, .int .i64 l, .float .f64 x] 27))) := below1 w _
  subst hs
  have cb := Fl.rbits_any x hx
  have hbI : ((Fl.Fo.bitsOf x : Nat) : Int) < 9223372036854775808 := by omega
  clear hb
  go_enter Tryz.func22, Tryz.ntmps22
  go_wp2_with (go_at_call 54; refine (cb _).mono ?_; rintro e w1 ⟨rfl, rfl⟩)
  go_ret
  exact ⟨rfl, HB.out⟩
theorem rmv_flo51 (s : Int) (i : Bool) (a : Option Addr) (n c : Nat) (l : Int) (x : Nat) (w : World) (hs : s = 5) (o0 : (FloatKind.f64.format.order x 0 == some Ordering.gt || FloatKind.f64.format.order x 0 == some Ordering.eq) = false) :
    Calls Tryz.prog 22 #[.agg #[.int .i64 s, .bool i, .slice a n c, .int .i64 l, .float .f64 x]] w fun e w' => e = .returned (.int .i64 16) ∧ Below w.heap.size w w' := by
  have HB : Hid (Below w.heap.size w (w.alloc (.cells #[.int .i64 s, .bool i, .slice a n c, .int .i64 l, .float .f64 x] 27))) := below1 w _
  subst hs
  go_enter Tryz.func22, Tryz.ntmps22
  go_wp2
  go_ret
  exact ⟨rfl, HB.out⟩
theorem rmv_flo52 (s : Int) (i : Bool) (a : Option Addr) (n c : Nat) (l : Int) (x : Nat) (w : World) (hs : s = 5) (o0 : (FloatKind.f64.format.order x 0 == some Ordering.gt || FloatKind.f64.format.order x 0 == some Ordering.eq) = true) (o1 : (FloatKind.f64.format.order x 4607182418800017408 == some Ordering.lt || FloatKind.f64.format.order x 4607182418800017408 == some Ordering.eq) = false) :
    Calls Tryz.prog 22 #[.agg #[.int .i64 s, .bool i, .slice a n c, .int .i64 l, .float .f64 x]] w fun e w' => e = .returned (.int .i64 16) ∧ Below w.heap.size w w' := by
  have HB : Hid (Below w.heap.size w (w.alloc (.cells #[.int .i64 s, .bool i, .slice a n c, .int .i64 l, .float .f64 x] 27))) := below1 w _
  subst hs
  go_enter Tryz.func22, Tryz.ntmps22
  go_wp2
  go_ret
  exact ⟨rfl, HB.out⟩
theorem rmv_flo5n (s : Int) (i : Bool) (a : Option Addr) (n c : Nat) (l : Int) (x : Nat) (w : World) (hs : s = 5) (hx : x = 9223372036854775808) :
    Calls Tryz.prog 22 #[.agg #[.int .i64 s, .bool i, .slice a n c, .int .i64 l, .float .f64 x]] w fun e w' => e = .returned (.int .i64 16) ∧ Below w.heap.size w w' := by
  have HB : Hid (Below w.heap.size w (w.alloc (.cells #[.int .i64 s, .bool i, .slice a n c, .int .i64 l, .float .f64 x] 27))) := below1 w _
  subst hs
  subst hx
  have cb : ∀ w, Calls Tryz.prog 54 #[.float .f64 9223372036854775808] w fun e w' => e = .returned (.int .u64 9223372036854775808) ∧ w' = w := Fl.rbits_any 9223372036854775808 (by decide)
  have o0 : (FloatKind.f64.format.order 9223372036854775808 0 == some Ordering.gt || FloatKind.f64.format.order 9223372036854775808 0 == some Ordering.eq) = true := by decide +kernel
  have o1 : (FloatKind.f64.format.order 9223372036854775808 4607182418800017408 == some Ordering.lt || FloatKind.f64.format.order 9223372036854775808 4607182418800017408 == some Ordering.eq) = true := by decide +kernel
  go_enter Tryz.func22, Tryz.ntmps22
  go_wp2_with (go_at_call 54; refine (cb _).mono ?_; rintro e w1 ⟨rfl, rfl⟩)
  go_ret
  exact ⟨rfl, HB.out⟩
theorem rmv_flo60 (s : Int) (i : Bool) (a : Option Addr) (n c : Nat) (l : Int) (x : Nat) (w : World) (hs : s = 6) (o0 : (FloatKind.f64.format.order x 0 == some Ordering.gt || FloatKind.f64.format.order x 0 == some Ordering.eq) = true) (hx : x < 18446744073709551616) (hb : Fl.Fo.bitsOf x < 9223372036854775808) :
    Calls Tryz.prog 22 #[.agg #[.int .i64 s, .bool i, .slice a n c, .int .i64 l, .float .f64 x]] w fun e w' => e = .returned (.int .i64 0) ∧ Below w.heap.size w w' := by
  have HB : Hid (Below w.heap.size w (w.alloc (.cells #[.int .i64 s, .bool i, .slice a n c, .int .i64 l, .float .f64 x] 27))) := below1 w _
  subst hs
  have cb := Fl.rbits_any x hx
  have hbI : ((Fl.Fo.bitsOf x : Nat) : Int) < 9223372036854775808 := by omega
  clear hb
  go_enter Tryz.func22, Tryz.ntmps22
  go_wp2_with (go_at_call 54; refine (cb _).mono ?_; rintro e w1 ⟨rfl, rfl⟩)
  go_ret
  exact ⟨rfl, HB.out⟩
theorem rmv_flo61 (s : Int) (i : Bool) (a : Option Addr) (n c : Nat) (l : Int) (x : Nat) (w : World) (hs : s = 6) (o0 : (FloatKind.f64.format.order x 0 == some Ordering.gt || FloatKind.f64.format.order x 0 == some Ordering.eq) = false) :
    Calls Tryz.prog 22 #[.agg #[.int .i64 s, .bool i, .slice a n c, .int .i64 l, .float .f64 x]] w fun e w' => e = .returned (.int .i64 16) ∧ Below w.heap.size w w' := by
  have HB : Hid (Below w.heap.size w (w.alloc (.cells #[.int .i64 s, .bool i, .slice a n c, .int .i64 l, .float .f64 x] 27))) := below1 w _
  subst hs
  go_enter Tryz.func22, Tryz.ntmps22
  go_wp2
  go_ret
  exact ⟨rfl, HB.out⟩
theorem rmv_flo6n (s : Int) (i : Bool) (a : Option Addr) (n c : Nat) (l : Int) (x : Nat) (w : World) (hs : s = 6) (hx : x = 9223372036854775808) :
    Calls Tryz.prog 22 #[.agg #[.int .i64 s, .bool i, .slice a n c, .int .i64 l, .float .f64 x]] w fun e w' => e = .returned (.int .i64 16) ∧ Below w.heap.size w w' := by
  have HB : Hid (Below w.heap.size w (w.alloc (.cells #[.int .i64 s, .bool i, .slice a n c, .int .i64 l, .float .f64 x] 27))) := below1 w _
  subst hs
  subst hx
  have cb : ∀ w, Calls Tryz.prog 54 #[.float .f64 9223372036854775808] w fun e w' => e = .returned (.int .u64 9223372036854775808) ∧ w' = w := Fl.rbits_any 9223372036854775808 (by decide)
  have o0 : (FloatKind.f64.format.order 9223372036854775808 0 == some Ordering.gt || FloatKind.f64.format.order 9223372036854775808 0 == some Ordering.eq) = true := by decide +kernel
  have o1 : (FloatKind.f64.format.order 9223372036854775808 4607182418800017408 == some Ordering.lt || FloatKind.f64.format.order 9223372036854775808 4607182418800017408 == some Ordering.eq) = true := by decide +kernel
  go_enter Tryz.func22, Tryz.ntmps22
  go_wp2_with (go_at_call 54; refine (cb _).mono ?_; rintro e w1 ⟨rfl, rfl⟩)
  go_ret
  exact ⟨rfl, HB.out⟩
theorem rmv_no (s : Int) (i : Bool) (a : Option Addr) (n c : Nat) (l : Int) (x : Nat) (w : World) (h1 : (s == 1) = false) (h2 : (s == 2) = false) (h3 : (s == 3) = false) (h4 : (s == 4) = false) (h5 : (s == 5) = false) (h6 : (s == 6) = false) :
    Calls Tryz.prog 22 #[.agg #[.int .i64 s, .bool i, .slice a n c, .int .i64 l, .float .f64 x]] w fun e w' => e = .returned (.int .i64 9) ∧ Below w.heap.size w w' := by
  have HB : Hid (Below w.heap.size w (w.alloc (.cells #[.int .i64 s, .bool i, .slice a n c, .int .i64 l, .float .f64 x] 27))) := below1 w _
  go_enter Tryz.func22, Tryz.ntmps22
  go_wp2
  go_ret
  exact ⟨rfl, HB.out⟩
theorem ge_zero (x : Nat) (hx : x < 18446744073709551616) (h : x ≤ 9218868437227405312) : (FloatKind.f64.format.order x 0 == some Ordering.gt || FloatKind.f64.format.order x 0 == some Ordering.eq) = true := by
  rw [Fl.ord_pos x 0 h (by decide)]
  by_cases h0 : x = 0
  · subst h0; decide
  · rw [Fl.cmp_of_gt (by omega)]; rfl
theorem ge_zero_not (x : Nat) (hx : x < 18446744073709551616) (h : ¬ x ≤ 9218868437227405312) (hz : x ≠ 9223372036854775808) : (FloatKind.f64.format.order x 0 == some Ordering.gt || FloatKind.f64.format.order x 0 == some Ordering.eq) = false := by
  cases hn : Fl.Fo.isN x
  · rw [Fl.ord_of x 0 hx (by decide) hn Fl.isN0, Fl.key0]
    have : Fl.Fo.key x < 0 := by
      unfold Fl.Fo.isN at hn
      have hn' := of_decide_eq_false hn
      unfold Fl.Fo.key
      split <;> omega
    rw [Fl.cmp_of_lt this]; rfl
  · rw [Fl.ord_none x 0 hx (by decide) hn]; rfl
theorem le_one (x : Nat) (h : x ≤ 9218868437227405312) : (FloatKind.f64.format.order x 4607182418800017408 == some Ordering.lt || FloatKind.f64.format.order x 4607182418800017408 == some Ordering.eq) = decide (x ≤ 4607182418800017408) := by
  rw [Fl.ord_pos x 4607182418800017408 h (by decide)]
  rcases Nat.lt_trichotomy x 4607182418800017408 with h1 | h1 | h1
  · rw [Fl.cmp_of_lt (by omega), decide_eq_true (by omega)]; rfl
  · subst h1; decide
  · rw [Fl.cmp_of_gt (by omega), decide_eq_false (by omega)]; rfl
theorem bits_low' {x : Nat} (h : x ≤ 9218868437227405312) : Fl.Fo.bitsOf x = x := by
  unfold Fl.Fo.bitsOf Fl.Fo.isN
  rw [if_neg]
  simp; omega
/-- THE DOCUMENT's OWN MAYVALUE. -/
theorem rmv_any (w : World) (v : Value) (V : Vl) (h : VIn w v V) : Calls Tryz.prog 22 #[v] w fun e w' => e = .returned (.int .i64 (mayV V)) ∧ Below w.heap.size w w' := by
  obtain ⟨a, c, rfl, hr, hL, hn, hx, hl, hs⟩ := h
  unfold mayV
  by_cases h13 : V.s = 1 ∨ V.s = 3
  · rw [if_pos h13]; exact rmv_nat V.s V.i a V.n c V.L V.l V.x w h13 hr (by omega)
  rw [if_neg h13]
  by_cases h2 : V.s = 2
  · rw [if_pos h2]
    by_cases h0 : V.l = 0
    · rw [if_pos (by omega)]; exact rmv_lev20 V.s V.i a V.n c V.l V.x w h2 h0
    by_cases h1 : V.l = 1
    · rw [if_pos (by omega)]; exact rmv_lev21 V.s V.i a V.n c V.l V.x w h2 h1
    rw [if_neg (by omega)]; exact rmv_lev22 V.s V.i a V.n c V.l V.x w h2 (by simp [h0]) (by simp [h1])
  rw [if_neg h2]
  by_cases h4 : V.s = 4
  · rw [if_pos h4]
    by_cases h0 : 0 ≤ V.l
    · by_cases h1 : V.l ≤ 7
      · rw [if_pos ⟨h0, h1⟩]; exact rmv_lev40 V.s V.i a V.n c V.l V.x w h4 h0 h1
      · rw [if_neg (fun h => h1 h.2)]; exact rmv_lev42 V.s V.i a V.n c V.l V.x w h4 h0 h1
    · rw [if_neg (fun h => h0 h.1)]; exact rmv_lev41 V.s V.i a V.n c V.l V.x w h4 h0
  rw [if_neg h4]
  by_cases hz : V.x = 9223372036854775808
  · by_cases h5 : V.s = 5
    · rw [if_pos h5, if_neg (by omega)]; exact rmv_flo5n V.s V.i a V.n c V.l V.x w h5 hz
    rw [if_neg h5]
    by_cases h6 : V.s = 6
    · rw [if_pos h6, if_neg (by omega)]; exact rmv_flo6n V.s V.i a V.n c V.l V.x w h6 hz
    rw [if_neg h6]
    exact rmv_no V.s V.i a V.n c V.l V.x w (beq_eq_false_iff_ne.2 (by omega)) (beq_eq_false_iff_ne.2 (by omega)) (beq_eq_false_iff_ne.2 (by omega)) (beq_eq_false_iff_ne.2 (by omega)) (beq_eq_false_iff_ne.2 (by omega)) (beq_eq_false_iff_ne.2 (by omega))
  by_cases h5 : V.s = 5
  · rw [if_pos h5]
    by_cases hi : V.x ≤ 9218868437227405312
    · have o1 := le_one V.x hi
      by_cases ho : V.x ≤ 4607182418800017408
      · rw [decide_eq_true ho] at o1
        rw [if_pos ho]; exact rmv_flo50 V.s V.i a V.n c V.l V.x w h5 (ge_zero V.x hx hi) o1 hx (by rw [bits_low' hi]; omega)
      · rw [decide_eq_false ho] at o1
        rw [if_neg ho]; exact rmv_flo52 V.s V.i a V.n c V.l V.x w h5 (ge_zero V.x hx hi) o1
    · rw [if_neg (by omega)]; exact rmv_flo51 V.s V.i a V.n c V.l V.x w h5 (ge_zero_not V.x hx hi hz)
  rw [if_neg h5]
  by_cases h6 : V.s = 6
  · rw [if_pos h6]
    by_cases hi : V.x ≤ 9218868437227405312
    · rw [if_pos hi]; exact rmv_flo60 V.s V.i a V.n c V.l V.x w h6 (ge_zero V.x hx hi) hx (by rw [bits_low' hi]; omega)
    · rw [if_neg hi]; exact rmv_flo61 V.s V.i a V.n c V.l V.x w h6 (ge_zero_not V.x hx hi hz)
  rw [if_neg h6]
  exact rmv_no V.s V.i a V.n c V.l V.x w (beq_eq_false_iff_ne.2 (by omega)) (beq_eq_false_iff_ne.2 (by omega)) (beq_eq_false_iff_ne.2 (by omega)) (beq_eq_false_iff_ne.2 (by omega)) (beq_eq_false_iff_ne.2 (by omega)) (beq_eq_false_iff_ne.2 (by omega))
theorem rmv_at (w : World) (v : Value) (V : Vl) (r : Int) (h : VIn w v V) (e : mayV V = r) : Calls Tryz.prog 22 #[v] w fun e w' => e = .returned (.int .i64 r) ∧ Below w.heap.size w w' := by
  rw [← e]; exact rmv_any w v V h
end Go.Proofs.YtjdbapkmaggllaaGreatDoor
