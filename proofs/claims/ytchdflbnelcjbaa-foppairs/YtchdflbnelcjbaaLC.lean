/- The walk of FopRows: it answers true at every two lists of numbers. -/
import Derived.Test.YtchdflbnelcjbaaE
namespace Go.Proofs.Ytchdflbnelcjbaa
open Go.RowKit Fo
set_option maxRecDepth 100000

theorem small_yes (a : Option Addr) (n cap : Nat) (w : World) (h : n ≤ 200) : Calls Try.prog 15 #[.slice a n cap] w fun r w' => r = .returned (.bool true) ∧ w' = w := by
  have h1 : ((n : Int) ≤ 200) := by omega
  go_enter Try.func15, Try.ntmps15
  go_wp2
  go_ret
  exact ⟨ret_bool (by simp), rfl⟩
theorem small_not (a : Option Addr) (n cap : Nat) (w : World) (h : 200 < n) : Calls Try.prog 15 #[.slice a n cap] w fun r w' => r = .returned (.bool false) ∧ w' = w := by
  have h1 : ¬ ((n : Int) ≤ 200) := by omega
  go_enter Try.func15, Try.ntmps15
  go_wp2
  go_ret
  exact ⟨ret_bool (by simp), rfl⟩
theorem below_refl (w : World) : Below w.heap.size w w := Below.refl _ _
theorem below_step {w w1 w2 : World} (h : Below w.heap.size w w1) (k : Below w1.heap.size w1 w2) : Below w.heap.size w w2 := h.trans (k.mono h.size)
theorem Fo.Sl.below {w w1 : World} {a : Option Addr} {n cap : Nat} {X : Nat → Nat} (h : Sl w a n cap X) (hb : Below w.heap.size w w1) : Sl w1 a n cap X := by
  obtain ⟨h1, h2, h3, h4⟩ := h
  refine ⟨h1, h2, h3, ?_⟩
  rcases h4 with h4 | ⟨b, off, e, hc⟩
  · exact Or.inl h4
  · refine Or.inr ⟨b, off, e, fun j hj => ?_⟩
    have hlt : b < w.heap.size := World.block_lt_of_cell? w _ (hc j hj)
    rw [hb.cell hlt]; exact hc j hj
theorem rows_out (a1 : Option Addr) (n cap1 : Nat) (a2 : Option Addr) (m cap2 : Nat) (w : World) (h : 200 < n ∨ (n ≤ 200 ∧ 200 < m)) :
    Calls Try.prog 4 #[.slice a1 n cap1, .slice a2 m cap2] w fun r w' => r = .returned (.bool true) ∧ Below w.heap.size w w' := by
  rcases h with h | ⟨h, h'⟩
  · go_enter Try.func4, Try.ntmps4
    go_wp2_with (first | (go_at_call 15; refine (small_not _ _ _ _ (by assumption)).mono ?_; rintro e w' ⟨rfl, rfl⟩) | (go_at_call 14; refine (awake_true _).mono ?_; rintro e w' ⟨rfl, hb⟩))
    go_ret
    exact ⟨rfl, hb⟩
  · go_enter Try.func4, Try.ntmps4
    go_wp2_with (first | (go_at_call 15; refine (small_yes _ _ _ _ (by assumption)).mono ?_; rintro e w' ⟨rfl, rfl⟩) | (go_at_call 15; refine (small_not _ _ _ _ (by assumption)).mono ?_; rintro e w' ⟨rfl, rfl⟩) | (go_at_call 14; refine (awake_true _).mono ?_; rintro e w' ⟨rfl, hb⟩))
    go_ret
    exact ⟨rfl, hb⟩
theorem rows_core (a1 : Option Addr) (n cap1 : Nat) (a2 : Option Addr) (m cap2 : Nat) (w : World) (hn : n ≤ 200) (hm : m ≤ 200) (V P : Nat) (E F : Int) (R : Bool)
    (hV : V < 18446744073709551616) (hP : P < 18446744073709551616)
    (c16 : ∀ w1, Below w.heap.size w w1 → Calls Try.prog 16 #[.slice a1 n cap1, .slice a2 m cap2] w1 fun r w' => r = .returned (.tuple #[.float .f64 V, .int .i64 E]) ∧ Below w.heap.size w w')
    (c17 : ∀ w1, Below w.heap.size w w1 → Calls Try.prog 17 #[.slice a1 n cap1, .slice a2 m cap2] w1 fun r w' => r = .returned (.tuple #[.float .f64 V, .int .i64 E]) ∧ Below w.heap.size w w')
    (c18 : ∀ w1, Below w.heap.size w w1 → Calls Try.prog 18 #[.slice a1 n cap1] w1 fun r w' => r = .returned (.tuple #[.float .f64 P, .int .i64 F]) ∧ Below w.heap.size w w')
    (c19 : ∀ w1, Below w.heap.size w w1 → Calls Try.prog 19 #[.slice a1 n cap1] w1 fun r w' => r = .returned (.tuple #[.float .f64 P, .int .i64 F]) ∧ Below w.heap.size w w')
    (c20 : ∀ w1, Below w.heap.size w w1 → Calls Try.prog 20 #[.slice a1 n cap1] w1 fun r w' => r = .returned (.bool R) ∧ Below w.heap.size w w')
    (c21 : ∀ w1, Below w.heap.size w w1 → Calls Try.prog 21 #[.slice a1 n cap1] w1 fun r w' => r = .returned (.bool R) ∧ Below w.heap.size w w')
    (c13 : ∀ x, x < 18446744073709551616 → ∀ w1, Below w.heap.size w w1 → Calls Try.prog 13 #[.float .f64 x, .float .f64 x] w1 fun e w' => e = .returned (.bool true) ∧ Below w.heap.size w w')
    (c14 : ∀ w1, Below w.heap.size w w1 → Calls Try.prog 14 #[] w1 fun e w' => e = .returned (.bool true) ∧ Below w.heap.size w w')
    (c15 : ∀ a n cap, n ≤ 200 → ∀ w1, Below w.heap.size w w1 → Calls Try.prog 15 #[.slice a n cap] w1 fun e w' => e = .returned (.bool true) ∧ Below w.heap.size w w') :
    Calls Try.prog 4 #[.slice a1 n cap1, .slice a2 m cap2] w fun r w' => r = .returned (.bool true) ∧ Below w.heap.size w w' := by
  have hB := below_refl w
  go_enter Try.func4, Try.ntmps4
  go_wp2_with (first
    | (go_at_call 15; refine (c15 _ _ _ (by assumption) _ (by assumption)).mono ?_; rintro e w' ⟨rfl, hB⟩)
    | (go_at_call 16; refine (c16 _ (by assumption)).mono ?_; rintro e w' ⟨rfl, hB⟩)
    | (go_at_call 17; refine (c17 _ (by assumption)).mono ?_; rintro e w' ⟨rfl, hB⟩)
    | (go_at_call 18; refine (c18 _ (by assumption)).mono ?_; rintro e w' ⟨rfl, hB⟩)
    | (go_at_call 19; refine (c19 _ (by assumption)).mono ?_; rintro e w' ⟨rfl, hB⟩)
    | (go_at_call 20; refine (c20 _ (by assumption)).mono ?_; rintro e w' ⟨rfl, hB⟩)
    | (go_at_call 21; refine (c21 _ (by assumption)).mono ?_; rintro e w' ⟨rfl, hB⟩)
    | (go_at_call 13; refine (c13 _ (by assumption) _ (by assumption)).mono ?_; rintro e w' ⟨rfl, hB⟩)
    | (go_at_call 14; refine (c14 _ (by assumption)).mono ?_; rintro e w' ⟨rfl, hB⟩))
  go_ret
  exact ⟨rfl, by assumption⟩
theorem toB {f : FuncId} {args : Array Value} {w w1 : World} {R : Ending} (c : Calls Try.prog f args w1 fun e w' => e = R ∧ Below w1.heap.size w1 w') (h : Below w.heap.size w w1) :
    Calls Try.prog f args w1 fun e w' => e = R ∧ Below w.heap.size w w' := c.mono fun _ _ hh => ⟨hh.1, below_step h hh.2⟩
theorem toB0 {f : FuncId} {args : Array Value} {w w1 : World} {R : Ending} (c : Calls Try.prog f args w1 fun e w' => e = R ∧ w' = w1) (h : Below w.heap.size w w1) :
    Calls Try.prog f args w1 fun e w' => e = R ∧ Below w.heap.size w w' := c.mono fun _ _ hh => ⟨hh.1, hh.2 ▸ h⟩
theorem same_self (x : Nat) (hx : x < 18446744073709551616) (w : World) : Calls Try.prog 13 #[.float .f64 x, .float .f64 x] w fun e w' => e = .returned (.bool true) ∧ w' = w := by
  simpa using rsame_any x x hx hx w
theorem dt_lt (X Y : Nat → Nat) (hX : ∀ j, X j < 18446744073709551616) (hY : ∀ j, Y j < 18446744073709551616) (n m : Nat) : dtV X Y n m ≤ 4607182418800017408 := by
  unfold dtV; split
  · exact dot_top X Y hX hY n
  · exact Nat.zero_le _
theorem pth_lt (X : Nat → Nat) (hX : ∀ j, X j < 18446744073709551616) (n : Nat) : pthV X n ≤ 9218868437227405312 := by
  unfold pthV; split
  · exact path_top X hX n
  · exact Nat.zero_le _
theorem rows_any (a1 : Option Addr) (n cap1 : Nat) (a2 : Option Addr) (m cap2 : Nat) (w : World) (X Y : Nat → Nat) (h1 : Sl w a1 n cap1 X) (h2 : Sl w a2 m cap2 Y) :
    Calls Try.prog 4 #[.slice a1 n cap1, .slice a2 m cap2] w fun r w' => r = .returned (.bool true) ∧ Below w.heap.size w w' := by
  by_cases hn : n ≤ 200
  · by_cases hm : m ≤ 200
    · exact rows_core a1 n cap1 a2 m cap2 w hn hm (dtV X Y n m) (pthV X n) (dtE X Y n m) (pthE X n) (exAll X n) (by have := dt_lt X Y h1.2.2.1 h2.2.2.1 n m; omega) (by have := pth_lt X h1.2.2.1 n; omega)
        (fun w1 hB => toB (dot_any a1 n cap1 a2 m cap2 w1 X Y (by omega) (h1.below hB) (h2.below hB)) hB)
        (fun w1 hB => toB (rdot_any a1 n cap1 a2 m cap2 w1 X Y (by omega) (h1.below hB) (h2.below hB)) hB)
        (fun w1 hB => toB0 (path_any a1 n cap1 w1 X (by omega) (h1.below hB)) hB)
        (fun w1 hB => toB0 (rpath_any a1 n cap1 w1 X (by omega) (h1.below hB)) hB)
        (fun w1 hB => toB0 (exacts_any a1 n cap1 w1 X (by omega) (h1.below hB)) hB)
        (fun w1 hB => toB0 (rexacts_any a1 n cap1 w1 X (by omega) (h1.below hB)) hB)
        (fun x hx w1 hB => toB0 (same_self x hx w1) hB) (fun w1 hB => toB (awake_true w1) hB) (fun a k cap hk w1 hB => toB0 (small_yes a k cap w1 hk) hB)
    · exact rows_out a1 n cap1 a2 m cap2 w (Or.inr ⟨hn, by omega⟩)
  · exact rows_out a1 n cap1 a2 m cap2 w (Or.inl (by omega))
theorem rows_all (a1 : Option Addr) (n cap1 : Nat) (X : Nat → Nat) (a2 : Option Addr) (m cap2 : Nat) (Y : Nat → Nat) (w : World) (h1 : Sl w a1 n cap1 X) (h2 : Sl w a2 m cap2 Y) :
    Calls Try.prog 4 #[.slice a1 n cap1, .slice a2 m cap2] w fun r w' => r = .returned (.bool true) ∧ Below w.heap.size w w' := rows_any a1 n cap1 a2 m cap2 w X Y h1 h2
end Go.Proofs.Ytchdflbnelcjbaa
