/- The walk of FloWeights: it answers true at every number. -/
import Derived.Test.YtmeohldomplegaaDoorH
namespace Go.Proofs.YtmeohldomplegaaDoor
open Go.RowKit Fo Go.Sort
set_option maxRecDepth 100000

theorem ord_self (x : Nat) (hx : x < 18446744073709551616) (h : isN x = false) : FloatKind.f64.format.order x x = some .eq := by
  rw [ord_of x x hx hx h h, cmp_of_eq rfl]
theorem dec_true {p : Prop} [Decidable p] (h : p) : decide p = true := by simp [h]

theorem weights_no (x : Nat) (hx : x < 18446744073709551616) (h1 : inTo 4607182418800017408 x = false) (h2 : inTo 9218868437227405312 x = false)
    (ho : FloatKind.f64.format.order x x = none ∨ (FloatKind.f64.format.order x x = some .eq ∧ FloatKind.f64.format.order x 0 = some .lt)) (w : World) (henv : Env w) :
    Calls Tryd.prog 8 #[.float .f64 x] w fun r w' => r = .returned (.bool true) ∧ Below w.heap.size w w' := by
  rcases ho with ho | ⟨ho, ho2⟩
  all_goals
    go_enter Tryd.func8, Tryd.ntmps8
    go_wp2_with (first
      | (go_at_call 9; refine (unit_not _ hx h1 _).mono ?_; rintro e w' ⟨rfl, rfl⟩)
      | (go_at_call 11; refine (price_not _ hx h2 _).mono ?_; rintro e w' ⟨rfl, rfl⟩)
      | (go_at_call 17; refine (same_any _ _ (by decide) (by decide) _).mono ?_; rintro e w' ⟨rfl, rfl⟩)
      | (go_at_call 23; refine (awake_true _ henv).mono ?_; rintro e w' ⟨rfl, hb⟩))
    go_ret
    exact ⟨rfl, hb⟩
theorem weights_yes (x B : Nat) (hB : B < 9223372036854775808) (nB : isN B = false)
    (c11 : ∀ w, Calls Tryd.prog 11 #[.float .f64 x] w fun e w' => e = .returned (.tuple #[.float .f64 B, .int .i64 0]) ∧ w' = w)
    (d11 : ∀ w, Calls Tryd.prog 11 #[.float .f64 B] w fun e w' => e = .returned (.tuple #[.float .f64 B, .int .i64 0]) ∧ w' = w)
    (o0 : FloatKind.f64.format.order x 0 = some .gt ∨ FloatKind.f64.format.order x 0 = some .eq) (oB : FloatKind.f64.format.order B x = some .eq)
    (hu : ((∀ w, Calls Tryd.prog 9 #[.float .f64 x] w fun e w' => e = .returned (.tuple #[.float .f64 B, .int .i64 0]) ∧ w' = w) ∧ (FloatKind.f64.format.order x 4607182418800017408 = some .lt ∨ FloatKind.f64.format.order x 4607182418800017408 = some .eq))
      ∨ ((∀ w, Calls Tryd.prog 9 #[.float .f64 x] w fun e w' => e = .returned (.tuple #[.float .f64 0, .int .i64 16]) ∧ w' = w) ∧ FloatKind.f64.format.order x 4607182418800017408 = some .gt)) (w : World) (henv : Env w) :
    Calls Tryd.prog 8 #[.float .f64 x] w fun r w' => r = .returned (.bool true) ∧ Below w.heap.size w w' := by
  have hB2 : B < 18446744073709551616 := by omega
  have hBi : (B : Int) < 9223372036854775808 := by omega
  have e11 : ∀ y, (y = x ∨ y = B) → ∀ w, Calls Tryd.prog 11 #[.float .f64 y] w fun e w' => e = .returned (.tuple #[.float .f64 B, .int .i64 0]) ∧ w' = w := by
    rintro y (rfl | rfl)
    · exact c11
    · exact d11
  rcases o0 with o0 | o0 <;> rcases hu with ⟨c9, o1 | o1⟩ | ⟨c9, o1⟩
  all_goals
    go_enter Tryd.func8, Tryd.ntmps8
    go_wp2_with (first
      | (go_at_call 9; refine (c9 _).mono ?_; rintro e w' ⟨rfl, rfl⟩)
      | (go_at_call 11; refine (e11 _ (by simp) _).mono ?_; rintro e w' ⟨rfl, rfl⟩)
      | (go_at_call 13; refine (bits_num _ hB2 nB _).mono ?_; rintro e w' ⟨rfl, rfl⟩)
      | (go_at_call 17; refine (same_any _ _ hB2 hB2 _).mono ?_; rintro e w' ⟨rfl, rfl⟩)
      | (go_at_call 23; refine (awake_true _ henv).mono ?_; rintro e w' ⟨rfl, hb⟩))
    go_ret
    exact ⟨rfl, hb⟩
end Go.Proofs.YtmeohldomplegaaDoor
