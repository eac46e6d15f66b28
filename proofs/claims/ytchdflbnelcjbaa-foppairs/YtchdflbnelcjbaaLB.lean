/- The walk of FopSinks: it answers true at every two numbers. -/
import Derived.Test.YtchdflbnelcjbaaZ
namespace Go.Proofs.Ytchdflbnelcjbaa
open Go.RowKit Fo
set_option maxRecDepth 100000
theorem leq_b (x y : Nat) (h : FloatKind.f64.format.order x y = some .lt ∨ FloatKind.f64.format.order x y = some .eq) : (FloatKind.f64.format.order x y == some Ordering.lt || FloatKind.f64.format.order x y == some Ordering.eq) = true := by
  rcases h with h | h <;> rw [h] <;> rfl
theorem geq_b (x y : Nat) (h : FloatKind.f64.format.order x y = some .gt ∨ FloatKind.f64.format.order x y = some .eq) : (FloatKind.f64.format.order x y == some Ordering.gt || FloatKind.f64.format.order x y == some Ordering.eq) = true := by
  rcases h with h | h <;> rw [h] <;> rfl
theorem sinks_core (a b : Nat) (ha : a < 18446744073709551616) (hb : b < 18446744073709551616) (w : World) (TV PV : Nat → Nat → Nat) (TE PE : Nat → Nat → Int)
   (hTV : ∀ x y, x < 18446744073709551616 → y < 18446744073709551616 → TV x y < 18446744073709551616) (hPV : ∀ x y, x < 18446744073709551616 → y < 18446744073709551616 → PV x y < 18446744073709551616)
   (c9 : ∀ x y, x < 18446744073709551616 → y < 18446744073709551616 → ∀ w, Calls Try.prog 9 #[.float .f64 x, .float .f64 y] w fun e w' => e = .returned (.tuple #[.float .f64 (TV x y), .int .i64 (TE x y)]) ∧ w' = w)
   (c11 : ∀ x y, x < 18446744073709551616 → y < 18446744073709551616 → ∀ w, Calls Try.prog 11 #[.float .f64 x, .float .f64 y] w fun e w' => e = .returned (.tuple #[.float .f64 (PV x y), .int .i64 (PE x y)]) ∧ w' = w)
   (c13 : ∀ x, x < 18446744073709551616 → ∀ w, Calls Try.prog 13 #[.float .f64 x, .float .f64 x] w fun e w' => e = .returned (.bool true) ∧ w' = w)
   (c14 : ∀ w, Calls Try.prog 14 #[] w fun e w' => e = .returned (.bool true) ∧ Below w.heap.size w w')
   (h1 : TV b a = TV a b) (h2 : TE b a = TE a b) (h3 : PV b a = PV a b) (h4 : PE b a = PE a b)
   (hT : TE a b = 16 ∨ (TE a b = 0 ∧ (FloatKind.f64.format.order (TV a b) a = some .lt ∨ FloatKind.f64.format.order (TV a b) a = some .eq) ∧ (FloatKind.f64.format.order (TV a b) b = some .lt ∨ FloatKind.f64.format.order (TV a b) b = some .eq) ∧ (FloatKind.f64.format.order (TV a b) 0 = some .gt ∨ FloatKind.f64.format.order (TV a b) 0 = some .eq) ∧ TE a 4607182418800017408 = 0 ∧ FloatKind.f64.format.order (TV a 4607182418800017408) a = some .eq))
   (hP : PE a b = 16 ∨ (PE a b = 0 ∧ (FloatKind.f64.format.order (PV a b) a = some .gt ∨ FloatKind.f64.format.order (PV a b) a = some .eq) ∧ (FloatKind.f64.format.order (PV a b) b = some .gt ∨ FloatKind.f64.format.order (PV a b) b = some .eq) ∧ PE a 0 = 0 ∧ FloatKind.f64.format.order (PV a 0) a = some .eq)) :
    Calls Try.prog 5 #[.float .f64 a, .float .f64 b] w fun e w' => e = .returned (.bool true) ∧ Below w.heap.size w w' := by
  have b1 : (4607182418800017408 : Nat) < 18446744073709551616 := by decide
  have b2 : (0 : Nat) < 18446744073709551616 := by decide
  have b3 := hTV a b ha hb
  have b4 := hPV a b ha hb
  clear hTV hPV
  rcases hT with e1 | ⟨e1, o1, o2, o3, e2, o4⟩ <;> rcases hP with f1 | ⟨f1, q1, q2, f2, q3⟩
  · go_enter Try.func5, Try.ntmps5
    go_wp2_with (first
      | (go_at_call 9; refine (c9 _ _ (by assumption) (by assumption) _).mono ?_; rintro e w' ⟨rfl, rfl⟩)
      | (go_at_call 11; refine (c11 _ _ (by assumption) (by assumption) _).mono ?_; rintro e w' ⟨rfl, rfl⟩)
      | (go_at_call 13; refine (c13 _ (by assumption) _).mono ?_; rintro e w' ⟨rfl, rfl⟩)
      | (go_at_call 14; refine (c14 _).mono ?_; rintro e w' ⟨rfl, hb⟩))
    go_ret
    exact ⟨rfl, hb⟩
  · have r1 := geq_b _ _ q1
    have r2 := geq_b _ _ q2
    clear q1 q2
    go_enter Try.func5, Try.ntmps5
    go_wp2_with (first
      | (go_at_call 9; refine (c9 _ _ (by assumption) (by assumption) _).mono ?_; rintro e w' ⟨rfl, rfl⟩)
      | (go_at_call 11; refine (c11 _ _ (by assumption) (by assumption) _).mono ?_; rintro e w' ⟨rfl, rfl⟩)
      | (go_at_call 13; refine (c13 _ (by assumption) _).mono ?_; rintro e w' ⟨rfl, rfl⟩)
      | (go_at_call 14; refine (c14 _).mono ?_; rintro e w' ⟨rfl, hb⟩))
    go_ret
    exact ⟨rfl, hb⟩
  · have s1 := leq_b _ _ o1
    have s2 := leq_b _ _ o2
    have s3 := geq_b _ _ o3
    clear o1 o2 o3
    go_enter Try.func5, Try.ntmps5
    go_wp2_with (first
      | (go_at_call 9; refine (c9 _ _ (by assumption) (by assumption) _).mono ?_; rintro e w' ⟨rfl, rfl⟩)
      | (go_at_call 11; refine (c11 _ _ (by assumption) (by assumption) _).mono ?_; rintro e w' ⟨rfl, rfl⟩)
      | (go_at_call 13; refine (c13 _ (by assumption) _).mono ?_; rintro e w' ⟨rfl, rfl⟩)
      | (go_at_call 14; refine (c14 _).mono ?_; rintro e w' ⟨rfl, hb⟩))
    go_ret
    exact ⟨rfl, hb⟩
  · have r1 := geq_b _ _ q1
    have r2 := geq_b _ _ q2
    clear q1 q2
    have s1 := leq_b _ _ o1
    have s2 := leq_b _ _ o2
    have s3 := geq_b _ _ o3
    clear o1 o2 o3
    go_enter Try.func5, Try.ntmps5
    go_wp2_with (first
      | (go_at_call 9; refine (c9 _ _ (by assumption) (by assumption) _).mono ?_; rintro e w' ⟨rfl, rfl⟩)
      | (go_at_call 11; refine (c11 _ _ (by assumption) (by assumption) _).mono ?_; rintro e w' ⟨rfl, rfl⟩)
      | (go_at_call 13; refine (c13 _ (by assumption) _).mono ?_; rintro e w' ⟨rfl, rfl⟩)
      | (go_at_call 14; refine (c14 _).mono ?_; rintro e w' ⟨rfl, hb⟩))
    go_ret
    exact ⟨rfl, hb⟩

theorem cmp_le {x y : Nat} (h : x ≤ y) : some (compare (x : Int) (y : Int)) = some Ordering.lt ∨ some (compare (x : Int) (y : Int)) = some Ordering.eq := by
  rcases Nat.lt_or_ge x y with h' | h'
  · exact Or.inl (by rw [cmp_of_lt (by omega)])
  · exact Or.inr (by rw [cmp_of_eq (by omega)])
theorem cmp_ge {x y : Nat} (h : y ≤ x) : some (compare (x : Int) (y : Int)) = some Ordering.gt ∨ some (compare (x : Int) (y : Int)) = some Ordering.eq := by
  rcases Nat.lt_or_ge y x with h' | h'
  · exact Or.inl (by rw [cmp_of_gt (by omega)])
  · exact Or.inr (by rw [cmp_of_eq (by omega)])
theorem sinks_any (a b : Nat) (ha : a < 18446744073709551616) (hb : b < 18446744073709551616) (w : World) :
    Calls Try.prog 5 #[.float .f64 a, .float .f64 b] w fun e w' => e = .returned (.bool true) ∧ Below w.heap.size w w' := by
  refine sinks_core a b ha hb w tm ps tmE psE (fun x y hx hy => by have := tm_le x y hx hy; omega) (fun x y hx hy => by have := ps_le x y hx hy; omega) times_any plus_any
    (fun x hx w => by simpa using rsame_any x x hx hx w) awake_true (tm_comm b a) (tmE_comm b a) (ps_comm b a) (psE_comm b a) ?_ ?_
  · cases h : tmOk a b
    · left; unfold tmE; rw [h]; rfl
    · right
      have h' := h
      unfold tmOk at h'
      simp only [Bool.and_eq_true] at h'
      obtain ⟨-, l1, l2, l3⟩ := tm_spec a b ha hb h
      obtain ⟨t1, t2⟩ := tm_one a ha h'.1
      rw [(ord_in (tm a b) _ a (by omega) ha (by decide) h'.1).1, (ord_in (tm a b) _ b (by omega) hb (by decide) h'.2).1, ord_pos (tm a b) 0 (by omega) (by decide), t1, t2, (ord_in (a % 9223372036854775808) _ a (by have := (in_key _ a ha (by decide) h'.1).2.2; omega) ha (by decide) h'.1).1]
      refine ⟨by unfold tmE; rw [h]; rfl, cmp_le l1, cmp_le l2, cmp_ge (Nat.zero_le _), rfl, by rw [cmp_of_eq rfl]⟩
  · cases h : psOk a b
    · left; unfold psE; rw [h]; rfl
    · right
      have h' := h
      unfold psOk at h'
      simp only [Bool.and_eq_true] at h'
      obtain ⟨-, l1, l2, l3⟩ := ps_spec a b ha hb h
      obtain ⟨t1, t2⟩ := ps_zero a ha h'.1
      rw [(ord_in (ps a b) _ a (by omega) ha (by decide) h'.1).1, (ord_in (ps a b) _ b (by omega) hb (by decide) h'.2).1, t1, t2, (ord_in (a % 9223372036854775808) _ a (by have := (in_key _ a ha (by decide) h'.1).2.2; omega) ha (by decide) h'.1).1]
      refine ⟨by unfold psE; rw [h]; rfl, cmp_ge l1, cmp_ge l2, rfl, by rw [cmp_of_eq rfl]⟩
end Go.Proofs.Ytchdflbnelcjbaa
