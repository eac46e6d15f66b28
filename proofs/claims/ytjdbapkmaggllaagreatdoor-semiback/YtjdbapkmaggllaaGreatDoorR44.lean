/- Contracts of Ldexp at whole numbers, of guess and of Parse. -/
import Derived.Test.YtjdbapkmaggllaaGreatDoorR43
import Derived.Test.YtjdbapkmaggllaaGreatDoorR11
import Derived.Lib.AtoiErrMem
namespace Go.Proofs.YtjdbapkmaggllaaGreatDoor.Fl
open Go.RowKit Fo Go.Sort
set_option maxRecDepth 100000

theorem ldexp_any (m : Nat) (hm : m < 18446744073709551616) (n : Int) (hn : -40000 ≤ n) (hn2 : n ≤ 40000) (w : World) :
    Calls Tryz.prog 130 #[.float .f64 (floatOfInt .f64 (m : Int)), .int .i64 n] w fun e w' => e = .returned (.float .f64 (ldx (f64 m) n)) ∧ w' = w := by
  refine ldexp_55 _ n _ w (fun w => ?_)
  show Calls Tryz.prog 146 #[.float .f64 (f64 m), .int .i64 n] w fun e w' => e = .returned (.float .f64 (ldx (f64 m) n)) ∧ w' = w
  by_cases h0 : m = 0
  · subst h0
    have : ldx (f64 0) n = 0 := by rw [f64_zero, ldx, if_pos rfl]
    rw [this, f64_zero]
    exact ldexp_zero n w
  · obtain ⟨b1, b2⟩ := f64_bd m (by omega) hm
    generalize f64 m = x at b1 b2 ⊢
    unfold ldx
    rw [if_neg (by omega)]
    by_cases c1 : n + (((x / 4503599627370496 : Nat) : Int) - 1023) < -1075
    · rw [if_pos c1]; exact ldexp_under x n _ _ b1 b2 rfl rfl hn hn2 c1 w
    rw [if_neg c1]
    by_cases c2 : 1023 < n + (((x / 4503599627370496 : Nat) : Int) - 1023)
    · rw [if_pos c2]; exact ldexp_over x n _ _ b1 b2 rfl rfl hn hn2 c2 w
    rw [if_neg c2]
    by_cases c3 : n + (((x / 4503599627370496 : Nat) : Int) - 1023) < -1022
    · rw [if_pos c3]
      obtain ⟨r, hr, -⟩ := mul_some 4368491638549381120 (x % 4503599627370496 + (n + ((x / 4503599627370496 : Nat) : Int) + 53).toNat * 4503599627370496) (by decide) (by omega) (by decide) (by omega)
      rw [hr]
      exact ldexp_sub x n _ _ b1 b2 rfl rfl hn hn2 (by omega) c3 r hr w
    · rw [if_neg c3]
      obtain ⟨r, hr, -⟩ := mul_some 4607182418800017408 (x % 4503599627370496 + (n + ((x / 4503599627370496 : Nat) : Int)).toNat * 4503599627370496) (by decide) (by omega) (by decide) (by omega)
      rw [hr]
      exact ldexp_mid x n _ _ b1 b2 rfl rfl hn hn2 (by omega) (by omega) r hr w
theorem ldx_lt (m : Nat) (hm : m < 18446744073709551616) (n : Int) : ldx (f64 m) n < 18446744073709551616 := by
  by_cases h0 : m = 0
  · subst h0; rw [f64_zero, ldx, if_pos rfl]; decide
  · obtain ⟨b1, b2⟩ := f64_bd m (by omega) hm
    generalize f64 m = x at b1 b2 ⊢
    unfold ldx
    rw [if_neg (by omega)]
    by_cases c1 : n + (((x / 4503599627370496 : Nat) : Int) - 1023) < -1075
    · rw [if_pos c1]; decide
    rw [if_neg c1]
    by_cases c2 : 1023 < n + (((x / 4503599627370496 : Nat) : Int) - 1023)
    · rw [if_pos c2]; decide
    rw [if_neg c2]
    by_cases c3 : n + (((x / 4503599627370496 : Nat) : Int) - 1023) < -1022
    · rw [if_pos c3]
      obtain ⟨r, hr, hl⟩ := mul_some 4368491638549381120 (x % 4503599627370496 + (n + ((x / 4503599627370496 : Nat) : Int) + 53).toNat * 4503599627370496) (by decide) (by omega) (by decide) (by omega)
      rw [hr]; exact hl
    · rw [if_neg c3]
      obtain ⟨r, hr, hl⟩ := mul_some 4607182418800017408 (x % 4503599627370496 + (n + ((x / 4503599627370496 : Nat) : Int)).toNat * 4503599627370496) (by decide) (by omega) (by decide) (by omega)
      rw [hr]; exact hl

theorem below_drewN (w : World) (k : Nat) : Below w.heap.size w (w.drewN k) := by
  obtain ⟨h, h1, h2, h3⟩ := drewN_fields k w
  exact ⟨h1, h2, h3, by rw [h]; exact Nat.le_refl _, fun j _ => by rw [h]⟩
theorem cut_env (s sep : ByteArray) (w : World) (henv : Env w) (hs : s.size < 4294967281) :
    Calls Tryz.prog 127 #[.string s, .string sep] w fun e w' => e = .returned (.tuple #[.string ⟨(Lib.cut s.data.toList sep.data.toList).1.toArray⟩, .string ⟨(Lib.cut s.data.toList sep.data.toList).2.1.toArray⟩, .bool (Lib.cut s.data.toList sep.data.toList).2.2]) ∧ Below w.heap.size w w' := by
  obtain ⟨m, hm⟩ := henv.ml
  exact (Tryz.strings_Cut s sep m w hs hm).mono fun _ _ hh => ⟨hh.1, by obtain ⟨n, rfl⟩ := hh.2; exact below_drewN w n⟩
/-- ParseUint's answer, and whether it is one. -/
theorem pu_env (s : ByteArray) (hs : s.size < 4294967281) (w : World) (henv : Env w) :
    Calls Tryz.prog 128 #[.string s, .int .i64 10, .int .i64 64] w fun e w' => (∃ u v, e = .returned (.tuple #[.int .u64 u, v]) ∧ ((Lib.parseUintB 64 s.data.toList = .ok u.toNat ∧ 0 ≤ u ∧ v = .nilIface) ∨ ((∀ k, Lib.parseUintB 64 s.data.toList ≠ .ok k) ∧ ∃ t p, v = .iface t p))) ∧ Below w.heap.size w w' := by
  cases h : Lib.parseUintB 64 s.data.toList with
  | ok u =>
    refine (Tryz.strconv_ParseUint_10_at64_ok s (by omega) u h w).mono fun e w' hh => ⟨⟨u, .nilIface, hh.1, Or.inl ⟨by simp, by omega, rfl⟩⟩, ?_⟩
    rcases hh.2 with rfl | rfl
    · exact Below.refl _ _
    · exact Lib.bytesWorld_below w 5 s
  | «syntax» =>
    obtain ⟨tp, p, hv⟩ := henv.es
    refine (Tryz.strconv_ParseUint_10_at64_syntax_var s (by omega) h tp p w hv).mono fun e w' hh => ?_
    obtain ⟨N, he, -, -, hb⟩ := hh
    exact ⟨⟨_, _, he, Or.inr ⟨fun k hk => (by cases hk), _, _, rfl⟩⟩, hb⟩
  | range =>
    obtain ⟨tp, p, hv⟩ := henv.er
    refine (Tryz.strconv_ParseUint_10_at64_range_var s (by omega) h tp p w hv).mono fun e w' hh => ?_
    obtain ⟨N, he, -, -, hb⟩ := hh
    exact ⟨⟨_, _, he, Or.inr ⟨fun k hk => (by cases hk), _, _, rfl⟩⟩, hb⟩
theorem pi_env (s : ByteArray) (hs : s.size < 4294967281) (w : World) (henv : Env w) :
    Calls Tryz.prog 129 #[.string s, .int .i64 10, .int .i64 16] w fun e w' => (∃ u v, e = .returned (.tuple #[.int .i64 u, v]) ∧ ((Lib.parseIntB 16 s.data.toList = .ok u ∧ v = .nilIface) ∨ ((∀ k, Lib.parseIntB 16 s.data.toList ≠ .ok k) ∧ ∃ t p, v = .iface t p))) ∧ Below w.heap.size w w' := by
  cases h : Lib.parseIntB 16 s.data.toList with
  | ok u =>
    refine (Tryz.strconv_ParseInt_10_at16_ok s (by omega) u h w).mono fun e w' hh => ⟨⟨u, .nilIface, hh.1, Or.inl ⟨rfl, rfl⟩⟩, ?_⟩
    rcases hh.2 with rfl | ⟨t, rfl⟩
    · exact Below.refl _ _
    · exact Lib.bytesWorld_below w 5 t
  | «syntax» =>
    obtain ⟨tp, p, hv⟩ := henv.es
    refine (Tryz.strconv_ParseInt_10_at16_syntax_var s (by omega) h tp p w hv).mono fun e w' hh => ?_
    obtain ⟨N, he, -, -, hb⟩ := hh
    exact ⟨⟨_, _, he, Or.inr ⟨fun k hk => (by cases hk), _, _, rfl⟩⟩, hb⟩
  | range =>
    obtain ⟨tp, p, hv⟩ := henv.er
    refine (Tryz.strconv_ParseInt_10_at16_range_var s (by omega) h tp p w hv).mono fun e w' hh => ?_
    obtain ⟨N, he, -, -, hb⟩ := hh
    exact ⟨⟨_, _, he, Or.inr ⟨fun k hk => (by cases hk), _, _, rfl⟩⟩, hb⟩

theorem inf_m1 (w : World) : Calls Tryz.prog 37 #[.int .i64 (-1)] w fun e w' => e = .returned (.float .f64 18442240474082181120) ∧ w' = w := by
  have k36 := c36
  go_enter Tryz.func37, Tryz.ntmps37
  go_wp2
  go_ret
  exact ⟨rfl, rfl⟩
theorem guess_nan (w : World) : Calls Tryz.prog 112 #[.string ⟨#[110, 97, 110]⟩] w fun e w' => e = .returned (.tuple #[.float .f64 9221120237041090560, .bool true]) ∧ w' = w := by
  have h : ∀ w, Calls Tryz.prog 125 #[.int .u64 9221120237041090560] w fun e w' => e = .returned (.float .f64 9221120237041090560) ∧ w' = w := fun w => of_any 9221120237041090560 (by decide) w
  go_enter Tryz.func112, Tryz.ntmps112
  go_wp2_with (go_at_call 125; refine (h _).mono ?_; rintro e w' ⟨rfl, rfl⟩)
  go_ret2
  exact ⟨rfl, rfl⟩
theorem guess_inf (w : World) : Calls Tryz.prog 112 #[.string ⟨#[105, 110, 102]⟩] w fun e w' => e = .returned (.tuple #[.float .f64 9218868437227405312, .bool true]) ∧ w' = w := by
  go_enter Tryz.func112, Tryz.ntmps112
  go_wp2_with (go_at_call 37; refine (inf1 _).mono ?_; rintro e w' ⟨rfl, rfl⟩)
  go_ret2
  exact ⟨rfl, rfl⟩
theorem guess_ninf (w : World) : Calls Tryz.prog 112 #[.string ⟨#[45, 105, 110, 102]⟩] w fun e w' => e = .returned (.tuple #[.float .f64 18442240474082181120, .bool true]) ∧ w' = w := by
  go_enter Tryz.func112, Tryz.ntmps112
  go_wp2_with (go_at_call 37; refine (inf_m1 _).mono ?_; rintro e w' ⟨rfl, rfl⟩)
  go_ret2
  exact ⟨rfl, rfl⟩

theorem guess_try (s D M X : ByteArray) (neg fnd : Bool) (w : World) (henv : Env w) (n1 : (s.toList == [110, 97, 110]) = false) (n2 : (s.toList == [105, 110, 102]) = false) (n3 : (s.toList == [45, 105, 110, 102]) = false)
  (c51 : ∀ w, Calls Tryz.prog 126 #[.string s, .string ⟨#[45]⟩] w fun e w' => e = .returned (.tuple #[.string D, .bool neg]) ∧ w' = w)
  (c52 : ∀ w, Env w → Calls Tryz.prog 127 #[.string D, .string ⟨#[98]⟩] w fun e w' => e = .returned (.tuple #[.string M, .string X, .bool fnd]) ∧ Below w.heap.size w w') (u : Nat) (hM : ∀ w, Env w → Calls Tryz.prog 128 #[.string M, .int .i64 10, .int .i64 64] w fun e w' => e = .returned (.tuple #[.int .u64 u, .nilIface]) ∧ Below w.heap.size w w') (hu : u < 18446744073709551616) (e : Int) (he1 : -40000 ≤ e) (he2 : e ≤ 40000)
    (hX : ∀ w, Env w → Calls Tryz.prog 129 #[.string X, .int .i64 10, .int .i64 16] w fun r w' => r = .returned (.tuple #[.int .i64 e, .nilIface]) ∧ Below w.heap.size w w') :
    Calls Tryz.prog 112 #[.string s] w fun r w' => r = .returned (.tuple #[.float .f64 (if neg then flip (ldx (f64 u) e) else ldx (f64 u) e), .bool true]) ∧ Below w.heap.size w w' := by
  have hl := ldx_lt u hu e
  have c55 := fun w => ldexp_any u hu e he1 he2 w
  generalize ldx (f64 u) e = L at hl c55 ⊢
  have hneg : Op.unary .neg (.float .f64 L) = pure (.float .f64 (flip L)) := by rw [← neg_eq L hl]; rfl
  cases neg
  all_goals
    go_enter Tryz.func112, Tryz.ntmps112
    go_wp2_with (first
      | (go_at_call 126; refine (c51 _).mono ?_; rintro e w' ⟨rfl, rfl⟩)
      | (go_at_call 127; refine (c52 _ henv).mono ?_; rintro e w1 ⟨rfl, hb1⟩)
      | (go_at_call 128; refine (hM _ (henv.below hb1)).mono ?_; rintro e w2 ⟨rfl, hb2⟩)
      | (go_at_call 129; refine (hX _ ((henv.below hb1).below hb2)).mono ?_; rintro e w3 ⟨rfl, hb3⟩)
      | (go_at_call 130; refine (c55 _).mono ?_; rintro e w' ⟨rfl, rfl⟩))
  all_goals go_ret2
  all_goals exact ⟨rfl, hb1.trans ((hb2.trans (hb3.mono hb2.size)).mono hb1.size)⟩
theorem guess_bad1 (s D M X : ByteArray) (neg fnd : Bool) (w : World) (henv : Env w) (n1 : (s.toList == [110, 97, 110]) = false) (n2 : (s.toList == [105, 110, 102]) = false) (n3 : (s.toList == [45, 105, 110, 102]) = false)
  (c51 : ∀ w, Calls Tryz.prog 126 #[.string s, .string ⟨#[45]⟩] w fun e w' => e = .returned (.tuple #[.string D, .bool neg]) ∧ w' = w)
  (c52 : ∀ w, Env w → Calls Tryz.prog 127 #[.string D, .string ⟨#[98]⟩] w fun e w' => e = .returned (.tuple #[.string M, .string X, .bool fnd]) ∧ Below w.heap.size w w') (hM : ∀ w, Env w → Calls Tryz.prog 128 #[.string M, .int .i64 10, .int .i64 64] w fun e w' => (∃ u t p, e = .returned (.tuple #[.int .u64 u, .iface t p])) ∧ Below w.heap.size w w')
    (hX : ∀ w, Env w → Calls Tryz.prog 129 #[.string X, .int .i64 10, .int .i64 16] w fun r w' => (∃ e v, r = .returned (.tuple #[.int .i64 e, v])) ∧ Below w.heap.size w w') :
    Calls Tryz.prog 112 #[.string s] w fun r w' => r = .returned (.tuple #[.float .f64 0, .bool false]) ∧ Below w.heap.size w w' := by
  go_enter Tryz.func112, Tryz.ntmps112
  go_wp2_with (first
      | (go_at_call 126; refine (c51 _).mono ?_; rintro e w' ⟨rfl, rfl⟩)
      | (go_at_call 127; refine (c52 _ henv).mono ?_; rintro e w1 ⟨rfl, hb1⟩)
      | (go_at_call 128; refine (hM _ (henv.below hb1)).mono ?_; rintro e w2 ⟨⟨u, t, p, rfl⟩, hb2⟩)
      | (go_at_call 129; refine (hX _ ((henv.below hb1).below hb2)).mono ?_; rintro e w3 ⟨⟨e, v, rfl⟩, hb3⟩))
  go_ret2
  exact ⟨rfl, hb1.trans ((hb2.trans (hb3.mono hb2.size)).mono hb1.size)⟩
theorem guess_bad2 (s D M X : ByteArray) (neg fnd : Bool) (w : World) (henv : Env w) (n1 : (s.toList == [110, 97, 110]) = false) (n2 : (s.toList == [105, 110, 102]) = false) (n3 : (s.toList == [45, 105, 110, 102]) = false)
  (c51 : ∀ w, Calls Tryz.prog 126 #[.string s, .string ⟨#[45]⟩] w fun e w' => e = .returned (.tuple #[.string D, .bool neg]) ∧ w' = w)
  (c52 : ∀ w, Env w → Calls Tryz.prog 127 #[.string D, .string ⟨#[98]⟩] w fun e w' => e = .returned (.tuple #[.string M, .string X, .bool fnd]) ∧ Below w.heap.size w w') (hM : ∀ w, Env w → Calls Tryz.prog 128 #[.string M, .int .i64 10, .int .i64 64] w fun e w' => (∃ u, e = .returned (.tuple #[.int .u64 u, .nilIface])) ∧ Below w.heap.size w w')
    (hX : ∀ w, Env w → Calls Tryz.prog 129 #[.string X, .int .i64 10, .int .i64 16] w fun r w' => (∃ e t p, r = .returned (.tuple #[.int .i64 e, .iface t p])) ∧ Below w.heap.size w w') :
    Calls Tryz.prog 112 #[.string s] w fun r w' => r = .returned (.tuple #[.float .f64 0, .bool false]) ∧ Below w.heap.size w w' := by
  go_enter Tryz.func112, Tryz.ntmps112
  go_wp2_with (first
      | (go_at_call 126; refine (c51 _).mono ?_; rintro e w' ⟨rfl, rfl⟩)
      | (go_at_call 127; refine (c52 _ henv).mono ?_; rintro e w1 ⟨rfl, hb1⟩)
      | (go_at_call 128; refine (hM _ (henv.below hb1)).mono ?_; rintro e w2 ⟨⟨u, rfl⟩, hb2⟩)
      | (go_at_call 129; refine (hX _ ((henv.below hb1).below hb2)).mono ?_; rintro e w3 ⟨⟨e, t, p, rfl⟩, hb3⟩))
  go_ret2
  exact ⟨rfl, hb1.trans ((hb2.trans (hb3.mono hb2.size)).mono hb1.size)⟩
end Go.Proofs.YtjdbapkmaggllaaGreatDoor.Fl
