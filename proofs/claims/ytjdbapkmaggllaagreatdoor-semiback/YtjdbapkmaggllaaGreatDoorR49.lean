/- What is written of a value; what was written is read as it was. -/
import Derived.Test.YtjdbapkmaggllaaGreatDoorR39
import Derived.Test.YtjdbapkmaggllaaGreatDoorR41
import Derived.Test.YtjdbapkmaggllaaGreatDoorR46
import Derived.Test.YtjdbapkmaggllaaGreatDoorR48
namespace Go.Proofs.YtjdbapkmaggllaaGreatDoor
open Go.RowKit Fo
set_option maxRecDepth 100000

theorem env_fl {w : World} (h : Fl.Env w) : Env w := ⟨Nat.le_trans (by decide) h.sz, h.t10⟩
theorem dec_len : ∀ k N, 1 ≤ k → N < 10 ^ k → (Lib.decDigits N).length ≤ k
  | 0, _, h, _ => by omega
  | k + 1, N, _, h => by
    by_cases hN : N < 10
    · rw [Lib.decDigits_one hN]; simp
    · rw [dec_big N hN, List.length_append, List.length_singleton]
      have hk : 1 ≤ k := by
        rcases Nat.eq_zero_or_pos k with h0 | h0
        · rw [h0] at h; omega
        · exact h0
      have := dec_len k (N / 10) hk (by rw [Nat.pow_succ] at h; omega)
      omega
theorem text_len (X : Option Nat) (k : Nat) (hk : 3 ≤ k) (h : ∀ N, X = some N → N < 10 ^ k) : (otext X).length ≤ k := by
  cases X with
  | none => exact hk
  | some N => exact dec_len k N (by omega) (h N rfl)
theorem pr_text {X X' : Option Nat} {q : Int} (h : (otext X).length ≤ 700) (hp : PR (otext X) X' q) : X' = X ∧ q = 0 := by
  rcases hp with h1 | h1 | h1 | h1
  · omega
  · cases X with
    | none => exact h1.2.2
    | some N => exact absurd (h1.2.1 ▸ dec_dec N) inf_not_dec
  · cases X with
    | none => exact absurd rfl h1.2.1
    | some N => exact absurd (dec_dec N) h1.2.2.1
  · cases X with
    | none => exact absurd h1.2.1 inf_not_dec
    | some N =>
      refine ⟨?_, h1.2.2.2⟩
      rw [h1.2.2.1]
      exact congrArg some (dec_dv N)
theorem lv_bound (L : Nat → Nat) (n : Nat) (hL : ∀ j, L j < 4294967296) : lv L n < 10 ^ (10 * n) := by
  refine Nat.lt_of_lt_of_le (lv_lt n fun j _ => hL j) ?_
  rw [Nat.pow_mul]
  exact Nat.pow_le_pow_left (by decide) n
theorem short_text {P : Option Nat} (h : Short 60 P) : (otext P).length ≤ 700 := by
  refine text_len P 700 (by decide) fun N e => ?_
  have h1 := h N e
  have h2 := lv_bound (dg N) (ln N) (dg_lt N)
  rw [lv_ln] at h2
  generalize hk : 700 = k
  exact Nat.lt_of_lt_of_le h2 (Nat.pow_le_pow_right (by decide) (by omega))
theorem nparse_back (w : World) (P : Option Nat) (h : (otext P).length ≤ 700) : Calls Tryz.prog 90 #[.string ⟨(otext P).toArray⟩] w fun e w' => (∃ u, e = .returned (.tuple #[u, .int .i64 0]) ∧ NOut w' u P) ∧ Below w.heap.size w w' := by
  refine (parse_any (otext P) w).mono fun e w' ⟨⟨u, X, q, he, o, hp⟩, b⟩ => ?_
  obtain ⟨rfl, rfl⟩ := pr_text h hp
  exact ⟨⟨u, he, o⟩, b⟩
theorem fparse_back (w : World) (x : Nat) (hx : x ≤ 9218868437227405312) (henv : Fl.Env w) : Calls Tryz.prog 91 #[.string ⟨(Fl.Fo.textOf x).toArray⟩] w fun e w' => e = .returned (.tuple #[.float .f64 x, .int .i64 0]) ∧ Below w.heap.size w w' := by
  have hp := Fl.parse_any (Fl.Fo.textOf x) (by have := Fl.Fo.text_len x; omega) w henv
  rw [Fl.Fo.pOf_text x (by omega), bits_low hx] at hp
  exact hp
namespace Fo
/-- What is written of a value that may be. -/
def vtx (s : Int) (P : Option Nat) : List UInt8 := if s = 1 ∨ s = 3 then otext P else if s = 5 ∨ s = 6 then Fl.Fo.textOf (P.getD 0) else Lib.itoa ((P.getD 0 : Nat) : Int)
end Fo
theorem itoa_low : ∀ l : Nat, l ≤ 7 → Lib.itoa (l : Int) = [UInt8.ofNat (48 + l)] := by
  intro l hl
  have : Lib.itoa (l : Int) = Lib.decDigits l := by unfold Lib.itoa; rw [if_neg (by omega)]; rfl
  rw [this, Lib.decDigits_one (by omega)]
theorem vtx_len {s : Int} {P : Option Nat} (h : okP s P) (hs : (s = 1 ∨ s = 3) → Short 60 P) : (vtx s P).length ≤ 700 := by
  unfold vtx
  rcases h with h | ⟨h, l, rfl, hl⟩ | ⟨h, x, rfl, hx⟩
  · rw [if_pos h]; exact short_text (hs h)
  · rw [if_neg (by omega), if_neg (by omega), itoa_low _ (by show l ≤ 7; unfold topL at hl; split at hl <;> omega)]; simp
  · rw [if_neg (by omega), if_pos h]
    have := Fl.Fo.text_len x
    show (Fl.Fo.textOf x).length ≤ 700
    omega
/-- Unlike values have unlike texts. -/
theorem vtx_inj {s : Int} {P Q : Option Nat} (h : okP s P) (h2 : okP s Q) (hs : (s = 1 ∨ s = 3) → Short 60 P) (hs2 : (s = 1 ∨ s = 3) → Short 60 Q) : vtx s P = vtx s Q ↔ P = Q := by
  refine ⟨fun e => ?_, fun e => by rw [e]⟩
  unfold vtx at e
  rcases h with h | ⟨h, l, rfl, hl⟩ | ⟨h, x, rfl, hx⟩
  · rw [if_pos h, if_pos h] at e
    have k1 := short_text (hs h)
    have k2 := short_text (hs2 h)
    cases P with
    | none =>
      cases Q with
      | none => rfl
      | some N => exact absurd (show decT [105, 110, 102] from (show Lib.decDigits N = [105, 110, 102] from e.symm) ▸ dec_dec N) inf_not_dec
    | some M =>
      cases Q with
      | none => exact absurd (show decT [105, 110, 102] from (show Lib.decDigits M = [105, 110, 102] from e) ▸ dec_dec M) inf_not_dec
      | some N =>
        have e' : Lib.decDigits M = Lib.decDigits N := e
        rw [← dec_dv M, ← dec_dv N, e']
  · rcases h2 with h2 | ⟨-, m, rfl, hm⟩ | ⟨h2, -⟩
    · omega
    · rw [if_neg (by omega), if_neg (by omega), if_neg (by omega), if_neg (by omega)] at e
      have l7 : l ≤ 7 := by unfold topL at hl; split at hl <;> omega
      have m7 : m ≤ 7 := by unfold topL at hm; split at hm <;> omega
      rw [show ((some l : Option Nat).getD 0) = l from rfl, show ((some m : Option Nat).getD 0) = m from rfl, itoa_low l l7, itoa_low m m7] at e
      have e2 := congrArg UInt8.toNat (List.cons.inj e).1
      rw [UInt8.toNat_ofNat', UInt8.toNat_ofNat'] at e2
      congr 1
      omega
    · omega
  · rcases h2 with h2 | ⟨h2, -⟩ | ⟨-, y, rfl, hy⟩
    · omega
    · omega
    · rw [if_neg (by omega), if_pos h, if_neg (by omega), if_pos h] at e
      have x7 : x ≤ 9218868437227405312 := by unfold topX at hx; split at hx <;> omega
      have y7 : y ≤ 9218868437227405312 := by unfold topX at hy; split at hy <;> omega
      have := (Fl.Fo.text_inj x y (by omega) (by omega)).1 e
      rw [bits_low x7, bits_low y7] at this
      rw [this]
theorem vtext_err (w : World) (v1 : Value) (V1 : Vl) (h1 : VIn w v1 V1) (r : Int) (e1 : mayV V1 = r) (hr : (r != 0) = true) : Calls Tryz.prog 30 #[v1] w fun e w' => e = .returned (.string ⟨([] : List UInt8).toArray⟩) ∧ Below w.heap.size w w' := by
  have H1' := h1
  obtain ⟨a1, c1, rfl, hr1, hL1, hn1, hx1, hl1, hs1⟩ := h1
  obtain ⟨W0, hW0⟩ : ∃ W0, W0 = (w.alloc (.cells #[.int .i64 V1.s, .bool V1.i, .slice a1 V1.n c1, .int .i64 V1.l, .float .f64 V1.x] 27)) := ⟨_, rfl⟩
  have HB0 : Hid (Below w.heap.size w W0) := by rw [hW0]; exact below1 w _
  have Hg1 : Hid (W0.heap[w.heap.size]? = some (.cells #[.int .i64 V1.s, .bool V1.i, .slice a1 V1.n c1, .int .i64 V1.l, .float .f64 V1.x] 27)) := by
    show W0.heap[w.heap.size]? = _
    rw [hW0]; exact heap_at1_0 w _
  have H1 : Hid (VIn W0 (.agg #[.int .i64 V1.s, .bool V1.i, .slice a1 V1.n c1, .int .i64 V1.l, .float .f64 V1.x]) V1) := H1'.below HB0.out
  have HW : Below W0.heap.size W0 W0 := below_refl W0
  clear hr1 hL1 hn1 hx1 hl1 hs1 H1'
  obtain ⟨p10, p11, p12, p13, p14⟩ := box5 Hg1.out HW
  have E1 : Hid (mayV V1 = r) := e1
  clear e1
  go_enter Tryz.func30, Tryz.ntmps30
  go_wp2_with (go_at_call 21; fail)
  rw [← hW0]
  clear hW0
  refine (vmay_at _ _ V1 r (by exact H1.out.below HW) E1.out).mono ?_
  rintro e w1 ⟨rfl, b⟩
  replace HW := below_step HW b
  clear b
  clear p10 p11 p12 p13 p14; obtain ⟨p10, p11, p12, p13, p14⟩ := box5 Hg1.out HW
  go_wp2
  go_ret
  exact ⟨rfl, below_step HB0.out HW⟩
theorem vtext_nat1 (w : World) (v1 : Value) (V1 : Vl) (h1 : VIn w v1 V1) (l : List UInt8) (es1 : V1.s = 1) (m1 : mayV V1 = 0) (hl : otext (numV V1) = l) (henv : Fl.Env w) : Calls Tryz.prog 30 #[v1] w fun e w' => e = .returned (.string ⟨l.toArray⟩) ∧ Below w.heap.size w w' := by
  have H1' := h1
  obtain ⟨a1, c1, rfl, hr1, hL1, hn1, hx1, hl1, hs1⟩ := h1
  rw [es1] at H1' ⊢
  obtain ⟨W0, hW0⟩ : ∃ W0, W0 = (w.alloc (.cells #[.int .i64 1, .bool V1.i, .slice a1 V1.n c1, .int .i64 V1.l, .float .f64 V1.x] 27)) := ⟨_, rfl⟩
  have HB0 : Hid (Below w.heap.size w W0) := by rw [hW0]; exact below1 w _
  have Hg1 : Hid (W0.heap[w.heap.size]? = some (.cells #[.int .i64 1, .bool V1.i, .slice a1 V1.n c1, .int .i64 V1.l, .float .f64 V1.x] 27)) := by
    show W0.heap[w.heap.size]? = _
    rw [hW0]; exact heap_at1_0 w _
  have H1 : Hid (VIn W0 (.agg #[.int .i64 1, .bool V1.i, .slice a1 V1.n c1, .int .i64 V1.l, .float .f64 V1.x]) V1) := H1'.below HB0.out
  have HW : Below W0.heap.size W0 W0 := below_refl W0
  clear hr1 hL1 hn1 hx1 hl1 hs1 H1'
  obtain ⟨p10, p11, p12, p13, p14⟩ := box5 Hg1.out HW
  have E1 : Hid (mayV V1 = 0) := m1
  have HL : Hid (otext (numV V1) = l) := hl
  have HEnv : Hid (Fl.Env w) := henv
  clear m1 hl henv es1
  go_enter Tryz.func30, Tryz.ntmps30
  go_wp2_with (go_at_call 21; fail)
  rw [← hW0]
  clear hW0
  refine (vmay_at _ _ V1 0 (by exact H1.out.below HW) E1.out).mono ?_
  rintro e w1 ⟨rfl, b⟩
  replace HW := below_step HW b
  clear b
  clear p10 p11 p12 p13 p14; obtain ⟨p10, p11, p12, p13, p14⟩ := box5 Hg1.out HW
  go_wp2_with (go_at_call 56; fail)
  refine (text_at _ _ (numV V1) l (by exact (H1.out.below HW).num') (env_fl (by exact HEnv.out.below (below_step HB0.out HW))) HL.out).mono ?_
  rintro e w2 ⟨rfl, b⟩
  replace HW := below_step HW b
  clear b
  clear p10 p11 p12 p13 p14; obtain ⟨p10, p11, p12, p13, p14⟩ := box5 Hg1.out HW
  go_wp2
  go_ret
  exact ⟨rfl, below_step HB0.out HW⟩
theorem vtext_nat3 (w : World) (v1 : Value) (V1 : Vl) (h1 : VIn w v1 V1) (l : List UInt8) (es1 : V1.s = 3) (m1 : mayV V1 = 0) (hl : otext (numV V1) = l) (henv : Fl.Env w) : Calls Tryz.prog 30 #[v1] w fun e w' => e = .returned (.string ⟨l.toArray⟩) ∧ Below w.heap.size w w' := by
  have H1' := h1
  obtain ⟨a1, c1, rfl, hr1, hL1, hn1, hx1, hl1, hs1⟩ := h1
  rw [es1] at H1' ⊢
  obtain ⟨W0, hW0⟩ : ∃ W0, W0 = (w.alloc (.cells #[.int .i64 3, .bool V1.i, .slice a1 V1.n c1, .int .i64 V1.l, .float .f64 V1.x] 27)) := ⟨_, rfl⟩
  have HB0 : Hid (Below w.heap.size w W0) := by rw [hW0]; exact below1 w _
  have Hg1 : Hid (W0.heap[w.heap.size]? = some (.cells #[.int .i64 3, .bool V1.i, .slice a1 V1.n c1, .int .i64 V1.l, .float .f64 V1.x] 27)) := by
    show W0.heap[w.heap.size]? = _
    rw [hW0]; exact heap_at1_0 w _
  have H1 : Hid (VIn W0 (.agg #[.int .i64 3, .bool V1.i, .slice a1 V1.n c1, .int .i64 V1.l, .float .f64 V1.x]) V1) := H1'.below HB0.out
  have HW : Below W0.heap.size W0 W0 := below_refl W0
  clear hr1 hL1 hn1 hx1 hl1 hs1 H1'
  obtain ⟨p10, p11, p12, p13, p14⟩ := box5 Hg1.out HW
  have E1 : Hid (mayV V1 = 0) := m1
  have HL : Hid (otext (numV V1) = l) := hl
  have HEnv : Hid (Fl.Env w) := henv
  clear m1 hl henv es1
  go_enter Tryz.func30, Tryz.ntmps30
  go_wp2_with (go_at_call 21; fail)
  rw [← hW0]
  clear hW0
  refine (vmay_at _ _ V1 0 (by exact H1.out.below HW) E1.out).mono ?_
  rintro e w1 ⟨rfl, b⟩
  replace HW := below_step HW b
  clear b
  clear p10 p11 p12 p13 p14; obtain ⟨p10, p11, p12, p13, p14⟩ := box5 Hg1.out HW
  go_wp2_with (go_at_call 56; fail)
  refine (text_at _ _ (numV V1) l (by exact (H1.out.below HW).num') (env_fl (by exact HEnv.out.below (below_step HB0.out HW))) HL.out).mono ?_
  rintro e w2 ⟨rfl, b⟩
  replace HW := below_step HW b
  clear b
  clear p10 p11 p12 p13 p14; obtain ⟨p10, p11, p12, p13, p14⟩ := box5 Hg1.out HW
  go_wp2
  go_ret
  exact ⟨rfl, below_step HB0.out HW⟩
theorem ftext_at (w : World) (x : Nat) (l : List UInt8) (hx : x < 18446744073709551616) (henv : Fl.Env w) (hl : Fl.Fo.textOf x = l) : Calls Tryz.prog 57 #[.float .f64 x] w fun e w' => e = .returned (.string ⟨l.toArray⟩) ∧ Below w.heap.size w w' := by
  rw [← hl]; exact Fl.text_any x hx w henv
theorem itoa_at (w : World) (n : Int) (l : List UInt8) (h0 : 0 ≤ n) (h1 : n ≤ 7) (henv : Fl.Env w) (hl : Lib.itoa n = l) : Calls Tryz.prog 58 #[.int .i64 n] w fun e w' => e = .returned (.string ⟨l.toArray⟩) ∧ Below w.heap.size w w' := by
  rw [← hl]; exact Fl.itoa_env n (by omega) (by omega) w henv
theorem vtext_flo5 (w : World) (v1 : Value) (V1 : Vl) (h1 : VIn w v1 V1) (l : List UInt8) (es1 : V1.s = 5) (m1 : mayV V1 = 0) (hl : Fl.Fo.textOf V1.x = l) (henv : Fl.Env w) : Calls Tryz.prog 30 #[v1] w fun e w' => e = .returned (.string ⟨l.toArray⟩) ∧ Below w.heap.size w w' := by
  have H1' := h1
  obtain ⟨a1, c1, rfl, hr1, hL1, hn1, hx1, hl1, hs1⟩ := h1
  rw [es1] at H1' ⊢
  obtain ⟨W0, hW0⟩ : ∃ W0, W0 = (w.alloc (.cells #[.int .i64 5, .bool V1.i, .slice a1 V1.n c1, .int .i64 V1.l, .float .f64 V1.x] 27)) := ⟨_, rfl⟩
  have HB0 : Hid (Below w.heap.size w W0) := by rw [hW0]; exact below1 w _
  have Hg1 : Hid (W0.heap[w.heap.size]? = some (.cells #[.int .i64 5, .bool V1.i, .slice a1 V1.n c1, .int .i64 V1.l, .float .f64 V1.x] 27)) := by
    show W0.heap[w.heap.size]? = _
    rw [hW0]; exact heap_at1_0 w _
  have H1 : Hid (VIn W0 (.agg #[.int .i64 5, .bool V1.i, .slice a1 V1.n c1, .int .i64 V1.l, .float .f64 V1.x]) V1) := H1'.below HB0.out
  have HW : Below W0.heap.size W0 W0 := below_refl W0
  clear hr1 hL1 hn1 hx1 hl1 hs1 H1'
  obtain ⟨p10, p11, p12, p13, p14⟩ := box5 Hg1.out HW
  have HX : Hid (V1.x < 18446744073709551616) := H1.out.xlt
  have E1 : Hid (mayV V1 = 0) := m1
  have HL : Hid (Fl.Fo.textOf V1.x = l) := hl
  have HEnv : Hid (Fl.Env w) := henv
  clear m1 hl henv es1
  go_enter Tryz.func30, Tryz.ntmps30
  go_wp2_with (go_at_call 21; fail)
  rw [← hW0]
  clear hW0
  refine (vmay_at _ _ V1 0 (by exact H1.out.below HW) E1.out).mono ?_
  rintro e w1 ⟨rfl, b⟩
  replace HW := below_step HW b
  clear b
  clear p10 p11 p12 p13 p14; obtain ⟨p10, p11, p12, p13, p14⟩ := box5 Hg1.out HW
  go_wp2_with (go_at_call 57; fail)
  refine (ftext_at _ V1.x l HX.out (by exact HEnv.out.below (below_step HB0.out HW)) HL.out).mono ?_
  rintro e w2 ⟨rfl, b⟩
  replace HW := below_step HW b
  clear b
  clear p10 p11 p12 p13 p14; obtain ⟨p10, p11, p12, p13, p14⟩ := box5 Hg1.out HW
  go_wp2
  go_ret
  exact ⟨rfl, below_step HB0.out HW⟩
theorem vtext_flo6 (w : World) (v1 : Value) (V1 : Vl) (h1 : VIn w v1 V1) (l : List UInt8) (es1 : V1.s = 6) (m1 : mayV V1 = 0) (hl : Fl.Fo.textOf V1.x = l) (henv : Fl.Env w) : Calls Tryz.prog 30 #[v1] w fun e w' => e = .returned (.string ⟨l.toArray⟩) ∧ Below w.heap.size w w' := by
  have H1' := h1
  obtain ⟨a1, c1, rfl, hr1, hL1, hn1, hx1, hl1, hs1⟩ := h1
  rw [es1] at H1' ⊢
  obtain ⟨W0, hW0⟩ : ∃ W0, W0 = (w.alloc (.cells #[.int .i64 6, .bool V1.i, .slice a1 V1.n c1, .int .i64 V1.l, .float .f64 V1.x] 27)) := ⟨_, rfl⟩
  have HB0 : Hid (Below w.heap.size w W0) := by rw [hW0]; exact below1 w _
  have Hg1 : Hid (W0.heap[w.heap.size]? = some (.cells #[.int .i64 6, .bool V1.i, .slice a1 V1.n c1, .int .i64 V1.l, .float .f64 V1.x] 27)) := by
    show W0.heap[w.heap.size]? = _
    rw [hW0]; exact heap_at1_0 w _
  have H1 : Hid (VIn W0 (.agg #[.int .i64 6, .bool V1.i, .slice a1 V1.n c1, .int .i64 V1.l, .float .f64 V1.x]) V1) := H1'.below HB0.out
  have HW : Below W0.heap.size W0 W0 := below_refl W0
  clear hr1 hL1 hn1 hx1 hl1 hs1 H1'
  obtain ⟨p10, p11, p12, p13, p14⟩ := box5 Hg1.out HW
  have HX : Hid (V1.x < 18446744073709551616) := H1.out.xlt
  have E1 : Hid (mayV V1 = 0) := m1
  have HL : Hid (Fl.Fo.textOf V1.x = l) := hl
  have HEnv : Hid (Fl.Env w) := henv
  clear m1 hl henv es1
  go_enter Tryz.func30, Tryz.ntmps30
  go_wp2_with (go_at_call 21; fail)
  rw [← hW0]
  clear hW0
  refine (vmay_at _ _ V1 0 (by exact H1.out.below HW) E1.out).mono ?_
  rintro e w1 ⟨rfl, b⟩
  replace HW := below_step HW b
  clear b
  clear p10 p11 p12 p13 p14; obtain ⟨p10, p11, p12, p13, p14⟩ := box5 Hg1.out HW
  go_wp2_with (go_at_call 57; fail)
  refine (ftext_at _ V1.x l HX.out (by exact HEnv.out.below (below_step HB0.out HW)) HL.out).mono ?_
  rintro e w2 ⟨rfl, b⟩
  replace HW := below_step HW b
  clear b
  clear p10 p11 p12 p13 p14; obtain ⟨p10, p11, p12, p13, p14⟩ := box5 Hg1.out HW
  go_wp2
  go_ret
  exact ⟨rfl, below_step HB0.out HW⟩
theorem vtext_lev2 (w : World) (v1 : Value) (V1 : Vl) (h1 : VIn w v1 V1) (l : List UInt8) (es1 : V1.s = 2) (m1 : mayV V1 = 0) (h0 : 0 ≤ V1.l) (h7 : V1.l ≤ 7) (hl : Lib.itoa V1.l = l) (henv : Fl.Env w) : Calls Tryz.prog 30 #[v1] w fun e w' => e = .returned (.string ⟨l.toArray⟩) ∧ Below w.heap.size w w' := by
  have H1' := h1
  obtain ⟨a1, c1, rfl, hr1, hL1, hn1, hx1, hl1, hs1⟩ := h1
  rw [es1] at H1' ⊢
  obtain ⟨W0, hW0⟩ : ∃ W0, W0 = (w.alloc (.cells #[.int .i64 2, .bool V1.i, .slice a1 V1.n c1, .int .i64 V1.l, .float .f64 V1.x] 27)) := ⟨_, rfl⟩
  have HB0 : Hid (Below w.heap.size w W0) := by rw [hW0]; exact below1 w _
  have Hg1 : Hid (W0.heap[w.heap.size]? = some (.cells #[.int .i64 2, .bool V1.i, .slice a1 V1.n c1, .int .i64 V1.l, .float .f64 V1.x] 27)) := by
    show W0.heap[w.heap.size]? = _
    rw [hW0]; exact heap_at1_0 w _
  have H1 : Hid (VIn W0 (.agg #[.int .i64 2, .bool V1.i, .slice a1 V1.n c1, .int .i64 V1.l, .float .f64 V1.x]) V1) := H1'.below HB0.out
  have HW : Below W0.heap.size W0 W0 := below_refl W0
  clear hr1 hL1 hn1 hx1 hl1 hs1 H1'
  obtain ⟨p10, p11, p12, p13, p14⟩ := box5 Hg1.out HW
  have R0 : Hid (0 ≤ V1.l) := h0
  have R7 : Hid (V1.l ≤ 7) := h7
  clear h0 h7
  have E1 : Hid (mayV V1 = 0) := m1
  have HL : Hid (Lib.itoa V1.l = l) := hl
  have HEnv : Hid (Fl.Env w) := henv
  clear m1 hl henv es1
  go_enter Tryz.func30, Tryz.ntmps30
  go_wp2_with (go_at_call 21; fail)
  rw [← hW0]
  clear hW0
  refine (vmay_at _ _ V1 0 (by exact H1.out.below HW) E1.out).mono ?_
  rintro e w1 ⟨rfl, b⟩
  replace HW := below_step HW b
  clear b
  clear p10 p11 p12 p13 p14; obtain ⟨p10, p11, p12, p13, p14⟩ := box5 Hg1.out HW
  go_wp2_with (go_at_call 58; fail)
  refine (itoa_at _ V1.l l R0.out R7.out (by exact HEnv.out.below (below_step HB0.out HW)) HL.out).mono ?_
  rintro e w2 ⟨rfl, b⟩
  replace HW := below_step HW b
  clear b
  clear p10 p11 p12 p13 p14; obtain ⟨p10, p11, p12, p13, p14⟩ := box5 Hg1.out HW
  go_wp2
  go_ret
  exact ⟨rfl, below_step HB0.out HW⟩
theorem vtext_lev4 (w : World) (v1 : Value) (V1 : Vl) (h1 : VIn w v1 V1) (l : List UInt8) (es1 : V1.s = 4) (m1 : mayV V1 = 0) (h0 : 0 ≤ V1.l) (h7 : V1.l ≤ 7) (hl : Lib.itoa V1.l = l) (henv : Fl.Env w) : Calls Tryz.prog 30 #[v1] w fun e w' => e = .returned (.string ⟨l.toArray⟩) ∧ Below w.heap.size w w' := by
  have H1' := h1
  obtain ⟨a1, c1, rfl, hr1, hL1, hn1, hx1, hl1, hs1⟩ := h1
  rw [es1] at H1' ⊢
  obtain ⟨W0, hW0⟩ : ∃ W0, W0 = (w.alloc (.cells #[.int .i64 4, .bool V1.i, .slice a1 V1.n c1, .int .i64 V1.l, .float .f64 V1.x] 27)) := ⟨_, rfl⟩
  have HB0 : Hid (Below w.heap.size w W0) := by rw [hW0]; exact below1 w _
  have Hg1 : Hid (W0.heap[w.heap.size]? = some (.cells #[.int .i64 4, .bool V1.i, .slice a1 V1.n c1, .int .i64 V1.l, .float .f64 V1.x] 27)) := by
    show W0.heap[w.heap.size]? = _
    rw [hW0]; exact heap_at1_0 w _
  have H1 : Hid (VIn W0 (.agg #[.int .i64 4, .bool V1.i, .slice a1 V1.n c1, .int .i64 V1.l, .float .f64 V1.x]) V1) := H1'.below HB0.out
  have HW : Below W0.heap.size W0 W0 := below_refl W0
  clear hr1 hL1 hn1 hx1 hl1 hs1 H1'
  obtain ⟨p10, p11, p12, p13, p14⟩ := box5 Hg1.out HW
  have R0 : Hid (0 ≤ V1.l) := h0
  have R7 : Hid (V1.l ≤ 7) := h7
  clear h0 h7
  have E1 : Hid (mayV V1 = 0) := m1
  have HL : Hid (Lib.itoa V1.l = l) := hl
  have HEnv : Hid (Fl.Env w) := henv
  clear m1 hl henv es1
  go_enter Tryz.func30, Tryz.ntmps30
  go_wp2_with (go_at_call 21; fail)
  rw [← hW0]
  clear hW0
  refine (vmay_at _ _ V1 0 (by exact H1.out.below HW) E1.out).mono ?_
  rintro e w1 ⟨rfl, b⟩
  replace HW := below_step HW b
  clear b
  clear p10 p11 p12 p13 p14; obtain ⟨p10, p11, p12, p13, p14⟩ := box5 Hg1.out HW
  go_wp2_with (go_at_call 58; fail)
  refine (itoa_at _ V1.l l R0.out R7.out (by exact HEnv.out.below (below_step HB0.out HW)) HL.out).mono ?_
  rintro e w2 ⟨rfl, b⟩
  replace HW := below_step HW b
  clear b
  clear p10 p11 p12 p13 p14; obtain ⟨p10, p11, p12, p13, p14⟩ := box5 Hg1.out HW
  go_wp2
  go_ret
  exact ⟨rfl, below_step HB0.out HW⟩
/-- SEMI's TEXT, of what may be. -/
theorem vtext_ok (w : World) (v : Value) (V : Vl) (l : List UInt8) (h : VIn w v V) (m : mayV V = 0) (henv : Fl.Env w) (hl : vtx V.s (denV V) = l) : Calls Tryz.prog 30 #[v] w fun e w' => e = .returned (.string ⟨l.toArray⟩) ∧ Below w.heap.size w w' := by
  unfold vtx at hl
  rcases may_range m with ⟨hs, -⟩ | ⟨hs, ha⟩ | ⟨hs, ha⟩ | ⟨hs, hx⟩ | ⟨hs, hx⟩
  · rw [if_pos hs, den_nat hs] at hl
    rcases hs with hs | hs
    · exact vtext_nat1 w v V h l hs m hl henv
    · exact vtext_nat3 w v V h l hs m hl henv
  · rw [if_neg (by omega), if_neg (by omega), den_lev (Or.inl hs)] at hl
    exact vtext_lev2 w v V h l hs m ha.1 (by omega) (by rw [← hl]; congr 1; show V.l = ((V.l.toNat : Nat) : Int); omega) henv
  · rw [if_neg (by omega), if_neg (by omega), den_lev (Or.inr hs)] at hl
    exact vtext_lev4 w v V h l hs m ha.1 (by omega) (by rw [← hl]; congr 1; show V.l = ((V.l.toNat : Nat) : Int); omega) henv
  · rw [if_neg (by omega), if_pos (Or.inl hs), den_flo (Or.inl hs)] at hl
    exact vtext_flo5 w v V h l hs m hl henv
  · rw [if_neg (by omega), if_pos (Or.inr hs), den_flo (Or.inr hs)] at hl
    exact vtext_flo6 w v V h l hs m hl henv
end Go.Proofs.YtjdbapkmaggllaaGreatDoor
