/- Better. -/
import Derived.Test.YtjdbapkmaggllaaGreatDoorS36
namespace Go.Proofs.YtjdbapkmaggllaaGreatDoor
open Go.RowKit Fo
set_option maxRecDepth 100000

theorem Fo.VIn.shortn {w : World} {v : Value} {V : Vl} {k : Nat} (h : VIn w v V) (hk : V.n ≤ k) : Short k (numV V) := by
  obtain ⟨a', c', e, hr, hL, hn, -⟩ := h
  intro N e
  unfold numV at e
  cases hi : V.i
  · rw [hi] at e
    obtain rfl : lv V.L V.n = N := by simpa using e
    exact Nat.le_trans (ln_le V.n _ (lv_lt V.n fun j _ => hL j)) hk
  · rw [hi] at e; cases e
theorem equal_of (w : World) (v1 v2 : Value) (V2 : Vl) (P : Option Nat) (b : Bool) (h1 : VOk w v1 V2.s P) (h2 : VIn w v2 V2) (m2 : mayV V2 = 0) (hb : decide (P = denV V2) = b) : Calls Tryz.prog 46 #[v1, v2] w fun e w' => e = .returned (.bool b) ∧ Below w.heap.size w w' := by
  obtain ⟨V1, h1, m1, e1, rfl⟩ := h1
  exact calls_bool (equal_ok w v1 v2 V1 V2 h1 h2 m1 m2 e1) hb
theorem oadd_short {j k : Nat} {P Q : Option Nat} (h : Short j P) (h2 : Short k Q) : Short (j + k + 1) (oadd P Q) := by
  intro N e
  cases P with
  | none => cases e
  | some p =>
    cases Q with
    | none => cases e
    | some q =>
      obtain rfl : p + q = N := Option.some.inj e
      have h1 := lt_ln _ p rfl
      have h3 := lt_ln _ q rfl
      have hp := h p rfl
      have hq := h2 q rfl
      refine ln_le _ _ ?_
      have e1 : 4294967296 ^ ln p ≤ 4294967296 ^ (j + k) := Nat.pow_le_pow_right (by decide) (by omega)
      have e2 : 4294967296 ^ ln q ≤ 4294967296 ^ (j + k) := Nat.pow_le_pow_right (by decide) (by omega)
      rw [Nat.pow_succ]
      omega
theorem omul_short {j k : Nat} {P Q : Option Nat} (h : Short j P) (h2 : Short k Q) : Short (j + k) (omul P Q) := by
  intro N e
  cases P with
  | none => cases Q with
    | none => cases e
    | some q =>
      by_cases hq : q = 0
      · subst hq
        obtain rfl : 0 = N := Option.some.inj e
        rw [ln_zero]; omega
      · exfalso; revert e; cases q with
        | zero => exact absurd rfl hq
        | succ q => intro e; cases e
  | some p =>
    cases Q with
    | none =>
      by_cases hp : p = 0
      · subst hp
        obtain rfl : 0 = N := Option.some.inj e
        rw [ln_zero]; omega
      · exfalso; revert e; cases p with
        | zero => exact absurd rfl hp
        | succ q => intro e; cases e
    | some q =>
      have e' : p * q = N := Option.some.inj e
      obtain rfl := e'
      have h1 := lt_ln _ p rfl
      have h3 := lt_ln _ q rfl
      have hp := h p rfl
      have hq := h2 q rfl
      refine Nat.le_trans (ln_le (ln p + ln q) _ ?_) (by omega)
      rw [Nat.pow_add]
      exact Nat.mul_lt_mul_of_lt_of_lt h1 h3
theorem omin_short {k : Nat} {P Q : Option Nat} (h : Short k P) (h2 : Short k Q) : Short k (omin P Q) := by
  unfold omin; split
  · exact h2
  · exact h
theorem padd_short {k : Nat} {s : Int} {P Q : Option Nat} (hs : s = 1 ∨ s = 3) (h : Short k P) (h2 : Short k Q) : Short (k + k + 1) (padd s P Q) := by
  unfold padd
  rcases hs with rfl | rfl
  · rw [if_pos rfl]; exact oadd_short h h2
  · rw [if_neg (by decide), if_pos rfl]; exact (omin_short h h2).le (by omega)
theorem pmul_short {k : Nat} {s : Int} {P Q : Option Nat} (hs : s = 1 ∨ s = 3) (h : Short k P) (h2 : Short k Q) : Short (k + k + 1) (pmul s P Q) := by
  unfold pmul
  rcases hs with rfl | rfl
  · rw [if_pos rfl]; exact (omul_short h h2).le (by omega)
  · rw [if_neg (by decide), if_pos rfl]; exact oadd_short h h2
theorem better_err (w : World) (v1 v2 : Value) (V1 V2 : Vl) (h1 : VIn w v1 V1) (h2 : VIn w v2 V2) (r : Int) (e1 : errV V1 V2 = r) (hr : (r == 0) = false) : Calls Tryz.prog 18 #[v1, v2] w fun e w' => e = .returned (.tuple #[.bool false, .int .i64 r]) ∧ Below w.heap.size w w' := by
  have H1' := h1
  obtain ⟨a1, c1, rfl, hr1, hL1, hn1, hx1, hl1, hs1⟩ := h1
  have H2' := h2
  obtain ⟨a2, c2, rfl, hr2, hL2, hn2, hx2, hl2, hs2⟩ := h2
  obtain ⟨W0, hW0⟩ : ∃ W0, W0 = ((w.alloc (.cells #[.int .i64 V1.s, .bool V1.i, .slice a1 V1.n c1, .int .i64 V1.l, .float .f64 V1.x] 27)).alloc (.cells #[.int .i64 V2.s, .bool V2.i, .slice a2 V2.n c2, .int .i64 V2.l, .float .f64 V2.x] 27)) := ⟨_, rfl⟩
  have HB0 : Hid (Below w.heap.size w W0) := by rw [hW0]; exact below2 w _ _
  have Hg1 : Hid (W0.heap[w.heap.size]? = some (.cells #[.int .i64 V1.s, .bool V1.i, .slice a1 V1.n c1, .int .i64 V1.l, .float .f64 V1.x] 27)) := by
    show W0.heap[w.heap.size]? = _
    rw [hW0]; exact heap_at2_0 w _ _
  have Hg2 : Hid (W0.heap[w.heap.size + 1]? = some (.cells #[.int .i64 V2.s, .bool V2.i, .slice a2 V2.n c2, .int .i64 V2.l, .float .f64 V2.x] 27)) := by
    show W0.heap[w.heap.size + 1]? = _
    rw [hW0]; exact heap_at2_1 w _ _
  have H1 : Hid (VIn W0 (.agg #[.int .i64 V1.s, .bool V1.i, .slice a1 V1.n c1, .int .i64 V1.l, .float .f64 V1.x]) V1) := H1'.below HB0.out
  have H2 : Hid (VIn W0 (.agg #[.int .i64 V2.s, .bool V2.i, .slice a2 V2.n c2, .int .i64 V2.l, .float .f64 V2.x]) V2) := H2'.below HB0.out
  have HW : Below W0.heap.size W0 W0 := below_refl W0
  clear hr1 hL1 hn1 hx1 hl1 hs1 H1' hr2 hL2 hn2 hx2 hl2 hs2 H2'
  obtain ⟨p10, p11, p12, p13, p14⟩ := box5 Hg1.out HW
  obtain ⟨p20, p21, p22, p23, p24⟩ := box5 Hg2.out HW
  have E1 : Hid (errV V1 V2 = r) := e1
  clear e1
  go_enter Tryz.func18, Tryz.ntmps18
  go_wp2_with (go_at_call 41; fail)
  rw [← hW0]
  clear hW0
  refine (pair_at _ _ _ V1 V2 r (by exact H1.out.below HW) (by exact H2.out.below HW) E1.out).mono ?_
  rintro e w1 ⟨rfl, b⟩
  replace HW := below_step HW b
  clear b
  clear p10 p11 p12 p13 p14 p20 p21 p22 p23 p24; obtain ⟨p10, p11, p12, p13, p14⟩ := box5 Hg1.out HW; obtain ⟨p20, p21, p22, p23, p24⟩ := box5 Hg2.out HW
  go_wp2
  go_ret2
  exact ⟨rfl, below_step HB0.out HW⟩
theorem better_cmp (w : World) (v1 v2 : Value) (V1 V2 : Vl) (h1 : VIn w v1 V1) (h2 : VIn w v2 V2) (es1 : V1.s = 1) (es2 : V2.s = 1) (e1 : errV V1 V2 = 0) (q : Int) (eq : ocmp (numV V1) (numV V2) = q) : Calls Tryz.prog 18 #[v1, v2] w fun e w' => e = .returned (.tuple #[.bool (decide (0 ≤ q)), .int .i64 0]) ∧ Below w.heap.size w w' := by
  have H1' := h1
  obtain ⟨a1, c1, rfl, hr1, hL1, hn1, hx1, hl1, hs1⟩ := h1
  rw [es1] at H1' ⊢
  have H2' := h2
  obtain ⟨a2, c2, rfl, hr2, hL2, hn2, hx2, hl2, hs2⟩ := h2
  rw [es2] at H2' ⊢
  obtain ⟨W0, hW0⟩ : ∃ W0, W0 = ((w.alloc (.cells #[.int .i64 1, .bool V1.i, .slice a1 V1.n c1, .int .i64 V1.l, .float .f64 V1.x] 27)).alloc (.cells #[.int .i64 1, .bool V2.i, .slice a2 V2.n c2, .int .i64 V2.l, .float .f64 V2.x] 27)) := ⟨_, rfl⟩
  have HB0 : Hid (Below w.heap.size w W0) := by rw [hW0]; exact below2 w _ _
  have Hg1 : Hid (W0.heap[w.heap.size]? = some (.cells #[.int .i64 1, .bool V1.i, .slice a1 V1.n c1, .int .i64 V1.l, .float .f64 V1.x] 27)) := by
    show W0.heap[w.heap.size]? = _
    rw [hW0]; exact heap_at2_0 w _ _
  have Hg2 : Hid (W0.heap[w.heap.size + 1]? = some (.cells #[.int .i64 1, .bool V2.i, .slice a2 V2.n c2, .int .i64 V2.l, .float .f64 V2.x] 27)) := by
    show W0.heap[w.heap.size + 1]? = _
    rw [hW0]; exact heap_at2_1 w _ _
  have H1 : Hid (VIn W0 (.agg #[.int .i64 1, .bool V1.i, .slice a1 V1.n c1, .int .i64 V1.l, .float .f64 V1.x]) V1) := H1'.below HB0.out
  have H2 : Hid (VIn W0 (.agg #[.int .i64 1, .bool V2.i, .slice a2 V2.n c2, .int .i64 V2.l, .float .f64 V2.x]) V2) := H2'.below HB0.out
  have HW : Below W0.heap.size W0 W0 := below_refl W0
  clear hr1 hL1 hn1 hx1 hl1 hs1 H1' hr2 hL2 hn2 hx2 hl2 hs2 H2'
  obtain ⟨p10, p11, p12, p13, p14⟩ := box5 Hg1.out HW
  obtain ⟨p20, p21, p22, p23, p24⟩ := box5 Hg2.out HW
  have E1 : Hid (errV V1 V2 = 0) := e1
  have EQ : Hid (ocmp (numV V1) (numV V2) = q) := eq
  clear e1 eq es1 es2
  go_enter Tryz.func18, Tryz.ntmps18
  go_wp2_with (go_at_call 41; fail)
  rw [← hW0]
  clear hW0
  refine (pair_at _ _ _ V1 V2 0 (by exact H1.out.below HW) (by exact H2.out.below HW) E1.out).mono ?_
  rintro e w1 ⟨rfl, b⟩
  replace HW := below_step HW b
  clear b
  clear p10 p11 p12 p13 p14 p20 p21 p22 p23 p24; obtain ⟨p10, p11, p12, p13, p14⟩ := box5 Hg1.out HW; obtain ⟨p20, p21, p22, p23, p24⟩ := box5 Hg2.out HW
  go_wp2_with (go_at_call 45; fail)
  refine (compare_to _ _ _ (numV V1) (numV V2) q (by exact (H1.out.below HW).num') (by exact (H2.out.below HW).num') EQ.out).mono ?_
  rintro e w2 ⟨rfl, b⟩
  replace HW := below_step HW b
  clear b
  clear p10 p11 p12 p13 p14 p20 p21 p22 p23 p24; obtain ⟨p10, p11, p12, p13, p14⟩ := box5 Hg1.out HW; obtain ⟨p20, p21, p22, p23, p24⟩ := box5 Hg2.out HW
  go_wp2
  go_ret2
  exact ⟨rfl, below_step HB0.out HW⟩
theorem better_sum (w : World) (v1 v2 : Value) (V1 V2 : Vl) (h1 : VIn w v1 V1) (h2 : VIn w v2 V2) (bb : Bool) (h1s : (V1.s == 1) = false) (e1 : errV V1 V2 = 0) (m1 : mayV V1 = 0) (m2 : mayV V2 = 0) (es : V1.s = V2.s) (hbb : decide (padd V1.s (denV V1) (denV V2) = denV V1) = bb) (hP : (V1.s = 1 ∨ V1.s = 3) → Short 10000 (padd V1.s (denV V1) (denV V2))) : Calls Tryz.prog 18 #[v1, v2] w fun e w' => e = .returned (.tuple #[.bool bb, .int .i64 0]) ∧ Below w.heap.size w w' := by
  have H1' := h1
  obtain ⟨a1, c1, rfl, hr1, hL1, hn1, hx1, hl1, hs1⟩ := h1
  have H2' := h2
  obtain ⟨a2, c2, rfl, hr2, hL2, hn2, hx2, hl2, hs2⟩ := h2
  obtain ⟨W0, hW0⟩ : ∃ W0, W0 = ((w.alloc (.cells #[.int .i64 V1.s, .bool V1.i, .slice a1 V1.n c1, .int .i64 V1.l, .float .f64 V1.x] 27)).alloc (.cells #[.int .i64 V2.s, .bool V2.i, .slice a2 V2.n c2, .int .i64 V2.l, .float .f64 V2.x] 27)) := ⟨_, rfl⟩
  have HB0 : Hid (Below w.heap.size w W0) := by rw [hW0]; exact below2 w _ _
  have Hg1 : Hid (W0.heap[w.heap.size]? = some (.cells #[.int .i64 V1.s, .bool V1.i, .slice a1 V1.n c1, .int .i64 V1.l, .float .f64 V1.x] 27)) := by
    show W0.heap[w.heap.size]? = _
    rw [hW0]; exact heap_at2_0 w _ _
  have Hg2 : Hid (W0.heap[w.heap.size + 1]? = some (.cells #[.int .i64 V2.s, .bool V2.i, .slice a2 V2.n c2, .int .i64 V2.l, .float .f64 V2.x] 27)) := by
    show W0.heap[w.heap.size + 1]? = _
    rw [hW0]; exact heap_at2_1 w _ _
  have H1 : Hid (VIn W0 (.agg #[.int .i64 V1.s, .bool V1.i, .slice a1 V1.n c1, .int .i64 V1.l, .float .f64 V1.x]) V1) := H1'.below HB0.out
  have H2 : Hid (VIn W0 (.agg #[.int .i64 V2.s, .bool V2.i, .slice a2 V2.n c2, .int .i64 V2.l, .float .f64 V2.x]) V2) := H2'.below HB0.out
  have HW : Below W0.heap.size W0 W0 := below_refl W0
  clear hr1 hL1 hn1 hx1 hl1 hs1 H1' hr2 hL2 hn2 hx2 hl2 hs2 H2'
  obtain ⟨p10, p11, p12, p13, p14⟩ := box5 Hg1.out HW
  obtain ⟨p20, p21, p22, p23, p24⟩ := box5 Hg2.out HW
  have E1 : Hid (errV V1 V2 = 0) := e1
  have M1 : Hid (mayV V1 = 0) := m1
  have M2 : Hid (mayV V2 = 0) := m2
  have ES : Hid (V1.s = V2.s) := es
  have HBB : Hid (decide (padd V1.s (denV V1) (denV V2) = denV V1) = bb) := hbb
  have HP : Hid ((V1.s = 1 ∨ V1.s = 3) → Short 10000 (padd V1.s (denV V1) (denV V2))) := hP
  clear e1 m1 m2 es hbb hP
  go_enter Tryz.func18, Tryz.ntmps18
  go_wp2_with (go_at_call 41; fail)
  rw [← hW0]
  clear hW0
  refine (pair_at _ _ _ V1 V2 0 (by exact H1.out.below HW) (by exact H2.out.below HW) E1.out).mono ?_
  rintro e w1 ⟨rfl, b⟩
  replace HW := below_step HW b
  clear b
  clear p10 p11 p12 p13 p14 p20 p21 p22 p23 p24; obtain ⟨p10, p11, p12, p13, p14⟩ := box5 Hg1.out HW; obtain ⟨p20, p21, p22, p23, p24⟩ := box5 Hg2.out HW
  go_upto_region 6 with fail
  refine wp_region_held_drew (S := (fun w' => w'.cell? ⟨w.heap.size, 0, none⟩ = some (.int .i64 V1.s) ∧ w'.cell? ⟨w.heap.size, 1, none⟩ = some (.bool V1.i) ∧ w'.cell? ⟨w.heap.size, 2, none⟩ = some (.slice a1 V1.n c1) ∧ w'.cell? ⟨w.heap.size, 3, none⟩ = some (.int .i64 V1.l) ∧ w'.cell? ⟨w.heap.size, 4, none⟩ = some (.float .f64 V1.x) ∧ w'.cell? ⟨w.heap.size + 1, 0, none⟩ = some (.int .i64 V2.s) ∧ w'.cell? ⟨w.heap.size + 1, 1, none⟩ = some (.bool V2.i) ∧ w'.cell? ⟨w.heap.size + 1, 2, none⟩ = some (.slice a2 V2.n c2) ∧ w'.cell? ⟨w.heap.size + 1, 3, none⟩ = some (.int .i64 V2.l) ∧ w'.cell? ⟨w.heap.size + 1, 4, none⟩ = some (.float .f64 V2.x))) (by kernel_rfl) ?_ (fun hHeld => ?_)
  · (try dsimp only); first | exact ⟨p10, p11, p12, p13, p14, p20, p21, p22, p23, p24⟩ | go_keep
  refine wpAnyH_take (i := 0) (oi := { dst := some 22, op := Op.load 27 (Operand.tmp 2), type := 27, pos := "semi.go:205", after := #[], guard := none }) (v := ?vu86) rfl (by kernel_rfl) (by kernel_rfl) (by kernel_rfl) (fun _ _ _ h => h) (Or.inl ⟨by rfl, ?hyu86⟩) (by assumption) ?restu86
  case hyu86 => (intro w hSw; (try dsimp only at hSw); go_simp; (try with_reducible rfl))
  try simp only [Act.put, List.setIfInBounds_toArray, List.set_cons_zero, List.set_cons_succ]
  refine wpAnyH_take (i := 1) (oi := { dst := some 23, op := Op.load 27 (Operand.tmp 3), type := 27, pos := "semi.go:205", after := #[], guard := none }) (v := ?vu87) rfl (by kernel_rfl) (by kernel_rfl) (by kernel_rfl) (fun _ _ _ h => h) (Or.inl ⟨by rfl, ?hyu87⟩) (by assumption) ?restu87
  case hyu87 => (intro w hSw; (try dsimp only at hSw); go_simp; (try with_reducible rfl))
  try simp only [Act.put, List.setIfInBounds_toArray, List.set_cons_zero, List.set_cons_succ]
  refine wpAnyH_take (i := 3) (oi := { dst := some 25, op := Op.load 27 (Operand.tmp 2), type := 27, pos := "semi.go:205", after := #[], guard := none }) (v := ?vu88) rfl (by kernel_rfl) (by kernel_rfl) (by kernel_rfl) (fun _ _ _ h => h) (Or.inl ⟨by rfl, ?hyu88⟩) (by assumption) ?restu88
  case hyu88 => (intro w hSw; (try dsimp only at hSw); go_simp; (try with_reducible rfl))
  try simp only [Act.put, List.setIfInBounds_toArray, List.set_cons_zero, List.set_cons_succ]
  refine wpAnyH_ready (rs := [2]) (by kernel_rfl) (by simp) ?_
  refine AllReadyH.cons (o := { dst := some 24, op := Op.call { callee := Callee.value (Operand.func 42), args := #[Operand.tmp 22, Operand.tmp 23], argTypes := #[27, 27] }, type := 27, pos := "semi.go:205", after := #[{ on := 0, ground := Ground.data }, { on := 1, ground := Ground.data }], guard := none }) rfl (fun K hK => ?_) AllReadyH.nil
  go_simp
  go_at_call 42
  refine (add_ok _ _ _ V1 V2 (by exact H1.out.below (by first | exact HW | exact HW.drew)) (by exact H2.out.below (by first | exact HW | exact HW.drew)) M1.out M2.out ES.out).mono ?_
  rintro e w3 ⟨⟨u, rfl, o⟩, b⟩
  replace HW := below_step (by first | exact HW | exact HW.drew) b
  clear b
  clear p10 p11 p12 p13 p14 p20 p21 p22 p23 p24; obtain ⟨p10, p11, p12, p13, p14⟩ := box5 Hg1.out HW; obtain ⟨p20, p21, p22, p23, p24⟩ := box5 Hg2.out HW
  refine hK.out _ _ ?_ (fun hHeldB => ?_)
  · (try dsimp only); first | exact ⟨p10, p11, p12, p13, p14, p20, p21, p22, p23, p24⟩ | go_keep
  clear hK K hHeld
  have hHeld := hHeldB
  clear hHeldB
  try simp only [Act.put, List.setIfInBounds_toArray, List.set_cons_zero, List.set_cons_succ]
  refine wpAnyH_ready (rs := [4]) (by kernel_rfl) (by simp) ?_
  refine AllReadyH.cons (o := { dst := some 26, op := Op.call { callee := Callee.value (Operand.func 46), args := #[Operand.tmp 24, Operand.tmp 25], argTypes := #[27, 27] }, type := 4, pos := "semi.go:205", after := #[{ on := 2, ground := Ground.data }, { on := 3, ground := Ground.data }, { on := 2, ground := Ground.chain }], guard := none }) rfl (fun K hK => ?_) AllReadyH.nil
  go_simp
  go_at_call 46
  refine (equal_of _ _ _ V1 _ bb (by exact o.ok HP.out) (by exact H1.out.below (by first | exact HW | exact HW.drew)) M1.out HBB.out).mono ?_
  rintro e w4 ⟨rfl, b⟩
  replace HW := below_step (by first | exact HW | exact HW.drew) b
  clear b
  clear p10 p11 p12 p13 p14 p20 p21 p22 p23 p24; obtain ⟨p10, p11, p12, p13, p14⟩ := box5 Hg1.out HW; obtain ⟨p20, p21, p22, p23, p24⟩ := box5 Hg2.out HW
  refine hK.out _ _ ?_ (fun hHeldB => ?_)
  · (try dsimp only); first | exact ⟨p10, p11, p12, p13, p14, p20, p21, p22, p23, p24⟩ | go_keep
  clear hK K hHeld
  have hHeld := hHeldB
  clear hHeldB
  try simp only [Act.put, List.setIfInBounds_toArray, List.set_cons_zero, List.set_cons_succ]
  refine wpAnyH_take (i := 5) (oi := { dst := some 4, op := Op.assign (Operand.tmp 26), type := 4, pos := "semi.go:205", after := #[{ on := 4, ground := Ground.data }, { on := 4, ground := Ground.chain }, { on := 0, ground := Ground.phase }, { on := 1, ground := Ground.phase }, { on := 2, ground := Ground.phase }, { on := 3, ground := Ground.phase }, { on := 4, ground := Ground.phase }], guard := none }) (v := ?vu89) rfl (by kernel_rfl) (by kernel_rfl) (by kernel_rfl) (fun _ _ _ h => h) (Or.inl ⟨by rfl, ?hyu89⟩) (by assumption) ?restu89
  case hyu89 => (intro w hSw; (try dsimp only at hSw); go_simp; (try with_reducible rfl))
  try simp only [Act.put, List.setIfInBounds_toArray, List.set_cons_zero, List.set_cons_succ]
  refine wpAnyH_take (i := 6) (oi := { dst := some 5, op := Op.assign (Operand.const (Value.int IntKind.i64 0)), type := 30, pos := "semi.go:205", after := #[{ on := 5, ground := Ground.chain }, { on := 0, ground := Ground.phase }, { on := 1, ground := Ground.phase }, { on := 2, ground := Ground.phase }, { on := 3, ground := Ground.phase }, { on := 4, ground := Ground.phase }, { on := 5, ground := Ground.phase }], guard := none }) (v := ?vu90) rfl (by kernel_rfl) (by kernel_rfl) (by kernel_rfl) (fun _ _ _ h => h) (Or.inl ⟨by rfl, ?hyu90⟩) (by assumption) ?restu90
  case hyu90 => (intro w hSw; (try dsimp only at hSw); go_simp; (try with_reducible rfl))
  try simp only [Act.put, List.setIfInBounds_toArray, List.set_cons_zero, List.set_cons_succ]
  refine wpAnyH_done (by kernel_rfl) ?_ _
  go_wp2
  go_ret2
  exact ⟨rfl, below_step HB0.out HW⟩
/-- SEMI's BETTER. -/
theorem better_ok (w : World) (v1 v2 : Value) (V1 V2 : Vl) (h1 : VIn w v1 V1) (h2 : VIn w v2 V2) (k : Nat) (hk : k ≤ 4000) (n1 : V1.n ≤ k) (n2 : V2.n ≤ k) (e : errV V1 V2 = 0) :
    Calls Tryz.prog 18 #[v1, v2] w fun e w' => e = .returned (.tuple #[.bool (betV V1 V2), .int .i64 0]) ∧ Below w.heap.size w w' := by
  obtain ⟨m1, m2, es⟩ := err_ok e
  unfold betV
  by_cases h : V1.s = 1
  · rw [if_pos h, den_nat (Or.inl h), den_nat (Or.inl (es ▸ h))]
    exact better_cmp w v1 v2 V1 V2 h1 h2 h (es ▸ h) e _ rfl
  · rw [if_neg h]
    refine better_sum w v1 v2 V1 V2 h1 h2 _ (by simp [h]) e m1 m2 es rfl (fun hs => ?_)
    have hs2 : V2.s = 1 ∨ V2.s = 3 := es ▸ hs
    rw [den_nat hs, den_nat hs2]
    exact (padd_short (k := k) hs (h1.shortn n1) (h2.shortn n2)).le (by omega)
end Go.Proofs.YtjdbapkmaggllaaGreatDoor
