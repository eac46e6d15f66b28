/- The laws' exact. -/
import Derived.Test.YtjdbapkmaggllaaGreatDoorQ47
namespace Go.Proofs.YtjdbapkmaggllaaGreatDoor
open Go.RowKit Fo
set_option maxRecDepth 100000

namespace Fo
/-- Whether nothing of three values is rounded. -/
def exV (s : Int) (x y z : Nat) : Bool := if s = 5 then decide (x ∈ e5 ∧ y ∈ e5 ∧ z ∈ e5) else if s = 6 then Fl.Fo.exAll (triX x y z) 3 else true
end Fo
theorem ord_ne {p q : Nat} (hp : p ≤ 4607182418800017408) (hq : q ≤ 4607182418800017408) (h : ¬ p = q) : (FloatKind.f64.format.order p q != some .eq) = true := by
  rcases Nat.lt_or_gt_of_ne h with h | h
  · rw [Fl.ord_lt (by omega) h]; rfl
  · rw [Fl.ord_gt (by omega) h]; rfl
set_option maxHeartbeats 16000000 in
theorem exact5 (w : World) (V1 V2 V3 : Vl) (a1 a2 a3 : Option Addr) (c1 c2 c3 : Nat) (R : Bool) (X : Nat → Nat) (e0 : X = triX V1.x V2.x V3.x) (hX : ∀ j, X j ≤ 4607182418800017408) (hT : (∀ j, j < 3 → X j ∈ e5) → true = R) (hF : ∀ j, j < 3 → X j ∉ e5 → false = R) : Calls Tryz.prog 27 #[.agg #[.int .i64 5, .bool V1.i, .slice a1 V1.n c1, .int .i64 V1.l, .float .f64 V1.x], .agg #[.int .i64 V2.s, .bool V2.i, .slice a2 V2.n c2, .int .i64 V2.l, .float .f64 V2.x], .agg #[.int .i64 V3.s, .bool V3.i, .slice a3 V3.n c3, .int .i64 V3.l, .float .f64 V3.x]] w fun e w' => e = .returned (.bool R) ∧ Below w.heap.size w w' := by
  have HT : Hid ((∀ j, j < 3 → X j ∈ e5) → true = R) := hT
  have HF : Hid (∀ j, j < 3 → X j ∉ e5 → false = R) := hF
  clear hT hF
  obtain ⟨W0, hW0⟩ : ∃ W0, W0 = ((w.alloc (.cells #[.int .i64 5, .bool V1.i, .slice a1 V1.n c1, .int .i64 V1.l, .float .f64 V1.x] 27)).alloc (.cells #[.int .i64 V2.s, .bool V2.i, .slice a2 V2.n c2, .int .i64 V2.l, .float .f64 V2.x] 27)).alloc (.cells #[.int .i64 V3.s, .bool V3.i, .slice a3 V3.n c3, .int .i64 V3.l, .float .f64 V3.x] 27) := ⟨_, rfl⟩
  have HB0 : Hid (Below w.heap.size w W0) := by rw [hW0]; exact below3 w _ _ _
  obtain ⟨W1, hW1⟩ : ∃ W1, W1 = W0.alloc (.cells #[.float .f64 V1.x, .float .f64 V2.x, .float .f64 V3.x] 25) := ⟨_, rfl⟩
  have HB1 : Hid (Below w.heap.size w W1) := by show Below _ _ W1; rw [hW1]; exact HB0.out.alloc HB0.out.size _
  have hc : ∀ j, j < 3 → W1.cell? ⟨W0.heap.size, j, none⟩ = some (.float .f64 (X j)) := by rw [hW1, e0]; exact tri_cells W0 _ _ _ _
  have e3 : W0.heap.size = w.heap.size + 1 + 1 + 1 := by rw [hW0]; simp
  clear e0
  go_enter Tryz.func27, Tryz.ntmps27
  go_wp2
  rw [← hW0, ← hW1]
  rw [e3] at hc
  clear e3 hW0 hW1
  go_loop [8] (fun v => ∃ i : Nat, i ≤ 3 ∧ v = .int .i64 i ∧ Hid (∀ j, j < i → X j ∈ e5)) (fun v => 3 - (intOf v).toNat)
  case atStart => exact ⟨0, Nat.zero_le _, rfl, fun j hj => absurd hj (by omega)⟩
  case round =>
    obtain ⟨i, hi, rfl, HK⟩ := hrel
    by_cases hlt : i < 3
    · have hci := hc i hlt
      have hXi := hX i
      clear hc hX
      by_cases k0 : X i = 0
      · skip
        have o0 : (FloatKind.f64.format.order (X i) 0 != some .eq) = false := by rw [Fl.ord_eq (by omega) k0]; rfl
        have HK' : Hid (∀ j, j < i + 1 → X j ∈ e5) := fun j hj => by
          by_cases e : j = i
          · subst e; rw [k0]; decide
          · exact HK.out j (by omega)
        clear HT HF HK hXi k0
        go_wp2
        go_round
        case rel => exact ⟨i + 1, by omega, by go_num, HK'⟩
        case measure => simp [intOf]; omega
      by_cases k1 : X i = 4607182418800017408
      · skip
        have o0 : (FloatKind.f64.format.order (X i) 0 != some .eq) = true := ord_ne hXi (by decide) k0
        have o1 : (FloatKind.f64.format.order (X i) 4607182418800017408 != some .eq) = false := by rw [Fl.ord_eq (by omega) k1]; rfl
        have HK' : Hid (∀ j, j < i + 1 → X j ∈ e5) := fun j hj => by
          by_cases e : j = i
          · subst e; rw [k1]; decide
          · exact HK.out j (by omega)
        clear HT HF HK hXi k0 k1
        go_wp2
        go_round
        case rel => exact ⟨i + 1, by omega, by go_num, HK'⟩
        case measure => simp [intOf]; omega
      by_cases k2 : X i = 4602678819172646912
      · skip
        have o0 : (FloatKind.f64.format.order (X i) 0 != some .eq) = true := ord_ne hXi (by decide) k0
        have o1 : (FloatKind.f64.format.order (X i) 4607182418800017408 != some .eq) = true := ord_ne hXi (by decide) k1
        have o2 : (FloatKind.f64.format.order (X i) 4602678819172646912 != some .eq) = false := by rw [Fl.ord_eq (by omega) k2]; rfl
        have HK' : Hid (∀ j, j < i + 1 → X j ∈ e5) := fun j hj => by
          by_cases e : j = i
          · subst e; rw [k2]; decide
          · exact HK.out j (by omega)
        clear HT HF HK hXi k0 k1 k2
        go_wp2
        go_round
        case rel => exact ⟨i + 1, by omega, by go_num, HK'⟩
        case measure => simp [intOf]; omega
      by_cases k3 : X i = 4598175219545276416
      · skip
        have o0 : (FloatKind.f64.format.order (X i) 0 != some .eq) = true := ord_ne hXi (by decide) k0
        have o1 : (FloatKind.f64.format.order (X i) 4607182418800017408 != some .eq) = true := ord_ne hXi (by decide) k1
        have o2 : (FloatKind.f64.format.order (X i) 4602678819172646912 != some .eq) = true := ord_ne hXi (by decide) k2
        have o3 : (FloatKind.f64.format.order (X i) 4598175219545276416 != some .eq) = false := by rw [Fl.ord_eq (by omega) k3]; rfl
        have HK' : Hid (∀ j, j < i + 1 → X j ∈ e5) := fun j hj => by
          by_cases e : j = i
          · subst e; rw [k3]; decide
          · exact HK.out j (by omega)
        clear HT HF HK hXi k0 k1 k2 k3
        go_wp2
        go_round
        case rel => exact ⟨i + 1, by omega, by go_num, HK'⟩
        case measure => simp [intOf]; omega
      by_cases k4 : X i = 4593671619917905920
      · skip
        have o0 : (FloatKind.f64.format.order (X i) 0 != some .eq) = true := ord_ne hXi (by decide) k0
        have o1 : (FloatKind.f64.format.order (X i) 4607182418800017408 != some .eq) = true := ord_ne hXi (by decide) k1
        have o2 : (FloatKind.f64.format.order (X i) 4602678819172646912 != some .eq) = true := ord_ne hXi (by decide) k2
        have o3 : (FloatKind.f64.format.order (X i) 4598175219545276416 != some .eq) = true := ord_ne hXi (by decide) k3
        have o4 : (FloatKind.f64.format.order (X i) 4593671619917905920 != some .eq) = false := by rw [Fl.ord_eq (by omega) k4]; rfl
        have HK' : Hid (∀ j, j < i + 1 → X j ∈ e5) := fun j hj => by
          by_cases e : j = i
          · subst e; rw [k4]; decide
          · exact HK.out j (by omega)
        clear HT HF HK hXi k0 k1 k2 k3 k4
        go_wp2
        go_round
        case rel => exact ⟨i + 1, by omega, by go_num, HK'⟩
        case measure => simp [intOf]; omega
      have o0 : (FloatKind.f64.format.order (X i) 0 != some .eq) = true := ord_ne hXi (by decide) k0
      have o1 : (FloatKind.f64.format.order (X i) 4607182418800017408 != some .eq) = true := ord_ne hXi (by decide) k1
      have o2 : (FloatKind.f64.format.order (X i) 4602678819172646912 != some .eq) = true := ord_ne hXi (by decide) k2
      have o3 : (FloatKind.f64.format.order (X i) 4598175219545276416 != some .eq) = true := ord_ne hXi (by decide) k3
      have o4 : (FloatKind.f64.format.order (X i) 4593671619917905920 != some .eq) = true := ord_ne hXi (by decide) k4
      have HE : Hid (false = R) := HF.out i hlt (by rintro hm; simp only [e5, List.mem_cons, List.not_mem_nil, or_false] at hm; omega)
      clear HT HF HK hXi k0 k1 k2 k3 k4
      go_wp2
      go_ret
      exact ⟨ret_bool HE.out, HB1.out⟩
    · obtain rfl : i = 3 := by omega
      have HE : Hid (true = R) := HT.out HK.out
      clear HT HF HK hc hX
      go_wp2
      go_ret
      exact ⟨ret_bool HE.out, HB1.out⟩
set_option maxHeartbeats 16000000 in
theorem exact6 (w : World) (V1 V2 V3 : Vl) (a1 a2 a3 : Option Addr) (c1 c2 c3 : Nat) (R : Bool) (e0 : Fl.Fo.exAll (triX V1.x V2.x V3.x) 3 = R) (hX : ∀ j, triX V1.x V2.x V3.x j < 18446744073709551616) : Calls Tryz.prog 27 #[.agg #[.int .i64 6, .bool V1.i, .slice a1 V1.n c1, .int .i64 V1.l, .float .f64 V1.x], .agg #[.int .i64 V2.s, .bool V2.i, .slice a2 V2.n c2, .int .i64 V2.l, .float .f64 V2.x], .agg #[.int .i64 V3.s, .bool V3.i, .slice a3 V3.n c3, .int .i64 V3.l, .float .f64 V3.x]] w fun e w' => e = .returned (.bool R) ∧ Below w.heap.size w w' := by
  obtain ⟨W0, hW0⟩ : ∃ W0, W0 = ((w.alloc (.cells #[.int .i64 6, .bool V1.i, .slice a1 V1.n c1, .int .i64 V1.l, .float .f64 V1.x] 27)).alloc (.cells #[.int .i64 V2.s, .bool V2.i, .slice a2 V2.n c2, .int .i64 V2.l, .float .f64 V2.x] 27)).alloc (.cells #[.int .i64 V3.s, .bool V3.i, .slice a3 V3.n c3, .int .i64 V3.l, .float .f64 V3.x] 27) := ⟨_, rfl⟩
  have HB0 : Hid (Below w.heap.size w W0) := by rw [hW0]; exact below3 w _ _ _
  obtain ⟨W1, hW1⟩ : ∃ W1, W1 = W0.alloc (.cells #[.float .f64 V1.x, .float .f64 V2.x, .float .f64 V3.x] 25) := ⟨_, rfl⟩
  have HB1 : Hid (Below w.heap.size w W1) := by show Below _ _ W1; rw [hW1]; exact HB0.out.alloc HB0.out.size _
  have hc : ∀ j, j < 3 → W1.cell? ⟨W0.heap.size, j, none⟩ = some (.float .f64 (triX V1.x V2.x V3.x j)) := by rw [hW1]; exact tri_cells W0 _ _ _ _
  have e3 : W0.heap.size = w.heap.size + 1 + 1 + 1 := by rw [hW0]; simp
  have C : Calls Tryz.prog 55 #[.slice (some ⟨w.heap.size + 1 + 1 + 1, 0, none⟩) 3 3] W1 fun r w' => r = .returned (.bool R) ∧ w' = W1 := by
    rw [← e0]
    exact Fl.rexacts_any _ 3 3 W1 _ (by decide) ⟨by decide, by decide, hX, Or.inr ⟨_, 0, rfl, fun j hj => by rw [Nat.zero_add, ← e3]; exact hc j hj⟩⟩
  clear hc e3 hX e0
  go_enter Tryz.func27, Tryz.ntmps27
  go_wp2_with (go_at_call 55; fail)
  rw [← hW0, ← hW1]
  refine C.mono ?_
  rintro e w' ⟨rfl, rfl⟩
  clear C hW0 hW1
  go_wp2
  go_ret
  exact ⟨rfl, HB1.out⟩
set_option maxHeartbeats 16000000 in
theorem exact0 (w : World) (V1 V2 V3 : Vl) (a1 a2 a3 : Option Addr) (c1 c2 c3 : Nat) (R : Bool) (e0 : true = R) (h5 : (V1.s == 5) = false) (h6 : (V1.s == 6) = false) : Calls Tryz.prog 27 #[.agg #[.int .i64 V1.s, .bool V1.i, .slice a1 V1.n c1, .int .i64 V1.l, .float .f64 V1.x], .agg #[.int .i64 V2.s, .bool V2.i, .slice a2 V2.n c2, .int .i64 V2.l, .float .f64 V2.x], .agg #[.int .i64 V3.s, .bool V3.i, .slice a3 V3.n c3, .int .i64 V3.l, .float .f64 V3.x]] w fun e w' => e = .returned (.bool R) ∧ Below w.heap.size w w' := by
  have HB0 : Hid (Below w.heap.size w (((w.alloc (.cells #[.int .i64 V1.s, .bool V1.i, .slice a1 V1.n c1, .int .i64 V1.l, .float .f64 V1.x] 27)).alloc (.cells #[.int .i64 V2.s, .bool V2.i, .slice a2 V2.n c2, .int .i64 V2.l, .float .f64 V2.x] 27)).alloc (.cells #[.int .i64 V3.s, .bool V3.i, .slice a3 V3.n c3, .int .i64 V3.l, .float .f64 V3.x] 27))) := below3 w _ _ _
  subst e0
  go_enter Tryz.func27, Tryz.ntmps27
  go_wp2
  go_ret
  exact ⟨rfl, HB0.out⟩
/-- THE LAWS' EXACT, of three values of one semiring that may be. -/
theorem exact_at (w : World) (v1 v2 v3 : Value) (V1 V2 V3 : Vl) (b : Bool) (h1 : VIn w v1 V1) (h2 : VIn w v2 V2) (h3 : VIn w v3 V3) (m1 : mayV V1 = 0) (m2 : mayV V2 = 0) (m3 : mayV V3 = 0) (f2 : V2.s = V1.s) (f3 : V3.s = V1.s) (hb : exV V1.s V1.x V2.x V3.x = b) :
    Calls Tryz.prog 27 #[v1, v2, v3] w fun e w' => e = .returned (.bool b) ∧ Below w.heap.size w w' := by
  obtain ⟨a1, c1, rfl, -, -, -, hx1, -⟩ := h1
  obtain ⟨a2, c2, rfl, -, -, -, hx2, -⟩ := h2
  obtain ⟨a3, c3, rfl, -, -, -, hx3, -⟩ := h3
  unfold exV at hb
  by_cases h5 : V1.s = 5
  · rw [if_pos h5] at hb
    have r1 := may_range m1
    have r2 := may_range m2
    have r3 := may_range m3
    rw [h5]
    have := exact5 w V1 V2 V3 a1 a2 a3 c1 c2 c3 b (triX V1.x V2.x V3.x) rfl (fun j => by
        match j with
        | 0 => show V1.x ≤ _; omega
        | 1 => show V2.x ≤ _; omega
        | j + 2 => show V3.x ≤ _; omega)
      (fun h => by rw [← hb, decide_eq_true ⟨h 0 (by decide), h 1 (by decide), h 2 (by decide)⟩])
      (fun j hj h => by
        rw [← hb, decide_eq_false]
        rintro ⟨k1, k2, k3⟩
        match j, hj with
        | 0, _ => exact h k1
        | 1, _ => exact h k2
        | 2, _ => exact h k3)
    exact this
  · rw [if_neg h5] at hb
    by_cases h6 : V1.s = 6
    · rw [if_pos h6] at hb
      rw [h6]
      exact exact6 w V1 V2 V3 a1 a2 a3 c1 c2 c3 b hb (fun j => by
        match j with
        | 0 => exact hx1
        | 1 => exact hx2
        | j + 2 => exact hx3)
    · rw [if_neg h6] at hb
      exact exact0 w V1 V2 V3 a1 a2 a3 c1 c2 c3 b hb (by simpa using h5) (by simpa using h6)
namespace Fo
theorem exOk_whole {x : Nat} (hx : x ≤ 9218868437227405312) (h : Fl.Fo.exOk x = true) : x = 9218868437227405312 ∨ ∃ m, m ≤ 1099511627776 ∧ x = Fl.Fo.f64 m := by
  unfold Fl.Fo.exOk at h
  rw [Bool.and_eq_true, Nat.mod_eq_of_lt (by omega)] at h
  have h2 := h.2
  clear h
  revert h2
  generalize hn : 1074 = n
  intro h2
  unfold Fl.Fo.exB at h2
  rw [Bool.or_eq_true, decide_eq_true_eq, Bool.and_eq_true, decide_eq_true_eq] at h2
  rcases h2 with h | ⟨h, k⟩
  · exact Or.inl h
  · refine Or.inr ⟨_, Fl.Fo.part_lt x 1099511627776 n hn.symm (by decide) (by rw [Fl.Fo.f64_big]; exact h), ?_⟩
    unfold Fl.Fo.wh at k
    rw [decide_eq_true_eq] at k
    exact k.symm
theorem exP_of {V1 V2 V3 : Vl} (m1 : mayV V1 = 0) (m2 : mayV V2 = 0) (m3 : mayV V3 = 0) (f2 : V2.s = V1.s) (f3 : V3.s = V1.s) (h : exV V1.s V1.x V2.x V3.x = true) : exP V1.s (denV V1) ∧ exP V1.s (denV V2) ∧ exP V1.s (denV V3) := by
  unfold exV at h
  by_cases h5 : V1.s = 5
  · rw [if_pos h5, decide_eq_true_eq] at h
    obtain ⟨k1, k2, k3⟩ := h
    exact ⟨⟨fun _ => ⟨_, den_flo (Or.inl h5), k1⟩, fun e => by omega⟩, ⟨fun _ => ⟨_, den_flo (Or.inl (f2.trans h5)), k2⟩, fun e => by omega⟩, ⟨fun _ => ⟨_, den_flo (Or.inl (f3.trans h5)), k3⟩, fun e => by omega⟩⟩
  · rw [if_neg h5] at h
    by_cases h6 : V1.s = 6
    · rw [if_pos h6] at h
      have r1 := may_range m1
      have r2 := may_range m2
      have r3 := may_range m3
      have k := (Fl.Fo.allB_iff _ 3).1 h
      exact ⟨⟨fun e => by omega, fun _ => ⟨_, den_flo (Or.inr h6), exOk_whole (by omega) (k 0 (by decide))⟩⟩, ⟨fun e => by omega, fun _ => ⟨_, den_flo (Or.inr (f2.trans h6)), exOk_whole (by omega) (k 1 (by decide))⟩⟩, ⟨fun e => by omega, fun _ => ⟨_, den_flo (Or.inr (f3.trans h6)), exOk_whole (by omega) (k 2 (by decide))⟩⟩⟩
    · exact ⟨⟨fun e => absurd e h5, fun e => absurd e h6⟩, ⟨fun e => absurd e h5, fun e => absurd e h6⟩, ⟨fun e => absurd e h5, fun e => absurd e h6⟩⟩
end Fo
end Go.Proofs.YtjdbapkmaggllaaGreatDoor
