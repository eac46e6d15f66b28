/- The laws' small and awake; Text of a count. -/
import Derived.Test.YtjdbapkmaggllaaDoorVbt
import Derived.Test.YtjdbapkmaggllaaDoorAwk
namespace Go.Proofs.YtjdbapkmaggllaaDoor
open Go.RowKit Fo
set_option maxRecDepth 100000

theorem vsmall_any (g k : Nat) (A : Nat → Option Addr) (n C : Nat → Nat) (w : World) (hk : k ≤ 10) (hk1 : 1 ≤ k) (R : Bool) (hc : ∀ j, j < k → w.cell? ⟨g, j * 5 + 2, none⟩ = some (.slice (A j) (n j) (C j)))
    (hT : (∀ j, j < k → n j ≤ 60) → true = R) (hF : ∀ j, j < k → 60 < n j → false = R) :
    Calls Tryd.prog 6 #[.slice (some ⟨g, 0, none⟩) k k] w fun e w' => e = .returned (.bool R) ∧ w' = w := by
  have HT : Hid ((∀ j, j < k → n j ≤ 60) → true = R) := hT
  have HF : Hid (∀ j, j < k → 60 < n j → false = R) := hF
  clear hT hF
  go_enter Tryd.func6, Tryd.ntmps6
  go_wp2
  go_loop [3] (fun v => ∃ i : Nat, i ≤ k ∧ v = .int .i64 i ∧ Hid (∀ j, j < i → n j ≤ 60)) (fun v => k - (intOf v).toNat)
  case atStart => exact ⟨0, Nat.zero_le _, rfl, fun j hj => absurd hj (by omega)⟩
  case round =>
    obtain ⟨i, hi, rfl, HK⟩ := hrel
    by_cases hlt : i < k
    · have hci := hc i hlt
      by_cases h : 60 < n i
      · have HE : Hid (false = R) := HF.out i hlt h
        have h1 : (60 : Int) < (n i : Int) := by omega
        clear HT HF HK hc
        go_wp2
        go_ret
        exact ⟨ret_bool HE.out, rfl⟩
      · have HK' : Hid (∀ j, j < i + 1 → n j ≤ 60) := fun j hj => by
          by_cases e : j = i
          · subst e; omega
          · exact HK.out j (by omega)
        have h1 : ¬ (60 : Int) < (n i : Int) := by omega
        clear HT HF HK hc h
        go_wp2
        go_round
        case rel => exact ⟨i + 1, by omega, by go_num, HK'⟩
        case measure => simp [intOf]; omega
    · obtain rfl : i = k := by omega
      have HE : Hid (true = R) := HT.out HK.out
      clear HT HF HK hc
      go_wp2
      go_ret
      exact ⟨ret_bool HE.out, rfl⟩
theorem text_one : otext (some 1) = [49] := by
  show Lib.decDigits 1 = _
  rw [Lib.decDigits_one (by decide)]
  decide
theorem vtext_count (w : World) (v1 : Value) (V1 : Vl) (h1 : VIn w v1 V1) (l : List UInt8) (es1 : V1.s = 1) (m1 : mayV V1 = 0) (hl : otext (numV V1) = l) (henv : Env w) : Calls Tryd.prog 18 #[v1] w fun e w' => e = .returned (.string ⟨l.toArray⟩) ∧ Below w.heap.size w w' := by
  have H1' := h1
  obtain ⟨a1, c1, rfl, hr1, hL1, hn1, hx1, hl1, hs1⟩ := h1
  rw [es1] at H1' ⊢
  obtain ⟨W0, hW0⟩ : ∃ W0, W0 = (w.alloc (.cells #[.int .i64 1, .bool V1.i, .slice a1 V1.n c1, .int .i64 V1.l, .float .f64 V1.x] 27)) := ⟨_, rfl⟩
  have HB0 : Hid (Below w.heap.size w W0) := by rw [hW0]; exact below1 w _
  have Hg1 : Hid (W0.heap[w.heap.size]? = some (.cells #[.int .i64 1, .bool V1.i, .slice a1 V1.n c1, .int .i64 V1.l, .float .f64 V1.x] 27)) := by
    show W0.heap[w.heap.size]? = _
    rw [hW0]; exact heap_at1_0 w _
  have H1 : Hid (VIn W0 (.agg #[.int .i64 1, .bool V1.i, .slice a1 V1.n c1, .int .i64 V1.l, .float .f64 V1.x]) V1) := H1'.below HB0.out
  have HW : Below W0.heap.size W0 W0 := below_refl W0
  clear hr1 hL1 hn1 hx1 hl1 hs1 H1'
  obtain ⟨p10, p11, p12, p13, p14⟩ := box5 Hg1.out HW
  have E1 : Hid (mayV V1 = 0) := m1
  have HL : Hid (otext (numV V1) = l) := hl
  have HEnv : Hid (Env w) := henv
  clear m1 hl henv es1
  go_enter Tryd.func18, Tryd.ntmps18
  go_wp2_with (go_at_call 15; fail)
  rw [← hW0]
  clear hW0
  refine (vmay_at _ _ V1 0 (by exact H1.out.below HW) E1.out).mono ?_
  rintro e w1 ⟨rfl, b⟩
  replace HW := below_step HW b
  clear b
  clear p10 p11 p12 p13 p14; obtain ⟨p10, p11, p12, p13, p14⟩ := box5 Hg1.out HW
  go_wp2_with (go_at_call 39; fail)
  refine (text_at _ _ (numV V1) l (by exact (H1.out.below HW).num') (by exact HEnv.out.below (below_step HB0.out HW)) HL.out).mono ?_
  rintro e w2 ⟨rfl, b⟩
  replace HW := below_step HW b
  clear b
  clear p10 p11 p12 p13 p14; obtain ⟨p10, p11, p12, p13, p14⟩ := box5 Hg1.out HW
  go_wp2
  go_ret
  exact ⟨rfl, below_step HB0.out HW⟩
end Go.Proofs.YtjdbapkmaggllaaDoor
