/- The laws' short ways out: where a number is too long, awake alone is asked. -/
import Derived.Test.YtklkcnpcjmeejaaDoorLft
import Derived.Test.YtklkcnpcjmeejaaDoorAsk
namespace Go.Proofs.YtklkcnpcjmeejaaDoor
open Go.RowKit Fo
set_option maxRecDepth 100000

theorem asks_big (i1 i2 : Bool) (a1 a2 : Option Addr) (n1 n2 c1 c2 m : Nat) (w : World) (henv : Env w) (hbig : ¬ (n1 ≤ 100 ∧ n2 ≤ 100)) :
    Calls Tryd.prog 3 #[.agg #[.bool i1, .slice a1 n1 c1], .agg #[.bool i2, .slice a2 n2 c2], .int .u64 m] w fun e w' => e = .returned (.bool true) ∧ Below w.heap.size w w' := by
  have HEnv : Hid (Env w) := henv
  have HBig : Hid (¬ (n1 ≤ 100 ∧ n2 ≤ 100)) := hbig
  clear henv hbig
  go_enter Tryd.func3, Tryd.ntmps3
  go_wp2_with (go_at_call 9; fail)
  obtain ⟨W0, hW0⟩ : ∃ W0, W0 = (((w.alloc (.cells #[.bool i1, .slice a1 n1 c1] 24)).alloc (.cells #[.bool i2, .slice a2 n2 c2] 24)).alloc (.cells #[.bool i1, .slice a1 n1 c1, .bool i2, .slice a2 n2 c2] 24)) := ⟨_, rfl⟩
  have HB0 : Hid (Below w.heap.size w W0) := by rw [hW0]; exact below3 w _ _ _
  have c9 : Calls Tryd.prog 9 #[.slice (some ⟨w.heap.size + 1 + 1, 0, none⟩) 2 2] W0 fun e w' => e = .returned (.bool false) ∧ w' = W0 := by
    have hg : W0.heap[w.heap.size + 1 + 1]? = some (.cells #[.bool i1, .slice a1 n1 c1, .bool i2, .slice a2 n2 c2] 24) := by rw [hW0]; exact heap3_2 w _ _ _
    refine small_any (w.heap.size + 1 + 1) 2 (fun j => if j = 0 then a1 else a2) (fun j => if j = 0 then n1 else n2) (fun j => if j = 0 then c1 else c2) W0 (by decide) (by decide) false (fun j hj => ?_) (fun h => ?_) (fun _ _ _ => rfl)
    · rw [cell_of_row W0 _ _ _ _ _ hg]
      match j, hj with
      | 0, _ => rfl
      | 1, _ => rfl
    · exfalso
      have h0 := h 0 (by decide)
      have h1 := h 1 (by decide)
      exact HBig.out ⟨h0, h1⟩
  rw [← hW0]
  have CA := says.awake W0 (HEnv.out.below HB0.out)
  clear hW0
  refine c9.mono ?_
  rintro e w' ⟨rfl, hw⟩
  replace hw := hw.symm
  subst hw
  clear c9
  go_wp2_with (go_at_call 10; refine CA.mono ?_; rintro e w1 ⟨rfl, b1⟩)
  go_ret
  exact ⟨rfl, below_step HB0.out b1⟩
theorem three_big (f : FuncId) (hf : f = 5 ∨ f = 6) (i1 i2 i3 : Bool) (a1 a2 a3 : Option Addr) (n1 n2 n3 c1 c2 c3 : Nat) (w : World) (henv : Env w) (hbig : ¬ (n1 ≤ 100 ∧ n2 ≤ 100 ∧ n3 ≤ 100)) :
    Calls Tryd.prog f #[.agg #[.bool i1, .slice a1 n1 c1], .agg #[.bool i2, .slice a2 n2 c2], .agg #[.bool i3, .slice a3 n3 c3]] w fun e w' => e = .returned (.bool true) ∧ Below w.heap.size w w' := by
  have HEnv : Hid (Env w) := henv
  have HBig : Hid (¬ (n1 ≤ 100 ∧ n2 ≤ 100 ∧ n3 ≤ 100)) := hbig
  clear henv hbig
  obtain ⟨W0, hW0⟩ : ∃ W0, W0 = ((((w.alloc (.cells #[.bool i1, .slice a1 n1 c1] 24)).alloc (.cells #[.bool i2, .slice a2 n2 c2] 24)).alloc (.cells #[.bool i3, .slice a3 n3 c3] 24)).alloc (.cells #[.bool i1, .slice a1 n1 c1, .bool i2, .slice a2 n2 c2, .bool i3, .slice a3 n3 c3] 24)) := ⟨_, rfl⟩
  have HB0 : Hid (Below w.heap.size w W0) := by rw [hW0]; exact (below3 w _ _ _).alloc (below3 w _ _ _).size _
  have c9 : Calls Tryd.prog 9 #[.slice (some ⟨w.heap.size + 1 + 1 + 1, 0, none⟩) 3 3] W0 fun e w' => e = .returned (.bool false) ∧ w' = W0 := by
    have hg : W0.heap[w.heap.size + 1 + 1 + 1]? = some (.cells #[.bool i1, .slice a1 n1 c1, .bool i2, .slice a2 n2 c2, .bool i3, .slice a3 n3 c3] 24) := by
      rw [hW0, ← (show (((w.alloc (.cells #[.bool i1, .slice a1 n1 c1] 24)).alloc (.cells #[.bool i2, .slice a2 n2 c2] 24)).alloc (.cells #[.bool i3, .slice a3 n3 c3] 24)).heap.size = w.heap.size + 1 + 1 + 1 by simp), heap_alloc_new]
    refine small_any (w.heap.size + 1 + 1 + 1) 3 (fun j => if j = 0 then a1 else if j = 1 then a2 else a3) (fun j => if j = 0 then n1 else if j = 1 then n2 else n3) (fun j => if j = 0 then c1 else if j = 1 then c2 else c3) W0 (by decide) (by decide) false (fun j hj => ?_) (fun h => ?_) (fun _ _ _ => rfl)
    · rw [cell_of_row W0 _ _ _ _ _ hg]
      match j, hj with
      | 0, _ => rfl
      | 1, _ => rfl
      | 2, _ => rfl
    · exfalso
      have h0 := h 0 (by decide)
      have h1 := h 1 (by decide)
      have h2 := h 2 (by decide)
      exact HBig.out ⟨h0, h1, h2⟩
  have CA := says.awake W0 (HEnv.out.below HB0.out)
  clear HEnv HBig
  rcases hf with rfl | rfl
  · go_enter Tryd.func5, Tryd.ntmps5
    go_wp2_with (go_at_call 9; fail)
    rw [← hW0]
    clear hW0
    refine c9.mono ?_
    rintro e w' ⟨rfl, hw⟩
    replace hw := hw.symm
    subst hw
    clear c9
    go_wp2_with (go_at_call 10; refine CA.mono ?_; rintro e w1 ⟨rfl, b1⟩)
    go_ret
    exact ⟨rfl, below_step HB0.out b1⟩
  · go_enter Tryd.func6, Tryd.ntmps6
    go_wp2_with (go_at_call 9; fail)
    rw [← hW0]
    clear hW0
    refine c9.mono ?_
    rintro e w' ⟨rfl, hw⟩
    replace hw := hw.symm
    subst hw
    clear c9
    go_wp2_with (go_at_call 10; refine CA.mono ?_; rintro e w1 ⟨rfl, b1⟩)
    go_ret
    exact ⟨rfl, below_step HB0.out b1⟩
theorem Fo.Rd.nin {w : World} {i : Bool} {a : Option Addr} {n c : Nat} {L : Nat → Nat} (h : Rd w a n c (u32s L)) (hL : ∀ j, L j < 4294967296) (hn : n ≤ 100) : ∃ X, NIn w (.agg #[.bool i, .slice a n c]) X ∧ ∀ N, X = some N → ln N ≤ 100 := by
  refine ⟨_, ⟨i, a, n, c, L, rfl, h, hL, by omega, rfl⟩, fun N e => ?_⟩
  cases i
  · obtain rfl : lv L n = N := by simpa using e
    exact Nat.le_trans (ln_le n _ (lv_lt n fun j _ => hL j)) hn
  · cases e
end Go.Proofs.YtklkcnpcjmeejaaDoor
