/- The document's own May and Fields, and the laws' same. -/
import Derived.Test.YtjdbapkmaggllaaGreatDoorQ06
import Derived.BigQuiet
namespace Go.Proofs.YtjdbapkmaggllaaGreatDoor
open Go.RowKit Fo
set_option maxRecDepth 100000

namespace Fo
/-- May it be? -/
def mayB (i : Bool) (n : Nat) (L : Nat → Nat) : Bool := if i then decide (n = 0) else (decide (n = 0) || decide (L (n - 1) ≠ 0))
end Fo
theorem rmay_any (i : Bool) (a : Option Addr) (n c : Nat) (L : Nat → Nat) (w : World) (hr : Rd w a n c (u32s L)) (hn : n ≤ 100000) :
    Calls Tryz.prog 53 #[.agg #[.bool i, .slice a n c]] w fun e w' => e = .returned (.bool (mayB i n L)) ∧ Below w.heap.size w w' := by
  have HB : Hid (Below w.heap.size w (w.alloc (.cells #[.bool i, .slice a n c] 24))) := (below_refl w).alloc (Nat.le_refl _) _
  cases i
  · by_cases h0 : n = 0
    · subst h0
      clear hr
      go_enter Tryz.func53, Tryz.ntmps53
      go_wp2
      go_ret
      exact ⟨rfl, HB.out⟩
    · obtain ⟨b, off, rfl, hc⟩ := (hr.below HB.out).at (by omega)
      have hck := hc (n - 1) (by omega)
      unfold u32s at hck
      have hb0 : ((n : Int) == 0) = false := by simp; omega
      have HE : Hid ((((L (n - 1) : Nat) : Int) != 0) = mayB false n L) := by
        show (((L (n - 1) : Nat) : Int) != 0) = _
        unfold mayB
        rw [if_neg (by decide), decide_eq_false h0, Bool.false_or, Bool.eq_iff_iff]
        simp
      clear hc hr
      go_enter Tryz.func53, Tryz.ntmps53
      go_wp2
      go_ret
      exact ⟨ret_bool HE.out, HB.out⟩
  · have HE : Hid (((n : Int) == 0) = mayB true n L) := by
      show ((n : Int) == 0) = _
      unfold mayB
      rw [if_pos rfl, Bool.eq_iff_iff]
      simp
    clear hr
    go_enter Tryz.func53, Tryz.ntmps53
    go_wp2
    go_ret
    exact ⟨ret_bool HE.out, HB.out⟩
theorem fbits (b : Nat) (w : World) : (callFunc 75 #[.float .f64 b]).run Tryz.prog w = .ok (.value (.int .u64 b)) w := by
  rw [run_callFunc_extern Tryz.func75 (by kernel_rfl) (by kernel_rfl) (by kernel_rfl) (e := Extern.MathFloatBits.float64bits) (by kernel_rfl)]; rfl
theorem bits0 (w : World) : Calls Tryz.prog 54 #[.float .f64 0] w fun e w' => e = .returned (.int .u64 0) ∧ w' = w := by
  have k := fbits 0
  have o : FloatKind.f64.format.order 0 0 = some .eq := by decide +kernel
  go_enter Tryz.func54, Tryz.ntmps54
  go_wp2
  go_ret
  exact ⟨rfl, rfl⟩
theorem same00 (w : World) : Calls Tryz.prog 48 #[.float .f64 0, .float .f64 0] w fun e w' => e = .returned (.bool true) ∧ w' = w := by
  go_enter Tryz.func48, Tryz.ntmps48
  go_wp2_with (go_at_call 54; refine (bits0 _).mono ?_; rintro e w' ⟨rfl, rfl⟩)
  go_ret
  exact ⟨rfl, rfl⟩
theorem block_cell {W w2 : World} {g j : Nat} {cs : Array Value} {t : TypeId} (h : W.heap[g]? = some (.cells cs t)) (hB : Below W.heap.size W w2) : w2.cell? ⟨g, j, none⟩ = cs[j]? := by
  have hlt : g < W.heap.size := (Array.getElem?_eq_some_iff.1 h).1
  have h2 : w2.heap[g]? = some (.cells cs t) := (hB.block g hlt).trans h
  exact cell_of_row w2 g j cs t (0, 0) h2
theorem fields_true (i : Bool) (a1 a2 : Option Addr) (n c1 c2 : Nat) (L : Nat → Nat) (w : World) (h1 : Rd w a1 n c1 (u32s L)) (h2 : Rd w a2 n c2 (u32s L)) (hn : n ≤ 1000000) :
    Calls Tryz.prog 20 #[.agg #[.int .i64 0, .bool i, .slice a1 n c1, .int .i64 0, .float .f64 0], .agg #[.int .i64 0, .bool i, .slice a2 n c2, .int .i64 0, .float .f64 0]] w fun e w' => e = .returned (.bool true) ∧ Below w.heap.size w w' := by
  have HB : Hid (Below w.heap.size w ((w.alloc (.cells #[.int .i64 0, .bool i, .slice a1 n c1, .int .i64 0, .float .f64 0] 27)).alloc (.cells #[.int .i64 0, .bool i, .slice a2 n c2, .int .i64 0, .float .f64 0] 27))) := below2 w _ _
  have Hg1 : Hid (((w.alloc (.cells #[.int .i64 0, .bool i, .slice a1 n c1, .int .i64 0, .float .f64 0] 27)).alloc (.cells #[.int .i64 0, .bool i, .slice a2 n c2, .int .i64 0, .float .f64 0] 27)).heap[w.heap.size]? = some (.cells #[.int .i64 0, .bool i, .slice a1 n c1, .int .i64 0, .float .f64 0] 27)) := heap_1st w _ _
  have Hg2 : Hid (((w.alloc (.cells #[.int .i64 0, .bool i, .slice a1 n c1, .int .i64 0, .float .f64 0] 27)).alloc (.cells #[.int .i64 0, .bool i, .slice a2 n c2, .int .i64 0, .float .f64 0] 27)).heap[w.heap.size + 1]? = some (.cells #[.int .i64 0, .bool i, .slice a2 n c2, .int .i64 0, .float .f64 0] 27)) := heap_2nd w _ _
  have H1 : Hid (Rd ((w.alloc (.cells #[.int .i64 0, .bool i, .slice a1 n c1, .int .i64 0, .float .f64 0] 27)).alloc (.cells #[.int .i64 0, .bool i, .slice a2 n c2, .int .i64 0, .float .f64 0] 27)) a1 n c1 (u32s L)) := h1.below (below2 w _ _)
  have H2 : Hid (Rd ((w.alloc (.cells #[.int .i64 0, .bool i, .slice a1 n c1, .int .i64 0, .float .f64 0] 27)).alloc (.cells #[.int .i64 0, .bool i, .slice a2 n c2, .int .i64 0, .float .f64 0] 27)) a2 n c2 (u32s L)) := h2.below (below2 w _ _)
  have hii : (i != i) = false := by cases i <;> rfl
  clear h1 h2
  go_enter Tryz.func20, Tryz.ntmps20
  go_wp2_with (go_at_call 48; refine (same00 _).mono ?_; rintro e w' ⟨rfl, hw⟩; replace hw := hw.symm; subst hw)
  obtain ⟨W5, hW5⟩ : ∃ W5, W5 = (w.alloc (.cells #[.int .i64 0, .bool i, .slice a1 n c1, .int .i64 0, .float .f64 0] 27)).alloc (.cells #[.int .i64 0, .bool i, .slice a2 n c2, .int .i64 0, .float .f64 0] 27) := ⟨_, rfl⟩
  rw [← hW5] at HB Hg1 Hg2 H1 H2 ⊢
  clear hW5
  go_loopw [5] (fun v wr => ∃ k : Nat, k ≤ n ∧ v = .int .i64 k ∧ Hid (Below W5.heap.size W5 wr)) (fun v _ => n - (intOf v).toNat)
  case atStart => exact ⟨0, Nat.zero_le _, rfl, below_refl _⟩
  case round =>
    obtain ⟨k, hk, rfl, HW⟩ := hrel
    rename World => wr
    have p2 : wr.cell? ⟨w.heap.size, 2, none⟩ = some (.slice a1 n c1) := block_cell Hg1.out HW.out
    have q2 : wr.cell? ⟨w.heap.size + 1, 2, none⟩ = some (.slice a2 n c2) := block_cell Hg2.out HW.out
    by_cases hlt : k < n
    · obtain ⟨ga, oa, rfl, hca⟩ := (H1.out.below HW.out).at (by omega)
      obtain ⟨gb, ob, rfl, hcb⟩ := (H2.out.below HW.out).at (by omega)
      have hck := hca k hlt
      have hdk := hcb k hlt
      unfold u32s at hck hdk
      have j1 : (0 : Int) ≤ (k : Int) := by omega
      have j2 : (k : Int) < (n : Int) := by omega
      have hnn : (((L k : Nat) : Int) != ((L k : Nat) : Int)) = false := by simp
      clear hca hcb H1 H2 Hg1 Hg2
      go_wp2
      go_quiet (fail)
      go_wp2
      go_roundw
      case rel => exact ⟨k + 1, by omega, by go_num, below_drewN HW.out _⟩
      case measure => simp [intOf]; omega
    · obtain rfl : k = n := by omega
      clear H1 H2 Hg1 Hg2
      go_wp2
      go_ret
      exact ⟨rfl, below_step HB.out HW.out⟩
end Go.Proofs.YtjdbapkmaggllaaGreatDoor
