/- The document's own May and Fields, and the laws' same. nat's trim, number, Inf, Of, isZero and May: what they answer. -/
import Derived.Test.YtjdbapkmaggllaaGreatDoorS06
import Derived.BigQuiet
import Derived.Deep.QuietTactic
namespace Go.Proofs.YtjdbapkmaggllaaGreatDoor
open Go.RowKit Fo
set_option maxRecDepth 100000

namespace Fo
/-- May it be? -/
def mayB (i : Bool) (n : Nat) (L : Nat → Nat) : Bool := if i then decide (n = 0) else (decide (n = 0) || decide (L (n - 1) ≠ 0))
end Fo
theorem rmay_any (i : Bool) (a : Option Addr) (n c : Nat) (L : Nat → Nat) (w : World) (hr : Rd w a n c (u32s L)) (hn : n ≤ 100000) :
    Calls Tryz.prog 53 #[.agg #[.bool i, .slice a n c]] w fun e w' => e = .returned (.bool (mayB i n L)) ∧ Below w.heap.size w w' := by
  have HB : Hid (Below w.heap.size w (w.alloc (.cells #[.bool i, .slice a n c] 24))) := (below_refl w).alloc (Nat.le_refl _) _
  cases i
  · by_cases h0 : n = 0
    · subst h0
      clear hr
      go_enter Tryz.func53, Tryz.ntmps53
      go_wp2
      go_ret
      exact ⟨rfl, HB.out⟩
    · obtain ⟨b, off, rfl, hc⟩ := (hr.below HB.out).at (by omega)
      have hck := hc (n - 1) (by omega)
      unfold u32s at hck
      have hb0 : ((n : Int) == 0) = false := by simp; omega
      have HE : Hid ((((L (n - 1) : Nat) : Int) != 0) = mayB false n L) := by
        show (((L (n - 1) : Nat) : Int) != 0) = _
        unfold mayB
        rw [if_neg (by decide), decide_eq_false h0, Bool.false_or, Bool.eq_iff_iff]
        simp
      clear hc hr
      go_enter Tryz.func53, Tryz.ntmps53
      go_wp2
      go_ret
      exact ⟨ret_bool HE.out, HB.out⟩
  · have HE : Hid (((n : Int) == 0) = mayB true n L) := by
      show ((n : Int) == 0) = _
      unfold mayB
      rw [if_pos rfl, Bool.eq_iff_iff]
      simp
    clear hr
    go_enter Tryz.func53, Tryz.ntmps53
    go_wp2
    go_ret
    exact ⟨ret_bool HE.out, HB.out⟩
theorem fbits (b : Nat) (w : World) : (callFunc 75 #[.float .f64 b]).run Tryz.prog w = .ok (.value (.int .u64 b)) w := by
  rw [run_callFunc_extern Tryz.func75 (by kernel_rfl) (by kernel_rfl) (by kernel_rfl) (e := Extern.MathFloatBits.float64bits) (by kernel_rfl)]; rfl
theorem bits0 (w : World) : Calls Tryz.prog 54 #[.float .f64 0] w fun e w' => e = .returned (.int .u64 0) ∧ w' = w := by
  have k := fbits 0
  have o : FloatKind.f64.format.order 0 0 = some .eq := by decide +kernel
  go_enter Tryz.func54, Tryz.ntmps54
  go_wp2
  go_ret
  exact ⟨rfl, rfl⟩
theorem same00 (w : World) : Calls Tryz.prog 48 #[.float .f64 0, .float .f64 0] w fun e w' => e = .returned (.bool true) ∧ w' = w := by
  go_enter Tryz.func48, Tryz.ntmps48
  go_wp2_with (go_at_call 54; refine (bits0 _).mono ?_; rintro e w' ⟨rfl, rfl⟩)
  go_ret
  exact ⟨rfl, rfl⟩
theorem block_cell {W w2 : World} {g j : Nat} {cs : Array Value} {t : TypeId} (h : W.heap[g]? = some (.cells cs t)) (hB : Below W.heap.size W w2) : w2.cell? ⟨g, j, none⟩ = cs[j]? := by
  have hlt : g < W.heap.size := (Array.getElem?_eq_some_iff.1 h).1
  have h2 : w2.heap[g]? = some (.cells cs t) := (hB.block g hlt).trans h
  exact cell_of_row w2 g j cs t (0, 0) h2
theorem fields_true (i : Bool) (a1 a2 : Option Addr) (n c1 c2 : Nat) (L : Nat → Nat) (w : World) (h1 : Rd w a1 n c1 (u32s L)) (h2 : Rd w a2 n c2 (u32s L)) (hn : n ≤ 1000000) :
    Calls Tryz.prog 20 #[.agg #[.int .i64 0, .bool i, .slice a1 n c1, .int .i64 0, .float .f64 0], .agg #[.int .i64 0, .bool i, .slice a2 n c2, .int .i64 0, .float .f64 0]] w fun e w' => e = .returned (.bool true) ∧ Below w.heap.size w w' := by
  have HB : Hid (Below w.heap.size w ((w.alloc (.cells #[.int .i64 0, .bool i, .slice a1 n c1, .int .i64 0, .float .f64 0] 27)).alloc (.cells #[.int .i64 0, .bool i, .slice a2 n c2, .int .i64 0, .float .f64 0] 27))) := below2 w _ _
  have Hg1 : Hid (((w.alloc (.cells #[.int .i64 0, .bool i, .slice a1 n c1, .int .i64 0, .float .f64 0] 27)).alloc (.cells #[.int .i64 0, .bool i, .slice a2 n c2, .int .i64 0, .float .f64 0] 27)).heap[w.heap.size]? = some (.cells #[.int .i64 0, .bool i, .slice a1 n c1, .int .i64 0, .float .f64 0] 27)) := heap_1st w _ _
  have Hg2 : Hid (((w.alloc (.cells #[.int .i64 0, .bool i, .slice a1 n c1, .int .i64 0, .float .f64 0] 27)).alloc (.cells #[.int .i64 0, .bool i, .slice a2 n c2, .int .i64 0, .float .f64 0] 27)).heap[w.heap.size + 1]? = some (.cells #[.int .i64 0, .bool i, .slice a2 n c2, .int .i64 0, .float .f64 0] 27)) := heap_2nd w _ _
  have H1 : Hid (Rd ((w.alloc (.cells #[.int .i64 0, .bool i, .slice a1 n c1, .int .i64 0, .float .f64 0] 27)).alloc (.cells #[.int .i64 0, .bool i, .slice a2 n c2, .int .i64 0, .float .f64 0] 27)) a1 n c1 (u32s L)) := h1.below (below2 w _ _)
  have H2 : Hid (Rd ((w.alloc (.cells #[.int .i64 0, .bool i, .slice a1 n c1, .int .i64 0, .float .f64 0] 27)).alloc (.cells #[.int .i64 0, .bool i, .slice a2 n c2, .int .i64 0, .float .f64 0] 27)) a2 n c2 (u32s L)) := h2.below (below2 w _ _)
  have hii : (i != i) = false := by cases i <;> rfl
  clear h1 h2
  go_enter Tryz.func20, Tryz.ntmps20
  go_wp2_with (go_at_call 48; refine (same00 _).mono ?_; rintro e w' ⟨rfl, hw⟩; replace hw := hw.symm; subst hw)
  obtain ⟨W5, hW5⟩ : ∃ W5, W5 = (w.alloc (.cells #[.int .i64 0, .bool i, .slice a1 n c1, .int .i64 0, .float .f64 0] 27)).alloc (.cells #[.int .i64 0, .bool i, .slice a2 n c2, .int .i64 0, .float .f64 0] 27) := ⟨_, rfl⟩
  rw [← hW5] at HB Hg1 Hg2 H1 H2 ⊢
  clear hW5
  go_loopw [5] (fun v wr => ∃ k : Nat, k ≤ n ∧ v = .int .i64 k ∧ Hid (Below W5.heap.size W5 wr)) (fun v _ => n - (intOf v).toNat)
  case atStart => exact ⟨0, Nat.zero_le _, rfl, below_refl _⟩
  case round =>
    obtain ⟨k, hk, rfl, HW⟩ := hrel
    rename World => wr
    have p2 : wr.cell? ⟨w.heap.size, 2, none⟩ = some (.slice a1 n c1) := block_cell Hg1.out HW.out
    have q2 : wr.cell? ⟨w.heap.size + 1, 2, none⟩ = some (.slice a2 n c2) := block_cell Hg2.out HW.out
    by_cases hlt : k < n
    · obtain ⟨ga, oa, rfl, hca⟩ := (H1.out.below HW.out).at (by omega)
      obtain ⟨gb, ob, rfl, hcb⟩ := (H2.out.below HW.out).at (by omega)
      have hck := hca k hlt
      have hdk := hcb k hlt
      unfold u32s at hck hdk
      have j1 : (0 : Int) ≤ (k : Int) := by omega
      have j2 : (k : Int) < (n : Int) := by omega
      have hnn : (((L k : Nat) : Int) != ((L k : Nat) : Int)) = false := by simp
      clear hca hcb H1 H2 Hg1 Hg2
      go_wp2
      go_quiet (fail)
      go_wp2
      go_roundw
      case rel => exact ⟨k + 1, by omega, by go_num, below_drewN HW.out _⟩
      case measure => simp [intOf]; omega
    · obtain rfl : k = n := by omega
      clear H1 H2 Hg1 Hg2
      go_wp2
      go_ret
      exact ⟨rfl, below_step HB.out HW.out⟩
end Go.Proofs.YtjdbapkmaggllaaGreatDoor

namespace Go.Proofs.YtjdbapkmaggllaaGreatDoor
open Go.RowKit Fo
set_option maxRecDepth 100000

theorem Fo.Rd.trim {w : World} {a : Option Addr} {n c : Nat} {L : Nat → Nat} {M : Nat} (h : Rd w a n c (u32s L)) (hL : ∀ j, L j < 4294967296) (hM : lv L n = M) : ln M ≤ n ∧ Rd w a (ln M) c (u32s (dg M)) := by
  have h1 : ln M ≤ n := by rw [← hM]; exact ln_le n _ (lv_lt n (fun j _ => hL j))
  refine ⟨h1, (h.head _ h1).congr fun j hj => ?_⟩
  unfold u32s
  rw [← hM, dg_lv L n (fun j _ => hL j) j (by omega)]
theorem trim_any (a : Option Addr) (n c : Nat) (L : Nat → Nat) (w : World) (hr : Rd w a n c (u32s L)) (hL : ∀ j, L j < 4294967296) (M : Nat) (hM : lv L n = M) :
    Calls Tryz.prog 71 #[.slice a n c] w fun e w' => e = .returned (.slice a (ln M) c) ∧ w' = w := by
  have HR : Hid (Rd w a n c (u32s L)) := hr
  have HM : Hid (lv L n = M) := hM
  have hcc : n ≤ c := hr.1
  have hcm : c ≤ 9223372036854775807 := hr.2.1
  clear hr hM
  go_enter Tryz.func71, Tryz.ntmps71
  go_wp2
  go_loop [0] (fun v => ∃ k : Nat, k ≤ n ∧ v = .slice a k c ∧ Hid (∀ j, k ≤ j → j < n → L j = 0)) (fun v => sLen v)
  case atStart => exact ⟨n, Nat.le_refl _, rfl, fun j h1 h2 => absurd h2 (by omega)⟩
  case round =>
    obtain ⟨k, hk, rfl, HK⟩ := hrel
    by_cases h0 : k = 0
    · subst h0
      have HE : Hid (0 = ln M) := (clean_worth L n 0 M hL HM.out hk HK.out (Or.inl rfl)).1
      clear HR hL HM HK
      go_wp2
      go_ret
      rw [← HE.out]
      exact ⟨rfl, rfl⟩
    · obtain ⟨b, off, rfl, hcell⟩ := HR.out.at (by omega)
      have hck := hcell (k - 1) (by omega)
      unfold u32s at hck
      clear hcell
      by_cases hz : L (k - 1) = 0
      · rw [hz] at hck
        have HK' : Hid (∀ j, k - 1 ≤ j → j < n → L j = 0) := fun j h1 h2 => by
          by_cases e : j = k - 1
          · rw [e]; exact hz
          · exact HK.out j (by omega) h2
        clear HK hz HR hL HM
        go_wp2
        go_round
        case rel => exact ⟨k - 1, by omega, by go_num, HK'⟩
        case measure => simp [sLen]; omega
      · have hz' : (((L (k - 1) : Nat) : Int) == 0) = false := by simp; omega
        have HE : Hid (k = ln M) := (clean_worth L n k M hL HM.out hk HK.out (Or.inr hz)).1
        clear HR hL HM HK hz
        go_wp2
        go_ret
        rw [← HE.out]
        exact ⟨rfl, rfl⟩
theorem number_any (a : Option Addr) (n c : Nat) (L : Nat → Nat) (w : World) (hr : Rd w a n c (u32s L)) (hL : ∀ j, L j < 4294967296) (M : Nat) (hM : lv L n = M) :
    Calls Tryz.prog 60 #[.slice a n c] w fun e w' => (∃ u, e = .returned u ∧ NOut w' u (some M)) ∧ Below w.heap.size w w' := by
  have HR : Hid (Rd w a n c (u32s L)) := hr
  have HM : Hid (lv L n = M) := hM
  have HL : Hid (∀ j, L j < 4294967296) := hL
  have HT : Hid (Rd w a (ln M) c (u32s (dg M))) := (hr.trim hL hM).2
  have hcc : ln M ≤ c := HT.out.1
  have hcm : c ≤ 9223372036854775807 := hr.2.1
  clear hr hM hL
  go_enter Tryz.func60, Tryz.ntmps60
  go_wp2_with (go_at_call 71; refine (trim_any a n c L _ (HR.out.below ((below_refl w).alloc (Nat.le_refl _) _)) HL.out M HM.out).mono ?_; rintro e w' ⟨rfl, rfl⟩)
  · have h0 : ln M = 0 := by
      have hh : (((ln M : Nat) : Int) == 0) = true := by assumption
      simpa using hh
    have HB := (below_refl w).alloc (Nat.le_refl _) (.cells #[.bool false, .slice none 0 0] 24)
    refine bodyPost_ret (v := .agg #[.bool false, .slice none 0 0]) (by simp [results, Tryz.results60, go_sem]) rfl ⟨⟨_, rfl, Or.inr ⟨M, none, 0, rfl, by rw [h0], ?_⟩⟩, HB⟩
    rw [h0]; exact Rd.empty _ _ _ (by decide) _
  · have HB := (below_refl w).alloc (Nat.le_refl _) (.cells #[.bool false, .slice a (ln M) c] 24)
    refine bodyPost_ret (v := .agg #[.bool false, .slice a (ln M) c]) (by simp [results, Tryz.results60, go_sem]) rfl ⟨⟨_, rfl, Or.inr ⟨M, a, c, rfl, rfl, HT.out.below HB⟩⟩, HB⟩
theorem inf_any (w : World) : Calls Tryz.prog 34 #[] w fun e w' => (e = .returned (.agg #[.bool true, .slice none 0 0])) ∧ Below w.heap.size w w' := by
  have HB := (below_refl w).alloc (Nat.le_refl _) (.cells #[.bool true, .slice none 0 0] 24)
  go_enter Tryz.func34, Tryz.ntmps34
  go_wp2
  exact bodyPost_ret (v := .agg #[.bool true, .slice none 0 0]) (by simp [results, Tryz.results34, go_sem]) rfl ⟨rfl, HB⟩
theorem Fo.NOut.keep {w : World} {g : Nat} {i0 : Bool} {a0 : Option Addr} {n0 c0 : Nat} {t : TypeId} {u : Value} {X : Option Nat} (h : NOut w u X) (hg : w.heap[g]? = some (.cells #[.bool i0, .slice a0 n0 c0] t)) (i : Bool) (y : Value) : NOut ((w.setCell ⟨g, 0, none⟩ (.bool i)).setCell ⟨g, 1, none⟩ y) u X := h.set hg i y
theorem of_rd (m : Nat) (w : World) : Rd ((w.alloc (.cells #[.bool false, .slice none 0 0] 24)).alloc (.cells #[.int .u32 ((m : Int) % 4294967296), .int .u32 ((m : Int) / 4294967296)] 66)) (some ⟨w.heap.size + 1, 0, none⟩) 2 2 (u32s (fun j => if j = 0 then m % 4294967296 else m / 4294967296)) := by
  refine ⟨by decide, by decide, Or.inr ⟨_, _, rfl, fun j hj => ?_⟩⟩
  have h : ((w.alloc (.cells #[.bool false, .slice none 0 0] 24)).alloc (.cells #[.int .u32 ((m : Int) % 4294967296), .int .u32 ((m : Int) / 4294967296)] 66)).heap[w.heap.size + 1]? = some (.cells #[.int .u32 ((m : Int) % 4294967296), .int .u32 ((m : Int) / 4294967296)] 66) := heap_2nd w _ _
  unfold u32s
  match j, hj with
  | 0, _ => exact (box_facts h).1.trans (by simp)
  | 1, _ => exact (box_facts h).2.1.trans (by simp)
theorem of_any (m : Nat) (hm : m < 18446744073709551616) (w : World) : Calls Tryz.prog 33 #[.int .u64 m] w fun e w' => (∃ u, e = .returned u ∧ NOut w' u (some m)) ∧ Below w.heap.size w w' := by
  have hsh : (m : Int) >>> 32 = ((m / 4294967296 : Nat) : Int) := by
    rw [Int.shiftRight_eq_div_pow]; omega
  have hlo : IntKind.u32.wrap (m : Int) = ((m % 4294967296 : Nat) : Int) := by rw [IntKind.wrap_u32]; omega
  have hhi : IntKind.u32.wrap (((m / 4294967296 : Nat) : Int)) = ((m / 4294967296 : Nat) : Int) := by rw [IntKind.wrap_u32]; omega
  go_enter Tryz.func33, Tryz.ntmps33
  go_wp2_with (go_at_call 60; fail)
  refine (number_any _ 2 2 (fun j => if j = 0 then m % 4294967296 else m / 4294967296) _ (of_rd m w) (fun j => by show (if j = 0 then m % 4294967296 else m / 4294967296) < 4294967296; split <;> omega) m (of_lv m)).mono ?_
  rintro e w2 ⟨⟨u, rfl, hu⟩, hB⟩
  have hg2 : w2.heap[w.heap.size]? = some (.cells #[.bool false, .slice none 0 0] 24) := (hB.block _ (by simp; omega)).trans (heap_1st w _ _)
  obtain ⟨b0, b1, b2, b3, b4, b5⟩ := box_facts hg2
  have HG : Hid (w2.heap[w.heap.size]? = some (.cells #[.bool false, .slice none 0 0] 24)) := hg2
  have HU : Hid (NOut w2 u (some m)) := hu
  have HB : Hid (Below w.heap.size w w2) := below_step (below2 w _ _) hB
  obtain ⟨i, a, n, c, rfl, -, -, -⟩ := hu.form
  clear hg2 hu hB
  go_wp2
  refine bodyPost_ret (v := .agg #[.bool i, .slice a n c]) (by simp [results, Tryz.results33, go_sem, b4, b5]) rfl ⟨⟨_, rfl, HU.out.set HG.out i _⟩, below_set HB.out (Nat.le_refl _) _ _⟩
theorem iszero_any (w : World) (v : Value) (X : Option Nat) (h : NIn w v X) : Calls Tryz.prog 78 #[v] w fun e w' => e = .returned (.bool (decide (X = some 0))) ∧ Below w.heap.size w w' := by
  obtain ⟨i, a, n, c, L, rfl, hr, hL, hn, rfl⟩ := h
  have HB : Hid (Below w.heap.size w (w.alloc (.cells #[.bool i, .slice a n c] 24))) := (below_refl w).alloc (Nat.le_refl _) _
  have HR : Hid (Rd (w.alloc (.cells #[.bool i, .slice a n c] 24)) a n c (u32s L)) := hr.below HB.out
  have HL : Hid (∀ j, L j < 4294967296) := hL
  clear hr hL
  cases i
  · have HE : Hid ((((ln (lv L n) : Nat) : Int) == 0) = decide (lv L n = 0)) := by
      show (((ln (lv L n) : Nat) : Int) == 0) = decide (lv L n = 0)
      rw [Bool.eq_iff_iff]
      simp only [beq_iff_eq, decide_eq_true_eq]
      constructor
      · intro h
        rcases Nat.eq_zero_or_pos (lv L n) with h0 | h0
        · exact h0
        · have := ln_pos (lv L n) (by omega); omega
      · intro h; rw [h, ln_zero]; rfl
    go_enter Tryz.func78, Tryz.ntmps78
    go_wp2_with (go_at_call 71; refine (trim_any a n c L _ HR.out HL.out (lv L n) rfl).mono ?_; rintro e w' ⟨rfl, rfl⟩)
    all_goals go_ret
    all_goals exact ⟨ret_bool HE.out, HB.out⟩
  · go_enter Tryz.func78, Tryz.ntmps78
    go_wp2
    go_ret
    exact ⟨rfl, HB.out⟩
end Go.Proofs.YtjdbapkmaggllaaGreatDoor
