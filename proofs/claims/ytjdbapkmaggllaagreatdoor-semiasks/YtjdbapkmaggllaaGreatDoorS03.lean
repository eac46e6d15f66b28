/- A number as an argument, opened; and that it is as it was. The document's own Compare, OfNat and May. -/
import Derived.Test.YtjdbapkmaggllaaGreatDoorS02
import Derived.ProofKit
import Derived.OpenShut
import Derived.Deep.Slices
import Derived.BigQuiet
namespace Go.Proofs.YtjdbapkmaggllaaGreatDoor
open Go.ChangeShapes Go.WideShapes Go.ChangeAt Go.RowKit Fo
set_option maxRecDepth 100000

theorem laidOut : laidOutB Tryz.prog = true := by kernel_rfl
theorem u32_of_trod {H : Type} {enc : TypeId × Value → H} {w : World} {base : Nat} {sp : Nat → Bool} {held : Bool} {n : Nat} {v : Value} {x : DataW H × List MemPlace}
    (h : DataW.trod enc Tryz.prog w base sp held n 66 [v] = some x) : ∃ b : Nat, v = .int .u32 (b : Int) ∧ b < 4294967296 := by
  cases n with
  | zero => simp [DataW.trod] at h
  | succ n =>
    simp only [DataW.trod, Tryz.underlying66] at h
    cases v <;> simp at h
    rename_i k b
    obtain ⟨⟨rfl, hw⟩, -⟩ := h
    simp [Lit.wf, IntKind.min, IntKind.max, IntKind.signed, IntKind.bits] at hw
    exact ⟨b.toNat, by congr 1; omega, by omega⟩
theorem open_u32s {H : Type} {enc : TypeId × Value → H} {W : World} {fuel : Nat} {cs : List Value} {x : DataW H × List MemPlace}
    (hf : DataW.trod enc Tryz.prog W 0 (fun _ => true) true fuel 22 cs = some x) :
    ∃ a n c L, cs = [.slice a n c] ∧ Rd W a n c (u32s L) ∧ ∀ j, L j < 4294967296 := by
  rcases Deep.open_slice1 Tryz.underlying22 (by kernel_rfl) hf with ⟨hcs, -⟩ | ⟨a, len, cap, m, n, V, D, Pl, hcs, -, hl, hm, hmm, -, hV⟩
  · exact ⟨none, 0, 0, fun _ => 0, hcs, Rd.empty _ _ _ (by decide) _, fun _ => Nat.lt_of_lt_of_le Nat.zero_lt_one (by decide)⟩
  · by_cases h0 : len = 0
    · exact ⟨some a, len, cap, fun _ => 0, hcs, ⟨hl, by unfold maxLen at hm; omega, Or.inl h0⟩, fun _ => Nat.lt_of_lt_of_le Nat.zero_lt_one (by decide)⟩
    simp only [if_true] at hmm
    subst hmm
    obtain ⟨b, off, spot⟩ := a
    have hspot : spot = none := by simpa [Addr.add] using World.cell?_spot (hV 0 (by omega)).1
    subst hspot
    have hX : ∀ j, ∃ y : Nat, y < 4294967296 ∧ (j < len → V j = .int .u32 (y : Int)) := fun j => by
      by_cases hj : j < len
      · obtain ⟨y, e, hy⟩ := u32_of_trod (hV j (by omega)).2
        exact ⟨y, hy, fun _ => e⟩
      · exact ⟨0, by decide, fun h => absurd h hj⟩
    refine ⟨some ⟨b, off, none⟩, len, _, fun j => Classical.choose (hX j), hcs, ⟨hl, by unfold maxLen at hm; omega, Or.inr ⟨b, off, rfl, fun j hj => ?_⟩⟩, fun j => (Classical.choose_spec (hX j)).1⟩
    unfold u32s
    rw [← (Classical.choose_spec (hX j)).2 hj, ← add_off]
    exact (hV j (by omega)).1
/-- A number that comes in. -/
theorem open_nat {H : Type} {enc : TypeId × Value → H} {W : World} {base : Nat} {fuel : Nat} {v : Value} {x : DataW H × List MemPlace} (hv : Value.okWide Tryz.prog W .any base 24 v)
    (hf : DataW.trod enc Tryz.prog W 0 (fun _ => true) true fuel 24 v.cells.toList = some x) :
    ∃ i a n c L, v = .agg #[.bool i, .slice a n c] ∧ Rd W a n c (u32s L) ∧ ∀ j, L j < 4294967296 := by
  obtain ⟨cs, rfl, -⟩ := okWide_struct Tryz.underlying24 hv
  obtain ⟨y0, y1, n, -, hlen, h0, h1⟩ := trod_struct2 Tryz.underlying24 hf
  obtain ⟨l⟩ := cs
  have hl2 : l.length = 2 := hlen
  match l, hl2 with
  | [p, q], _ =>
    have e1 : DataW.trod enc Tryz.prog W 0 (fun _ => true) true n 22 [q] = some y1 := h1
    have e0 : DataW.trod enc Tryz.prog W 0 (fun _ => true) true n 4 [p] = some y0 := h0
    obtain ⟨a, k, c, L, e, hr, hL⟩ := open_u32s e1
    obtain rfl : q = .slice a k c := by simpa using e
    obtain ⟨i, rfl⟩ : ∃ i, p = .bool i := by
      cases n with
      | zero => simp [DataW.trod] at e0
      | succ n =>
        simp only [DataW.trod, Tryz.underlying4] at e0
        cases p <;> simp at e0
        exact ⟨_, rfl⟩
    exact ⟨i, a, k, c, L, rfl, hr, hL⟩
theorem nat_stays {H : Type} {enc : TypeId × Value → H} {W W' : World} {v : Value} {d : DataW H} {p : List MemPlace} (sp : Nat → Bool)
    (h : DataW.Trod enc Tryz.prog W 0 (fun _ => true) true 24 v d p) (hs : ∀ x ∈ p, W.sameAt W' x) (hsp : ∀ x ∈ p, sp x.block = true) : DataW.Trod enc Tryz.prog W' 0 sp true 24 v d p :=
  WideElems.Trod_stays laidOut (by kernel_rfl) (of_decide_eq_true (by kernel_rfl)) h hs hsp
end Go.Proofs.YtjdbapkmaggllaaGreatDoor

namespace Go.Proofs.YtjdbapkmaggllaaGreatDoor
open Go.RowKit Fo
set_option maxRecDepth 100000

namespace Fo
/-- Compare, on what numbers are worth. -/
def ocmp : Option Nat → Option Nat → Int
  | none, none => 0
  | none, some _ => 1
  | some _, none => -1
  | some m, some n => if m < n then -1 else if m = n then 0 else 1
theorem NOut.form {w : World} {v : Value} {X : Option Nat} (h : NOut w v X) : ∃ (i : Bool) (a : Option Addr) (n c : Nat), v = .agg #[.bool i, .slice a n c] ∧ n ≤ c ∧ c ≤ 9223372036854775807 ∧ ((i = true ∧ n = 0 ∧ X = none) ∨ ∃ N, i = false ∧ X = some N ∧ n = ln N ∧ Rd w a n c (u32s (dg N))) := by
  rcases h with ⟨rfl, a, c, rfl, hc⟩ | ⟨N, a, c, rfl, rfl, h3⟩
  · exact ⟨true, a, 0, c, rfl, Nat.zero_le _, hc, Or.inl ⟨rfl, rfl, rfl⟩⟩
  · exact ⟨false, a, ln N, c, rfl, h3.1, h3.2.1, Or.inr ⟨N, rfl, rfl, rfl, h3⟩⟩
end Fo
/-- A struct of two cells that was put into a block of its own is still there behind a call. -/
theorem box_cell {W w2 : World} {g : Nat} {x y : Value} {t : TypeId} (h : W.heap[g]? = some (.cells #[x, y] t)) (hB : Below W.heap.size W w2) : w2.cell? ⟨g, 0, none⟩ = some x ∧ w2.cell? ⟨g, 1, none⟩ = some y := by
  have hlt : g < W.heap.size := (Array.getElem?_eq_some_iff.1 h).1
  have h2 : w2.heap[g]? = some (.cells #[x, y] t) := (hB.block g hlt).trans h
  constructor <;> simp [World.cell?, h2]
theorem heap_2nd (w : World) (o1 o2 : Obj) : ((w.alloc o1).alloc o2).heap[w.heap.size + 1]? = some o2 := by
  rw [← (show (w.alloc o1).heap.size = w.heap.size + 1 by simp), heap_alloc_new]
theorem heap_1st (w : World) (o1 o2 : Obj) : ((w.alloc o1).alloc o2).heap[w.heap.size]? = some o1 := by
  rw [Below.heap_alloc _ _ _ (by simp), heap_alloc_new]
/-- What Compare comes to where both numbers have as many digits. -/
theorem cmp_top (M N k : Nat) (hk : k < ln M) (hl : ln M = ln N) (he : ∀ j, k < j → j < ln M → dg M j = dg N j) (h : dg M k < dg N k) : M < N := by
  have h1 := lv_lt_of (dg M) (dg N) k (fun j _ => dg_lt M j) h (ln M) hk he
  rw [lv_ln] at h1
  rw [hl, lv_ln] at h1
  exact h1
theorem cmp_all (M N : Nat) (hl : ln M = ln N) (he : ∀ j, j < ln M → dg M j = dg N j) : M = N := by
  have h1 := lv_congr (ln M) he
  rw [lv_ln] at h1
  rw [hl, lv_ln] at h1
  exact h1
theorem ret_cmp {a b : Int} (h : a = b) : Ending.returned (.int .i64 a) = .returned (.int .i64 b) := by rw [h]
theorem rcompare_any (w : World) (v1 v2 : Value) (X1 X2 : Option Nat) (h1 : NIn w v1 X1) (h2 : NIn w v2 X2) :
    Calls Tryz.prog 47 #[v1, v2] w fun e w' => e = .returned (.int .i64 (ocmp X1 X2)) ∧ Below w.heap.size w w' := by
  have H1 : Hid (NIn w v1 X1) := h1
  have H2 : Hid (NIn w v2 X2) := h2
  obtain ⟨i1, a1, n1, c1, L1, rfl, -⟩ := h1
  obtain ⟨i2, a2, n2, c2, L2, rfl, -⟩ := h2
  go_enter Tryz.func47, Tryz.ntmps47
  go_wp2_with (go_at_call 62; fail)
  refine (clean_any _ _ X1 (H1.out.below (below2 w _ _))).mono ?_
  rintro e w2 ⟨⟨u, rfl, hu⟩, hB⟩
  obtain ⟨i, a, n, c, rfl, hnc, hcc, hX⟩ := hu.form
  have hx := box_cell (heap_2nd w _ _) hB
  have HB2 : Hid (Below w.heap.size w w2) := below_step (below2 w _ _) hB
  have hx0 := hx.1
  have hx1 := hx.2
  have hs2 : w.heap.size + 1 < w2.heap.size := by have := hB.size; simp at this; omega
  clear hx hu hB
  go_wp2_with (go_at_call 62; fail)
  refine (clean_any _ _ X2 (H2.out.below (HB2.out.alloc HB2.out.size _))).mono ?_
  rintro e w4 ⟨⟨u, rfl, hu⟩, hB⟩
  obtain ⟨j, b, m, d, rfl, hmd, hdd, hY⟩ := hu.form
  have hy := box_cell (heap_alloc_new w2 _) hB
  have HB4' : Hid (Below (w2.alloc (.cells #[.bool i, .slice a n c] 24)).heap.size (w2.alloc (.cells #[.bool i, .slice a n c] 24)) w4) := hB
  have HB4 : Hid (Below w2.heap.size w2 w4) := below_step ((below_refl w2).alloc (Nat.le_refl _) _) hB
  have hy0 := hy.1
  have hy1 := hy.2
  have hs4 : w2.heap.size < w4.heap.size := by have := hB.size; simp at this; omega
  have HBB : Hid (Below w.heap.size w (w4.alloc (.cells #[.bool j, .slice b m d] 24))) := (below_step HB2.out HB4.out).alloc (below_step HB2.out HB4.out).size _
  clear hy hu hB H1 H2 hx0 hx1 hs2
  rcases hX with ⟨rfl, rfl, rfl⟩ | ⟨N, rfl, rfl, hn, hRn⟩ <;> rcases hY with ⟨rfl, rfl, rfl⟩ | ⟨M, rfl, rfl, hm, hRm⟩
  · go_wp2
    go_ret
    exact ⟨rfl, HBB.out⟩
  · clear hRm hm
    go_wp2
    go_ret
    exact ⟨rfl, HBB.out⟩
  · clear hRn hn
    go_wp2
    go_ret
    exact ⟨rfl, HBB.out⟩
  · by_cases hlen : n = m
    · subst hlen
      have HRn : Hid (Rd (w4.alloc (.cells #[.bool false, .slice b n d] 24)) a n c (u32s (dg N))) := (hRn.below HB4.out).below ((below_refl w4).alloc (Nat.le_refl _) _)
      have HRm : Hid (Rd (w4.alloc (.cells #[.bool false, .slice b n d] 24)) b n d (u32s (dg M))) := hRm.below ((below_refl w4).alloc (Nat.le_refl _) _)
      have HN : Hid (n = ln N ∧ n = ln M) := ⟨hn, hm⟩
      clear hRn hRm hn hm
      have Hg2 : Hid ((w4.alloc (.cells #[.bool false, .slice b n d] 24)).heap[w2.heap.size]? = some (.cells #[.bool false, .slice a n c] 24)) := by
        show (w4.alloc _).heap[w2.heap.size]? = _
        rw [Below.heap_alloc _ _ _ hs4, HB4'.out.block _ (by simp), heap_alloc_new]
      have Hg4 : Hid ((w4.alloc (.cells #[.bool false, .slice b n d] 24)).heap[w4.heap.size]? = some (.cells #[.bool false, .slice b n d] 24)) := heap_alloc_new w4 _
      go_wp2
      obtain ⟨W5, hW5⟩ : ∃ W5, W5 = w4.alloc (.cells #[.bool false, .slice b n d] 24) := ⟨_, rfl⟩
      rw [← hW5] at HRn HRm Hg2 Hg4 HBB ⊢
      clear hW5 hy0 hy1 HB4'
      go_loopw [7] (fun vi wr => ∃ k : Nat, k ≤ n ∧ vi = .int .i64 ((k : Int) - 1) ∧ Hid (Below W5.heap.size W5 wr) ∧ Hid (∀ j, k ≤ j → j < n → dg N j = dg M j)) (fun vi _ => (intOf vi + 1).toNat)
      case atStart => exact ⟨n, Nat.le_refl _, by go_num, below_refl _, fun j h1 h2 => absurd h2 (by omega)⟩
      case round =>
        obtain ⟨k, hk, rfl, HW, HK⟩ := hrel
        rename World => wr
        have hz := box_cell Hg2.out HW.out
        have hz' := box_cell Hg4.out HW.out
        have z0 := hz.1
        have z1 := hz.2
        have z2 := hz'.1
        have z3 := hz'.2
        clear hz hz'
        by_cases h0 : k = 0
        · subst h0
          have HE : Hid ((0 : Int) = ocmp (some N) (some M)) := by
            have e : N = M := cmp_all N M (HN.out.1.symm.trans HN.out.2) (fun j hj => HK.out j (by omega) (by rw [HN.out.1]; exact hj))
            show (0 : Int) = if N < M then (-1 : Int) else if N = M then 0 else 1
            rw [e, if_neg (by omega), if_pos rfl]
          clear HK HN HRn HRm Hg2 Hg4
          go_wp2
          go_ret
          exact ⟨ret_cmp HE.out, below_step HBB.out HW.out⟩
        · obtain ⟨q, rfl⟩ : ∃ q, k = q + 1 := ⟨k - 1, by omega⟩
          obtain ⟨ga, oa, rfl, hca⟩ := (HRn.out.below HW.out).at (by omega)
          obtain ⟨gb, ob, rfl, hcb⟩ := (HRm.out.below HW.out).at (by omega)
          have hck := hca q (by omega)
          have hdk := hcb q (by omega)
          unfold u32s at hck hdk
          have i1 : (0 : Int) ≤ (q : Int) := by omega
          have i2 : (q : Int) < (n : Int) := by omega
          have hq : ((q + 1 : Nat) : Int) - 1 = (q : Int) := by omega
          rw [hq]
          clear hca hcb HRn HRm Hg2 Hg4 h0 hq
          rcases Nat.lt_trichotomy (dg N q) (dg M q) with hc | hc | hc
          · have HE : Hid ((-1 : Int) = ocmp (some N) (some M)) := by
              have e : N < M := cmp_top N M q (by rw [← HN.out.1]; omega) (HN.out.1.symm.trans HN.out.2) (fun j h1 h2 => HK.out j (by omega) (by rw [HN.out.1]; exact h2)) hc
              show (-1 : Int) = if N < M then (-1 : Int) else if N = M then 0 else 1
              rw [if_pos e]
            have hb1 : (((dg N q : Nat) : Int) != ((dg M q : Nat) : Int)) = true := by simp; omega
            have hb2 : ((dg N q : Nat) : Int) < ((dg M q : Nat) : Int) := by omega
            clear HK HN hc
            go_wp2
            go_quiet (fail)
            go_wp2
            go_quiet (fail)
            go_wp2
            go_ret
            exact ⟨ret_cmp HE.out, below_step HBB.out (below_drewN (below_drewN HW.out _) _)⟩
          · have HK' : Hid (∀ j, q ≤ j → j < n → dg N j = dg M j) := fun j h1 h2 => by
              by_cases e : j = q
              · rw [e]; exact hc
              · exact HK.out j (by omega) h2
            rw [hc] at hck
            have hb1 : (((dg M q : Nat) : Int) != ((dg M q : Nat) : Int)) = false := by simp
            clear HK HN hc
            go_wp2
            go_quiet (fail)
            go_wp2
            go_roundw
            case rel => exact ⟨q, by omega, by go_num, below_drewN HW.out _, HK'⟩
            case measure => simp [intOf]
          · have HE : Hid ((1 : Int) = ocmp (some N) (some M)) := by
              have e : M < N := cmp_top M N q (by rw [← HN.out.2]; omega) (HN.out.2.symm.trans HN.out.1) (fun j h1 h2 => (HK.out j (by omega) (by rw [HN.out.2]; exact h2)).symm) hc
              show (1 : Int) = if N < M then (-1 : Int) else if N = M then 0 else 1
              rw [if_neg (by omega), if_neg (by omega)]
            have hb1 : (((dg N q : Nat) : Int) != ((dg M q : Nat) : Int)) = true := by simp; omega
            have hb2 : ¬ ((dg N q : Nat) : Int) < ((dg M q : Nat) : Int) := by omega
            clear HK HN hc
            go_wp2
            go_quiet (fail)
            go_wp2
            go_quiet (fail)
            go_wp2
            go_ret
            exact ⟨ret_cmp HE.out, below_step HBB.out (below_drewN (below_drewN HW.out _) _)⟩
    · have HE : Hid ((if (n : Int) < (m : Int) then (-1 : Int) else 1) = ocmp (some N) (some M)) := by
        show (if (n : Int) < (m : Int) then (-1 : Int) else 1) = if N < M then (-1 : Int) else if N = M then 0 else 1
        by_cases h : n < m
        · have := ln_lt (M := N) (N := M) (by omega)
          rw [if_pos (by omega), if_pos this]
        · have := ln_lt (M := M) (N := N) (by omega)
          rw [if_neg (by omega), if_neg (by omega), if_neg (by omega)]
      have hne : ((n : Int) != (m : Int)) = true := by simp; omega
      clear hRn hRm hn hm
      by_cases h : (n : Int) < (m : Int)
      · rw [if_pos h] at HE
        go_wp2
        go_ret
        exact ⟨ret_cmp HE.out, HBB.out⟩
      · rw [if_neg h] at HE
        go_wp2
        go_ret
        exact ⟨ret_cmp HE.out, HBB.out⟩
end Go.Proofs.YtjdbapkmaggllaaGreatDoor
