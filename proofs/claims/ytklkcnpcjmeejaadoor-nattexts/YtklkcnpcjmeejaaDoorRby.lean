/- The document's own BytesNat. -/
import Derived.Test.YtklkcnpcjmeejaaDoorByt
import Derived.Test.YtklkcnpcjmeejaaDoorBlk
import Derived.Deep.RegionHeld3
namespace Go.Proofs.YtklkcnpcjmeejaaDoor
open Go.RowKit Fo
set_option maxRecDepth 100000

theorem rbytes_no (i : Bool) (a : Option Addr) (n c : Nat) (L : Nat → Nat) (w : World) (hr : Rd w a n c (u32s L)) (hn1 : n ≤ 1000) (hm : mayB i n L = false) :
    Calls Tryd.prog 26 #[.agg #[.bool i, .slice a n c]] w fun e w' => BOut w w' e i n L ∧ Below w.heap.size w w' := by
  have HB : Hid (Below w.heap.size w (w.alloc (.cells #[.bool i, .slice a n c] 24))) := (below_refl w).alloc (Nat.le_refl _) _
  have HM := rmay_any i a n c L (w.alloc (.cells #[.bool i, .slice a n c] 24)) (hr.below HB.out) (by omega)
  rw [hm] at HM
  have HR : Hid (BR i n L 0 (fun _ => 0) 16) := Or.inl ⟨hm, rfl, rfl⟩
  clear hr hm
  go_enter Tryd.func26, Tryd.ntmps26
  go_wp2_with (go_at_call 20; refine HM.mono ?_; rintro e w1 ⟨rfl, b1⟩)
  go_ret2
  exact ⟨⟨none, 0, 0, fun _ => 0, 16, rfl, Ow.nil _ _ _ _, HR.out⟩, below_step HB.out b1⟩
theorem rbytes_inf (a : Option Addr) (n c : Nat) (L : Nat → Nat) (w : World) (hr : Rd w a n c (u32s L)) (hm : mayB true n L = true) :
    Calls Tryd.prog 26 #[.agg #[.bool true, .slice a n c]] w fun e w' => BOut w w' e true n L ∧ Below w.heap.size w w' := by
  have hn0 : n = 0 := by
    unfold mayB at hm
    simpa using hm
  have HB : Hid (Below w.heap.size w (w.alloc (.cells #[.bool true, .slice a n c] 24))) := (below_refl w).alloc (Nat.le_refl _) _
  have HM := rmay_any true a n c L (w.alloc (.cells #[.bool true, .slice a n c] 24)) (hr.below HB.out) (by omega)
  rw [hm] at HM
  have Hg : Hid ((w.alloc (.cells #[.bool true, .slice a n c] 24)).heap[w.heap.size]? = some (.cells #[.bool true, .slice a n c] 24)) := heap_alloc_new _ _
  have HR : Hid (BR true n L 1 (fun _ => 255) 0) := Or.inr (Or.inl ⟨hm, rfl, rfl, rfl, rfl⟩)
  clear hr hm
  subst hn0
  go_enter Tryd.func26, Tryd.ntmps26
  go_wp2_with (go_at_call 20; fail)
  refine HM.mono ?_
  rintro e w1 ⟨rfl, b1⟩
  obtain ⟨x0, x1⟩ := box_cell Hg.out b1
  have HB1 : Hid (Below w.heap.size w w1) := below_step HB.out b1
  clear b1 HM
  go_wp2
  go_ret2
  exact ⟨⟨_, 1, 1, fun _ => 255, 0, rfl, one_ow8 _ _ 255 HB1.out.size _ rfl, HR.out⟩, HB1.out.alloc HB1.out.size _⟩
theorem rbytes_big (a : Option Addr) (n c : Nat) (L : Nat → Nat) (w : World) (hr : Rd w a n c (u32s L)) (hn1 : n ≤ 1000) (hm : mayB false n L = true) (hn : 64 < n) :
    Calls Tryd.prog 26 #[.agg #[.bool false, .slice a n c]] w fun e w' => BOut w w' e false n L ∧ Below w.heap.size w w' := by
  have HB : Hid (Below w.heap.size w (w.alloc (.cells #[.bool false, .slice a n c] 24))) := (below_refl w).alloc (Nat.le_refl _) _
  have HM := rmay_any false a n c L (w.alloc (.cells #[.bool false, .slice a n c] 24)) (hr.below HB.out) (by omega)
  rw [hm] at HM
  have Hg : Hid ((w.alloc (.cells #[.bool false, .slice a n c] 24)).heap[w.heap.size]? = some (.cells #[.bool false, .slice a n c] 24)) := heap_alloc_new _ _
  have HR : Hid (BR false n L 0 (fun _ => 0) 5) := Or.inr (Or.inr (Or.inl ⟨hm, rfl, hn, rfl, rfl⟩))
  have hn' : (64 : Int) < (n : Int) := by omega
  clear hr hm hn
  go_enter Tryd.func26, Tryd.ntmps26
  go_wp2_with (go_at_call 20; fail)
  refine HM.mono ?_
  rintro e w1 ⟨rfl, b1⟩
  obtain ⟨x0, x1⟩ := box_cell Hg.out b1
  have HB1 : Hid (Below w.heap.size w w1) := below_step HB.out b1
  clear b1 HM
  go_wp2
  go_ret2
  exact ⟨⟨none, 0, 0, fun _ => 0, 5, rfl, Ow.nil _ _ _ _, HR.out⟩, HB1.out⟩
theorem four_rd (w : World) (x0 x1 x2 x3 : Nat) (F : Nat → Nat) (h0 : F 0 = x0) (h1 : F 1 = x1) (h2 : F 2 = x2) (h3 : F 3 = x3) : Rd (w.alloc (.cells #[.int .u8 (x0 : Int), .int .u8 (x1 : Int), .int .u8 (x2 : Int), .int .u8 (x3 : Int)] 5)) (some ⟨w.heap.size, 0, none⟩) 4 4 (u8s F) := by
  refine ⟨Nat.le_refl _, by decide, Or.inr ⟨_, _, rfl, fun j hj => ?_⟩⟩
  rw [World.cell?_alloc_new]
  unfold u8s
  match j, hj with
  | 0, _ => rw [h0]; rfl
  | 1, _ => rw [h1]; rfl
  | 2, _ => rw [h2]; rfl
  | 3, _ => rw [h3]; rfl
theorem bnat_cat4 (L : Nat → Nat) (n k x : Nat) (hx : x = L k) (j : Nat) (hj : j < 1 + 4 * (k + 1)) : catV (u8s (bnat L n)) (1 + 4 * k) (u8s fun r => x / 256 ^ r % 256) j = u8s (bnat L n) j := by
  unfold catV
  split
  · rfl
  · unfold u8s bnat
    rw [if_neg (by omega), show (j - 1) / 4 = k by omega, show (j - 1) % 4 = j - (1 + 4 * k) by omega, hx]
theorem rd_at {w : World} {g o n c : Nat} {L : Nat → Nat} (h : Rd w (some ⟨g, o, none⟩) n c (u32s L)) (k : Nat) (hk : k < n) (x : Nat) (hx : x = L k) : w.cell? ⟨g, o + k, none⟩ = some (.int .u32 (x : Int)) := by
  obtain ⟨b, off, e, hc⟩ := h.at (by omega)
  obtain ⟨rfl, rfl⟩ : g = b ∧ o = off := by simpa using e
  rw [hx]; exact hc k hk
set_option maxHeartbeats 16000000 in
theorem rbytes_good (a : Option Addr) (n c : Nat) (L : Nat → Nat) (w : World) (hr : Rd w a n c (u32s L)) (hL : ∀ j, L j < 4294967296) (hm : mayB false n L = true) (hn : n ≤ 64) :
    Calls Tryd.prog 26 #[.agg #[.bool false, .slice a n c]] w fun e w' => BOut w w' e false n L ∧ Below w.heap.size w w' := by
  have HB : Hid (Below w.heap.size w (w.alloc (.cells #[.bool false, .slice a n c] 24))) := (below_refl w).alloc (Nat.le_refl _) _
  have HM := rmay_any false a n c L (w.alloc (.cells #[.bool false, .slice a n c] 24)) (hr.below HB.out) (by omega)
  rw [hm] at HM
  have Hg : Hid ((w.alloc (.cells #[.bool false, .slice a n c] 24)).heap[w.heap.size]? = some (.cells #[.bool false, .slice a n c] 24)) := heap_alloc_new _ _
  have HR : Hid (BR false n L (1 + 4 * n) (bnat L n) 0) := Or.inr (Or.inr (Or.inr ⟨hm, rfl, hn, rfl, rfl, rfl⟩))
  have hn' : ¬ (64 : Int) < (n : Int) := by omega
  have HRd : Hid (Rd w a n c (u32s L)) := hr
  have HL : Hid (∀ j, L j < 4294967296) := hL
  have hw8 : IntKind.u8.wrap (n : Int) = (n : Int) := by rw [IntKind.wrap_u8]; omega
  clear hr hL hm
  go_enter Tryd.func26, Tryd.ntmps26
  go_wp2_with (go_at_call 20; fail)
  refine HM.mono ?_
  rintro e w1 ⟨rfl, b1⟩
  obtain ⟨x0, x1⟩ := box_cell Hg.out b1
  have hg1 := (b1.block _ (by simp)).trans Hg.out
  have Hg1 : Hid (w1.heap[w.heap.size]? = some (.cells #[.bool false, .slice a n c] 24)) := hg1
  have x2 : ∀ o, (w1.alloc o).cell? ⟨w.heap.size, 1, none⟩ = some (.slice a n c) := fun o => (World.cell?_alloc_some w1 _ o (by rw [x1]; rfl)).trans x1
  have hs1 : w.heap.size < w1.heap.size := by have := b1.size; simp at this; omega
  have HB1 : Hid (Below w.heap.size w w1) := below_step HB.out b1
  clear b1 HM hg1
  go_wp2
  have HO0 : Hid (Ow 5 w1.heap.size (w1.alloc (.cells #[.int .u8 (n : Int)] 5)) (.slice (some ⟨w1.heap.size, 0, none⟩) 1 1) 1 (u8s (bnat L n))) := one_ow8 _ _ n (Nat.le_refl _) _ rfl
  have HB2 : Hid (Below w1.heap.size w1 (w1.alloc (.cells #[.int .u8 (n : Int)] 5))) := (below_refl w1).alloc (Nat.le_refl _) _
  go_loopw [4, 5] (fun v4 v5 wq => ∃ (k : Nat) (a4 : Option Addr) (c4 : Nat), k ≤ n ∧ v5 = .int .i64 k ∧ v4 = .slice a4 (1 + 4 * k) c4 ∧ Hid (Below w1.heap.size w1 wq) ∧ Hid (Ow 5 w1.heap.size wq (.slice a4 (1 + 4 * k) c4) (1 + 4 * k) (u8s (bnat L n)))) (fun _ v5 _ => n - (intOf v5).toNat)
  case atStart => exact ⟨0, _, 1, Nat.zero_le _, rfl, rfl, HB2, HO0⟩
  case round =>
    obtain ⟨k, a4, c4, hk, rfl, rfl, HW, HO⟩ := hrel
    rename World => wq
    clear HO0 HB2 x0 x1 x2
    obtain ⟨x0, x1⟩ := box_cell Hg1.out HW.out
    by_cases hkn : k < n
    · have HW1 : Hid (Below w.heap.size w wq) := below_step HB1.out HW.out
      obtain ⟨ga, oa, rfl, hca⟩ := (HRd.out.below HW1.out).at (by omega)
      have hck := hca k hkn
      unfold u32s at hck
      obtain ⟨x, hx⟩ : ∃ x, x = L k := ⟨_, rfl⟩
      rw [← hx] at hck
      have hxl : x < 4294967296 := by rw [hx]; exact HL.out k
      have HC : Hid (∀ j, j < 1 + 4 * (k + 1) → catV (u8s (bnat L n)) (1 + 4 * k) (u8s fun r => x / 256 ^ r % 256) j = u8s (bnat L n) j) := bnat_cat4 L n k x hx
      have HX : Hid (x = L k) := hx
      have i1 : (0 : Int) ≤ (k : Int) := by omega
      have i2 : (k : Int) < (n : Int) := by omega
      obtain ⟨y0, hy0⟩ : ∃ y0, y0 = x / 256 ^ 0 % 256 := ⟨_, rfl⟩
      obtain ⟨y1, hy1⟩ : ∃ y1, y1 = x / 256 ^ 1 % 256 := ⟨_, rfl⟩
      obtain ⟨y2, hy2⟩ : ∃ y2, y2 = x / 256 ^ 2 % 256 := ⟨_, rfl⟩
      obtain ⟨y3, hy3⟩ : ∃ y3, y3 = x / 256 ^ 3 % 256 := ⟨_, rfl⟩
      have e0 : IntKind.u8.wrap (x : Int) = (y0 : Int) := by rw [hy0, IntKind.wrap_u8]; omega
      have e1 : IntKind.u8.wrap ((x : Int) / 256) = (y1 : Int) := by rw [hy1, IntKind.wrap_u8]; omega
      have e2 : IntKind.u8.wrap ((x : Int) / 65536) = (y2 : Int) := by rw [hy2, IntKind.wrap_u8]; omega
      have e3 : IntKind.u8.wrap ((x : Int) / 16777216) = (y3 : Int) := by rw [hy3, IntKind.wrap_u8]; omega
      have HF : Hid (Rd (wq.alloc (.cells #[.int .u8 (y0 : Int), .int .u8 (y1 : Int), .int .u8 (y2 : Int), .int .u8 (y3 : Int)] 5)) (some ⟨wq.heap.size, 0, none⟩) 4 4 (u8s fun r => x / 256 ^ r % 256)) := four_rd wq y0 y1 y2 y3 _ hy0.symm hy1.symm hy2.symm hy3.symm
      have HS : Hid (w1.heap.size ≤ (wq.alloc (.cells #[.int .u8 (y0 : Int), .int .u8 (y1 : Int), .int .u8 (y2 : Int), .int .u8 (y3 : Int)] 5)).heap.size) := by
        show _ ≤ _
        have := HW.out.size
        simp; omega
      clear hca hx hy0 hy1 hy2 hy3
      go_upto_region 11 with fail
      go_region_held3 (fun w' => w'.cell? ⟨w.heap.size, 1, none⟩ = some (.slice (some ⟨ga, oa, none⟩) n c) ∧ w'.cell? ⟨ga, oa + k, none⟩ = some (.int .u32 (x : Int))) (first | exact ⟨x1, hck⟩ | go_keep) (first
        | (refine step_app eU8 (by rfl) _ _ (by rfl) (by exact HO.out.alloc _) (by exact HS.out) (by exact HF.out) (u8s_one _ 4) (1 + 4 * (k + 1)) (by omega) (by omega) (u8s (bnat L n)) HC.out (by rfl) (by rfl) ?_; intro a5 c5 w5 hO5 hG5; have HW5 : Hid (Below w1.heap.size w1 w5) := (HW.out.alloc HW.out.size _).drew.grown hG5 HS.out (fun k' hk' => HO.out.row k' hk'); clear x0 x1 hck; obtain ⟨x0, x1⟩ := box_cell Hg1.out HW5.out; have hck := rd_at (HRd.out.below (below_step HB1.out HW5.out)) k hkn x HX.out))
      have HO5 : Hid (Ow 5 w1.heap.size w5 (.slice a5 (1 + 4 * (k + 1)) c5) (1 + 4 * (k + 1)) (u8s (bnat L n))) := hO5
      clear hO5 hG5 HO HW
      go_wp2
      go_roundw
      case rel => exact ⟨k + 1, a5, c5, by omega, by go_num, rfl, HW5, HO5⟩
      case measure => simp [intOf]; omega
    · obtain rfl : k = n := by omega
      go_wp2
      go_ret2
      exact ⟨⟨a4, 1 + 4 * k, c4, bnat L k, 0, rfl, HO.out.base HB1.out.size, HR.out⟩, below_step HB1.out HW.out⟩
/-- The document's own BytesNat. -/
theorem rbytes_any (i : Bool) (a : Option Addr) (n c : Nat) (L : Nat → Nat) (w : World) (hr : Rd w a n c (u32s L)) (hL : ∀ j, L j < 4294967296) (hn1 : n ≤ 1000) :
    Calls Tryd.prog 26 #[.agg #[.bool i, .slice a n c]] w fun e w' => BOut w w' e i n L ∧ Below w.heap.size w w' := by
  by_cases hm : mayB i n L = true
  · cases i
    · by_cases hn : n ≤ 64
      · exact rbytes_good a n c L w hr hL hm hn
      · exact rbytes_big a n c L w hr hn1 hm (by omega)
    · exact rbytes_inf a n c L w hr hm
  · exact rbytes_no i a n c L w hr hn1 (by simpa using hm)
end Go.Proofs.YtklkcnpcjmeejaaDoor
