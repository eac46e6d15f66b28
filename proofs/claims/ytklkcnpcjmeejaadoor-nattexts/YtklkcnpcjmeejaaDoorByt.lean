/- nat's Bytes. -/
import Derived.Test.YtklkcnpcjmeejaaDoorIsd
import Derived.Test.YtklkcnpcjmeejaaDoorCpr
namespace Go.Proofs.YtklkcnpcjmeejaaDoor
open Go.RowKit Fo
set_option maxRecDepth 100000

noncomputable def eU8 : Elt Tryd.prog 34 5 := ⟨Tryd.t5, .int .u8 0, 1, Tryd.underlying34, by kernel_rfl, by kernel_rfl, by kernel_rfl, by kernel_rfl, rfl, by decide⟩
theorem u8s_one (L : Nat → Nat) (n j : Nat) (_ : j < n) : (u8s L j).oneCell' = true := rfl
/-- The bytes of so many digits. -/
def bnat (L : Nat → Nat) (n j : Nat) : Nat := if j = 0 then n else L ((j - 1) / 4) / 256 ^ ((j - 1) % 4) % 256
theorem bnat_cat (L : Nat → Nat) (n k r x : Nat) (hr : r < 4) (hx : x = L k / 256 ^ r % 256) (j : Nat) (hj : j < 1 + 4 * k + r + 1) : catV (u8s (bnat L n)) (1 + 4 * k + r) (u8s fun _ => x) j = u8s (bnat L n) j := by
  unfold catV
  split
  · rfl
  · obtain rfl : j = 1 + 4 * k + r := by omega
    unfold u8s bnat
    rw [if_neg (by omega), show (1 + 4 * k + r - 1) / 4 = k by omega, show (1 + 4 * k + r - 1) % 4 = r by omega, hx]
theorem one_rd8 (w : World) (x : Nat) : Rd (w.alloc (.cells #[.int .u8 (x : Int)] 5)) (some ⟨w.heap.size, 0, none⟩) 1 1 (u8s fun _ => x) := by
  refine ⟨Nat.le_refl _, by decide, Or.inr ⟨_, _, rfl, fun j hj => ?_⟩⟩
  obtain rfl : j = 0 := by omega
  rw [World.cell?_alloc_new]; rfl
theorem one_ow8 (B : Nat) (w : World) (x : Nat) (hB : B ≤ w.heap.size) (F : Nat → Nat) (hF : F 0 = x) : Ow 5 B (w.alloc (.cells #[.int .u8 (x : Int)] 5)) (.slice (some ⟨w.heap.size, 0, none⟩) 1 1) 1 (u8s F) := by
  refine ⟨by rw [fl_len], Or.inr ⟨w.heap.size, 1, #[.int .u8 (x : Int)], rfl, hB, heap_alloc_new _ _, Nat.le_refl _, by unfold maxLen; omega, rfl, ?_⟩⟩
  simp [fl, u8s, hF, List.range_succ]
/-- What Bytes answers: the bytes and the error. -/
def BR (i : Bool) (n : Nat) (L : Nat → Nat) (m : Nat) (F : Nat → Nat) (q : Int) : Prop :=
  (mayB i n L = false ∧ m = 0 ∧ q = 16) ∨ (mayB i n L = true ∧ i = true ∧ m = 1 ∧ F 0 = 255 ∧ q = 0) ∨ (mayB i n L = true ∧ i = false ∧ 64 < n ∧ m = 0 ∧ q = 5) ∨ (mayB i n L = true ∧ i = false ∧ n ≤ 64 ∧ m = 1 + 4 * n ∧ F = bnat L n ∧ q = 0)
/-- An answer of bytes. -/
def BOut (w0 w' : World) (e : Ending) (i : Bool) (n : Nat) (L : Nat → Nat) : Prop := ∃ a' m c' F q, e = .returned (.tuple #[.slice a' m c', .int .i64 q]) ∧ Ow 5 w0.heap.size w' (.slice a' m c') m (u8s F) ∧ BR i n L m F q
theorem bytes_no (i : Bool) (a : Option Addr) (n c : Nat) (L : Nat → Nat) (w : World) (hr : Rd w a n c (u32s L)) (hL : ∀ j, L j < 4294967296) (hm : mayB i n L = false) :
    Calls Tryd.prog 25 #[.agg #[.bool i, .slice a n c]] w fun e w' => BOut w w' e i n L ∧ Below w.heap.size w w' := by
  have HB : Hid (Below w.heap.size w (w.alloc (.cells #[.bool i, .slice a n c] 24))) := (below_refl w).alloc (Nat.le_refl _) _
  have HM := may_any i a n c L (w.alloc (.cells #[.bool i, .slice a n c] 24)) (hr.below HB.out) hL
  rw [hm] at HM
  have HR : Hid (BR i n L 0 (fun _ => 0) 16) := Or.inl ⟨hm, rfl, rfl⟩
  clear hr hL hm
  go_enter Tryd.func25, Tryd.ntmps25
  go_wp2_with (go_at_call 19; refine HM.mono ?_; rintro e w1 ⟨rfl, b1⟩)
  go_ret2
  exact ⟨⟨none, 0, 0, fun _ => 0, 16, rfl, Ow.nil _ _ _ _, HR.out⟩, below_step HB.out b1⟩
theorem bytes_inf (a : Option Addr) (n c : Nat) (L : Nat → Nat) (w : World) (hr : Rd w a n c (u32s L)) (hL : ∀ j, L j < 4294967296) (hm : mayB true n L = true) :
    Calls Tryd.prog 25 #[.agg #[.bool true, .slice a n c]] w fun e w' => BOut w w' e true n L ∧ Below w.heap.size w w' := by
  have HB : Hid (Below w.heap.size w (w.alloc (.cells #[.bool true, .slice a n c] 24))) := (below_refl w).alloc (Nat.le_refl _) _
  have HM := may_any true a n c L (w.alloc (.cells #[.bool true, .slice a n c] 24)) (hr.below HB.out) hL
  rw [hm] at HM
  have Hg : Hid ((w.alloc (.cells #[.bool true, .slice a n c] 24)).heap[w.heap.size]? = some (.cells #[.bool true, .slice a n c] 24)) := heap_alloc_new _ _
  have HR : Hid (BR true n L 1 (fun _ => 255) 0) := Or.inr (Or.inl ⟨hm, rfl, rfl, rfl, rfl⟩)
  clear hr hL hm
  go_enter Tryd.func25, Tryd.ntmps25
  go_wp2_with (go_at_call 19; fail)
  refine HM.mono ?_
  rintro e w1 ⟨rfl, b1⟩
  obtain ⟨x0, x1⟩ := box_cell Hg.out b1
  have HB1 : Hid (Below w.heap.size w w1) := below_step HB.out b1
  clear b1 HM
  go_wp2
  go_ret2
  exact ⟨⟨_, 1, 1, fun _ => 255, 0, rfl, one_ow8 _ _ 255 HB1.out.size _ rfl, HR.out⟩, HB1.out.alloc HB1.out.size _⟩
theorem bytes_big (a : Option Addr) (n c : Nat) (L : Nat → Nat) (w : World) (hr : Rd w a n c (u32s L)) (hL : ∀ j, L j < 4294967296) (hm : mayB false n L = true) (hn : 64 < n) :
    Calls Tryd.prog 25 #[.agg #[.bool false, .slice a n c]] w fun e w' => BOut w w' e false n L ∧ Below w.heap.size w w' := by
  have HB : Hid (Below w.heap.size w (w.alloc (.cells #[.bool false, .slice a n c] 24))) := (below_refl w).alloc (Nat.le_refl _) _
  have HM := may_any false a n c L (w.alloc (.cells #[.bool false, .slice a n c] 24)) (hr.below HB.out) hL
  rw [hm] at HM
  have Hg : Hid ((w.alloc (.cells #[.bool false, .slice a n c] 24)).heap[w.heap.size]? = some (.cells #[.bool false, .slice a n c] 24)) := heap_alloc_new _ _
  have HR : Hid (BR false n L 0 (fun _ => 0) 5) := Or.inr (Or.inr (Or.inl ⟨hm, rfl, hn, rfl, rfl⟩))
  have hn' : (64 : Int) < (n : Int) := by omega
  clear hr hL hm hn
  go_enter Tryd.func25, Tryd.ntmps25
  go_wp2_with (go_at_call 19; fail)
  refine HM.mono ?_
  rintro e w1 ⟨rfl, b1⟩
  obtain ⟨x0, x1⟩ := box_cell Hg.out b1
  have HB1 : Hid (Below w.heap.size w w1) := below_step HB.out b1
  clear b1 HM
  go_wp2
  go_ret2
  exact ⟨⟨none, 0, 0, fun _ => 0, 5, rfl, Ow.nil _ _ _ _, HR.out⟩, HB1.out⟩
set_option maxHeartbeats 8000000 in
theorem bytes_good (a : Option Addr) (n c : Nat) (L : Nat → Nat) (w : World) (hr : Rd w a n c (u32s L)) (hL : ∀ j, L j < 4294967296) (hm : mayB false n L = true) (hn : n ≤ 64) :
    Calls Tryd.prog 25 #[.agg #[.bool false, .slice a n c]] w fun e w' => BOut w w' e false n L ∧ Below w.heap.size w w' := by
  have HB : Hid (Below w.heap.size w (w.alloc (.cells #[.bool false, .slice a n c] 24))) := (below_refl w).alloc (Nat.le_refl _) _
  have HM := may_any false a n c L (w.alloc (.cells #[.bool false, .slice a n c] 24)) (hr.below HB.out) hL
  rw [hm] at HM
  have Hg : Hid ((w.alloc (.cells #[.bool false, .slice a n c] 24)).heap[w.heap.size]? = some (.cells #[.bool false, .slice a n c] 24)) := heap_alloc_new _ _
  have HR : Hid (BR false n L (1 + 4 * n) (bnat L n) 0) := Or.inr (Or.inr (Or.inr ⟨hm, rfl, hn, rfl, rfl, rfl⟩))
  have hn' : ¬ (64 : Int) < (n : Int) := by omega
  have HRd : Hid (Rd w a n c (u32s L)) := hr
  have HL : Hid (∀ j, L j < 4294967296) := hL
  have hw8 : IntKind.u8.wrap (n : Int) = (n : Int) := by rw [IntKind.wrap_u8]; omega
  clear hr hL hm
  go_enter Tryd.func25, Tryd.ntmps25
  go_wp2_with (go_at_call 19; fail)
  refine HM.mono ?_
  rintro e w1 ⟨rfl, b1⟩
  obtain ⟨x0, x1⟩ := box_cell Hg.out b1
  have HB1 : Hid (Below w.heap.size w w1) := below_step HB.out b1
  have x2 : ∀ o, (w1.alloc o).cell? ⟨w.heap.size, 1, none⟩ = some (.slice a n c) := fun o => (World.cell?_alloc_some w1 _ o (by rw [x1]; rfl)).trans x1
  clear b1 HM
  go_wp2
  have HO0 : Hid (Ow 5 w.heap.size (w1.alloc (.cells #[.int .u8 (n : Int)] 5)) (.slice (some ⟨w1.heap.size, 0, none⟩) 1 1) 1 (u8s (bnat L n))) := one_ow8 _ _ n HB1.out.size _ rfl
  have HB2 : Hid (Below w.heap.size w (w1.alloc (.cells #[.int .u8 (n : Int)] 5))) := HB1.out.alloc HB1.out.size _
  go_loopw [4, 29] (fun v4 v29 wq => ∃ (k : Nat) (a4 : Option Addr) (c4 : Nat), k ≤ n ∧ v29 = .int .i64 k ∧ v4 = .slice a4 (1 + 4 * k) c4 ∧ Hid (Below w.heap.size w wq) ∧ Hid (Ow 5 w.heap.size wq (.slice a4 (1 + 4 * k) c4) (1 + 4 * k) (u8s (bnat L n)))) (fun _ v29 _ => n - (intOf v29).toNat)
  case atStart => exact ⟨0, _, 1, Nat.zero_le _, rfl, rfl, HB2, HO0⟩
  case round =>
    obtain ⟨k, a4, c4, hk, rfl, rfl, HW, HO⟩ := hrel
    rename World => wq
    clear HO0 HB2
    by_cases hkn : k < n
    · obtain ⟨gb, ob, rfl, hcb⟩ := (HRd.out.below HW.out).at (by omega)
      have hck := hcb k hkn
      unfold u32s at hck
      obtain ⟨x, hx⟩ : ∃ x, x = L k := ⟨_, rfl⟩
      rw [← hx] at hck
      have hxl : x < 4294967296 := by rw [hx]; exact HL.out k
      have HX : Hid (x = L k) := hx
      have i1 : (0 : Int) ≤ (k : Int) := by omega
      have i2 : (k : Int) < (n : Int) := by omega
      clear hcb hx
      go_wp2
      go_loopw [4, 7] (fun v4 v7 wr => ∃ (r : Nat) (a5 : Option Addr) (c5 : Nat), r ≤ 4 ∧ v7 = .int .i64 ((8 * r : Nat) : Int) ∧ v4 = .slice a5 (1 + 4 * k + r) c5 ∧ Hid (Below w.heap.size w wr) ∧ Hid (Ow 5 w.heap.size wr (.slice a5 (1 + 4 * k + r) c5) (1 + 4 * k + r) (u8s (bnat L n)))) (fun _ v7 _ => 32 - (intOf v7).toNat)
      case atStart => exact ⟨0, a4, c4, by decide, rfl, rfl, HW, HO⟩
      case round =>
        clear HW HO
        obtain ⟨r, a5, c5, hr, rfl, rfl, HW, HO⟩ := hrel
        rename World => wr
        by_cases hr4 : r < 4
        · obtain ⟨y, hy⟩ : ∃ y, y = x / 256 ^ r % 256 := ⟨_, rfl⟩
          have HC : Hid (∀ j, j < 1 + 4 * k + r + 1 → catV (u8s (bnat L n)) (1 + 4 * k + r) (u8s fun _ => y) j = u8s (bnat L n) j) := bnat_cat L n k r y hr4 (by rw [hy, HX.out])
          have HRy : Hid (Rd (wr.alloc (.cells #[.int .u8 (y : Int)] 5)) (some ⟨wr.heap.size, 0, none⟩) 1 1 (u8s fun _ => y)) := one_rd8 wr y
          have HSA : Hid (w.heap.size ≤ (wr.alloc (.cells #[.int .u8 (y : Int)] 5)).heap.size) := by
            show _ ≤ _
            have := HW.out.size
            simp; omega
          have hle : 1 + 4 * k + r + 1 ≤ 1000000000 := by omega
          have j1 : ((8 * r : Nat) : Int) < 32 := by omega
          have j0 : (8 : Int) * (r : Int) < 32 := by omega
          have hyv : (x : Int) / 2 ^ (8 * r) % 256 = (y : Int) := by
            rw [hy, show (256 : Nat) ^ r = 2 ^ (8 * r) by rw [Nat.pow_mul]]
            simp
          have j2 : wrap64 (8 * (r : Int) + 8) = ((8 * (r + 1) : Nat) : Int) := by unfold wrap64; omega
          clear hy j1
          go_wp2_with (at_builtin; refine wpList_app eU8 rfl _ _ rfl (HO.out.alloc _) HSA.out HRy.out (u8s_one _ 1) (1 + 4 * k + r + 1) rfl hle (u8s (bnat L n)) HC.out rfl rfl ?_; intro a6 c6 w6 hO6 hG6)
          have HO6 : Hid (Ow 5 w.heap.size w6 (.slice a6 (1 + 4 * k + r + 1) c6) (1 + 4 * k + r + 1) (u8s (bnat L n))) := hO6
          have HB6 : Hid (Below w.heap.size w w6) := (HW.out.alloc HW.out.size _).grown hG6 HSA.out (fun k' hk' => HO.out.row k' hk')
          clear hO6 hG6 HO HSA HRy HC
          go_roundw
          case rel => exact ⟨r + 1, a6, c6, by omega, by go_num, rfl, HB6, HO6⟩
          case measure => simp [intOf]; omega
        · obtain rfl : r = 4 := by omega
          go_wp2
          go_roundw
          case rel => exact ⟨k + 1, a5, c5, by omega, by go_num, by rw [show 1 + 4 * (k + 1) = 1 + 4 * k + 4 by omega], HW, by rw [show 1 + 4 * (k + 1) = 1 + 4 * k + 4 by omega]; exact HO⟩
          case measure => simp [intOf]; omega
    · obtain rfl : k = n := by omega
      go_wp2
      go_ret2
      exact ⟨⟨a4, 1 + 4 * k, c4, bnat L k, 0, rfl, HO.out, HR.out⟩, HW.out⟩
/-- nat's Bytes. -/
theorem bytes_any (i : Bool) (a : Option Addr) (n c : Nat) (L : Nat → Nat) (w : World) (hr : Rd w a n c (u32s L)) (hL : ∀ j, L j < 4294967296) :
    Calls Tryd.prog 25 #[.agg #[.bool i, .slice a n c]] w fun e w' => BOut w w' e i n L ∧ Below w.heap.size w w' := by
  by_cases hm : mayB i n L = true
  · cases i
    · by_cases hn : n ≤ 64
      · exact bytes_good a n c L w hr hL hm hn
      · exact bytes_big a n c L w hr hL hm (by omega)
    · exact bytes_inf a n c L w hr hL hm
  · exact bytes_no i a n c L w hr hL (by simpa using hm)
end Go.Proofs.YtklkcnpcjmeejaaDoor
