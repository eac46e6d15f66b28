/- nat's Text. -/
import Derived.Test.YtjdbapkmaggllaaGreatDoorS39
import Derived.Test.YtjdbapkmaggllaaGreatDoorS18
namespace Go.Proofs.YtjdbapkmaggllaaGreatDoor
open Go.RowKit Fo
set_option maxRecDepth 100000

def encU (x : Nat) : Value := .int .u32 (x : Int)
open Go.Sort in
theorem reverse_any (g n c : Nat) (L : Nat → Nat) (w : World) (h : Wt w g n L) (hn : n ≤ 1000000) :
    Calls Tryz.prog 80 #[.slice (some ⟨g, 0, none⟩) n c] w fun e w' => e = .returned (.tuple #[]) ∧ Wt w' g n (fun j => L (n - 1 - j)) ∧ w.grownBy w' (some g) := by
  have hlen : ((List.range n).map L).length = n := by simp
  have hH : Holds encU w g 0 ((List.range n).map L).toArray := fun j hj => by
    have hj' : j < n := by simpa using hj
    refine ⟨?_, h.frozen _⟩
    rw [Nat.zero_add, h.cell j hj', getElem!_pos _ j hj]
    simp [encU]
  have := Tryz.slices_Reverse encU (fun _ => rfl) g 0 c ((List.range n).map L) w hH (by rw [hlen]; omega)
  rw [hlen] at this
  refine this.mono ?_
  rintro e w' ⟨rfl, k, rfl⟩
  obtain ⟨cur, h1, h2, h3⟩ := h
  refine ⟨rfl, ⟨putCells encU 0 ((List.range n).map L).reverse.toArray cur, ?_, ?_, fun j hj => ?_⟩, rfl, rfl, rfl, ?_, fun q hq hne => ?_⟩
  · show ((Sort.ahead w k).heap.modify g (onCells (putCells encU 0 ((List.range n).map L).reverse.toArray)))[g]? = _
    have h1' : (Sort.ahead w k).heap[g]? = some (.cells cur 66 (0, 0)) := h1
    rw [Array.getElem?_modify, if_pos rfl, h1']
    rfl
  · simpa [putCells] using h2
  · have hc : j < cur.size := by omega
    simp only [putCells, Array.getElem?_mapIdx, Array.getElem?_eq_getElem hc, Option.map_some]
    rw [if_pos ⟨Nat.zero_le _, by simpa using hj⟩, Nat.sub_zero, getElem!_pos _ j (by simpa using hj)]
    simp [encU, List.getElem_reverse]
  · simp [putRow, mapBlock, Sort.ahead]
  · have : g ≠ q := fun e => hne (by rw [e])
    simp [putRow, mapBlock, Sort.ahead, Array.getElem?_modify, this]
/-- What is written of a number. -/
def otext : Option Nat → List UInt8
  | none => [105, 110, 102]
  | some N => Lib.decDigits N
/-- What stands behind so many blocks. -/
def pre (N k : Nat) : List UInt8 := if k = 0 then [] else Lib.decDigits (N / 1000000000 ^ (bl N - k))
theorem pre_one (N : Nat) (h : 0 < bl N) : pre N 1 = Lib.decDigits (bd N (bl N - 1)) := by
  unfold pre
  rw [if_neg (by decide)]
  exact dec_top N (bl N - 1) (by omega)
theorem pre_more (N k : Nat) (hk : k ≠ 0) (h : k < bl N) : pre N (k + 1) = pre N k ++ (List.replicate (9 - (Lib.decDigits (bd N (bl N - 1 - k))).length) 48 ++ Lib.decDigits (bd N (bl N - 1 - k))) := by
  unfold pre
  rw [if_neg (by omega), if_neg hk]
  have := dec_block N (bl N - 1 - k) (div_pos_of N _ (by omega))
  rw [show bl N - 1 - k + 1 = bl N - k by omega] at this
  rw [show bl N - (k + 1) = bl N - 1 - k by omega]
  exact this
theorem pre_all (N : Nat) (h : 0 < bl N) : pre N (bl N) = Lib.decDigits N := by
  unfold pre
  rw [if_neg (by omega), Nat.sub_self, Nat.pow_zero, Nat.div_one]
theorem repeat_zero (c : Nat) : Lib.repeatL [48] c = List.replicate c (48 : UInt8) := by
  induction c with
  | zero => rfl
  | succ c ih => simp [Lib.repeatL, ih, List.replicate_succ]
theorem blocks_pos {N : Nat} (h : N ≠ 0) : 0 < bl N := by rw [bl_pos N h]; omega
theorem pre_len (N : Nat) : ∀ k, k ≤ bl N → (pre N k).length ≤ 9 * k
  | 0, _ => by simp [pre]
  | 1, h => by rw [pre_one N (by omega)]; exact dec_len9 _ (bd_lt _ _)
  | k + 2, h => by
    have ih := pre_len N (k + 1) (by omega)
    have h9 := dec_len9 (bd N (bl N - 1 - (k + 1))) (bd_lt _ _)
    rw [pre_more N (k + 1) (by omega) (by omega)]
    simp only [List.length_append, List.length_replicate]
    omega
theorem strCells_list (l : List UInt8) : Lib.strCells ⟨l.toArray⟩ = Lib.byteCells l := rfl
theorem byteCells_app (a b : List UInt8) : Lib.byteCells a ++ Lib.byteCells b = Lib.byteCells (a ++ b) := by simp [Lib.byteCells]
theorem byteCells_len (a : List UInt8) : (Lib.byteCells a).length = a.length := by simp [Lib.byteCells]
theorem write_list (B b : Nat) (a s : List UInt8) (w : World) (h : Lib.IsBuilderF 92 5 B b (Lib.byteCells a) w) (hlen : a.length + s.length ≤ 140737488355328) (hBw : B ≤ w.heap.size) :
    Calls Tryz.prog 82 #[.pointer (some ⟨b, 0, none⟩), .string ⟨s.toArray⟩] w fun e w' => e = .returned (.tuple #[.int .i64 s.length, .nilIface]) ∧ (Lib.IsBuilderF 92 5 B b (Lib.byteCells (a ++ s)) w' ∧ Below B w w') := by
  have := write_string B b (Lib.byteCells a) ⟨s.toArray⟩ w h (by rw [byteCells_len]; simpa [ByteArray.size] using hlen) hBw
  rw [strCells_list, byteCells_app] at this
  simpa [ByteArray.size] using this
theorem repeat_any (c : Nat) (hc : c ≤ 1000) (w : World) :
    Calls Tryz.prog 83 #[.string ⟨#[48]⟩, .int .i64 c] w fun e w' => e = .returned (.string ⟨(List.replicate c (48 : UInt8)).toArray⟩) ∧ Below w.heap.size w w' := by
  have h1 : (⟨#[48]⟩ : ByteArray).size = 1 := rfl
  have := Tryz.strings_Repeat ⟨#[48]⟩ c w (by omega) (by rw [h1]; omega)
  rw [show (⟨#[48]⟩ : ByteArray).data.toList = [48] from rfl, repeat_zero] at this
  exact this
theorem text_inf (a : Option Addr) (n c : Nat) (w : World) : Calls Tryz.prog 56 #[.agg #[.bool true, .slice a n c]] w fun e w' => e = .returned (.string ⟨(otext none).toArray⟩) ∧ Below w.heap.size w w' := by
  have HB : Hid (Below w.heap.size w (w.alloc (.cells #[.bool true, .slice a n c] 24))) := (below_refl w).alloc (Nat.le_refl _) _
  go_enter Tryz.func56, Tryz.ntmps56
  go_wp2
  go_ret
  exact ⟨rfl, HB.out⟩
set_option maxHeartbeats 8000000 in
theorem text_fin (a : Option Addr) (n c : Nat) (L : Nat → Nat) (w : World) (hr : Rd w a n c (u32s L)) (hL : ∀ j, L j < 4294967296) (hn : n ≤ 100000) (N : Nat) (hN : lv L n = N) (henv : Env w) :
    Calls Tryz.prog 56 #[.agg #[.bool false, .slice a n c]] w fun e w' => e = .returned (.string ⟨(otext (some N)).toArray⟩) ∧ Below w.heap.size w w' := by
  have HEnv : Hid (Env w) := henv
  have HB : Hid (Below w.heap.size w (w.alloc (.cells #[.bool false, .slice a n c] 24))) := (below_refl w).alloc (Nat.le_refl _) _
  obtain ⟨z, hz⟩ : ∃ z, z = decide (some N = some 0) := ⟨_, rfl⟩
  have HZ : Hid (Calls Tryz.prog 78 #[.agg #[.bool false, .slice a n c]] (w.alloc (.cells #[.bool false, .slice a n c] 24)) fun e w' => e = .returned (.bool z) ∧ Below (w.alloc (.cells #[.bool false, .slice a n c] 24)).heap.size (w.alloc (.cells #[.bool false, .slice a n c] 24)) w') := by
    rw [hz]
    exact iszero_any _ _ (some N) ⟨false, a, n, c, L, rfl, hr.below HB.out, hL, hn, by rw [hN]; rfl⟩
  have HR : Hid (Rd w a n c (u32s L)) := hr
  have HL : Hid (∀ j, L j < 4294967296) := hL
  have HN : Hid (lv L n = N) := hN
  clear hr hL hN henv
  by_cases h0 : N = 0
  · obtain rfl : z = true := by rw [hz, h0]; rfl
    subst h0
    clear hz
    go_enter Tryz.func56, Tryz.ntmps56
    go_wp2_with (go_at_call 78; refine HZ.out.mono ?_; rintro e w1 ⟨rfl, b1⟩)
    go_ret
    refine ⟨?_, below_step HB.out b1⟩
    show _ = Ending.returned (.string ⟨(Lib.decDigits 0).toArray⟩)
    rw [Lib.decDigits_one (by decide)]
    rfl
  · obtain rfl : z = false := by rw [hz]; simp [h0]
    clear hz
    have hbp := blocks_pos h0
    have hn0 : 0 < n := by
      rcases Nat.eq_zero_or_pos n with h | h
      · exfalso
        have := HN.out
        rw [h] at this
        exact h0 this.symm
      · exact h
    have hbl : bl N ≤ 200000 := Nat.le_trans (bl_room N n (by rw [← HN.out]; exact lv_lt n fun j _ => HL.out j)) (by omega)
    obtain ⟨b, off, rfl, -⟩ := HR.out.at hn0
    have Hg : Hid ((w.alloc (.cells #[.bool false, .slice (some ⟨b, off, none⟩) n c] 24)).heap[w.heap.size]? = some (.cells #[.bool false, .slice (some ⟨b, off, none⟩) n c] 24)) := heap_alloc_new _ _
    go_enter Tryz.func56, Tryz.ntmps56
    go_wp2_with (go_at_call 78; fail)
    refine HZ.out.mono ?_
    rintro e w1 ⟨rfl, b1⟩
    obtain ⟨x0, x1⟩ := box_cell Hg.out b1
    have HB1 : Hid (Below w.heap.size w w1) := below_step HB.out b1
    have HBL : Hid (Calls Tryz.prog 79 #[.slice (some ⟨b, off, none⟩) n c] w1 fun e w' => (∃ a' c', e = .returned (.slice a' (bl N) c') ∧ Ow 66 w1.heap.size w' (.slice a' (bl N) c') (bl N) (u32s (bd N))) ∧ Below w1.heap.size w1 w') := blocks_any b off n c L w1 (HR.out.below HB1.out) HL.out hn N HN.out
    clear b1 HZ HB HR HL HN Hg
    go_wp2_with (go_at_call 79; fail)
    refine HBL.out.mono ?_
    rintro e w2 ⟨⟨a', c', rfl, hO⟩, b2⟩
    rcases hO.wt with ⟨-, h⟩ | ⟨g, cap, hv, hg, hcap, hcm, hW⟩
    · exfalso; omega
    obtain ⟨rfl, rfl⟩ : a' = some ⟨g, 0, none⟩ ∧ c' = cap := by simpa using hv
    have HRV := reverse_any g (bl N) c' (bd N) w2 hW (by omega)
    have HB2 : Hid (Below w.heap.size w w2) := below_step HB1.out b2
    have hwg : w.heap.size ≤ g := Nat.le_trans HB1.out.size hg
    clear hv hO b2 hW HBL
    go_wp2_with (go_at_call 80; fail)
    refine HRV.mono ?_
    rintro e w3 ⟨rfl, hW3, hG3⟩
    have HB3 : Hid (Below w.heap.size w w3) := HB2.out.grown hG3 HB2.out.size (fun k hk => by
      have : g = k := Option.some.inj hk
      omega)
    have HW3 : Hid (Wt w3 g (bl N) (fun j => bd N (bl N - 1 - j))) := hW3
    have hg3 : g < w3.heap.size := hW3.lt
    clear HRV hW3 hG3
    have HBI : Hid (Lib.IsBuilderF 92 5 w3.heap.size w3.heap.size (Lib.byteCells (pre N 0)) (w3.alloc (.cells #[.pointer none, .slice none 0 0] 92))) := Lib.IsBuilderF.of (Lib.fresh_isBuilder 92 5 w3)
    have HBA : Hid (Below w3.heap.size w3 (w3.alloc (.cells #[.pointer none, .slice none 0 0] 92))) := (below_refl w3).alloc (Nat.le_refl _) _
    go_wp2
    go_loopw [21] (fun v21 wq => ∃ k : Nat, k ≤ bl N ∧ v21 = .int .i64 k ∧ Hid (Lib.IsBuilderF 92 5 w3.heap.size w3.heap.size (Lib.byteCells (pre N k)) wq) ∧ Hid (Below w3.heap.size w3 wq)) (fun v21 _ => bl N - (intOf v21).toNat)
    case atStart => exact ⟨0, Nat.zero_le _, rfl, HBI, HBA⟩
    case round =>
      obtain ⟨k, hk, rfl, HI, HW⟩ := hrel
      rename World => wq
      clear HBI HBA
      by_cases hkn : k < bl N
      · obtain ⟨r, hr⟩ : ∃ r, r = bd N (bl N - 1 - k) := ⟨_, rfl⟩
        have hrl : r < 1000000000 := by rw [hr]; exact bd_lt _ _
        have hck : wq.cell? ⟨g, k, none⟩ = some (.int .u32 (r : Int)) := by
          have := (HW3.out.kept (HW.out.block g hg3)).cell k hkn
          rw [this, hr]
        have hw1 : IntKind.u64.wrap (r : Int) = (r : Int) := by rw [IntKind.wrap_u64]; omega
        have HF : Hid (Calls Tryz.prog 81 #[.int .u64 (r : Int), .int .i64 10] wq fun e w' => e = .returned (.string ⟨(Lib.decDigits r).toArray⟩) ∧ Below wq.heap.size wq w') := fmtu_any r (by omega) wq (HEnv.out.below (below_step HB3.out HW.out))
        have i1 : (0 : Int) ≤ (k : Int) := by omega
        have i2 : (k : Int) < (bl N : Int) := by omega
        obtain ⟨l, hl⟩ : ∃ l, (Lib.decDigits r).length = l := ⟨_, rfl⟩
        have hl9 : l ≤ 9 := by rw [← hl]; exact dec_len9 r hrl
        have hsz : (ByteArray.mk (Lib.decDigits r).toArray).size = l := by simpa [ByteArray.size] using hl
        have hpl := pre_len N k hk
        by_cases hk0 : k = 0
        · subst hk0
          have HP : Hid (pre N 0 ++ Lib.decDigits r = pre N (0 + 1)) := by
            show pre N 0 ++ Lib.decDigits r = pre N 1
            rw [pre_one N hbp, hr]; rfl
          clear hr
          go_wp2_with (go_at_call 81; fail)
          refine HF.out.mono ?_
          rintro e w5 ⟨rfl, b5⟩
          have HW5 : Hid (Below w3.heap.size w3 w5) := below_step HW.out b5
          have HI5 := builder_below HI.out b5
          have HC : Hid (Calls Tryz.prog 82 #[.pointer (some ⟨w3.heap.size, 0, none⟩), .string ⟨(Lib.decDigits r).toArray⟩] w5 fun e w' => e = .returned (.tuple #[.int .i64 l, .nilIface]) ∧ (Lib.IsBuilderF 92 5 w3.heap.size w3.heap.size (Lib.byteCells (pre N (0 + 1))) w' ∧ Below w3.heap.size w5 w')) := by
            have := write_list w3.heap.size w3.heap.size (pre N 0) (Lib.decDigits r) w5 HI5 (by rw [hl]; omega) HW5.out.size
            rw [HP.out, hl] at this
            exact this
          clear HI5 b5 HF HI HP hl
          go_wp2_with (go_at_call 82; refine HC.out.mono ?_; rintro e w6 ⟨rfl, hI6, b6⟩)
          go_roundw
          case rel => exact ⟨0 + 1, by omega, by go_num, hI6, HW5.out.trans b6⟩
          case measure => simp [intOf]; omega
        · have i3 : (0 : Int) < (k : Int) := by omega
          have HP : Hid (pre N k ++ List.replicate (9 - l) 48 ++ Lib.decDigits r = pre N (k + 1)) := by
            show pre N k ++ List.replicate (9 - l) 48 ++ Lib.decDigits r = pre N (k + 1)
            rw [pre_more N k hk0 hkn, ← hr, hl, List.append_assoc]
          have h9l : (9 : Int) - (l : Int) = ((9 - l : Nat) : Int) := by omega
          obtain ⟨q, hq⟩ : ∃ q, q = 9 - l := ⟨_, rfl⟩
          rw [← hq] at HP h9l
          have hq9 : q ≤ 9 := by omega
          clear hr hq
          go_wp2_with (go_at_call 81; fail)
          refine HF.out.mono ?_
          rintro e w5 ⟨rfl, b5⟩
          have HW5 : Hid (Below w3.heap.size w3 w5) := below_step HW.out b5
          have HI5 : Hid (Lib.IsBuilderF 92 5 w3.heap.size w3.heap.size (Lib.byteCells (pre N k)) w5) := builder_below HI.out b5
          have HRP : Hid (Calls Tryz.prog 83 #[.string ⟨#[48]⟩, .int .i64 q] w5 fun e w' => e = .returned (.string ⟨(List.replicate q (48 : UInt8)).toArray⟩) ∧ Below w5.heap.size w5 w') := repeat_any q (by omega) w5
          clear b5 HF HI
          go_wp2_with (go_at_call 83; fail)
          refine HRP.out.mono ?_
          rintro e w7 ⟨rfl, b7⟩
          have HW7 : Hid (Below w3.heap.size w3 w7) := below_step HW5.out b7
          have HC : Hid (Calls Tryz.prog 82 #[.pointer (some ⟨w3.heap.size, 0, none⟩), .string ⟨(List.replicate q (48 : UInt8)).toArray⟩] w7 fun e w' => e = .returned (.tuple #[.int .i64 q, .nilIface]) ∧ (Lib.IsBuilderF 92 5 w3.heap.size w3.heap.size (Lib.byteCells (pre N k ++ List.replicate q 48)) w' ∧ Below w3.heap.size w7 w')) := by
            have := write_list w3.heap.size w3.heap.size (pre N k) (List.replicate q 48) w7 (builder_below HI5.out b7) (by rw [List.length_replicate]; omega) HW7.out.size
            rw [List.length_replicate] at this
            exact this
          clear b7 HRP HI5 HW5
          go_wp2_with (go_at_call 82; fail)
          refine HC.out.mono ?_
          rintro e w8 ⟨rfl, hI8, b8⟩
          have HW8 : Hid (Below w3.heap.size w3 w8) := HW7.out.trans b8
          have HC8 : Hid (Calls Tryz.prog 82 #[.pointer (some ⟨w3.heap.size, 0, none⟩), .string ⟨(Lib.decDigits r).toArray⟩] w8 fun e w' => e = .returned (.tuple #[.int .i64 l, .nilIface]) ∧ (Lib.IsBuilderF 92 5 w3.heap.size w3.heap.size (Lib.byteCells (pre N (k + 1))) w' ∧ Below w3.heap.size w8 w')) := by
            have := write_list w3.heap.size w3.heap.size (pre N k ++ List.replicate q 48) (Lib.decDigits r) w8 hI8 (by rw [hl, List.length_append, List.length_replicate]; omega) HW8.out.size
            rw [HP.out, hl] at this
            exact this
          clear HC hI8 b8 HW7 HP hl
          go_wp2_with (go_at_call 82; refine HC8.out.mono ?_; rintro e w6 ⟨rfl, hI6, b6⟩)
          go_roundw
          case rel => exact ⟨k + 1, by omega, by go_num, hI6, HW8.out.trans b6⟩
          case measure => simp [intOf]; omega
      · obtain rfl : k = bl N := by omega
        have HC : Hid (Calls Tryz.prog 84 #[.pointer (some ⟨w3.heap.size, 0, none⟩)] wq fun e w' => e = .returned (.string ⟨(otext (some N)).toArray⟩) ∧ (Lib.IsBuilderF 92 5 w3.heap.size w3.heap.size (Lib.byteCells (pre N (bl N))) w' ∧ Below w3.heap.size wq w')) := by
          have := Tryz.Builder_String_any_f w3.heap.size w3.heap.size (pre N (bl N)) wq HI.out HW.out.size
          rw [pre_all N hbp] at this ⊢
          exact this
        clear HI
        go_wp2_with (go_at_call 84; refine HC.out.mono ?_; rintro e w6 ⟨rfl, hI6, b6⟩)
        go_ret
        exact ⟨rfl, below_step HB3.out (HW.out.trans b6)⟩
/-- nat's Text. -/
theorem text_any (w : World) (v : Value) (X : Option Nat) (h : NIn w v X) (henv : Env w) : Calls Tryz.prog 56 #[v] w fun e w' => e = .returned (.string ⟨(otext X).toArray⟩) ∧ Below w.heap.size w w' := by
  obtain ⟨i, a, n, c, L, rfl, hr, hL, hn, rfl⟩ := h
  cases i
  · exact text_fin a n c L w hr hL hn _ rfl henv
  · exact text_inf a n c w
end Go.Proofs.YtjdbapkmaggllaaGreatDoor
