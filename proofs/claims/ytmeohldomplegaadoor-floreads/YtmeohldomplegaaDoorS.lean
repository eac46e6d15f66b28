/- The contract of the document's own Decimal: the digits of a number. -/
import Derived.Test.YtmeohldomplegaaDoorP
import Derived.Test.YtmeohldomplegaaDoorR
import Derived.Deep.AppendSrc
import Derived.Deep.Upon
namespace Go.Proofs.YtmeohldomplegaaDoor
open Go.RowKit Fo Go.Sort
set_option maxRecDepth 100000

namespace Fo
/-- v is still to be written, D is. -/
structure DInv (u v : Nat) (D : List UInt8) : Prop where
  first : D = [] → v = u
  last : D ≠ [] → v = 0 → D = Lib.decDigits u
  mid : 0 < v → Lib.decDigits v ++ D = Lib.decDigits u
theorem DInv.start (u : Nat) : DInv u u [] := ⟨fun _ => rfl, fun h => absurd rfl h, fun _ => List.append_nil _⟩
theorem DInv.step {u v : Nat} {D : List UInt8} (h : DInv u v D) (hc : 0 < v ∨ D = []) : DInv u (v / 10) (UInt8.ofNat (48 + v % 10) :: D) := by
  refine ⟨fun e => (by cases e), fun _ h0 => ?_, fun h0 => ?_⟩
  · have hv : v < 10 := by omega
    have e : Lib.decDigits v = [UInt8.ofNat (48 + v % 10)] := by rw [Lib.decDigits_one hv, Nat.mod_eq_of_lt hv]
    rcases Nat.eq_zero_or_pos v with hz | hp
    · rcases hc with hc | hc
      · omega
      · subst hc
        rw [← h.first rfl, e]
    · rw [← h.mid hp, e]; rfl
  · have hv : ¬ v < 10 := by omega
    rw [← h.mid (by omega), dec_step v hv, List.append_assoc]; rfl
theorem DInv.len {u v : Nat} {D : List UInt8} (hu : u < 18446744073709551616) (h : DInv u v D) : D.length ≤ 20 := by
  have := dec_len u hu
  rcases Nat.eq_zero_or_pos v with hz | hp
  · by_cases e : D = []
    · rw [e]; decide
    · rw [h.last e hz]; exact this
  · have := congrArg List.length (h.mid hp)
    rw [List.length_append] at this
    omega
theorem DInv.le {u v : Nat} {D : List UInt8} (hu : u < 18446744073709551616) (h : DInv u v D) (hp : 0 < v) : (D = [] ∨ D.length + 1 ≤ 20) := by
  have := dec_len u hu
  have e := congrArg List.length (h.mid hp)
  rw [List.length_append] at e
  have : 1 ≤ (Lib.decDigits v).length := by
    cases hd : Lib.decDigits v with
    | nil => exact absurd hd (dec_ne v)
    | cons c r => simp
  right; omega
end Fo
/-- So many rounds are left at most. -/
def left (vu vb : Value) : Nat := (intOf vu).toNat + (match vb with | .slice none _ _ => 1 | _ => 0)
/-- A slice that holds these bytes, in memory of the call's own. -/
def HoldsD (wr : World) (vb : Value) (D : List UInt8) : Prop :=
  (D = [] ∧ vb = .slice none 0 0) ∨ (D ≠ [] ∧ ∃ blk cap, vb = .slice (some ⟨blk, 0, none⟩) D.length cap ∧ blk < wr.heap.size ∧ ∀ j (h : j < D.length), wr.cell? ⟨blk, j, none⟩ = some (.int .u8 (D[j].toNat : Int)))
theorem next_le : ∀ k, k < 21 → Builtin.nextslicecap (1 + k) 1 * Tryd.t5.bytes ≤ 281474976710656 := by decide +kernel
theorem info5 : Tryd.prog.info? 5 = some Tryd.t5 := by kernel_rfl
theorem zero5 : Tryd.t5.zero = some (.int .u8 0) := by kernel_rfl
theorem size5 : Tryd.t5.size = 1 := by kernel_rfl
/-- What append([]byte{d}, b...) reads of b. -/
theorem run_load (wr : World) (d : Int) (D : List UInt8) (blk : Nat) (hblk : blk < wr.heap.size)
    (hc : ∀ j (h : j < D.length), wr.cell? ⟨blk, j, none⟩ = some (.int .u8 (D[j].toNat : Int))) :
    (loadCellsFrom ⟨blk, 0, none⟩ 0 D.length #[]).run Tryd.prog (wr.alloc (.cells #[.int .u8 d] 5)).drew = .ok (D.map fun b => Value.int .u8 (b.toNat : Int)).toArray (wr.alloc (.cells #[.int .u8 d] 5)).drew := by
  have := run_loadCells_list (P := Tryd.prog) (wr.alloc (.cells #[.int .u8 d] 5)).drew ⟨blk, 0, none⟩ (D.map fun b => Value.int .u8 (b.toNat : Int)) (fun j u hu => by
      obtain ⟨hj, e⟩ := List.getElem?_eq_some_iff.1 hu
      have hj' : j < D.length := by simpa using hj
      rw [Lib.add_plain, Nat.zero_add, World.cell?_drew, World.cell?_of_block (w := wr) (Below.heap_alloc wr _ blk hblk), hc j hj', ← e]
      simp)
  rw [List.length_map] at this
  exact this

theorem holds_front (wr : World) (d : Int) (x : UInt8) (D : List UInt8) (Z : Array Value) (C : Nat) (hx : (x.toNat : Int) = d) :
    HoldsD (((wr.alloc (.cells #[.int .u8 d] 5)).alloc (.cells (#[.int .u8 d] ++ ((D.map fun b => Value.int .u8 (b.toNat : Int)).toArray ++ Z)) 5)).drew) (.slice (some ⟨wr.heap.size + 1, 0, none⟩) (1 + D.length) C) (x :: D) := by
  have hz : (wr.alloc (.cells #[.int .u8 d] 5)).heap.size = wr.heap.size + 1 := by show (wr.heap.push _).size = _; simp
  refine Or.inr ⟨List.cons_ne_nil _ _, wr.heap.size + 1, C, by rw [List.length_cons, Nat.add_comm D.length 1], ?_, ?_⟩
  · show wr.heap.size + 1 < ((wr.alloc (.cells #[.int .u8 d] 5)).heap.push _).size
    rw [Array.size_push, hz]; omega
  · intro j hj
    rw [World.cell?_drew, ← hz, World.cell?_alloc_new]
    cases j with
    | zero => rw [Array.getElem?_append_left (by simp)]; simp [hx]
    | succ i =>
      have hi : i < D.length := by simpa using hj
      rw [Array.getElem?_append_right (by simp)]
      have e : i + 1 - (#[Value.int .u8 d] : Array Value).size = i := by simp
      rw [e, Array.getElem?_append_left (by simpa using hi)]
      simp [hi]

set_option maxHeartbeats 1000000 in
theorem decimal_pos (u : Nat) (hu : u < 9223372036854775808) (w : World) :
    Calls Tryd.prog 42 #[.int .i64 (u : Int)] w fun r w' => r = .returned (.string ⟨(([] : List UInt8) ++ Lib.decDigits u).toArray⟩) ∧ Below w.heap.size w w' := by
  have hu64 : u < 18446744073709551616 := by omega
  go_enter Tryd.func42, Tryd.ntmps42
  go_wp2
  go_loopw [3, 5] (fun vu vb wr => ∃ (v : Nat) (D : List UInt8), vu = .int .u64 v ∧ v ≤ u ∧ Hid (Below w.heap.size w wr) ∧ Hid (DInv u v D) ∧ Hid (HoldsD wr vb D)) (fun vu vb _ => left vu vb)
  case atStart => exact ⟨u, [], rfl, Nat.le_refl _, Below.refl _ _, DInv.start u, Or.inl ⟨rfl, rfl⟩⟩
  case round =>
    obtain ⟨v, D, rfl, hv, HB, HI, HD⟩ := hrel
    rename World => wr
    have hd : (UInt8.ofNat (48 + v % 10)).toNat = 48 + v % 10 := dig_toNat _ (by omega)
    rcases HD.out with ⟨hD, rfl⟩ | ⟨hD, blk, cap, rfl, hblk, hcell⟩
    · have HS := HI.out.step (Or.inr hD)
      have HS' : Hid (DInv u (v / 10) (UInt8.ofNat (48 + v % 10) :: D)) := HS
      have hd' : Hid ((UInt8.ofNat (48 + v % 10)).toNat = 48 + v % 10) := hd
      have hD' : Hid (D = []) := hD
      clear HS hd HD hD HI
      by_cases h0 : 0 < v
      all_goals
        go_wp2
        go_roundw
        case rel =>
          refine ⟨v / 10, UInt8.ofNat (48 + v % 10) :: D, by go_num, by omega, HB.out.alloc HB.out.size _, HS'.out, Or.inr ⟨List.cons_ne_nil _ _, wr.heap.size, 1, by rw [hD'.out]; rfl, by show _ < (wr.heap.push _).size; simp, ?_⟩⟩
          intro j hj
          have hj0 : j = 0 := by rw [hD'.out] at hj; simpa using hj
          subst hj0
          rw [World.cell?_alloc_new]
          show some (Value.int .u8 _) = some (Value.int .u8 ((UInt8.ofNat (48 + v % 10)).toNat : Int))
          rw [hd'.out]; rfl
        case measure => simp [left, intOf]; omega
    · by_cases h0 : 0 < v
      · have HS' : Hid (DInv u (v / 10) (UInt8.ofNat (48 + v % 10) :: D)) := HI.out.step (Or.inl h0)
        have hd' : Hid ((UInt8.ofNat (48 + v % 10)).toNat = 48 + v % 10) := hd
        have hlen := HI.out.len hu64
        have hload := run_load wr (48 + (v : Int) % 10) D blk hblk hcell
        have hpos : 0 < D.length := List.length_pos_iff.2 hD
        have hb1 : ¬ 1 + D.length ≤ 1 := by omega
        have hb2 : ¬ 9223372036854775807 < 1 + (D.length : Int) := by omega
        have hb3 : ¬ 281474976710656 < Builtin.nextslicecap (1 + D.length) 1 * Tryd.t5.bytes := by have := next_le D.length (by omega); omega
        have HC : Hid (∀ j (h : j < D.length), wr.cell? ⟨blk, j, none⟩ = some (.int .u8 (D[j].toNat : Int))) := hcell
        have hD' : Hid (D ≠ []) := hD
        clear hd HD HI hcell hD
        go_wp2
        go_roundw
        case rel =>
          refine ⟨v / 10, UInt8.ofNat (48 + v % 10) :: D, by go_num, by omega, ?_, HS'.out, ?_⟩
          · exact ((HB.out.alloc HB.out.size _).alloc (by show _ ≤ (wr.heap.push _).size; rw [Array.size_push]; have := HB.out.size; omega) _).drew
          · exact holds_front wr _ _ D _ _ (by rw [hd'.out]; omega)
        case measure => simp [left, intOf]; omega
      · have hv0 : v = 0 := by omega
        subst hv0
        have hDd := HI.out.last hD rfl
        have hlen := HI.out.len hu64
        have hcv : (convert 60 9 (.slice (some ⟨blk, 0, none⟩) D.length cap)).run Tryd.prog wr = .ok (.string ⟨D.toArray⟩) wr :=
          run_convert_bytes_back wr 60 9 5 ⟨blk, 0, none⟩ cap D Tryd.underlying60 Tryd.underlying5 Tryd.underlying9 (fun j hj => by rw [Lib.add_plain, Nat.zero_add]; exact hcell j hj)
        have hne : ((D.length : Int) == 0) = false := by
          have : 0 < D.length := List.length_pos_iff.2 hD
          simp; omega
        have HDd : Hid (D = Lib.decDigits u) := hDd
        clear hd HD HI hcell hD hDd
        go_wp2
        go_ret
        exact ⟨by rw [← HDd.out]; exact congrArg (fun x => Ending.returned (.string x)) (ba ([] : List UInt8) D), HB.out⟩

set_option maxHeartbeats 1000000 in
theorem decimal_neg (u : Nat) (hu1 : 1 ≤ u) (hu : u ≤ 9223372036854775808) (w : World) :
    Calls Tryd.prog 42 #[.int .i64 (-(u : Int))] w fun r w' => r = .returned (.string ⟨(([45] : List UInt8) ++ Lib.decDigits u).toArray⟩) ∧ Below w.heap.size w w' := by
  have hu64 : u < 18446744073709551616 := by omega
  have hwr : IntKind.u64.wrap (-IntKind.u64.wrap (-(u : Int))) = (u : Int) := by rw [IntKind.wrap_u64, IntKind.wrap_u64]; omega
  go_enter Tryd.func42, Tryd.ntmps42
  go_wp2
  go_loopw [3, 5] (fun vu vb wr => ∃ (v : Nat) (D : List UInt8), vu = .int .u64 v ∧ v ≤ u ∧ Hid (Below w.heap.size w wr) ∧ Hid (DInv u v D) ∧ Hid (HoldsD wr vb D)) (fun vu vb _ => left vu vb)
  case atStart => exact ⟨u, [], rfl, Nat.le_refl _, Below.refl _ _, DInv.start u, Or.inl ⟨rfl, rfl⟩⟩
  case round =>
    obtain ⟨v, D, rfl, hv, HB, HI, HD⟩ := hrel
    rename World => wr
    have hd : (UInt8.ofNat (48 + v % 10)).toNat = 48 + v % 10 := dig_toNat _ (by omega)
    rcases HD.out with ⟨hD, rfl⟩ | ⟨hD, blk, cap, rfl, hblk, hcell⟩
    · have HS := HI.out.step (Or.inr hD)
      have HS' : Hid (DInv u (v / 10) (UInt8.ofNat (48 + v % 10) :: D)) := HS
      have hd' : Hid ((UInt8.ofNat (48 + v % 10)).toNat = 48 + v % 10) := hd
      have hD' : Hid (D = []) := hD
      clear HS hd HD hD HI
      by_cases h0 : 0 < v
      all_goals
        go_wp2
        go_roundw
        case rel =>
          refine ⟨v / 10, UInt8.ofNat (48 + v % 10) :: D, by go_num, by omega, HB.out.alloc HB.out.size _, HS'.out, Or.inr ⟨List.cons_ne_nil _ _, wr.heap.size, 1, by rw [hD'.out]; rfl, by show _ < (wr.heap.push _).size; simp, ?_⟩⟩
          intro j hj
          have hj0 : j = 0 := by rw [hD'.out] at hj; simpa using hj
          subst hj0
          rw [World.cell?_alloc_new]
          show some (Value.int .u8 _) = some (Value.int .u8 ((UInt8.ofNat (48 + v % 10)).toNat : Int))
          rw [hd'.out]; rfl
        case measure => simp [left, intOf]; omega
    · by_cases h0 : 0 < v
      · have HS' : Hid (DInv u (v / 10) (UInt8.ofNat (48 + v % 10) :: D)) := HI.out.step (Or.inl h0)
        have hd' : Hid ((UInt8.ofNat (48 + v % 10)).toNat = 48 + v % 10) := hd
        have hlen := HI.out.len hu64
        have hload := run_load wr (48 + (v : Int) % 10) D blk hblk hcell
        have hpos : 0 < D.length := List.length_pos_iff.2 hD
        have hb1 : ¬ 1 + D.length ≤ 1 := by omega
        have hb2 : ¬ 9223372036854775807 < 1 + (D.length : Int) := by omega
        have hb3 : ¬ 281474976710656 < Builtin.nextslicecap (1 + D.length) 1 * Tryd.t5.bytes := by have := next_le D.length (by omega); omega
        have HC : Hid (∀ j (h : j < D.length), wr.cell? ⟨blk, j, none⟩ = some (.int .u8 (D[j].toNat : Int))) := hcell
        have hD' : Hid (D ≠ []) := hD
        clear hd HD HI hcell hD
        go_wp2
        go_roundw
        case rel =>
          refine ⟨v / 10, UInt8.ofNat (48 + v % 10) :: D, by go_num, by omega, ?_, HS'.out, ?_⟩
          · exact ((HB.out.alloc HB.out.size _).alloc (by show _ ≤ (wr.heap.push _).size; rw [Array.size_push]; have := HB.out.size; omega) _).drew
          · exact holds_front wr _ _ D _ _ (by rw [hd'.out]; omega)
        case measure => simp [left, intOf]; omega
      · have hv0 : v = 0 := by omega
        subst hv0
        have hDd := HI.out.last hD rfl
        have hlen := HI.out.len hu64
        have hcv : (convert 60 9 (.slice (some ⟨blk, 0, none⟩) D.length cap)).run Tryd.prog wr = .ok (.string ⟨D.toArray⟩) wr :=
          run_convert_bytes_back wr 60 9 5 ⟨blk, 0, none⟩ cap D Tryd.underlying60 Tryd.underlying5 Tryd.underlying9 (fun j hj => by rw [Lib.add_plain, Nat.zero_add]; exact hcell j hj)
        have hne : ((D.length : Int) == 0) = false := by
          have : 0 < D.length := List.length_pos_iff.2 hD
          simp; omega
        have HDd : Hid (D = Lib.decDigits u) := hDd
        clear hd HD HI hcell hD hDd
        go_wp2
        go_ret
        exact ⟨by rw [← HDd.out]; exact congrArg (fun x => Ending.returned (.string x)) (ba ([45] : List UInt8) D), HB.out⟩
end Go.Proofs.YtmeohldomplegaaDoor
