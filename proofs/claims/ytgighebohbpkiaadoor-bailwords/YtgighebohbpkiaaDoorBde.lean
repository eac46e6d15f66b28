/- decimal: digits of a small number. -/
import Derived.Test.YtgighebohbpkiaaDoorBli
import Derived.Test.YtgighebohbpkiaaDoorProg
import Derived.Lib.ItoaNum
import Derived.KernelRfl
namespace Go.Proofs.YtgighebohbpkiaaDoor
open Go.RowKit Fo
set_option maxRecDepth 100000
set_option linter.unusedSimpArgs false
set_option linter.unusedVariables false

namespace Fo
/-- In the midst of writing digits: l is written, m is left of N. -/
def DgP (N m : Nat) (l : List UInt8) : Prop := l.length ≤ 20 ∧ ((m = 0 ∧ l ≠ [] ∧ l = Lib.decDigits N) ∨ ((0 < m ∨ l = []) ∧ Lib.decDigits m ++ l = Lib.decDigits N)) ∧ m * 10 ^ l.length ≤ 10000
theorem dg_step {N m : Nat} {l : List UInt8} (h : DgP N m l) (hm : 0 < m ∨ l = []) : DgP N (m / 10) (UInt8.ofNat (48 + m % 10) :: l) := by
  obtain ⟨h1, h2, h3⟩ := h
  have h2' : Lib.decDigits m ++ l = Lib.decDigits N := by
    rcases h2 with ⟨h2, h4, -⟩ | h2
    · rcases hm with q | q
      · omega
      · exact absurd q h4
    · exact h2.2
  have hl : l.length < 20 := by
    by_cases q : l.length < 20
    · exact q
    · exfalso
      have hp : 10 ^ 20 ≤ 10 ^ l.length := Nat.pow_le_pow_right (by decide) (by omega)
      rcases hm with r | r
      · have := Nat.mul_le_mul r hp
        omega
      · rw [r] at q; simp at q
  refine ⟨by simp; omega, ?_, ?_⟩
  · by_cases q : m < 10
    · left
      refine ⟨by omega, by simp, ?_⟩
      rw [← h2', Lib.decDigits_one q, Nat.mod_eq_of_lt q]
      rfl
    · right
      refine ⟨Or.inl (by omega), ?_⟩
      rw [← h2']
      conv => rhs; rw [Lib.decDigits, dif_neg q]
      simp
  · rw [List.length_cons, Nat.pow_succ]
    have : m / 10 * 10 ≤ m := Nat.div_mul_le_self m 10
    calc m / 10 * (10 ^ l.length * 10) = (m / 10 * 10) * 10 ^ l.length := by rw [Nat.mul_comm (10 ^ l.length) 10, Nat.mul_assoc]
      _ ≤ m * 10 ^ l.length := Nat.mul_le_mul_right _ this
      _ ≤ 10000 := h3
end Fo
theorem conv_digit (w : World) (m : Nat) : (convert 44 9 (.slice (some ⟨w.heap.size, 0, none⟩) 1 1)).run Tryd.prog (w.alloc (.cells #[.int .u8 (48 + (m : Int) % 10)] 5)) = .ok (.string ⟨#[UInt8.ofNat (48 + m % 10)]⟩) (w.alloc (.cells #[.int .u8 (48 + (m : Int) % 10)] 5)) := by
  have := run_convert_bytes_back (P := Tryd.prog) (w.alloc (.cells #[.int .u8 (48 + (m : Int) % 10)] 5)) 44 9 5 ⟨w.heap.size, 0, none⟩ 1 [UInt8.ofNat (48 + m % 10)] Tryd.underlying44 Tryd.underlying5 Tryd.underlying9 (fun j hj => by
    obtain rfl : j = 0 := by simpa using hj
    rw [add_off, Nat.add_zero, cell_of_row _ _ _ _ _ _ (heap_new1 w _)]
    simp only [List.getElem_cons_zero, UInt8.toNat_ofNat']
    rw [Nat.mod_eq_of_lt (by omega)]
    simp)
  exact this
theorem str_cons (k : Nat) (l : List UInt8) : (({ data := #[48 + UInt8.ofNat k] } : ByteArray) ++ { data := l.toArray }) = ⟨(UInt8.ofNat (48 + k) :: l).toArray⟩ := by
  apply ByteArray.ext
  rw [ByteArray.data_append]
  simp [UInt8.ofNat_add]
theorem str_cat (l m : List UInt8) : ((⟨l.toArray⟩ : ByteArray) ++ ⟨m.toArray⟩) = ⟨(l ++ m).toArray⟩ := by
  apply ByteArray.ext
  rw [ByteArray.data_append]
  simp
namespace Fo
def emp : Value → Nat
  | .string b => if b.size = 0 then 1 else 0
  | _ => 0
theorem emp_nil : emp (.string ⟨#[]⟩) = 1 := by decide
theorem emp_cons (a : UInt8) (t : List UInt8) : emp (.string ⟨(a :: t).toArray⟩) = 0 := by
  have h : (⟨(a :: t).toArray⟩ : ByteArray).size = t.length + 1 := by simp [ByteArray.size]
  simp [emp, h]
theorem dg_end {N : Nat} {l : List UInt8} (h : DgP N 0 l) (hl : l ≠ []) : l = Lib.decDigits N := by
  rcases h.2.1 with ⟨-, -, q⟩ | ⟨q, -⟩
  · exact q
  · rcases q with q | q
    · omega
    · exact absurd q hl
end Fo
set_option maxHeartbeats 8000000 in
theorem decimal_any (w : World) (n : Int) (h1 : -1000 ≤ n) (h2 : n ≤ 1000) : Calls Tryd.prog 9 #[.int .i64 n] w fun e w' => e = .returned (.string ⟨(Lib.itoa n).toArray⟩) ∧ Below w.heap.size w w' := by
  by_cases hn : n < 0
  · skip
    obtain ⟨N, rfl⟩ : ∃ N : Nat, n = -(N : Int) := ⟨n.natAbs, by omega⟩
    have hN0 : 0 < N := by omega
    have HIT : Hid (Lib.itoa (-(N : Int)) = 45 :: Lib.decDigits N) := by show _ = _; unfold Lib.itoa; rw [if_pos hn]; simp
    have hN : N ≤ 1000 := by omega
    go_enter Tryd.func9, Tryd.ntmps9
    go_wp2
    go_loopw [3, 4] (fun v3 v4 wr => ∃ (m : Nat) (l : List UInt8), v4 = .int .i64 m ∧ v3 = .string ⟨l.toArray⟩ ∧ Hid (DgP N m l) ∧ m ≤ N ∧ Hid (0 < m ∨ l ≠ []) ∧ Hid (Below w.heap.size w wr)) (fun v3 v _ => (intOf v).toNat + emp v3)
    case atStart => exact ⟨N, [], by simp, rfl, ⟨by simp, Or.inr ⟨Or.inr rfl, by simp⟩, by simp; omega⟩, Nat.le_refl _, Or.inl hN0, below_refl w⟩
    case round =>
      obtain ⟨m, l, rfl, rfl, HD, hmN, HL0, HB⟩ := hrel
      rename World => wr
      have hl := HD.out.1
      by_cases hm : 0 < m
      · have hm' : (0 : Int) < (m : Int) := by omega
        have hcv := conv_digit wr m
        cases l with
        | nil =>
          go_wp2
          exact ⟨⟨m / 10, UInt8.ofNat (48 + m % 10) :: [], by simp, congrArg Value.string (str_cons (m % 10) []), dg_step HD.out (Or.inl hm), by have := Nat.div_le_self m 10; omega, Or.inr (by simp), HB.out.alloc HB.out.size _⟩, by rw [str_cons, emp_cons]; simp [intOf]; omega⟩
        | cons a t =>
          have hlt : t.length ≤ 19 := by simpa using hl
          go_wp2
          exact ⟨⟨m / 10, UInt8.ofNat (48 + m % 10) :: (a :: t), by simp, congrArg Value.string (str_cons (m % 10) (a :: t)), dg_step HD.out (Or.inl hm), by have := Nat.div_le_self m 10; omega, Or.inr (by simp), HB.out.alloc HB.out.size _⟩, by rw [str_cons, emp_cons]; simp [intOf]; omega⟩
      · obtain rfl : m = 0 := by omega
        cases l with
        | nil =>
          exact absurd HL0.out (by simp)
        | cons a t =>
          have hlt : t.length ≤ 19 := by simpa using hl
          go_wp2
          go_ret
          rw [HIT.out, ← dg_end HD.out (by simp)]
          exact ⟨congrArg (fun b => Ending.returned (Value.string b)) (str_cat [45] (a :: t)), HB.out⟩
  · skip
    obtain ⟨N, rfl⟩ : ∃ N : Nat, n = (N : Int) := ⟨n.toNat, by omega⟩
    have HIT : Hid (Lib.itoa (N : Int) = Lib.decDigits N) := by show _ = _; unfold Lib.itoa; rw [if_neg hn]; simp
    have hN : N ≤ 1000 := by omega
    go_enter Tryd.func9, Tryd.ntmps9
    go_wp2
    go_loopw [3, 4] (fun v3 v4 wr => ∃ (m : Nat) (l : List UInt8), v4 = .int .i64 m ∧ v3 = .string ⟨l.toArray⟩ ∧ Hid (DgP N m l) ∧ m ≤ N ∧ Hid (True) ∧ Hid (Below w.heap.size w wr)) (fun v3 v _ => (intOf v).toNat + emp v3)
    case atStart => exact ⟨N, [], by simp, rfl, ⟨by simp, Or.inr ⟨Or.inr rfl, by simp⟩, by simp; omega⟩, Nat.le_refl _, trivial, below_refl w⟩
    case round =>
      obtain ⟨m, l, rfl, rfl, HD, hmN, HL0, HB⟩ := hrel
      rename World => wr
      have hl := HD.out.1
      by_cases hm : 0 < m
      · have hm' : (0 : Int) < (m : Int) := by omega
        have hcv := conv_digit wr m
        cases l with
        | nil =>
          go_wp2
          exact ⟨⟨m / 10, UInt8.ofNat (48 + m % 10) :: [], by simp, congrArg Value.string (str_cons (m % 10) []), dg_step HD.out (Or.inl hm), by have := Nat.div_le_self m 10; omega, trivial, HB.out.alloc HB.out.size _⟩, by rw [str_cons, emp_cons]; simp [intOf]; omega⟩
        | cons a t =>
          have hlt : t.length ≤ 19 := by simpa using hl
          go_wp2
          exact ⟨⟨m / 10, UInt8.ofNat (48 + m % 10) :: (a :: t), by simp, congrArg Value.string (str_cons (m % 10) (a :: t)), dg_step HD.out (Or.inl hm), by have := Nat.div_le_self m 10; omega, trivial, HB.out.alloc HB.out.size _⟩, by rw [str_cons, emp_cons]; simp [intOf]; omega⟩
      · obtain rfl : m = 0 := by omega
        cases l with
        | nil =>
          have hcv := conv_digit wr 0
          rw [show (48 + ((0 : Nat) : Int) % 10) = 48 by decide] at hcv
          have hcat : ((⟨#[48]⟩ : ByteArray) ++ ⟨#[]⟩) = ⟨([48] : List UInt8).toArray⟩ := str_cat [48] []
          go_wp2
          exact ⟨⟨0, [48], rfl, congrArg Value.string hcat, (by have := dg_step HD.out (Or.inr rfl); show DgP N 0 [48]; simpa using this), Nat.zero_le _, trivial, HB.out.alloc HB.out.size _⟩, by (try rw [hcat]); rw [show emp (.string ⟨#[48]⟩) = 0 from emp_cons 48 []]; simp [intOf, emp_nil]⟩
        | cons a t =>
          have hlt : t.length ≤ 19 := by simpa using hl
          go_wp2
          go_ret
          rw [HIT.out, ← dg_end HD.out (by simp)]
          exact ⟨rfl, HB.out⟩
end Go.Proofs.YtgighebohbpkiaaDoor
