/- BailWords, out of what bail answers. -/
import Derived.Test.YtgighebohbpkiaaDoorBaw
import Derived.Test.YtgighebohbpkiaaDoorBde
namespace Go.Proofs.YtgighebohbpkiaaDoor
open Go.RowKit Fo
set_option maxRecDepth 100000
set_option linter.unusedSimpArgs false
set_option linter.unusedVariables false

namespace Fo
def itoaT (n : Int) : ByteArray := ⟨(Lib.itoa n).toArray⟩
/-- The words of a Bail. -/
def bailT (c a : Int) : ByteArray := ⟨#[98, 97, 105, 108, 32]⟩ ++ itoaT c ++ ⟨#[32, 97, 116, 32]⟩ ++ itoaT a
end Fo
/-- What bail's words are, and what is done where there is nothing to do. -/
structure WordsSays (Env : World → Prop) : Prop where
  keep : ∀ {w w' : World}, Env w → Below w.heap.size w w' → Env w'
  err : ∀ (w : World) (b : Nat) (c a : Int), Env w → w.heap[b]? = some (.cells #[.int .i64 c, .int .i64 a] 26) → -1000 ≤ c → c ≤ 1000 → -1000 ≤ a → a ≤ 1000 →
    Calls Tryd.prog 8 #[.pointer (some ⟨b, 0, none⟩)] w fun e w' => e = .returned (.string (bailT c a)) ∧ Below w.heap.size w w'
  errn : ∀ (w : World), Calls Tryd.prog 8 #[.pointer none] w fun e w' => e = .returned (.string ⟨#[98, 97, 105, 108]⟩) ∧ Below w.heap.size w w'
  catchn : ∀ (w : World), Calls Tryd.prog 5 #[.nilFunc] w fun e w' => e = .returned (.tuple #[.int .i64 0, .int .i64 0]) ∧ Below w.heap.size w w'
  safen : ∀ (w : World), Calls Tryd.prog 6 #[.nilFunc] w fun e w' => e = .returned (.tuple #[.nilIface, .bool true]) ∧ Below w.heap.size w w'
  aftern : ∀ (w : World), Calls Tryd.prog 7 #[.nilFunc, .nilFunc] w fun e w' => e = .returned (.tuple #[]) ∧ Below w.heap.size w w'
  onlyn : ∀ (w : World) (k : Int), Calls Tryd.prog 10 #[.int .i64 k, .nilFunc] w fun e w' => e = .returned (.bool false) ∧ Below w.heap.size w w'
theorem itoaT_size (n : Int) (h1 : -1000 ≤ n) (h2 : n ≤ 1000) : (itoaT n).size ≤ 30 := by
  have hd : ∀ N : Nat, N ≤ 1000 → (Lib.decDigits N).length ≤ 5 := fun N hN => by
    rw [Lib.decDigits]
    split
    · simp
    · rw [Lib.decDigits]
      split
      · simp
      · rw [Lib.decDigits]
        split
        · simp
        · rw [Lib.decDigits, dif_pos (by omega)]; simp
  have : (Lib.itoa n).length ≤ 6 := by
    unfold Lib.itoa
    split
    · have := hd n.natAbs (by omega); simp; omega
    · have := hd n.toNat (by omega); omega
  simp [itoaT, ByteArray.size]
  omega
set_option maxHeartbeats 16000000 in
theorem words_any {M : (Nat → Prop) → World → Value → Int → Prop} {Env : World → Prop} (C : BailSays) (D : MeterSays M) (N : WordsSays Env) (w : World) (code at' : Int) (henv : Env w) :
    Calls Tryd.prog 3 #[.int .i64 code, .int .i64 at'] w fun e w' => e = .returned (.bool true) ∧ Below w.heap.size w w' := by
  by_cases hc0 : code < -1000
  · skip
    go_enter Tryd.func3, Tryd.ntmps3
    go_wp2_with (go_at_call 4; fail)
    refine (awake_of C D _).mono ?_
    rintro e w1 ⟨rfl, b1⟩
    have HB : Hid (Below w.heap.size w w1) := b1
    clear b1
    go_wp2
    go_ret
    exact ⟨rfl, HB.out⟩
  by_cases hc1 : 1000 < code
  · skip
    go_enter Tryd.func3, Tryd.ntmps3
    go_wp2_with (go_at_call 4; fail)
    refine (awake_of C D _).mono ?_
    rintro e w1 ⟨rfl, b1⟩
    have HB : Hid (Below w.heap.size w w1) := b1
    clear b1
    go_wp2
    go_ret
    exact ⟨rfl, HB.out⟩
  by_cases hc2 : at' < -1000
  · skip
    go_enter Tryd.func3, Tryd.ntmps3
    go_wp2_with (go_at_call 4; fail)
    refine (awake_of C D _).mono ?_
    rintro e w1 ⟨rfl, b1⟩
    have HB : Hid (Below w.heap.size w w1) := b1
    clear b1
    go_wp2
    go_ret
    exact ⟨rfl, HB.out⟩
  by_cases hc3 : 1000 < at'
  · skip
    go_enter Tryd.func3, Tryd.ntmps3
    go_wp2_with (go_at_call 4; fail)
    refine (awake_of C D _).mono ?_
    rintro e w1 ⟨rfl, b1⟩
    have HB : Hid (Below w.heap.size w w1) := b1
    clear b1
    go_wp2
    go_ret
    exact ⟨rfl, HB.out⟩
  have HC : Hid (-1000 ≤ code ∧ code ≤ 1000 ∧ -1000 ≤ at' ∧ at' ≤ 1000) := ⟨by omega, by omega, by omega, by omega⟩
  obtain ⟨W0, hW0⟩ : ∃ W0, W0 = w.alloc (.cells #[.int .i64 code, .int .i64 at'] 26) := ⟨_, rfl⟩
  have HBW0 : Hid (Below w.heap.size w W0) := by rw [hW0]; exact below1 w _
  have HG0 : Hid (W0.heap[w.heap.size]? = some (.cells #[.int .i64 code, .int .i64 at'] 26)) := by show W0.heap[_]? = _; rw [hW0]; exact heap_new1 w _
  obtain ⟨s1, hs1⟩ : ∃ s1, s1 = itoaT code := ⟨_, rfl⟩
  obtain ⟨s2, hs2⟩ : ∃ s2, s2 = itoaT at' := ⟨_, rfl⟩
  have hz1 : s1.size ≤ 30 := by rw [hs1]; exact itoaT_size code (by omega) (by omega)
  have hz2 : s2.size ≤ 30 := by rw [hs2]; exact itoaT_size at' (by omega) (by omega)
  have HS1 : Hid (s1 = itoaT code) := hs1
  have HS2 : Hid (s2 = itoaT at') := hs2
  have HENV : Hid (Env w) := henv
  clear hs1 hs2 henv
  go_enter Tryd.func3, Tryd.ntmps3
  go_wp2_with (go_at_call 5; fail)
  rw [← hW0]
  clear hW0
  refine (N.catchn W0).mono ?_
  rintro e w1 ⟨rfl, b⟩
  have HBw1 : Hid (Below w.heap.size w w1) := below_step HBW0.out b
  have HB01 : Hid (Below W0.heap.size W0 w1) := b
  clear b
  go_wp2_with (go_at_call 6; fail)
  refine (N.safen w1).mono ?_
  rintro e w2 ⟨rfl, b⟩
  have HBw2 : Hid (Below w.heap.size w w2) := below_step HBw1.out b
  have HB02 : Hid (Below W0.heap.size W0 w2) := below_step HB01.out b
  clear b
  go_wp2_with (go_at_call 7; fail)
  refine (N.aftern w2).mono ?_
  rintro e w3 ⟨rfl, b⟩
  have HBw3 : Hid (Below w.heap.size w w3) := below_step HBw2.out b
  have HG3 : Hid (w3.heap[w.heap.size]? = some (.cells #[.int .i64 code, .int .i64 at'] 26)) := ((below_step HB02.out b).block _ (lt_of_heap HG0.out)).trans HG0.out
  clear b
  go_wp2_with (go_at_call 8; fail)
  refine (N.err w3 _ code at' (N.keep HENV.out HBw3.out) HG3.out HC.out.1 HC.out.2.1 HC.out.2.2.1 HC.out.2.2.2).mono ?_
  rintro e w4 ⟨rfl, b⟩
  have HBw4 : Hid (Below w.heap.size w w4) := below_step HBw3.out b
  clear b
  rw [show bailT code at' = ⟨#[98, 97, 105, 108, 32]⟩ ++ s1 ++ ⟨#[32, 97, 116, 32]⟩ ++ s2 by rw [HS1.out, HS2.out]; rfl]
  obtain ⟨bt, hbt⟩ : ∃ bt, bt = ((⟨#[98, 97, 105, 108, 32]⟩ ++ s1 ++ ⟨#[32, 97, 116, 32]⟩ ++ s2 : ByteArray)) := ⟨_, rfl⟩
  have HBT : Hid (bt = _) := hbt
  rw [← hbt]
  clear hbt
  go_wp2_with (go_at_call 9; fail)
  refine (decimal_any w4 code HC.out.1 HC.out.2.1).mono ?_
  rintro e w5 ⟨rfl, b⟩
  have HBw5 : Hid (Below w.heap.size w w5) := below_step HBw4.out b
  clear b
  rw [show (⟨(Lib.itoa code).toArray⟩ : ByteArray) = s1 from HS1.out.symm]
  go_wp2_with (go_at_call 9; fail)
  refine (decimal_any w5 at' HC.out.2.2.1 HC.out.2.2.2).mono ?_
  rintro e w6 ⟨rfl, b⟩
  have HBw6 : Hid (Below w.heap.size w w6) := below_step HBw5.out b
  clear b
  rw [show (⟨(Lib.itoa at').toArray⟩ : ByteArray) = s2 from HS2.out.symm]
  have hcmp : bt.toList = (⟨#[98, 97, 105, 108, 32]⟩ ++ s1 ++ ⟨#[32, 97, 116, 32]⟩ ++ s2 : ByteArray).toList := congrArg ByteArray.toList HBT.out
  go_wp2_with (go_at_call 8; fail)
  refine (N.errn w6).mono ?_
  rintro e w7 ⟨rfl, b⟩
  have HBw7 : Hid (Below w.heap.size w w7) := below_step HBw6.out b
  clear b
  go_wp2_with (go_at_call 10; fail)
  refine (N.onlyn w7 1).mono ?_
  rintro e w8 ⟨rfl, b⟩
  have HBw8 : Hid (Below w.heap.size w w8) := below_step HBw7.out b
  clear b
  go_wp2_with (go_at_call 4; fail)
  refine (awake_of C D w8).mono ?_
  rintro e w9 ⟨rfl, b⟩
  have HBw9 : Hid (Below w.heap.size w w9) := below_step HBw8.out b
  clear b
  go_wp2
  go_ret
  exact ⟨rfl, HBw9.out⟩
end Go.Proofs.YtgighebohbpkiaaDoor
