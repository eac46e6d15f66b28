/- The contract of Dot, the program's. -/
import Derived.Test.YtchdflbnelcjbaaM
import Derived.Test.YtchdflbnelcjbaaZ
import Derived.BigQuiet
namespace Go.Proofs.Ytchdflbnelcjbaa
open Go.RowKit Fo
set_option maxRecDepth 100000

namespace Fo
theorem plc_pos (a : Nat) (h : a ≤ 9218868437227405312) : plc a = a + 9223372036854775808 := by
  have n : isN a = false := by unfold isN; simp only [decide_eq_false_iff_not]; omega
  unfold plc; rw [n]; simp; omega
theorem bits_pos (a : Nat) (h : a ≤ 9218868437227405312) : bitsOf a = a := by
  have n : isN a = false := by unfold isN; simp only [decide_eq_false_iff_not]; omega
  unfold bitsOf; rw [n]; rfl
theorem most_pair (a b : Nat) (ha : a ≤ 9218868437227405312) (hb : b ≤ 9218868437227405312) : bitsOf (best ahMost (pairX a b) (2 - 1)) = max a b := by
  show bitsOf (if ahMost b a then b else a) = _
  unfold ahMost
  rw [plc_pos a ha, plc_pos b hb]
  by_cases h : a < b
  · rw [if_pos (by simp; omega), bits_pos b hb, Nat.max_eq_right (by omega)]
  · rw [if_neg (by simp; omega), bits_pos a ha, Nat.max_eq_left (by omega)]
end Fo
theorem most_two (a b : Nat) (ha : a ≤ 9218868437227405312) (hb : b ≤ 9218868437227405312) (w : World) :
    Calls Try.prog 29 #[.slice (some ⟨w.heap.size, 0, none⟩) 2 2] (w.alloc (.cells #[.float .f64 a, .float .f64 b] 22)) fun r w' => r = .returned (.tuple #[.float .f64 (max a b), .int .i64 0]) ∧ w' = w.alloc (.cells #[.float .f64 a, .float .f64 b] 22) := by
  obtain ⟨-, -, hX, h⟩ := sl_pair w a b 22 (by omega) (by omega)
  rcases h with h | ⟨b', off', e, hc⟩
  · omega
  · obtain ⟨rfl, rfl⟩ : w.heap.size = b' ∧ 0 = off' := by simpa using e
    have := most_any w.heap.size 0 2 2 (w.alloc (.cells #[.float .f64 a, .float .f64 b] 22)) (by decide) (by decide) (by decide) (pairX a b) hX hc
    rw [most_pair a b ha hb] at this
    exact this
theorem below_drewN {B : Nat} {a w : World} (h : Below B a w) (n : Nat) : Below B a (w.drewN n) := ⟨h.os, h.tape, h.output, h.size, h.block⟩
theorem dot_core (b1 off1 cap1 b2 off2 cap2 n : Nat) (w : World) (hn : 1 ≤ n) (hn2 : n ≤ 4000) (X Y B : Nat → Nat) (ok : Nat → Bool) (TV : Nat → Nat → Nat) (TE : Nat → Nat → Int) (V : Nat) (E : Int) (hX : ∀ j, X j < 18446744073709551616) (hY : ∀ j, Y j < 18446744073709551616)
    (hB : ∀ j, B j ≤ 9218868437227405312) (hTV : ∀ j, TV (X j) (Y j) ≤ 9218868437227405312)
    (hB0 : B 0 = 0) (hc : ∀ j, j < n → w.cell? ⟨b1, off1 + j, none⟩ = some (.float .f64 (X j))) (hd : ∀ j, j < n → w.cell? ⟨b2, off2 + j, none⟩ = some (.float .f64 (Y j)))
    (c : ∀ a b, a < 18446744073709551616 → b < 18446744073709551616 → ∀ w, Calls Try.prog 9 #[.float .f64 a, .float .f64 b] w fun e w' => e = .returned (.tuple #[.float .f64 (TV a b), .int .i64 (TE a b)]) ∧ w' = w)
    (hok : ∀ k, (ok k = true → max (B k) (TV (X k) (Y k)) = B (k + 1) ∧ TE (X k) (Y k) = 0) ∧ (ok k = false → TE (X k) (Y k) = 16))
    (hT : (∀ j, j < n → ok j = true) → B n = V ∧ 0 = E) (hF : ∀ j, j < n → ok j = false → 0 = V ∧ 16 = E) :
    Calls Try.prog 16 #[.slice (some ⟨b1, off1, none⟩) n cap1, .slice (some ⟨b2, off2, none⟩) n cap2] w fun r w' => r = .returned (.tuple #[.float .f64 V, .int .i64 E]) ∧ Below w.heap.size w w' := by
  have HT : Hid ((∀ j, j < n → ok j = true) → B n = V ∧ 0 = E) := hT
  have HF : Hid (∀ j, j < n → ok j = false → 0 = V ∧ 16 = E) := hF
  have HO : Hid (∀ k, (ok k = true → max (B k) (TV (X k) (Y k)) = B (k + 1) ∧ TE (X k) (Y k) = 0) ∧ (ok k = false → TE (X k) (Y k) = 16)) := hok
  have HM : Hid (∀ a b, a ≤ 9218868437227405312 → b ≤ 9218868437227405312 → ∀ w : World, Calls Try.prog 29 #[.slice (some ⟨w.heap.size, 0, none⟩) 2 2] (w.alloc (.cells #[.float .f64 a, .float .f64 b] 22)) fun r w' => r = .returned (.tuple #[.float .f64 (max a b), .int .i64 0]) ∧ w' = w.alloc (.cells #[.float .f64 a, .float .f64 b] 22)) := most_two
  have hb1 : b1 < w.heap.size := World.block_lt_of_cell? w _ (hc 0 (by omega))
  have hb2 : b2 < w.heap.size := World.block_lt_of_cell? w _ (hd 0 (by omega))
  clear hT hF hok
  go_enter Try.func16, Try.ntmps16
  go_wp2
  go_loopw [6, 17] (fun m i wr => ∃ k : Nat, k ≤ n ∧ i = .int .i64 k ∧ m = .float .f64 (B k) ∧ Hid (Below w.heap.size w wr) ∧ Hid (∀ j, j < k → ok j = true)) (fun _ i _ => n - (intOf i).toNat)
  case atStart => exact ⟨0, Nat.zero_le _, rfl, by rw [hB0], Below.refl _ _, fun j hj => absurd hj (by omega)⟩
  case round =>
    obtain ⟨k, hk, rfl, rfl, HB, HK⟩ := hrel
    rename World => wr
    by_cases hlt : k < n
    · have hck : wr.cell? ⟨b1, off1 + k, none⟩ = some (.float .f64 (X k)) := (HB.out.cell hb1).trans (hc k hlt)
      have hdk : wr.cell? ⟨b2, off2 + k, none⟩ = some (.float .f64 (Y k)) := (HB.out.cell hb2).trans (hd k hlt)
      have hXk := hX k
      have hYk := hY k
      have hBk := hB k
      have hTk := hTV k
      have HO1 := HO.out k
      have i1 : (0 : Int) ≤ (k : Int) := by omega
      have i2 : (k : Int) < (n : Int) := by omega
      cases ho : ok k
      · have e1 := HO1.2 ho
        have HE : Hid (0 = V ∧ 16 = E) := HF.out k hlt ho
        clear HF HT HO HO1 hc hd hX hY hB hTV ho HK
        go_wp2
        go_quiet ((go_at_call 9; exact Calls.quiet_of_same (c _ _ (by assumption) (by assumption) _)))
        go_wp2
        go_ret2
        exact ⟨ret_two HE.out.1 HE.out.2, below_drewN HB.out _⟩
      · have e1 := (HO1.1 ho).2
        have HE : Hid (max (B k) (TV (X k) (Y k)) = B (k + 1)) := (HO1.1 ho).1
        have HK' : Hid (∀ j, j < k + 1 → ok j = true) := fun j hj => by
          by_cases e : j = k
          · subst e; exact ho
          · exact HK.out j (by omega)
        clear HF HT HO HO1 hc hd hX hY hB hTV ho HK
        go_wp2
        go_quiet ((go_at_call 9; exact Calls.quiet_of_same (c _ _ (by assumption) (by assumption) _)))
        go_wp2_with (go_at_call 29; refine (HM.out _ _ (by assumption) (by assumption) _).mono ?_; rintro e w' ⟨rfl, rfl⟩)
        go_roundw
        case rel => exact ⟨k + 1, by omega, by go_num, float_eq HE.out, (below_drewN HB.out _).alloc (below_drewN HB.out _).size _, HK'⟩
        case measure => simp [intOf]; omega
    · obtain rfl : k = n := by omega
      have HE : Hid (B k = V ∧ 0 = E) := HT.out HK.out
      clear HF HT HO hc hd hX hY hB hTV HK c
      go_wp2
      go_ret2
      exact ⟨ret_two HE.out.1 HE.out.2, HB.out⟩
end Go.Proofs.Ytchdflbnelcjbaa
