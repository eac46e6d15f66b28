/- The walk of FloEnds: it answers true at every list of numbers. -/
import Derived.Test.YtmeohldomplegaaDoorM
namespace Go.Proofs.YtmeohldomplegaaDoor
open Go.RowKit Fo Go.Sort
set_option maxRecDepth 100000

namespace Fo
theorem bits_bits (a : Nat) : bitsOf (bitsOf a) = bitsOf a := by
  unfold bitsOf; cases h : isN a
  · simp [h]
  · simp
theorem plc_bits (a : Nat) : plc (bitsOf a) = plc a := by
  unfold bitsOf; cases h : isN a
  · simp
  · rw [if_pos rfl]
    have h2 : isN 9221120237041090560 = true := by decide
    rw [plc, plc, if_pos h2, if_pos h]
theorem best_mem (ah : Nat → Nat → Bool) (X : Nat → Nat) : ∀ k, ∃ j, j ≤ k ∧ best ah X k = X j
  | 0 => ⟨0, Nat.le_refl _, rfl⟩
  | k + 1 => by
    obtain ⟨j, hj, h⟩ := best_mem ah X k
    cases hc : ah (X (k + 1)) (best ah X k)
    · exact ⟨j, by omega, (best_not hc).trans h⟩
    · exact ⟨k + 1, Nat.le_refl _, best_yes hc⟩
theorem least_le (X : Nat → Nat) : ∀ k j, j ≤ k → plc (best ahLeast X k) ≤ plc (X j)
  | 0, j, hj => by obtain rfl : j = 0 := by omega
                   exact Nat.le_refl _
  | k + 1, j, hj => by
    have ih := least_le X k
    cases hc : ahLeast (X (k + 1)) (best ahLeast X k)
    · rw [best_not hc]
      have hc' : ¬ (plc (X (k + 1)) < plc (best ahLeast X k)) := by simpa [ahLeast] using hc
      by_cases e : j = k + 1
      · subst e; omega
      · exact ih j (by omega)
    · rw [best_yes hc]
      have hc' : plc (X (k + 1)) < plc (best ahLeast X k) := by simpa [ahLeast] using hc
      by_cases e : j = k + 1
      · subst e; exact Nat.le_refl _
      · have := ih j (by omega); omega
theorem most_ge (X : Nat → Nat) : ∀ k j, j ≤ k → plc (X j) ≤ plc (best ahMost X k)
  | 0, j, hj => by obtain rfl : j = 0 := by omega
                   exact Nat.le_refl _
  | k + 1, j, hj => by
    have ih := most_ge X k
    cases hc : ahMost (X (k + 1)) (best ahMost X k)
    · rw [best_not hc]
      have hc' : ¬ (plc (best ahMost X k) < plc (X (k + 1))) := by simpa [ahMost] using hc
      by_cases e : j = k + 1
      · subst e; omega
      · exact ih j (by omega)
    · rw [best_yes hc]
      have hc' : plc (best ahMost X k) < plc (X (k + 1)) := by simpa [ahMost] using hc
      by_cases e : j = k + 1
      · subst e; exact Nat.le_refl _
      · have := ih j (by omega); omega
/-- Is one of the first k ones it? -/
def anyB (f : Nat → Bool) : Nat → Bool
  | 0 => false
  | k + 1 => anyB f k || f k
theorem anyB_of (f : Nat → Bool) (j : Nat) (h : f j = true) : ∀ k, j < k → anyB f k = true
  | 0, hk => by omega
  | k + 1, hk => by
    rw [anyB]
    by_cases e : j = k
    · subst e; rw [h, Bool.or_true]
    · rw [anyB_of f j h k (by omega), Bool.true_or]
end Fo

theorem bool_eq {a b : Bool} (h : a = b) : Value.bool a = Value.bool b := by rw [h]

theorem ends_out (b off n cap : Nat) (w : World) (hn : 200 < n) (henv : Env w) :
    Calls Tryd.prog 7 #[.slice (some ⟨b, off, none⟩) n cap] w fun r w' => r = .returned (.bool true) ∧ Below w.heap.size w w' := by
  have hn0 : ((n : Int) == 0) = false := by simp; omega
  go_enter Tryd.func7, Tryd.ntmps7
  go_wp2_with (go_at_call 23; refine (awake_true _ henv).mono ?_; rintro e w' ⟨rfl, hb⟩)
  go_ret
  exact ⟨rfl, hb⟩
theorem ends_none (a : Option Addr) (cap : Nat) (w : World) (henv : Env w) :
    Calls Tryd.prog 7 #[.slice a 0 cap] w fun r w' => r = .returned (.bool true) ∧ Below w.heap.size w w' := by
  go_enter Tryd.func7, Tryd.ntmps7
  go_wp2_with (go_at_call 23; refine (awake_true _ henv).mono ?_; rintro e w' ⟨rfl, hb⟩)
  go_ret
  exact ⟨rfl, hb⟩
set_option maxHeartbeats 2000000 in
theorem ends_core (b off n cap : Nat) (w : World) (hn : 1 ≤ n) (hn200 : n ≤ 200) (henv : Env w) (X : Nat → Nat) (A B : Nat) (lt sm : Nat → Nat → Bool) (hX : ∀ j, X j < 18446744073709551616) (hA : A < 18446744073709551616) (hB : B < 18446744073709551616)
    (hc : ∀ j, j < n → w.cell? ⟨b, off + j, none⟩ = some (.float .f64 (X j)))
    (c26 : ∀ w', w' = w → Calls Tryd.prog 26 #[.slice (some ⟨b, off, none⟩) n cap] w' fun r w'' => r = .returned (.tuple #[.float .f64 A, .int .i64 0]) ∧ w'' = w')
    (c28 : ∀ w', w' = w → Calls Tryd.prog 28 #[.slice (some ⟨b, off, none⟩) n cap] w' fun r w'' => r = .returned (.tuple #[.float .f64 B, .int .i64 0]) ∧ w'' = w')
    (c15 : ∀ a b, a < 18446744073709551616 → b < 18446744073709551616 → ∀ w, Calls Tryd.prog 15 #[.float .f64 a, .float .f64 b] w fun e w' => e = .returned (.bool (lt a b)) ∧ w' = w)
    (c17 : ∀ a b, a < 18446744073709551616 → b < 18446744073709551616 → ∀ w, Calls Tryd.prog 17 #[.float .f64 a, .float .f64 b] w fun e w' => e = .returned (.bool (sm a b)) ∧ w' = w)
    (l1 : ∀ j, j < n → lt (X j) A = false) (l2 : ∀ j, j < n → lt B (X j) = false)
    (ha : anyB (fun j => sm (X j) A) n = true) (hb : anyB (fun j => sm (X j) B) n = true) :
    Calls Tryd.prog 7 #[.slice (some ⟨b, off, none⟩) n cap] w fun r w' => r = .returned (.bool true) ∧ Below w.heap.size w w' := by
  have hn0 : ((n : Int) == 0) = false := by simp; omega
  go_enter Tryd.func7, Tryd.ntmps7
  go_wp2_with (first
    | (go_at_call 26; refine (c26 _ rfl).mono ?_; rintro e w' ⟨rfl, rfl⟩)
    | (go_at_call 28; refine (c28 _ rfl).mono ?_; rintro e w' ⟨rfl, rfl⟩))
  rename World => w
  go_loop [7, 8, 9] (fun lo hi i => ∃ k : Nat, k ≤ n ∧ i = .int .i64 k ∧ lo = .bool (anyB (fun j => sm (X j) A) k) ∧ hi = .bool (anyB (fun j => sm (X j) B) k)) (fun _ _ i => n - (intOf i).toNat)
  case atStart => exact ⟨0, Nat.zero_le _, rfl, rfl, rfl⟩
  case round =>
    obtain ⟨k, hk, rfl, rfl, rfl⟩ := hrel
    by_cases hlt : k < n
    · have hck := hc k hlt
      have HA : Hid (anyB (fun j => sm (X j) A) (k + 1) = (anyB (fun j => sm (X j) A) k || sm (X k) A)) := rfl
      have HB : Hid (anyB (fun j => sm (X j) B) (k + 1) = (anyB (fun j => sm (X j) B) k || sm (X k) B)) := rfl
      have l1' := l1 k hlt
      have l2' := l2 k hlt
      have hXk := hX k
      clear l1 l2 c26 c28 hc ha hb hX
      generalize anyB (fun j => sm (X j) A) k = la at HA ⊢
      generalize anyB (fun j => sm (X j) B) k = lb at HB ⊢
      cases la <;> cases lb <;> cases xa : sm (X k) A <;> cases xb : sm (X k) B
      all_goals
        rw [xa] at HA
        rw [xb] at HB
        go_wp2_with (first
          | (go_at_call 17; refine (c17 _ _ (by assumption) (by assumption) _).mono ?_; rintro e w' ⟨rfl, rfl⟩)
          | (go_at_call 15; refine (c15 _ _ (by assumption) (by assumption) _).mono ?_; rintro e w' ⟨rfl, rfl⟩))
        go_round
        case rel => exact ⟨k + 1, by omega, by go_num, bool_eq HA.out.symm, bool_eq HB.out.symm⟩
        case measure => simp [intOf]; omega
    · obtain rfl : k = n := by omega
      rw [ha, hb]
      clear l1 l2 c26 c28 hc ha hb hX c15 c17
      go_wp2_with (go_at_call 23; refine (awake_true _ henv).mono ?_; rintro e w' ⟨rfl, hb⟩)
      go_ret
      exact ⟨rfl, hb⟩
end Go.Proofs.YtmeohldomplegaaDoor
