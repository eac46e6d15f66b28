/- The contract of Most: the one that is ahead of no other. -/
import Derived.Test.YtchdflbnelcjbaaY
namespace Go.Proofs.Ytchdflbnelcjbaa
open Go.RowKit Fo
set_option maxRecDepth 100000

namespace Fo
/-- The foremost of the first ones, up to place k. -/
def best (ah : Nat → Nat → Bool) (X : Nat → Nat) : Nat → Nat
  | 0 => X 0
  | k + 1 => if ah (X (k + 1)) (best ah X k) then X (k + 1) else best ah X k
def ahLeast (a b : Nat) : Bool := decide (plc a < plc b)
def ahMost (a b : Nat) : Bool := decide (plc b < plc a)
theorem best_lt (ah : Nat → Nat → Bool) (X : Nat → Nat) (hX : ∀ j, X j < 18446744073709551616) : ∀ k, best ah X k < 18446744073709551616
  | 0 => hX 0
  | k + 1 => by unfold best; split; exact hX _; exact best_lt ah X hX k
theorem best_yes {ah : Nat → Nat → Bool} {X : Nat → Nat} {k : Nat} (h : ah (X (k + 1)) (best ah X k) = true) : best ah X (k + 1) = X (k + 1) := by rw [best, if_pos h]
theorem best_not {ah : Nat → Nat → Bool} {X : Nat → Nat} {k : Nat} (h : ah (X (k + 1)) (best ah X k) = false) : best ah X (k + 1) = best ah X k := by rw [best, if_neg (by rw [h]; decide)]
end Fo
theorem most1_any (a b : Nat) (ha : a < 18446744073709551616) (hb : b < 18446744073709551616) (w : World) :
    Calls Try.prog 37 #[.float .f64 a, .float .f64 b] w fun e w' => e = .returned (.bool (ahMost a b)) ∧ w' = w := by
  have h := fun w => less_any b a hb ha w
  unfold ahMost
  generalize decide (plc b < plc a) = d at h ⊢
  go_enter Try.func37, Try.ntmps37
  go_wp2_with (go_at_call 38; refine (h _).mono ?_; rintro e w' ⟨rfl, rfl⟩)
  go_ret
  exact ⟨rfl, rfl⟩
theorem fore_most (b off n cap : Nat) (w : World) (hn : 1 ≤ n) (hn2 : n ≤ cap) (hcap : cap ≤ 9223372036854775807) (X : Nat → Nat) (hX : ∀ j, X j < 18446744073709551616)
    (hc : ∀ j, j < n → w.cell? ⟨b, off + j, none⟩ = some (.float .f64 (X j))) :
    Calls Try.prog 36 #[.slice (some ⟨b, off, none⟩) n cap, .func (.func 37) #[] #[]] w fun r w' => r = .returned (.tuple #[.float .f64 (bitsOf (best ahMost X (n - 1))), .int .i64 0]) ∧ w' = w := by
  have hc0 := hc 0 (by omega)
  rw [Nat.add_zero] at hc0
  have hb := best_lt ahMost X hX
  have c35 := fun k w => one_any (best ahMost X k) (hb k) w
  have cg := fun k w => most1_any (X (k + 1)) (best ahMost X k) (hX _) (hb k) w
  obtain ⟨B, hB⟩ : ∃ B, B = best ahMost X := ⟨_, rfl⟩
  have hB0 : B 0 = X 0 := by rw [hB]; rfl
  have hBy : ∀ k, ahMost (X (k + 1)) (B k) = true → B (k + 1) = X (k + 1) := fun k h => by rw [hB] at h ⊢; exact best_yes h
  have hBn : ∀ k, ahMost (X (k + 1)) (B k) = false → B (k + 1) = B k := fun k h => by rw [hB] at h ⊢; exact best_not h
  simp only [← hB] at hb c35 cg ⊢
  clear hB
  by_cases hcap1 : cap = 1
  · obtain rfl : n = 1 := by omega
    subst hcap1
    have c35' := c35 0
    rw [hB0] at c35'
    go_enter Try.func36, Try.ntmps36
    go_wp2
    go_loop [6, 18] (fun vb i => i = .int .i64 0 ∧ vb = .float .f64 (X 0)) (fun _ _ => 0)
    case atStart => exact ⟨rfl, rfl⟩
    case round =>
      obtain ⟨rfl, rfl⟩ := hrel
      go_wp2_with (go_at_call 44; refine (c35' _).mono ?_; rintro e w' ⟨rfl, rfl⟩)
      go_ret2
      exact ⟨by rw [← hB0]; rfl, rfl⟩
  · have hn0 : ((n : Int) == 0) = false := by simp; omega
    go_enter Try.func36, Try.ntmps36
    go_wp2
    go_loop [6, 18] (fun vb i => ∃ k : Nat, k ≤ n - 1 ∧ i = .int .i64 k ∧ vb = .float .f64 (B k)) (fun _ i => n - (intOf i).toNat)
    case atStart => exact ⟨0, Nat.zero_le _, rfl, by rw [hB0]⟩
    case round =>
      obtain ⟨k, hk, rfl, rfl⟩ := hrel
      by_cases hlt : k < n - 1
      · have hck : w.cell? ⟨b, off + 1 + k, none⟩ = some (.float .f64 (X (k + 1))) := by rw [show off + 1 + k = off + (k + 1) by omega]; exact hc (k + 1) (by omega)
        cases hah : ahMost (X (k + 1)) (B k)
        · have HB := hBn k hah
          have HH : Hid (B (k + 1) = B k) := HB
          have cg' := cg k
          rw [hah] at cg'
          clear HB hBn hBy cg hc c35 hah
          go_wp2_with (go_at_call 37; refine (cg' _).mono ?_; rintro e w' ⟨rfl, rfl⟩)
          go_round
          case rel => exact ⟨k + 1, by omega, by go_num, float_eq HH.out.symm⟩
          case measure => simp [intOf]; omega
        · have HB := hBy k hah
          have HH : Hid (B (k + 1) = X (k + 1)) := HB
          have cg' := cg k
          rw [hah] at cg'
          clear HB hBn hBy cg hc c35 hah
          go_wp2_with (go_at_call 37; refine (cg' _).mono ?_; rintro e w' ⟨rfl, rfl⟩)
          go_round
          case rel => exact ⟨k + 1, by omega, by go_num, float_eq HH.out.symm⟩
          case measure => simp [intOf]; omega
      · obtain rfl : k = n - 1 := by omega
        have c35' := c35 (n - 1)
        clear hBn hBy cg hc c35
        go_wp2_with (go_at_call 44; refine (c35' _).mono ?_; rintro e w' ⟨rfl, rfl⟩)
        go_ret2
        exact ⟨rfl, rfl⟩
theorem most_any (b off n cap : Nat) (w : World) (hn : 1 ≤ n) (hn2 : n ≤ cap) (hcap : cap ≤ 9223372036854775807) (X : Nat → Nat) (hX : ∀ j, X j < 18446744073709551616)
    (hc : ∀ j, j < n → w.cell? ⟨b, off + j, none⟩ = some (.float .f64 (X j))) :
    Calls Try.prog 29 #[.slice (some ⟨b, off, none⟩) n cap] w fun r w' => r = .returned (.tuple #[.float .f64 (bitsOf (best ahMost X (n - 1))), .int .i64 0]) ∧ w' = w := by
  have h := fore_most b off n cap w hn hn2 hcap X hX hc
  generalize bitsOf (best ahMost X (n - 1)) = R at h ⊢
  clear hc
  go_enter Try.func29, Try.ntmps29
  go_wp2_with (go_at_call 36; refine h.mono ?_; rintro e w' ⟨rfl, rfl⟩)
  go_ret2
  exact ⟨rfl, rfl⟩
end Go.Proofs.Ytchdflbnelcjbaa
