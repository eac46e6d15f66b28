/- The walk of FopInf: it answers true at every list of numbers. -/
import Derived.Test.YtchdflbnelcjbaaF
import Derived.Test.YtchdflbnelcjbaaLB
namespace Go.Proofs.Ytchdflbnelcjbaa
open Go.RowKit Fo
set_option maxRecDepth 100000

namespace Fo
/-- Is one of the first k ones so? -/
def anyB (f : Nat → Bool) : Nat → Bool
  | 0 => false
  | k + 1 => anyB f k || f k
theorem anyB_of (f : Nat → Bool) (j : Nat) (h : f j = true) : ∀ k, j < k → anyB f k = true
  | 0, hk => by omega
  | k + 1, hk => by
    rw [anyB]
    by_cases e : j = k
    · subst e; rw [h, Bool.or_true]
    · rw [anyB_of f j h k (by omega), Bool.true_or]
theorem allB_not (f : Nat → Bool) : ∀ k, allB f k = false → ∃ j, j < k ∧ f j = false
  | 0, h => by cases h
  | k + 1, h => by
    rw [allB] at h
    cases hk : f k
    · exact ⟨k, by omega, hk⟩
    · rw [hk, Bool.and_true] at h
      obtain ⟨j, hj, e⟩ := allB_not f k h
      exact ⟨j, by omega, e⟩
end Fo
theorem bool_eq {a b : Bool} (h : a = b) : Value.bool a = Value.bool b := by rw [h]
theorem inf_out (a1 : Option Addr) (n cap1 : Nat) (w : World) (h : 200 < n) :
    Calls Try.prog 8 #[.slice a1 n cap1] w fun r w' => r = .returned (.bool true) ∧ Below w.heap.size w w' := by
  go_enter Try.func8, Try.ntmps8
  go_wp2_with (first | (go_at_call 15; refine (small_not _ _ _ _ (by assumption)).mono ?_; rintro e w' ⟨rfl, rfl⟩) | (go_at_call 14; refine (awake_true _).mono ?_; rintro e w' ⟨rfl, hb⟩))
  go_ret
  exact ⟨rfl, hb⟩
theorem inf_bad (b off n cap1 : Nat) (w : World) (hn : n ≤ 200) (hn1 : 1 ≤ n) (X V : Nat → Nat) (E : Nat → Int) (hX : ∀ j, X j < 18446744073709551616) (hc : ∀ j, j < n → w.cell? ⟨b, off + j, none⟩ = some (.float .f64 (X j)))
    (c18 : ∀ w1, w1 = w → Calls Try.prog 18 #[.slice (some ⟨b, off, none⟩) n cap1] w1 fun r w' => r = .returned (.tuple #[.float .f64 0, .int .i64 16]) ∧ w' = w1)
    (c23 : ∀ a, a < 18446744073709551616 → ∀ w, Calls Try.prog 23 #[.float .f64 a] w fun e w' => e = .returned (.tuple #[.float .f64 (V a), .int .i64 (E a)]) ∧ w' = w)
    (hE : ∀ j, E (X j) = 0 ∨ E (X j) = 16) (hbad : anyB (fun j => E (X j) != 0) n = true) :
    Calls Try.prog 8 #[.slice (some ⟨b, off, none⟩) n cap1] w fun r w' => r = .returned (.bool true) ∧ Below w.heap.size w w' := by
  go_enter Try.func8, Try.ntmps8
  go_wp2_with (first
    | (go_at_call 15; refine (small_yes _ _ _ _ (by assumption)).mono ?_; rintro e w' ⟨rfl, rfl⟩)
    | (go_at_call 18; refine (c18 _ rfl).mono ?_; rintro e w' ⟨rfl, rfl⟩))
  rename World => w
  go_loop [5, 6] (fun bad i => ∃ k : Nat, k ≤ n ∧ i = .int .i64 k ∧ bad = .bool (anyB (fun j => E (X j) != 0) k)) (fun _ i => n - (intOf i).toNat)
  case atStart => exact ⟨0, Nat.zero_le _, rfl, rfl⟩
  case round =>
    obtain ⟨k, hk, rfl, rfl⟩ := hrel
    by_cases hlt : k < n
    · have hck := hc k hlt
      have hXk := hX k
      have hEk := hE k
      have HA : Hid (anyB (fun j => E (X j) != 0) (k + 1) = (anyB (fun j => E (X j) != 0) k || E (X k) != 0)) := rfl
      clear hc hbad hX hE c18
      generalize anyB (fun j => E (X j) != 0) k = la at HA ⊢
      cases la <;> rcases hEk with e1 | e1
      all_goals
        rw [e1] at HA
        go_wp2_with (go_at_call 23; refine (c23 _ (by assumption) _).mono ?_; rintro e w' ⟨rfl, rfl⟩)
        go_round
        case rel => exact ⟨k + 1, by omega, by go_num, bool_eq HA.out.symm⟩
        case measure => simp [intOf]; omega
    · obtain rfl : k = n := by omega
      rw [hbad]
      clear hc hbad hX c18 c23 hE
      go_wp2_with (go_at_call 14; refine (awake_true _).mono ?_; rintro e w' ⟨rfl, hb⟩)
      go_ret
      exact ⟨rfl, hb⟩
theorem le_grown {w w1 : World} {o o2 : Obj} {row : Option Nat} (h : (w.alloc o).grownBy w1 row) : w.heap.size ≤ (w1.alloc o2).heap.size := by
  have := h.size
  simp at this ⊢
  omega
theorem inf_good (a0 : Option Addr) (n cap1 : Nat) (w : World) (hn : n ≤ 200) (X : Nat → Nat) (hs : Sl w a0 n cap1 X) (P : Nat) (hP : P ≤ 9218868437227405312)
    (c18 : ∀ w1, w1 = w → Calls Try.prog 18 #[.slice a0 n cap1] w1 fun r w' => r = .returned (.tuple #[.float .f64 P, .int .i64 0]) ∧ w' = w1)
    (c18' : ∀ a cap w1, Sl w1 a (n + 1) cap (cat (cat (fun _ => 0) 0 X) n (fun _ => 9218868437227405312)) → Calls Try.prog 18 #[.slice a (n + 1) cap] w1 fun r w' => r = .returned (.tuple #[.float .f64 9218868437227405312, .int .i64 0]) ∧ w' = w1)
    (hge : ∀ j, j < n → FloatKind.f64.format.order P (X j) = some .gt ∨ FloatKind.f64.format.order P (X j) = some .eq) :
    Calls Try.prog 8 #[.slice a0 n cap1] w fun r w' => r = .returned (.bool true) ∧ Below w.heap.size w w' := by
  have o1 : FloatKind.f64.format.order 9218868437227405312 9218868437227405312 = some .eq := ord_eq (by decide) rfl
  have o2 := geq_b P 0 (by rw [ord_pos P 0 hP (by decide)]; exact cmp_ge (Nat.zero_le _))
  have HS : Hid (Sl w a0 n cap1 X) := hs
  have HG : Hid (∀ j, j < n → FloatKind.f64.format.order P (X j) = some .gt ∨ FloatKind.f64.format.order P (X j) = some .eq) := hge
  clear hs hge
  go_enter Try.func8, Try.ntmps8
  go_wp2_with (first
    | (go_at_call 15; refine (small_yes _ _ _ _ (by assumption)).mono ?_; rintro e w' ⟨rfl, hw⟩; replace hw := hw.symm; subst hw)
    | (go_at_call 22; refine (rof_inf _).mono ?_; rintro e w' ⟨rfl, hw⟩; replace hw := hw.symm; subst hw)
    | (go_at_call 18; refine (c18' _ _ _ hS2).mono ?_; rintro e w' ⟨rfl, hw⟩; replace hw := hw.symm; subst hw)
    | (go_at_call 18; refine (c18 _ rfl).mono ?_; rintro e w' ⟨rfl, hw⟩; replace hw := hw.symm; subst hw)
    | (at_builtin; refine wpList_app rfl _ _ rfl rfl (hF1.alloc _) (le_grown hG1) (sl_one w1 9218868437227405312 (by decide)) (n + 1) rfl (by omega) rfl rfl ?_; intro a2 k2 w2 hF2 hS2 hG2)
    | (at_builtin; refine wpList_app rfl _ _ rfl rfl (FR.made _ _ (Nat.le_refl _)) (by simp) (HS.out.below ((below_refl _).alloc (Nat.le_refl _) _)) n (by omega) (by omega) rfl rfl ?_; intro a1 k1 w1 hF1 hS1 hG1))
  have hB1 := ((below_refl w).alloc (Nat.le_refl _) _).grown hG1 (by simp) (FR.made _ w (Nat.le_refl _)).row
  have hB2 := (hB1.alloc hB1.size _).grown hG2 (le_grown hG1) hF1.row
  have HB : Hid (Below w.heap.size w w2) := hB2
  have hs2 : Sl w2 a0 n cap1 X := HS.out.below hB2
  clear hB1 hB2 hF1 hF2 hS1 hS2 hG1 hG2 c18 c18' HS
  go_loop [12] (fun i => ∃ k : Nat, k ≤ n ∧ i = .int .i64 k) (fun i => n - (intOf i).toNat)
  case atStart => exact ⟨0, Nat.zero_le _, rfl⟩
  case round =>
    obtain ⟨k, hk, rfl⟩ := hrel
    by_cases hlt : k < n
    · obtain ⟨-, -, -, h0 | ⟨b, off, rfl, hc⟩⟩ := hs2
      · omega
      have hck := hc k hlt
      have hgk := geq_b P (X k) (HG.out k hlt)
      clear hc HG
      go_wp2
      go_round
      case rel => exact ⟨k + 1, by omega, by go_num⟩
      case measure => simp [intOf]; omega
    · obtain rfl : k = n := by omega
      clear HG hs2
      go_wp2_with (go_at_call 14; refine (awake_true _).mono ?_; rintro e w' ⟨rfl, hb⟩)
      go_ret
      exact ⟨rfl, below_step HB.out hb⟩
theorem cat_zero (X : Nat → Nat) : cat (fun _ => 0) 0 X = X := by
  funext j; unfold cat; rw [if_neg (by omega)]; rfl
theorem inf_any (a0 : Option Addr) (n cap1 : Nat) (X : Nat → Nat) (w : World) (hs : Sl w a0 n cap1 X) :
    Calls Try.prog 8 #[.slice a0 n cap1] w fun r w' => r = .returned (.bool true) ∧ Below w.heap.size w w' := by
  by_cases hn : 200 < n
  · exact inf_out a0 n cap1 w hn
  have hX := hs.2.2.1
  have hp := path_any a0 n cap1 w X (by omega) hs
  unfold pthV pthE at hp
  cases hk : pthOk X n
  · rw [hk] at hp
    obtain ⟨j, hj, hno⟩ := allB_not _ n hk
    obtain ⟨-, -, -, h0 | ⟨b, off, rfl, hc⟩⟩ := hs
    · omega
    refine inf_bad b off n cap1 w (by omega) (by omega) X pcOf pcErr hX hc (fun w1 e => by subst e; exact hp) rprice_any (fun j => ?_) (anyB_of _ j ?_ n hj)
    · unfold pcErr; split
      · exact Or.inl rfl
      · exact Or.inr rfl
    · have : pcErr (X j) = 16 := by unfold pcErr; rw [hno]; rfl
      rw [this]; rfl
  · rw [hk] at hp
    have hall := (allB_iff _ n).1 hk
    refine inf_good a0 n cap1 w (by omega) X hs (pathV X n) (path_top X hX n) (fun w1 e => by subst e; exact hp) (fun a cap w1 h1 => ?_) (fun j hj => ?_)
    · rw [cat_zero] at h1
      have h2 := path_any a (n + 1) cap w1 _ (by omega) h1
      have hX' := h1.2.2.1
      have hall' : ∀ j, j < n + 1 → inTo 9218868437227405312 (cat X n (fun _ => 9218868437227405312) j) = true := fun j hj => by
        unfold cat; split
        · exact hall j (by assumption)
        · exact in_of _ _ (by decide) (Nat.le_refl _)
      have hk' : pthOk (cat X n (fun _ => 9218868437227405312)) (n + 1) = true := (allB_iff _ _).2 hall'
      have hi := path_infs _ hX' (n + 1) n hall' (by omega) (by unfold cat; rw [if_neg (by omega)])
      unfold pthV pthE at h2
      rw [hk', hi] at h2
      exact h2
    · have h3 := path_ge X hX n hall j hj
      rw [(ord_in (pathV X n) _ (X j) (path_top X hX n) (hX j) (by decide) (hall j hj)).1]
      exact cmp_ge h3
end Go.Proofs.Ytchdflbnelcjbaa
