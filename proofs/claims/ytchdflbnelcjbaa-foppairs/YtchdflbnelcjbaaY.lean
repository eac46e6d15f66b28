/- Contracts of Path and Exact, the program's and the document's own. -/
import Derived.Test.YtchdflbnelcjbaaX
import Derived.Below
namespace Go.Proofs.Ytchdflbnelcjbaa
open Go.RowKit Fo
set_option maxRecDepth 100000

namespace Fo
/-- Are the first k ones so? -/
def allB (f : Nat → Bool) : Nat → Bool
  | 0 => true
  | k + 1 => allB f k && f k
theorem allB_iff (f : Nat → Bool) : ∀ k, allB f k = true ↔ ∀ j, j < k → f j = true
  | 0 => ⟨fun _ j hj => absurd hj (by omega), fun _ => rfl⟩
  | k + 1 => by
    rw [allB, Bool.and_eq_true, allB_iff f k]
    refine ⟨fun h j hj => ?_, fun h => ⟨fun j hj => h j (by omega), h k (by omega)⟩⟩
    by_cases e : j = k
    · subst e; exact h.2
    · exact h.1 j (by omega)
theorem allB_false (f : Nat → Bool) (j : Nat) (h : f j = false) (k : Nat) (hj : j < k) : allB f k = false := by
  cases hk : allB f k
  · rfl
  · rw [(allB_iff f k).1 hk j hj] at h; cases h
/-- Cells that hold a list of numbers. -/
def Sl (w : World) (a : Option Addr) (n cap : Nat) (X : Nat → Nat) : Prop :=
  n ≤ cap ∧ cap ≤ 9223372036854775807 ∧ (∀ j, X j < 18446744073709551616) ∧ (n = 0 ∨ ∃ b off : Nat, a = some ⟨b, off, none⟩ ∧ ∀ j, j < n → w.cell? ⟨b, off + j, none⟩ = some (.float .f64 (X j)))
def pthOk (X : Nat → Nat) (n : Nat) : Bool := allB (fun j => inTo 9218868437227405312 (X j)) n
def pthV (X : Nat → Nat) (n : Nat) : Nat := if pthOk X n then pathV X n else 0
def pthE (X : Nat → Nat) (n : Nat) : Int := if pthOk X n then 0 else 16
def exAll (X : Nat → Nat) (n : Nat) : Bool := allB (fun j => exOk (X j)) n
end Fo
theorem ret_two {a b : Nat} {m n : Int} (h : a = b) (h' : m = n) : Ending.returned (.tuple #[.float .f64 a, .int .i64 m]) = .returned (.tuple #[.float .f64 b, .int .i64 n]) := by rw [h, h']
theorem float_eq {a b : Nat} (h : a = b) : Value.float .f64 a = Value.float .f64 b := by rw [h]
theorem plus_k (X : Nat → Nat) (hX : ∀ j, X j < 18446744073709551616) (k : Nat) : (inTo 9218868437227405312 (X k) = true → ps (pathV X k) (X k) = pathV X (k + 1) ∧ psE (pathV X k) (X k) = 0) ∧ (inTo 9218868437227405312 (X k) = false → psE (pathV X k) (X k) = 16) := by
  have h := path_ok X hX k
  refine ⟨fun e => ⟨rfl, ?_⟩, fun e => ?_⟩
  · unfold psE; rw [h, e]; rfl
  · unfold psE; rw [h, e]; rfl

theorem path_none (a : Option Addr) (cap : Nat) (w : World) : Calls Try.prog 18 #[.slice a 0 cap] w fun r w' => r = .returned (.tuple #[.float .f64 0, .int .i64 0]) ∧ w' = w := by
  go_enter Try.func18, Try.ntmps18
  go_wp2
  go_loop [4, 11] (fun s i => i = .int .i64 0 ∧ s = .float .f64 0) (fun _ _ => 0)
  case atStart => exact ⟨rfl, rfl⟩
  case round =>
    obtain ⟨rfl, rfl⟩ := hrel
    go_wp2
    go_ret2
    exact ⟨rfl, rfl⟩
theorem path_core (b off n cap : Nat) (w : World) (hn : 1 ≤ n) (hn2 : n ≤ 4000) (X B : Nat → Nat) (ok : Nat → Bool) (PV : Nat → Nat → Nat) (PE : Nat → Nat → Int) (V : Nat) (E : Int) (hX : ∀ j, X j < 18446744073709551616) (hB : ∀ j, B j < 18446744073709551616)
    (hB0 : B 0 = 0) (hc : ∀ j, j < n → w.cell? ⟨b, off + j, none⟩ = some (.float .f64 (X j)))
    (c : ∀ a b, a < 18446744073709551616 → b < 18446744073709551616 → ∀ w, Calls Try.prog 11 #[.float .f64 a, .float .f64 b] w fun e w' => e = .returned (.tuple #[.float .f64 (PV a b), .int .i64 (PE a b)]) ∧ w' = w)
    (hok : ∀ k, (ok k = true → PV (B k) (X k) = B (k + 1) ∧ PE (B k) (X k) = 0) ∧ (ok k = false → PE (B k) (X k) = 16))
    (hT : (∀ j, j < n → ok j = true) → B n = V ∧ 0 = E) (hF : ∀ j, j < n → ok j = false → 0 = V ∧ 16 = E) :
    Calls Try.prog 18 #[.slice (some ⟨b, off, none⟩) n cap] w fun r w' => r = .returned (.tuple #[.float .f64 V, .int .i64 E]) ∧ w' = w := by
  have HT : Hid ((∀ j, j < n → ok j = true) → B n = V ∧ 0 = E) := hT
  have HF : Hid (∀ j, j < n → ok j = false → 0 = V ∧ 16 = E) := hF
  have HO : Hid (∀ k, (ok k = true → PV (B k) (X k) = B (k + 1) ∧ PE (B k) (X k) = 0) ∧ (ok k = false → PE (B k) (X k) = 16)) := hok
  clear hT hF hok
  go_enter Try.func18, Try.ntmps18
  go_wp2
  go_loop [4, 11] (fun s i => ∃ k : Nat, k ≤ n ∧ i = .int .i64 k ∧ s = .float .f64 (B k) ∧ Hid (∀ j, j < k → ok j = true)) (fun _ i => n - (intOf i).toNat)
  case atStart => exact ⟨0, Nat.zero_le _, rfl, by rw [hB0], fun j hj => absurd hj (by omega)⟩
  case round =>
    obtain ⟨k, hk, rfl, rfl, HK⟩ := hrel
    by_cases hlt : k < n
    · have hck := hc k hlt
      have hXk := hX k
      have hBk := hB k
      have HO1 := HO.out k
      cases ho : ok k
      · have e1 := HO1.2 ho
        have HE : Hid (0 = V ∧ 16 = E) := HF.out k hlt ho
        clear HF HT HO HO1 hc hX hB ho HK
        go_wp2_with (go_at_call 11; refine (c _ _ (by assumption) (by assumption) _).mono ?_; rintro e w' ⟨rfl, rfl⟩)
        go_ret2
        exact ⟨ret_two HE.out.1 HE.out.2, rfl⟩
      · have e1 := (HO1.1 ho).2
        have HE : Hid (PV (B k) (X k) = B (k + 1)) := (HO1.1 ho).1
        have HK' : Hid (∀ j, j < k + 1 → ok j = true) := fun j hj => by
          by_cases e : j = k
          · subst e; exact ho
          · exact HK.out j (by omega)
        clear HF HT HO HO1 hc hX hB ho HK
        go_wp2_with (go_at_call 11; refine (c _ _ (by assumption) (by assumption) _).mono ?_; rintro e w' ⟨rfl, rfl⟩)
        go_round
        case rel => exact ⟨k + 1, by omega, by go_num, float_eq HE.out, HK'⟩
        case measure => simp [intOf]; omega
    · obtain rfl : k = n := by omega
      have HE : Hid (B k = V ∧ 0 = E) := HT.out HK.out
      clear HF HT HO hc hX hB HK c
      go_wp2
      go_ret2
      exact ⟨ret_two HE.out.1 HE.out.2, rfl⟩
theorem path_any (a : Option Addr) (n cap : Nat) (w : World) (X : Nat → Nat) (hn : n ≤ 4000) (h : Sl w a n cap X) :
    Calls Try.prog 18 #[.slice a n cap] w fun r w' => r = .returned (.tuple #[.float .f64 (pthV X n), .int .i64 (pthE X n)]) ∧ w' = w := by
  obtain ⟨-, -, hX, hs⟩ := h
  by_cases h0 : n = 0
  · subst h0; exact path_none a cap w
  rcases hs with h | ⟨b, off, rfl, hc⟩
  · exact absurd h h0
  refine path_core b off n cap w (by omega) hn X (pathV X) (fun j => inTo 9218868437227405312 (X j)) ps psE _ _ hX (fun j => by have := path_top X hX j; omega) rfl hc plus_any (plus_k X hX) (fun hall => ?_) (fun j hj hno => ?_)
  · have : pthOk X n = true := (allB_iff _ n).2 hall
    unfold pthV pthE; rw [this]; exact ⟨rfl, rfl⟩
  · have : pthOk X n = false := allB_false _ j hno n hj
    unfold pthV pthE; rw [this]; exact ⟨rfl, rfl⟩

theorem rpath_none (a : Option Addr) (cap : Nat) (w : World) : Calls Try.prog 19 #[.slice a 0 cap] w fun r w' => r = .returned (.tuple #[.float .f64 0, .int .i64 0]) ∧ w' = w := by
  go_enter Try.func19, Try.ntmps19
  go_wp2
  go_loop [4, 5] (fun s i => i = .int .i64 0 ∧ s = .float .f64 0) (fun _ _ => 0)
  case atStart => exact ⟨rfl, rfl⟩
  case round =>
    obtain ⟨rfl, rfl⟩ := hrel
    go_wp2
    go_ret2
    exact ⟨rfl, rfl⟩
theorem rpath_core (b off n cap : Nat) (w : World) (hn : 1 ≤ n) (hn2 : n ≤ 4000) (X B : Nat → Nat) (ok : Nat → Bool) (PV : Nat → Nat → Nat) (PE : Nat → Nat → Int) (V : Nat) (E : Int) (hX : ∀ j, X j < 18446744073709551616) (hB : ∀ j, B j < 18446744073709551616)
    (hB0 : B 0 = 0) (hc : ∀ j, j < n → w.cell? ⟨b, off + j, none⟩ = some (.float .f64 (X j)))
    (c : ∀ a b, a < 18446744073709551616 → b < 18446744073709551616 → ∀ w, Calls Try.prog 12 #[.float .f64 a, .float .f64 b] w fun e w' => e = .returned (.tuple #[.float .f64 (PV a b), .int .i64 (PE a b)]) ∧ w' = w)
    (hok : ∀ k, (ok k = true → PV (B k) (X k) = B (k + 1) ∧ PE (B k) (X k) = 0) ∧ (ok k = false → PE (B k) (X k) = 16))
    (hT : (∀ j, j < n → ok j = true) → B n = V ∧ 0 = E) (hF : ∀ j, j < n → ok j = false → 0 = V ∧ 16 = E) :
    Calls Try.prog 19 #[.slice (some ⟨b, off, none⟩) n cap] w fun r w' => r = .returned (.tuple #[.float .f64 V, .int .i64 E]) ∧ w' = w := by
  have HT : Hid ((∀ j, j < n → ok j = true) → B n = V ∧ 0 = E) := hT
  have HF : Hid (∀ j, j < n → ok j = false → 0 = V ∧ 16 = E) := hF
  have HO : Hid (∀ k, (ok k = true → PV (B k) (X k) = B (k + 1) ∧ PE (B k) (X k) = 0) ∧ (ok k = false → PE (B k) (X k) = 16)) := hok
  clear hT hF hok
  go_enter Try.func19, Try.ntmps19
  go_wp2
  go_loop [4, 5] (fun s i => ∃ k : Nat, k ≤ n ∧ i = .int .i64 k ∧ s = .float .f64 (B k) ∧ Hid (∀ j, j < k → ok j = true)) (fun _ i => n - (intOf i).toNat)
  case atStart => exact ⟨0, Nat.zero_le _, rfl, by rw [hB0], fun j hj => absurd hj (by omega)⟩
  case round =>
    obtain ⟨k, hk, rfl, rfl, HK⟩ := hrel
    by_cases hlt : k < n
    · have hck := hc k hlt
      have hXk := hX k
      have hBk := hB k
      have HO1 := HO.out k
      cases ho : ok k
      · have e1 := HO1.2 ho
        have HE : Hid (0 = V ∧ 16 = E) := HF.out k hlt ho
        clear HF HT HO HO1 hc hX hB ho HK
        go_wp2_with (go_at_call 12; refine (c _ _ (by assumption) (by assumption) _).mono ?_; rintro e w' ⟨rfl, rfl⟩)
        go_ret2
        exact ⟨ret_two HE.out.1 HE.out.2, rfl⟩
      · have e1 := (HO1.1 ho).2
        have HE : Hid (PV (B k) (X k) = B (k + 1)) := (HO1.1 ho).1
        have HK' : Hid (∀ j, j < k + 1 → ok j = true) := fun j hj => by
          by_cases e : j = k
          · subst e; exact ho
          · exact HK.out j (by omega)
        clear HF HT HO HO1 hc hX hB ho HK
        go_wp2_with (go_at_call 12; refine (c _ _ (by assumption) (by assumption) _).mono ?_; rintro e w' ⟨rfl, rfl⟩)
        go_round
        case rel => exact ⟨k + 1, by omega, by go_num, float_eq HE.out, HK'⟩
        case measure => simp [intOf]; omega
    · obtain rfl : k = n := by omega
      have HE : Hid (B k = V ∧ 0 = E) := HT.out HK.out
      clear HF HT HO hc hX hB HK c
      go_wp2
      go_ret2
      exact ⟨ret_two HE.out.1 HE.out.2, rfl⟩
theorem rpath_any (a : Option Addr) (n cap : Nat) (w : World) (X : Nat → Nat) (hn : n ≤ 4000) (h : Sl w a n cap X) :
    Calls Try.prog 19 #[.slice a n cap] w fun r w' => r = .returned (.tuple #[.float .f64 (pthV X n), .int .i64 (pthE X n)]) ∧ w' = w := by
  obtain ⟨-, -, hX, hs⟩ := h
  by_cases h0 : n = 0
  · subst h0; exact rpath_none a cap w
  rcases hs with h | ⟨b, off, rfl, hc⟩
  · exact absurd h h0
  refine rpath_core b off n cap w (by omega) hn X (pathV X) (fun j => inTo 9218868437227405312 (X j)) ps psE _ _ hX (fun j => by have := path_top X hX j; omega) rfl hc rplus_any (plus_k X hX) (fun hall => ?_) (fun j hj hno => ?_)
  · have : pthOk X n = true := (allB_iff _ n).2 hall
    unfold pthV pthE; rw [this]; exact ⟨rfl, rfl⟩
  · have : pthOk X n = false := allB_false _ j hno n hj
    unfold pthV pthE; rw [this]; exact ⟨rfl, rfl⟩

theorem exact_none (a : Option Addr) (cap : Nat) (w : World) : Calls Try.prog 20 #[.slice a 0 cap] w fun r w' => r = .returned (.bool true) ∧ w' = w := by
  go_enter Try.func20, Try.ntmps20
  go_wp2
  go_loop [10] (fun i => i = .int .i64 0) (fun _ => 0)
  case atStart => rfl
  case round =>
    obtain rfl := hrel
    go_wp2
    go_ret
    exact ⟨rfl, rfl⟩
theorem exact_core (b off n cap : Nat) (w : World) (hn : 1 ≤ n) (hn2 : n ≤ 1000) (X : Nat → Nat) (ok : Nat → Bool) (R : Bool) (hX : ∀ j, X j < 18446744073709551616)
    (hc : ∀ j, j < n → w.cell? ⟨b, off + j, none⟩ = some (.float .f64 (X j)))
    (c : ∀ a, a < 18446744073709551616 → ∀ w, Calls Try.prog 30 #[.float .f64 a] w fun e w' => e = .returned (.bool (ok a)) ∧ w' = w)
    (hT : (∀ j, j < n → ok (X j) = true) → true = R) (hF : ∀ j, j < n → ok (X j) = false → false = R) :
    Calls Try.prog 20 #[.slice (some ⟨b, off, none⟩) n cap] w fun r w' => r = .returned (.bool R) ∧ w' = w := by
  have HT : Hid ((∀ j, j < n → ok (X j) = true) → true = R) := hT
  have HF : Hid (∀ j, j < n → ok (X j) = false → false = R) := hF
  clear hT hF
  go_enter Try.func20, Try.ntmps20
  go_wp2
  go_loop [10] (fun i => ∃ k : Nat, k ≤ n ∧ i = .int .i64 k ∧ Hid (∀ j, j < k → ok (X j) = true)) (fun i => n - (intOf i).toNat)
  case atStart => exact ⟨0, Nat.zero_le _, rfl, fun j hj => absurd hj (by omega)⟩
  case round =>
    obtain ⟨k, hk, rfl, HK⟩ := hrel
    by_cases hlt : k < n
    · have hck := hc k hlt
      have hXk := hX k
      cases ho : ok (X k)
      · have HE : Hid (false = R) := HF.out k hlt ho
        clear HF HT hc hX HK
        go_wp2_with (go_at_call 30; refine (c _ (by assumption) _).mono ?_; rintro e w' ⟨rfl, rfl⟩)
        go_ret
        exact ⟨ret_bool HE.out, rfl⟩
      · have HK' : Hid (∀ j, j < k + 1 → ok (X j) = true) := fun j hj => by
          by_cases e : j = k
          · subst e; exact ho
          · exact HK.out j (by omega)
        clear HF HT hc hX HK
        go_wp2_with (go_at_call 30; refine (c _ (by assumption) _).mono ?_; rintro e w' ⟨rfl, rfl⟩)
        go_round
        case rel => exact ⟨k + 1, by omega, by go_num, HK'⟩
        case measure => simp [intOf]; omega
    · obtain rfl : k = n := by omega
      have HE : Hid (true = R) := HT.out HK.out
      clear HF HT hc hX HK c
      go_wp2
      go_ret
      exact ⟨ret_bool HE.out, rfl⟩
theorem exacts_any (a : Option Addr) (n cap : Nat) (w : World) (X : Nat → Nat) (hn : n ≤ 1000) (h : Sl w a n cap X) :
    Calls Try.prog 20 #[.slice a n cap] w fun r w' => r = .returned (.bool (exAll X n)) ∧ w' = w := by
  obtain ⟨-, -, hX, hs⟩ := h
  by_cases h0 : n = 0
  · subst h0; exact exact_none a cap w
  rcases hs with h | ⟨b, off, rfl, hc⟩
  · exact absurd h h0
  exact exact_core b off n cap w (by omega) hn X exOk _ hX hc exact_any (fun hall => ((allB_iff _ n).2 hall).symm) (fun j hj hno => (allB_false _ j hno n hj).symm)
end Go.Proofs.Ytchdflbnelcjbaa
