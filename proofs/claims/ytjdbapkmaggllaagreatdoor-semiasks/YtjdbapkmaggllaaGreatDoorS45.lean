/- Contracts of Path and Exact, the program's and the document's own. The contract of the document's own Exact. -/
import Derived.Test.YtjdbapkmaggllaaGreatDoorS22
import Derived.Below
namespace Go.Proofs.YtjdbapkmaggllaaGreatDoor.Fl
open Go.RowKit Fo
set_option maxRecDepth 100000

namespace Fo
/-- Are the first k ones so? -/
def allB (f : Nat → Bool) : Nat → Bool
  | 0 => true
  | k + 1 => allB f k && f k
theorem allB_iff (f : Nat → Bool) : ∀ k, allB f k = true ↔ ∀ j, j < k → f j = true
  | 0 => ⟨fun _ j hj => absurd hj (by omega), fun _ => rfl⟩
  | k + 1 => by
    rw [allB, Bool.and_eq_true, allB_iff f k]
    refine ⟨fun h j hj => ?_, fun h => ⟨fun j hj => h j (by omega), h k (by omega)⟩⟩
    by_cases e : j = k
    · subst e; exact h.2
    · exact h.1 j (by omega)
theorem allB_false (f : Nat → Bool) (j : Nat) (h : f j = false) (k : Nat) (hj : j < k) : allB f k = false := by
  cases hk : allB f k
  · rfl
  · rw [(allB_iff f k).1 hk j hj] at h; cases h
/-- Cells that hold a list of numbers. -/
def Sl (w : World) (a : Option Addr) (n cap : Nat) (X : Nat → Nat) : Prop :=
  n ≤ cap ∧ cap ≤ 9223372036854775807 ∧ (∀ j, X j < 18446744073709551616) ∧ (n = 0 ∨ ∃ b off : Nat, a = some ⟨b, off, none⟩ ∧ ∀ j, j < n → w.cell? ⟨b, off + j, none⟩ = some (.float .f64 (X j)))
def pthOk (X : Nat → Nat) (n : Nat) : Bool := allB (fun j => inTo 9218868437227405312 (X j)) n
def pthV (X : Nat → Nat) (n : Nat) : Nat := if pthOk X n then pathV X n else 0
def pthE (X : Nat → Nat) (n : Nat) : Int := if pthOk X n then 0 else 16
def exAll (X : Nat → Nat) (n : Nat) : Bool := allB (fun j => exOk (X j)) n
end Fo
theorem ret_two {a b : Nat} {m n : Int} (h : a = b) (h' : m = n) : Ending.returned (.tuple #[.float .f64 a, .int .i64 m]) = .returned (.tuple #[.float .f64 b, .int .i64 n]) := by rw [h, h']
theorem float_eq {a b : Nat} (h : a = b) : Value.float .f64 a = Value.float .f64 b := by rw [h]
theorem plus_k (X : Nat → Nat) (hX : ∀ j, X j < 18446744073709551616) (k : Nat) : (inTo 9218868437227405312 (X k) = true → ps (pathV X k) (X k) = pathV X (k + 1) ∧ psE (pathV X k) (X k) = 0) ∧ (inTo 9218868437227405312 (X k) = false → psE (pathV X k) (X k) = 16) := by
  have h := path_ok X hX k
  refine ⟨fun e => ⟨rfl, ?_⟩, fun e => ?_⟩
  · unfold psE; rw [h, e]; rfl
  · unfold psE; rw [h, e]; rfl

end Go.Proofs.YtjdbapkmaggllaaGreatDoor.Fl

namespace Go.Proofs.YtjdbapkmaggllaaGreatDoor.Fl
open Go.RowKit Fo
set_option maxRecDepth 100000

theorem rexact_none (a : Option Addr) (cap : Nat) (w : World) : Calls Tryz.prog 55 #[.slice a 0 cap] w fun r w' => r = .returned (.bool true) ∧ w' = w := by
  go_enter Tryz.func55, Tryz.ntmps55
  go_wp2
  go_loop [3] (fun i => i = .int .i64 0) (fun _ => 0)
  case atStart => rfl
  case round =>
    obtain rfl := hrel
    go_wp2
    go_ret
    exact ⟨rfl, rfl⟩
/-- What the document's own test comes to at one number. -/
def RCase (V : Nat → Nat) (E : Nat → Int) (x : Nat) (ok : Bool) : Prop :=
  (E x = 16 ∧ ok = false) ∨
  (E x = 0 ∧ (FloatKind.f64.format.order (V x) 4787326403894837248 = some .lt ∨ FloatKind.f64.format.order (V x) 4787326403894837248 = some .eq) ∧
    ∃ t, (∀ w, Calls Tryz.prog 77 #[.float .f64 (V x)] w fun e w' => e = .returned (.float .f64 t) ∧ w' = w) ∧
      ((FloatKind.f64.format.order t (V x) = some .lt ∧ ok = false) ∨ (FloatKind.f64.format.order t (V x) = some .gt ∧ ok = false) ∨ (FloatKind.f64.format.order t (V x) = some .eq ∧ ok = true))) ∨
  (E x = 0 ∧ FloatKind.f64.format.order (V x) 4787326403894837248 = some .gt ∧ ((FloatKind.f64.format.order (V x) 9218868437227405312 = some .lt ∧ ok = false) ∨ (FloatKind.f64.format.order (V x) 9218868437227405312 = some .eq ∧ ok = true)))
set_option maxHeartbeats 4000000 in
theorem rexact_core (b off n cap : Nat) (w : World) (hn : 1 ≤ n) (hn2 : n ≤ 1000) (X V : Nat → Nat) (E : Nat → Int) (ok : Nat → Bool) (R : Bool) (hX : ∀ j, X j < 18446744073709551616)
    (hc : ∀ j, j < n → w.cell? ⟨b, off + j, none⟩ = some (.float .f64 (X j)))
    (c : ∀ a, a < 18446744073709551616 → ∀ w, Calls Tryz.prog 76 #[.float .f64 a] w fun e w' => e = .returned (.tuple #[.float .f64 (V a), .int .i64 (E a)]) ∧ w' = w)
    (c22 : ∀ w, Calls Tryz.prog 38 #[.int .u64 9218868437227405312] w fun e w' => e = .returned (.float .f64 9218868437227405312) ∧ w' = w)
    (hcase : ∀ k, RCase V E (X k) (ok k))
    (hT : (∀ j, j < n → ok j = true) → true = R) (hF : ∀ j, j < n → ok j = false → false = R) :
    Calls Tryz.prog 55 #[.slice (some ⟨b, off, none⟩) n cap] w fun r w' => r = .returned (.bool R) ∧ w' = w := by
  have HT : Hid ((∀ j, j < n → ok j = true) → true = R) := hT
  have HF : Hid (∀ j, j < n → ok j = false → false = R) := hF
  have HC : Hid (∀ k, RCase V E (X k) (ok k)) := hcase
  clear hT hF hcase
  go_enter Tryz.func55, Tryz.ntmps55
  go_wp2
  go_loop [3] (fun i => ∃ k : Nat, k ≤ n ∧ i = .int .i64 k ∧ Hid (∀ j, j < k → ok j = true)) (fun i => n - (intOf i).toNat)
  case atStart => exact ⟨0, Nat.zero_le _, rfl, fun j hj => absurd hj (by omega)⟩
  case round =>
    obtain ⟨k, hk, rfl, HK⟩ := hrel
    by_cases hlt : k < n
    · have hck := hc k hlt
      have hXk := hX k
      have HK' : Hid (ok k = true → ∀ j, j < k + 1 → ok j = true) := fun ho j hj => by
          by_cases e : j = k
          · subst e; exact ho
          · exact HK.out j (by omega)
      have HE : Hid (ok k = false → false = R) := HF.out k hlt
      have hC := HC.out k
      clear HF HT hc hX HK HC
      unfold RCase at hC
      generalize ok k = o at hC HK' HE
      rcases hC with ⟨e1, rfl⟩ | ⟨e1, o1 | o1, t, c31, ⟨o2, rfl⟩ | ⟨o2, rfl⟩ | ⟨o2, rfl⟩⟩ | ⟨e1, o1, ⟨o2, rfl⟩ | ⟨o2, rfl⟩⟩
      all_goals
        go_wp2_with (first
          | (go_at_call 76; refine (c _ (by assumption) _).mono ?_; rintro e w' ⟨rfl, rfl⟩)
          | (go_at_call 77; refine (c31 _).mono ?_; rintro e w' ⟨rfl, rfl⟩)
          | (go_at_call 38; refine (c22 _).mono ?_; rintro e w' ⟨rfl, rfl⟩))
        first
          | (go_round
             case rel => exact ⟨k + 1, by omega, by go_num, HK'.out (by trivial)⟩
             case measure => simp [intOf]; omega)
          | (go_ret
             exact ⟨ret_bool (HE.out (by trivial)), rfl⟩)
    · obtain rfl : k = n := by omega
      have HE : Hid (true = R) := HT.out HK.out
      have hle : ((k : Int) ≤ 1000) := by omega
      clear HF HT hc hX HK c HC
      go_wp2
      go_ret
      exact ⟨ret_bool (by simpa using HE.out), rfl⟩
theorem rcase (n x : Nat) (hn : n = 1074) (hx : x < 18446744073709551616) : RCase pcOf pcErr x (inTo 9218868437227405312 x && exB n (x % 9223372036854775808)) := by
  unfold RCase pcOf pcErr
  cases h : inTo 9218868437227405312 x
  · exact Or.inl ⟨rfl, rfl⟩
  · right
    have hp := price_ok x hx h
    simp only [if_true, Bool.true_and]
    generalize x % 9223372036854775808 = p at hp
    by_cases h1 : p = 9218868437227405312
    · subst h1
      rw [show exB n 9218868437227405312 = true by unfold exB; simp]
      exact Or.inr ⟨trivial, ord_gt (by decide) (by decide), Or.inr ⟨ord_eq (by decide) rfl, rfl⟩⟩
    by_cases h2 : p ≤ 4787326403894837248
    · obtain ⟨g1, g2⟩ := whole_ord n p hn h2
      rw [show exB n p = wh n p by unfold exB; simp [h1, h2]]
      refine Or.inl ⟨trivial, ?_, f64 (val p / 2 ^ n), fun w => floor_core p _ w (arch_floor n p hn (by omega)), ?_⟩
      · rcases Nat.lt_or_ge p 4787326403894837248 with h | h
        · exact Or.inl (ord_lt (by decide) h)
        · exact Or.inr (ord_eq (by omega) (by omega))
      · generalize f64 (val p / 2 ^ n) = t at g1 g2
        rw [ord_pos p t hp (by omega)] at g2
        rw [ord_pos t p (by omega) hp]
        rcases g2 with ⟨a, b⟩ | ⟨a, b⟩ | ⟨a, b⟩
        · refine Or.inr (Or.inl ⟨?_, b⟩)
          rw [cmp_of_gt]
          rcases Int.lt_trichotomy (p : Int) (t : Int) with h | h | h
          · exact h
          · rw [cmp_of_eq h] at a; cases a
          · rw [cmp_of_gt h] at a; cases a
        · refine Or.inl ⟨?_, b⟩
          rw [cmp_of_lt]
          rcases Int.lt_trichotomy (p : Int) (t : Int) with h | h | h
          · rw [cmp_of_lt h] at a; cases a
          · rw [cmp_of_eq h] at a; cases a
          · exact h
        · refine Or.inr (Or.inr ⟨?_, b⟩)
          rw [cmp_of_eq]
          rcases Int.lt_trichotomy (p : Int) (t : Int) with h | h | h
          · rw [cmp_of_lt h] at a; cases a
          · exact h.symm
          · rw [cmp_of_gt h] at a; cases a
    · rw [show exB n p = false by unfold exB; simp [h1, h2]]
      exact Or.inr ⟨trivial, ord_gt hp (by omega), Or.inl ⟨ord_lt (by decide) (by omega), rfl⟩⟩
theorem rof_inf (w : World) : Calls Tryz.prog 38 #[.int .u64 9218868437227405312] w fun e w' => e = .returned (.float .f64 9218868437227405312) ∧ w' = w := rof_any 9218868437227405312 (by decide) w
theorem rexacts_any (a : Option Addr) (n cap : Nat) (w : World) (X : Nat → Nat) (hn : n ≤ 1000) (h : Sl w a n cap X) :
    Calls Tryz.prog 55 #[.slice a n cap] w fun r w' => r = .returned (.bool (exAll X n)) ∧ w' = w := by
  obtain ⟨-, -, hX, hs⟩ := h
  by_cases h0 : n = 0
  · subst h0; exact rexact_none a cap w
  rcases hs with h | ⟨b, off, rfl, hc⟩
  · exact absurd h h0
  exact rexact_core b off n cap w (by omega) hn X pcOf pcErr (fun j => exOk (X j)) _ hX hc rprice_any rof_inf (fun k => rcase _ (X k) rfl (hX k)) (fun hall => ((allB_iff _ n).2 hall).symm) (fun j hj hno => (allB_false _ j hno n hj).symm)

/-! awake -/
namespace Fo
def pairX (a b : Nat) : Nat → Nat
  | 0 => a
  | _ => b
theorem pairX_lt (a b : Nat) (ha : a < 18446744073709551616) (hb : b < 18446744073709551616) : ∀ j, pairX a b j < 18446744073709551616
  | 0 => ha
  | _ + 1 => hb
end Fo
/-- Two numbers in a new block. -/
theorem sl_pair (w : World) (a b : Nat) (t : TypeId) (ha : a < 18446744073709551616) (hb : b < 18446744073709551616) :
    Sl (w.alloc (.cells #[.float .f64 a, .float .f64 b] t)) (some ⟨w.heap.size, 0, none⟩) 2 2 (pairX a b) := by
  refine ⟨by decide, by decide, pairX_lt a b ha hb, Or.inr ⟨_, _, rfl, fun j hj => ?_⟩⟩
  match j, hj with
  | 0, _ => rw [World.cell?_alloc_new]; rfl
  | 1, _ => rw [World.cell?_alloc_new]; rfl
theorem ex_pair : exAll (pairX 4607182418800017408 4611686018427387904) 2 = true := by decide +kernel
theorem tm_half : tm 4602678819172646912 4602678819172646912 = 4598175219545276416 ∧ tmE 4602678819172646912 4602678819172646912 = 0 := by decide +kernel
theorem ps_minus : ps 13830554455654793216 0 = 0 ∧ psE 13830554455654793216 0 = 16 := by decide +kernel
end Go.Proofs.YtjdbapkmaggllaaGreatDoor.Fl
