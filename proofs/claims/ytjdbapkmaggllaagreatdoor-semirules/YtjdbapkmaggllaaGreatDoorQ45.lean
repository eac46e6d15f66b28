/- The rules of the semirings, on worths. -/
import Derived.Test.YtjdbapkmaggllaaGreatDoorQ44
namespace Go.Proofs.YtjdbapkmaggllaaGreatDoor
open Go.RowKit Fo
set_option maxRecDepth 100000

namespace Fo
theorem oadd_comm (X Y : Option Nat) : oadd X Y = oadd Y X := by cases X <;> cases Y <;> simp [oadd, Nat.add_comm]
theorem oadd_assoc (X Y Z : Option Nat) : oadd X (oadd Y Z) = oadd (oadd X Y) Z := by cases X <;> cases Y <;> cases Z <;> simp [oadd, Nat.add_assoc]
theorem omul_comm (X Y : Option Nat) : omul X Y = omul Y X := by cases X <;> cases Y <;> simp [omul, Nat.mul_comm]
theorem omul_assoc (X Y Z : Option Nat) : omul X (omul Y Z) = omul (omul X Y) Z := by
  cases X with
  | none => cases Y with
    | none => cases Z with
      | none => rfl
      | some z => by_cases h : z = 0 <;> simp [omul, h]
    | some y => cases Z with
      | none => by_cases h : y = 0 <;> simp [omul, h]
      | some z => by_cases h : y = 0 <;> by_cases h2 : z = 0 <;> simp [omul, h, h2, Nat.mul_eq_zero]
  | some x => cases Y with
    | none => cases Z with
      | none => by_cases h : x = 0 <;> simp [omul, h]
      | some z => by_cases h : x = 0 <;> by_cases h2 : z = 0 <;> simp [omul, h, h2]
    | some y => cases Z with
      | none => by_cases h : x = 0 <;> by_cases h2 : y = 0 <;> simp [omul, h, h2, Nat.mul_eq_zero]
      | some z => simp [omul, Nat.mul_assoc]
theorem omul_oadd (X Y Z : Option Nat) : omul X (oadd Y Z) = oadd (omul X Y) (omul X Z) := by
  cases X with
  | none => cases Y with
    | none => cases Z <;> simp [omul, oadd]
    | some y => cases Z with
      | none => by_cases h : y = 0 <;> simp [omul, oadd, h]
      | some z => by_cases h : y = 0 <;> by_cases h2 : z = 0 <;> simp [omul, oadd, h, h2]
  | some x => cases Y with
    | none => cases Z with
      | none => by_cases h : x = 0 <;> simp [omul, oadd, h]
      | some z => by_cases h : x = 0 <;> simp [omul, oadd, h]
    | some y => cases Z with
      | none => by_cases h : x = 0 <;> simp [omul, oadd, h]
      | some z => simp [omul, oadd, Nat.mul_add]
theorem oadd_zero (X : Option Nat) : oadd X (some 0) = X := by cases X <;> simp [oadd]
theorem omul_one (X : Option Nat) : omul X (some 1) = X := by cases X <;> simp [omul]
theorem omul_zero (X : Option Nat) : omul X (some 0) = some 0 := by cases X <;> simp [omul]
theorem oadd_inf (X : Option Nat) : oadd X none = none := by cases X <;> rfl
/-- The chances that are not rounded. -/
def e5 : List Nat := [0, 4607182418800017408, 4602678819172646912, 4598175219545276416, 4593671619917905920]
/-- A worth that is not rounded in sums and products. -/
def exP (s : Int) (P : Option Nat) : Prop :=
  (s = 5 → ∃ x, P = some x ∧ x ∈ e5) ∧ (s = 6 → ∃ x, P = some x ∧ (x = 9218868437227405312 ∨ ∃ m, m ≤ 1099511627776 ∧ x = Fl.Fo.f64 m))
theorem omin_comm (P Q : Option Nat) : omin P Q = omin Q P := by
  rw [omin_eq, omin_eq]; cases P <;> cases Q <;> simp [Nat.min_comm]
theorem omin_assoc (P Q R : Option Nat) : omin P (omin Q R) = omin (omin P Q) R := by
  cases P <;> cases Q <;> cases R <;> simp [omin_none_left, omin_some, omin_none_right, Nat.min_assoc]
theorem oadd_omin (P Q R : Option Nat) : oadd P (omin Q R) = omin (oadd P Q) (oadd P R) := by
  cases P <;> cases Q <;> cases R <;> simp [omin_none_left, omin_some, omin_none_right, oadd]
theorem o2_comm (f : Nat → Nat → Nat) (h : ∀ a b, f a b = f b a) (P Q : Option Nat) : o2 f P Q = o2 f Q P := by
  cases P <;> cases Q <;> simp [o2]
  exact h _ _
theorem o2_assoc (f : Nat → Nat → Nat) (h : ∀ a b c, f a (f b c) = f (f a b) c) (P Q R : Option Nat) : o2 f P (o2 f Q R) = o2 f (o2 f P Q) R := by
  cases P <;> cases Q <;> cases R <;> simp [o2]
  exact h _ _ _
theorem padd_comm (s : Int) (P Q : Option Nat) : padd s P Q = padd s Q P := by
  unfold padd
  rw [oadd_comm P Q, omin_comm P Q, o2_comm min Nat.min_comm P Q, o2_comm max Nat.max_comm P Q]
theorem pmul_comm (s : Int) (P Q : Option Nat) : pmul s P Q = pmul s Q P := by
  unfold pmul
  rw [oadd_comm P Q, omul_comm P Q, o2_comm min Nat.min_comm P Q, o2_comm _ Fl.Fo.tm_comm P Q, o2_comm _ Fl.Fo.ps_comm P Q]
theorem padd_assoc (s : Int) (P Q R : Option Nat) : padd s P (padd s Q R) = padd s (padd s P Q) R := by
  unfold padd
  by_cases h1 : s = 1
  · simp only [if_pos h1]; exact oadd_assoc P Q R
  simp only [if_neg h1]
  by_cases h3 : s = 3
  · simp only [if_pos h3]; exact omin_assoc P Q R
  simp only [if_neg h3]
  by_cases h6 : s = 6
  · simp only [if_pos h6]; exact o2_assoc _ (fun a b c => by omega) P Q R
  simp only [if_neg h6]
  exact o2_assoc _ (fun a b c => by omega) P Q R
theorem tm_assoc5 : ∀ a ∈ e5, ∀ b ∈ e5, ∀ c ∈ e5, Fl.Fo.tm a (Fl.Fo.tm b c) = Fl.Fo.tm (Fl.Fo.tm a b) c := by decide +kernel
theorem tm_max5 : ∀ a ∈ e5, ∀ b ∈ e5, ∀ c ∈ e5, Fl.Fo.tm a (max b c) = max (Fl.Fo.tm a b) (Fl.Fo.tm a c) := by decide +kernel
theorem tm_zero5 : ∀ a ∈ e5, Fl.Fo.tm a 0 = 0 := by decide +kernel
/-- Prices that are not rounded: infinity, or a whole number below 2 ^ b. -/
def wN (b x : Nat) : Prop := x = 9218868437227405312 ∨ ∃ m, m ≤ b ∧ x = Fl.Fo.f64 m
theorem f64_top (m : Nat) (h : m ≤ 9007199254740991) : Fl.Fo.f64 m ≤ 9218868437227405312 := Nat.le_of_lt (Fl.Fo.f64_lt m (by omega))
theorem wN_top {b x : Nat} (hb : b ≤ 9007199254740991) (h : wN b x) : x ≤ 9218868437227405312 := by
  rcases h with rfl | ⟨m, hm, rfl⟩
  · exact Nat.le_refl _
  · exact f64_top m (by omega)
theorem ps_inf_left (a : Nat) (ha : a ≤ 9218868437227405312) : Fl.Fo.ps 9218868437227405312 a = 9218868437227405312 := by rw [Fl.Fo.ps_comm]; exact (Fl.Fo.ps_inf a ha).1
theorem ps_top {a b : Nat} (ha : a ≤ 9218868437227405312) (hb : b ≤ 9218868437227405312) : Fl.Fo.ps a b ≤ 9218868437227405312 := Fl.Fo.ps_le a b (by omega) (by omega)
theorem ps_assoc6 (a b c : Nat) (ha : wN 1099511627776 a) (hb : wN 1099511627776 b) (hc : wN 1099511627776 c) : Fl.Fo.ps a (Fl.Fo.ps b c) = Fl.Fo.ps (Fl.Fo.ps a b) c := by
  have ta := wN_top (by decide) ha
  have tb := wN_top (by decide) hb
  have tc := wN_top (by decide) hc
  rcases ha with rfl | ⟨m, hm, rfl⟩
  · rw [ps_inf_left _ (ps_top tb tc), ps_inf_left _ tb, ps_inf_left _ tc]
  rcases hb with rfl | ⟨n, hn, rfl⟩
  · rw [ps_inf_left _ tc, (Fl.Fo.ps_inf _ ta).1, ps_inf_left _ tc]
  rcases hc with rfl | ⟨k, hk, rfl⟩
  · rw [(Fl.Fo.ps_inf _ tb).1, (Fl.Fo.ps_inf _ ta).1, (Fl.Fo.ps_inf _ (ps_top ta tb)).1]
  rw [Fl.Fo.ps_whole n k (by omega), Fl.Fo.ps_whole m n (by omega), Fl.Fo.ps_whole m (n + k) (by omega), Fl.Fo.ps_whole (m + n) k (by omega), Nat.add_assoc]
theorem f64_min (m n : Nat) (hm : m ≤ 9007199254740991) (hn : n ≤ 9007199254740991) : min (Fl.Fo.f64 m) (Fl.Fo.f64 n) = Fl.Fo.f64 (min m n) := by
  by_cases h : m ≤ n
  · rw [Nat.min_eq_left h, Nat.min_eq_left ((Fl.Fo.f64_le m n (by omega) (by omega)).2 h)]
  · rw [Nat.min_eq_right (show n ≤ m by omega), Nat.min_eq_right ((Fl.Fo.f64_le n m (by omega) (by omega)).2 (by omega))]
theorem ps_min6 (a b c : Nat) (ha : wN 1099511627776 a) (hb : wN 1099511627776 b) (hc : wN 1099511627776 c) : Fl.Fo.ps a (min b c) = min (Fl.Fo.ps a b) (Fl.Fo.ps a c) := by
  have ta := wN_top (by decide) ha
  have tb := wN_top (by decide) hb
  have tc := wN_top (by decide) hc
  rcases hb with rfl | ⟨n, hn, rfl⟩
  · rw [Nat.min_eq_right tc, (Fl.Fo.ps_inf _ ta).1, Nat.min_eq_right (ps_top ta tc)]
  rcases hc with rfl | ⟨k, hk, rfl⟩
  · rw [Nat.min_eq_left tb, (Fl.Fo.ps_inf _ ta).1, Nat.min_eq_left (ps_top ta tb)]
  rcases ha with rfl | ⟨m, hm, rfl⟩
  · rw [ps_inf_left _ tb, ps_inf_left _ tc, Nat.min_self, f64_min n k (by omega) (by omega), ps_inf_left _ (f64_top _ (by omega))]
  rw [f64_min n k (by omega) (by omega), Fl.Fo.ps_whole m n (by omega), Fl.Fo.ps_whole m k (by omega), Fl.Fo.ps_whole m (min n k) (by omega), f64_min _ _ (by omega) (by omega)]
  congr 1; omega
theorem pmul_assoc (s : Int) (P Q R : Option Nat) (hP : exP s P) (hQ : exP s Q) (hR : exP s R) : pmul s P (pmul s Q R) = pmul s (pmul s P Q) R := by
  unfold pmul
  by_cases h1 : s = 1
  · simp only [if_pos h1]; exact omul_assoc P Q R
  simp only [if_neg h1]
  by_cases h3 : s = 3
  · simp only [if_pos h3]; exact oadd_assoc P Q R
  simp only [if_neg h3]
  by_cases h5 : s = 5
  · simp only [if_pos h5]
    obtain ⟨a, rfl, ha⟩ := hP.1 h5
    obtain ⟨b, rfl, hb⟩ := hQ.1 h5
    obtain ⟨c, rfl, hc⟩ := hR.1 h5
    exact congrArg some (tm_assoc5 a ha b hb c hc)
  simp only [if_neg h5]
  by_cases h6 : s = 6
  · simp only [if_pos h6]
    obtain ⟨a, rfl, ha⟩ := hP.2 h6
    obtain ⟨b, rfl, hb⟩ := hQ.2 h6
    obtain ⟨c, rfl, hc⟩ := hR.2 h6
    exact congrArg some (ps_assoc6 a b c ha hb hc)
  simp only [if_neg h6]
  exact o2_assoc _ (fun a b c => by omega) P Q R
theorem pmul_padd (s : Int) (P Q R : Option Nat) (hP : exP s P) (hQ : exP s Q) (hR : exP s R) : pmul s P (padd s Q R) = padd s (pmul s P Q) (pmul s P R) := by
  unfold pmul padd
  by_cases h1 : s = 1
  · simp only [if_pos h1]; exact omul_oadd P Q R
  simp only [if_neg h1]
  by_cases h3 : s = 3
  · simp only [if_pos h3]; exact oadd_omin P Q R
  simp only [if_neg h3]
  by_cases h5 : s = 5
  · simp only [if_pos h5, if_neg (show ¬ s = 6 by omega)]
    obtain ⟨a, rfl, ha⟩ := hP.1 h5
    obtain ⟨b, rfl, hb⟩ := hQ.1 h5
    obtain ⟨c, rfl, hc⟩ := hR.1 h5
    exact congrArg some (tm_max5 a ha b hb c hc)
  simp only [if_neg h5]
  by_cases h6 : s = 6
  · simp only [if_pos h6]
    obtain ⟨a, rfl, ha⟩ := hP.2 h6
    obtain ⟨b, rfl, hb⟩ := hQ.2 h6
    obtain ⟨c, rfl, hc⟩ := hR.2 h6
    exact congrArg some (ps_min6 a b c ha hb hc)
  simp only [if_neg h6]
  cases P <;> cases Q <;> cases R <;> simp [o2]
  omega
theorem padd_zero (s : Int) (P : Option Nat) (h : okP s P) : padd s P (pzero s) = P := by
  rcases h with (rfl | rfl) | ⟨rfl | rfl, l, rfl, hl⟩ | ⟨rfl | rfl, x, rfl, hx⟩
  · exact oadd_zero P
  · show omin P none = P
    cases P <;> rfl
  · show some (max l 0) = _; exact congrArg some (by omega)
  · show some (max l 0) = _; exact congrArg some (by omega)
  · show some (max x 0) = _; exact congrArg some (by omega)
  · replace hx : x ≤ 9218868437227405312 := hx
    show some (min x 9218868437227405312) = _; exact congrArg some (by omega)
theorem pmul_one (s : Int) (P : Option Nat) (h : okP s P) : pmul s P (pone s) = P := by
  rcases h with (rfl | rfl) | ⟨rfl | rfl, l, rfl, hl⟩ | ⟨rfl | rfl, x, rfl, hx⟩
  · exact omul_one P
  · exact oadd_zero P
  · replace hl : l ≤ 1 := hl
    show some (min l 1) = _; exact congrArg some (by omega)
  · replace hl : l ≤ 7 := hl
    show some (min l 7) = _; exact congrArg some (by omega)
  · exact congrArg some (tm_to_one x hx)
  · exact congrArg some (ps_to_zero x hx)
theorem pmul_zero (s : Int) (P : Option Nat) (h : okP s P) (he : exP s P) : pmul s P (pzero s) = pzero s := by
  rcases h with (rfl | rfl) | ⟨rfl | rfl, l, rfl, hl⟩ | ⟨rfl | rfl, x, rfl, hx⟩
  · exact omul_zero P
  · exact oadd_inf P
  · show some (min l 0) = some 0; exact congrArg some (by omega)
  · show some (min l 0) = some 0; exact congrArg some (by omega)
  · obtain ⟨y, e, hy⟩ := he.1 rfl
    obtain rfl := Option.some.inj e
    exact congrArg some (tm_zero5 x hy)
  · exact congrArg some (Fl.Fo.ps_inf x hx).1
theorem pone_ne (s : Int) (h : isSem s) : pone s ≠ pzero s := by
  rcases h with rfl | rfl | rfl | rfl | rfl | rfl <;> decide
end Fo
end Go.Proofs.YtjdbapkmaggllaaGreatDoor
