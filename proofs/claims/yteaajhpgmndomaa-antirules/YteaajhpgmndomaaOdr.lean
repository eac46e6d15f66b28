/- The order of sets: cmp.Or, slices.Compare, order. -/
import Derived.Test.YteaajhpgmndomaaSor
namespace Go.Proofs.Yteaajhpgmndomaa
open Go.RowKit Fo
set_option maxRecDepth 100000

namespace Fo
/-- Lists compared number by number. -/
def cmpL : List Int → List Int → Int
  | [], [] => 0
  | [], _ :: _ => -1
  | _ :: _, [] => 1
  | x :: a, y :: b => if x < y then -1 else if y < x then 1 else cmpL a b
def ordI (a b : List Int) : Int := if a.length < b.length then -1 else if b.length < a.length then 1 else cmpL a b
theorem cmpL_lex : ∀ {a b : List Int}, a.length = b.length → (cmpL a b < 0 ↔ lexL a b)
  | [], [], _ => by simp [cmpL, lexL]
  | x :: a, y :: b, h => by
    unfold cmpL lexL
    by_cases h1 : x < y
    · simp [h1]
    · by_cases h2 : y < x
      · rw [if_neg h1, if_pos h2]
        constructor
        · intro h; omega
        · rintro (h | ⟨h, -⟩) <;> omega
      · rw [if_neg h1, if_neg h2, cmpL_lex (by simpa using h)]
        constructor
        · intro h; exact Or.inr ⟨by omega, h⟩
        · rintro (h | ⟨-, h⟩)
          · omega
          · exact h
  | [], _ :: _, h => by simp at h
  | _ :: _, [], h => by simp at h
theorem ordI_less (a b : List Int) : ordI a b < 0 ↔ lessL a b := by
  unfold ordI lessL
  by_cases h1 : a.length < b.length
  · simp [h1]
  · by_cases h2 : b.length < a.length
    · rw [if_neg h1, if_pos h2]
      constructor
      · intro h; omega
      · rintro (h | ⟨h, -⟩) <;> omega
    · rw [if_neg h1, if_neg h2, cmpL_lex (by omega)]
      constructor
      · intro h; exact Or.inr ⟨by omega, h⟩
      · rintro (h | ⟨-, h⟩)
        · omega
        · exact h
theorem cmpL_step {a b : List Int} {i : Nat} (ha : i < a.length) (hb : i < b.length) :
    cmpL (a.drop i) (b.drop i) = if gt a i < gt b i then -1 else if gt b i < gt a i then 1 else cmpL (a.drop (i + 1)) (b.drop (i + 1)) := by
  rw [List.drop_eq_getElem_cons ha, List.drop_eq_getElem_cons hb]
  unfold gt
  rw [List.getD_eq_getElem?_getD, List.getElem?_eq_getElem ha, List.getD_eq_getElem?_getD, List.getElem?_eq_getElem hb]
  rfl
theorem cmpL_end1 {a b : List Int} {i : Nat} (ha : i < a.length) (hb : b.length ≤ i) : cmpL (a.drop i) (b.drop i) = 1 := by
  rw [List.drop_eq_getElem_cons ha, List.drop_eq_nil_of_le hb]; rfl
theorem cmpL_end2 {a b : List Int} {i : Nat} (ha : a.length = i) : cmpL (a.drop i) (b.drop i) = if a.length < b.length then -1 else 0 := by
  rw [List.drop_eq_nil_of_le (by omega : a.length ≤ i)]
  by_cases h : i < b.length
  · rw [List.drop_eq_getElem_cons h, if_pos (by omega)]; rfl
  · rw [List.drop_eq_nil_of_le (by omega), if_neg (by omega)]; rfl
end Fo
set_option maxHeartbeats 4000000 in
theorem cmpS_any (w : World) (va vb : Value) (A B : List Int) (hA : IsL w va A) (hB : IsL w vb B) :
    Calls Try.prog 65 #[va, vb] w fun e w' => e = .returned (.int .i64 (cmpL A B)) ∧ w' = w := by
  obtain ⟨a, c, rfl, hra⟩ := hA
  obtain ⟨b, d, rfl, hrb⟩ := hB
  have HRA : Hid (Rd w a A.length c (ivs (gt A))) := hra
  have HRB : Hid (Rd w b B.length d (ivs (gt B))) := hrb
  have hc1 := hra.1
  have hc2 := hra.2.1
  have hd1 := hrb.1
  have hd2 := hrb.2.1
  clear hra hrb
  go_enter Try.func65, Try.ntmps65
  go_wp2
  go_loop [11] (fun v => ∃ i : Nat, i ≤ A.length ∧ v = .int .i64 i ∧ Hid (cmpL (A.drop i) (B.drop i) = cmpL A B)) (fun v => A.length - (intOf v).toNat)
  case atStart => exact ⟨0, Nat.zero_le _, rfl, rfl⟩
  case round =>
    obtain ⟨i, hi, rfl, HI⟩ := hrel
    by_cases h1 : i < A.length
    · obtain ⟨ga, oa, rfl, hca⟩ := HRA.out.at (by omega)
      have hx := hca i h1
      unfold ivs at hx
      have j1 : (0 : Int) ≤ (i : Int) := by omega
      have j2 : (i : Int) < (A.length : Int) := by omega
      by_cases h2 : i < B.length
      · obtain ⟨gb, ob, rfl, hcb⟩ := HRB.out.at (by omega)
        have hy := hcb i h2
        unfold ivs at hy
        have j3 : (i : Int) < (B.length : Int) := by omega
        have j4 : ¬ (B.length : Int) ≤ (i : Int) := by omega
        have HS : Hid ((if gt A i < gt B i then -1 else if gt B i < gt A i then 1 else cmpL (A.drop (i + 1)) (B.drop (i + 1))) = cmpL A B) := by show _ = _; rw [← cmpL_step h1 h2]; exact HI.out
        clear hca hcb HI HRA HRB
        obtain ⟨r, hr⟩ : ∃ r, r = Lib.compareInt (gt A i) (gt B i) := ⟨_, rfl⟩
        have HR : Hid (r = Lib.compareInt (gt A i) (gt B i)) := hr
        go_wp2_with (go_at_call 64; fail)
        refine (Try.cmp_Compare_int _ _ w).mono ?_
        rintro e w' ⟨rfl, hw'⟩
        subst hw'
        rw [← hr]
        clear hr
        rcases Int.lt_trichotomy (gt A i) (gt B i) with h | h | h
        · obtain rfl : r = -1 := by rw [HR.out]; unfold Lib.compareInt; rw [if_pos h]
          have HE : Hid (-1 = cmpL A B) := by have := HS.out; rwa [if_pos h] at this
          clear HR HS h hx hy
          go_wp2
          go_ret
          exact ⟨ret_int HE.out, rfl⟩
        · obtain rfl : r = 0 := by rw [HR.out]; unfold Lib.compareInt; rw [if_neg (by omega), if_neg (by omega)]
          have HE : Hid (cmpL (A.drop (i + 1)) (B.drop (i + 1)) = cmpL A B) := by have := HS.out; rwa [if_neg (by omega), if_neg (by omega)] at this
          clear HR HS h hx hy
          go_wp2
          exact ⟨⟨i + 1, by omega, by go_num, HE⟩, by simp [intOf]; omega⟩
        · obtain rfl : r = 1 := by rw [HR.out]; unfold Lib.compareInt; rw [if_neg (by omega), if_pos h]
          have HE : Hid (1 = cmpL A B) := by have := HS.out; rwa [if_neg (by omega), if_pos h] at this
          clear HR HS h hx hy
          go_wp2
          go_ret
          exact ⟨ret_int HE.out, rfl⟩
      · have j4 : (B.length : Int) ≤ (i : Int) := by omega
        have HE : Hid (1 = cmpL A B) := by have := HI.out; rw [cmpL_end1 h1 (by omega)] at this; exact this
        clear hca HI HRA HRB
        go_wp2
        go_ret
        exact ⟨ret_int HE.out, rfl⟩
    · have j1 : ¬ (i : Int) < (A.length : Int) := by omega
      have hE := HI.out
      rw [cmpL_end2 (by omega)] at hE
      by_cases h2 : A.length < B.length
      · have j2 : (A.length : Int) < (B.length : Int) := by omega
        have HE : Hid (-1 = cmpL A B) := by rw [if_pos h2] at hE; exact hE
        clear hE HI HRA HRB
        go_wp2
        go_ret
        exact ⟨ret_int HE.out, rfl⟩
      · have j2 : ¬ (A.length : Int) < (B.length : Int) := by omega
        have HE : Hid (0 = cmpL A B) := by rw [if_neg h2] at hE; exact hE
        clear hE HI HRA HRB
        go_wp2
        go_ret
        exact ⟨ret_int HE.out, rfl⟩
set_option maxHeartbeats 4000000 in
theorem or_any (w : World) (g : Nat) (x y r : Int) (hx : w.cell? ⟨g, 0, none⟩ = some (.int .i64 x)) (hy : w.cell? ⟨g, 1, none⟩ = some (.int .i64 y)) (hr : r = if x = 0 then y else x) :
    Calls Try.prog 63 #[.slice (some ⟨g, 0, none⟩) 2 2] w fun e w' => e = .returned (.int .i64 r) ∧ w' = w := by
  have HR : Hid (r = if x = 0 then y else x) := hr
  clear hr
  go_enter Try.func63, Try.ntmps63
  go_wp2
  go_loop [8] (fun v => ∃ i : Nat, i ≤ 2 ∧ v = .int .i64 i ∧ Hid (1 ≤ i → x = 0) ∧ Hid (2 ≤ i → y = 0)) (fun v => 2 - (intOf v).toNat)
  case atStart => exact ⟨0, Nat.zero_le _, rfl, fun h => absurd h (by omega), fun h => absurd h (by omega)⟩
  case round =>
    obtain ⟨i, hi, rfl, H1, H2⟩ := hrel
    rcases (by omega : i = 0 ∨ i = 1 ∨ i = 2) with rfl | rfl | rfl
    · by_cases h : x = 0
      · subst h
        have HE : Hid (0 = (0 : Int)) := rfl
        go_wp2
        exact ⟨⟨1, by omega, rfl, by first | exact fun _ => rfl | exact fun _ => trivial, fun h => absurd h (by omega)⟩, by simp [intOf]⟩
      · have hne : (x != 0) = true := by simpa using h
        have HE : Hid (x = r) := by rw [HR.out, if_neg h]; rfl
        clear HR H1 H2
        go_wp2
        go_ret
        exact ⟨ret_int HE.out, rfl⟩
    · have hx0 := H1.out (by omega)
      subst hx0
      by_cases h : y = 0
      · subst h
        go_wp2
        exact ⟨⟨2, by omega, rfl, by first | exact fun _ => rfl | exact fun _ => trivial, by first | exact fun _ => rfl | exact fun _ => trivial⟩, by simp [intOf]⟩
      · have hne : (y != 0) = true := by simpa using h
        have HE : Hid (y = r) := by rw [HR.out, if_pos rfl]; rfl
        clear HR H1 H2
        go_wp2
        go_ret
        exact ⟨ret_int HE.out, rfl⟩
    · have HE : Hid (0 = r) := by rw [HR.out, if_pos (H1.out (by omega)), H2.out (by omega)]; rfl
      clear HR H1 H2
      go_wp2
      go_ret
      exact ⟨ret_int HE.out, rfl⟩
set_option maxHeartbeats 4000000 in
/-- The order of sets. -/
theorem order_any (w : World) (va vb : Value) (A B : List Int) (hA : IsL w va A) (hB : IsL w vb B) :
    Calls Try.prog 51 #[va, vb] w fun e w' => e = .returned (.int .i64 (ordI A B)) ∧ ∃ o, w' = w.alloc o := by
  have HC : Hid (Calls Try.prog 65 #[va, vb] w fun e w' => e = .returned (.int .i64 (cmpL A B)) ∧ w' = w) := cmpS_any w va vb A B hA hB
  obtain ⟨a, c, rfl, hra⟩ := hA
  obtain ⟨b, d, rfl, hrb⟩ := hB
  obtain ⟨r, hr⟩ : ∃ r, r = Lib.compareInt A.length B.length := ⟨_, rfl⟩
  obtain ⟨s, hs⟩ : ∃ s, s = cmpL A B := ⟨_, rfl⟩
  have HR : Hid (ordI A B = if r = 0 then s else r) := by
    show _ = _
    rw [hr, hs]
    unfold ordI Lib.compareInt
    by_cases h1 : A.length < B.length
    · rw [if_pos h1, if_pos (by omega : (A.length : Int) < (B.length : Int))]; rfl
    · by_cases h2 : B.length < A.length
      · rw [if_neg h1, if_pos h2, if_neg (by omega : ¬ (A.length : Int) < (B.length : Int)), if_pos (by omega : (A.length : Int) > (B.length : Int))]; rfl
      · rw [if_neg h1, if_neg h2, if_neg (by omega : ¬ (A.length : Int) < (B.length : Int)), if_neg (by omega : ¬ (A.length : Int) > (B.length : Int))]; rfl
  have HCC := fun W => Try.cmp_Compare_int A.length B.length W
  rw [← hr] at HCC
  rw [← hs] at HC
  clear hra hrb hr hs
  go_enter Try.func51, Try.ntmps51
  go_wp2_with (go_at_call 64; fail)
  refine (HCC w).mono ?_
  rintro e w' ⟨rfl, hw'⟩
  subst hw'
  go_wp2_with (go_at_call 65; fail)
  refine HC.out.mono ?_
  rintro e w' ⟨rfl, hw'⟩
  subst hw'
  go_wp2_with (go_at_call 63; fail)
  refine (or_any _ _ r s _ (by simp) (by simp) HR.out).mono ?_
  rintro e w' ⟨rfl, hw'⟩
  subst hw'
  go_wp2
  go_ret
  exact ⟨rfl, _, rfl⟩
end Go.Proofs.Yteaajhpgmndomaa
