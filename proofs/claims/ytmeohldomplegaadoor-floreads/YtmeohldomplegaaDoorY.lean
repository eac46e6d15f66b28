/- The contract of the document's own reading of a small number. -/
import Derived.Test.YtmeohldomplegaaDoorU
namespace Go.Proofs.YtmeohldomplegaaDoor
open Go.RowKit Fo Go.Sort
set_option maxRecDepth 100000

namespace Fo
/-- Digits read on. -/
def dval (acc : Nat) : List UInt8 → Option Nat
  | [] => some acc
  | c :: r => if 48 ≤ c.toNat ∧ c.toNat ≤ 57 then dval (acc * 10 + (c.toNat - 48)) r else none
def sNeg (l : List UInt8) : Bool := Lib.hasPrefix l [45]
def sBody (l : List UInt8) : List UInt8 := Lib.trimPrefix l [45]
def sN (l : List UInt8) : Int := match dval 0 (sBody l) with
  | none => 0
  | some a => if sNeg l then -(a : Int) else a
def sOk (l : List UInt8) : Bool := match dval 0 (sBody l) with
  | none => false
  | some _ => Lib.itoa (sN l) == l
theorem dval_dec : ∀ (u : Nat) (t : List UInt8), dval 0 (Lib.decDigits u ++ t) = dval u t := by
  intro u
  induction u using Nat.strongRecOn with
  | ind u ih =>
    intro t
    by_cases h : u < 10
    · rw [Lib.decDigits_one h]
      show dval 0 (UInt8.ofNat (48 + u) :: t) = _
      rw [dval, dig_toNat u h, if_pos ⟨by omega, by omega⟩]
      congr 1; omega
    · rw [dec_step u h, List.append_assoc, ih (u / 10) (by omega)]
      show dval (u / 10) (UInt8.ofNat (48 + u % 10) :: t) = _
      rw [dval, dig_toNat _ (by omega), if_pos ⟨by omega, by omega⟩]
      congr 1; omega
/-- A number's own digits are read as the number. -/
theorem s_itoa (m : Int) : sN (Lib.itoa m) = m ∧ sOk (Lib.itoa m) = true := by
  have key : ∃ a : Nat, dval 0 (sBody (Lib.itoa m)) = some a ∧ (if sNeg (Lib.itoa m) then -(a : Int) else a) = m := by
    by_cases hn : m < 0
    · obtain ⟨u, rfl⟩ : ∃ u : Nat, m = -(u : Int) := ⟨m.natAbs, by omega⟩
      rw [Lib.itoa_neg u (by omega)]
      refine ⟨u, ?_, ?_⟩
      · have : sBody (45 :: Lib.decDigits u) = Lib.decDigits u := by unfold sBody Lib.trimPrefix Lib.hasPrefix; simp
        rw [this]
        have := dval_dec u []
        rw [List.append_nil] at this; exact this
      · have : sNeg (45 :: Lib.decDigits u) = true := by unfold sNeg Lib.hasPrefix; simp
        rw [this]; rfl
    · obtain ⟨u, rfl⟩ : ∃ u : Nat, m = (u : Int) := ⟨m.toNat, by omega⟩
      rw [Lib.itoa_nonneg]
      obtain ⟨c, r, hc, h2, h3⟩ := dec_cons u
      have hp : Lib.hasPrefix (Lib.decDigits u) [45] = false := by
        rw [hc]; unfold Lib.hasPrefix
        simp only [List.isPrefixOf, Bool.and_true, beq_eq_false_iff_ne, ne_eq]
        intro e
        have : c.toNat = 45 := by rw [← e]; rfl
        omega
      refine ⟨u, ?_, ?_⟩
      · have : sBody (Lib.decDigits u) = Lib.decDigits u := by unfold sBody Lib.trimPrefix; rw [hp]; rfl
        rw [this]
        have := dval_dec u []
        rw [List.append_nil] at this; exact this
      · unfold sNeg; rw [hp]; rfl
  obtain ⟨a, h1, h2⟩ := key
  have hN : sN (Lib.itoa m) = m := by unfold sN; rw [h1]; exact h2
  refine ⟨hN, ?_⟩
  unfold sOk; rw [h1, hN]; simp
theorem s_ok {l : List UInt8} (h : sOk l = true) : l = Lib.itoa (sN l) := by
  unfold sOk at h
  split at h
  · cases h
  · exact (beq_iff_eq.1 h).symm
theorem dval_none (acc : Nat) (c : UInt8) (r : List UInt8) (h : ¬ (48 ≤ c.toNat ∧ c.toNat ≤ 57)) : dval acc (c :: r) = none := by rw [dval, if_neg h]
theorem dval_some (acc : Nat) (c : UInt8) (r : List UInt8) (h : 48 ≤ c.toNat ∧ c.toNat ≤ 57) : dval acc (c :: r) = dval (acc * 10 + (c.toNat - 48)) r := by rw [dval, if_pos h]
end Fo
theorem drop_at (S : ByteArray) (i : Nat) (h : i < S.size) : S.data.toList.drop i = S[i] :: S.data.toList.drop (i + 1) := by
  rw [List.drop_eq_getElem_cons (by simpa using h)]; rfl
theorem pow10_le (i : Nat) (h : i ≤ 17) : 10 ^ i ≤ 100000000000000000 := by
  have : (100000000000000000 : Nat) = 10 ^ 17 := by decide
  rw [this]; exact Nat.pow_le_pow_right (by decide) h
theorem dval_bd : ∀ (l : List UInt8) (acc a k : Nat), dval acc l = some a → acc < 10 ^ k → a < 10 ^ (k + l.length)
  | [], acc, a, k, h, hk => by rw [dval] at h; cases h; simpa using hk
  | c :: r, acc, a, k, h, hk => by
    by_cases hd : 48 ≤ c.toNat ∧ c.toNat ≤ 57
    · rw [dval_some _ _ _ hd] at h
      have := dval_bd r _ a (k + 1) h (by rw [Nat.pow_succ]; omega)
      rw [List.length_cons, show k + (r.length + 1) = k + 1 + r.length by omega]; exact this
    · rw [dval_none _ _ _ hd] at h; cases h

theorem small_long (S : ByteArray) (mo : Nat) (hmo : mo ≤ 17) (hS : mo + 1 < S.size) (hmax : S.size ≤ 9223372036854775807) (w : World) :
    Calls Tryd.prog 44 #[.string S, .int .i64 mo] w fun r w' => r = .returned (.tuple #[.int .i64 0, .bool false]) ∧ w' = w := by
  have h0 : 0 < S.size := by omega
  go_enter Tryd.func44, Tryd.ntmps44
  go_wp2
  all_goals go_ret2
  all_goals exact ⟨rfl, rfl⟩
theorem small_empty (S : ByteArray) (mo : Nat) (hmo : mo ≤ 17) (hS : S.size = 0) (w : World) :
    Calls Tryd.prog 44 #[.string S, .int .i64 mo] w fun r w' => r = .returned (.tuple #[.int .i64 0, .bool false]) ∧ Below w.heap.size w w' := by
  have hl : S.toList = [] := by rw [ByteArray.toList_eq]; exact List.eq_nil_of_length_eq_zero (by simpa using hS)
  have c42 := fun w => decimal_any 0 (by decide) (by decide) w
  have e0 : Lib.itoa 0 = [48] := by decide +kernel
  rw [e0] at c42
  go_enter Tryd.func44, Tryd.ntmps44
  go_wp2
  go_loop [7, 8] (fun vn vi => vi = .int .i64 0 ∧ vn = .int .i64 0) (fun _ _ => 0)
  case atStart => exact ⟨rfl, rfl⟩
  case round =>
    obtain ⟨rfl, rfl⟩ := hrel
    go_wp2_with (go_at_call 42; refine (c42 _).mono ?_; rintro e w' ⟨rfl, hB⟩)
    go_ret2
    exact ⟨rfl, hB⟩
/-- What small answers of what the digits are. -/
def smRes (T : Option Nat) (neg : Bool) (S : ByteArray) : Value := match T with
  | none => .tuple #[.int .i64 0, .bool false]
  | some a => .tuple #[.int .i64 (if neg then -(a : Int) else a), .bool (Lib.itoa (if neg then -(a : Int) else a) == S.toList)]
theorem pow10_le' (i : Nat) (h : i ≤ 18) : 10 ^ i ≤ 1000000000000000000 := by
  have : (1000000000000000000 : Nat) = 10 ^ 18 := by decide
  rw [this]; exact Nat.pow_le_pow_right (by decide) h
set_option maxHeartbeats 4000000 in
theorem small_core (S : ByteArray) (mo : Nat) (hmo : mo ≤ 17) (hS : S.size ≤ mo + 1) (h1 : 0 < S.size) (neg : Bool) (hneg : (((S[0].toNat : Nat) : Int) == 45) = neg) (w : World)
    (T : Option Nat) (hT0 : neg = false → T = dval 0 S.data.toList) (hT1 : neg = true → T = dval 0 (S.data.toList.drop 1)) :
    Calls Tryd.prog 44 #[.string S, .int .i64 mo] w fun r w' => r = .returned (smRes T neg S) ∧ Below w.heap.size w w' := by
  have HT0 : Hid (neg = false → T = dval 0 S.data.toList) := hT0
  have HT1 : Hid (neg = true → T = dval 0 (S.data.toList.drop 1)) := hT1
  clear hT0 hT1
  have hB0 : Hid (Below w.heap.size w w) := Below.refl _ _
  go_enter Tryd.func44, Tryd.ntmps44
  go_wp2
  go_loop [7, 8] (fun vn vi => ∃ i acc : Nat, i ≤ S.size ∧ vi = .int .i64 i ∧ vn = .int .i64 acc ∧ Hid (acc < 10 ^ i ∧ (i = 0 → acc = 0) ∧ (0 < i → T = dval acc (S.data.toList.drop i)))) (fun _ i => S.size - (intOf i).toNat)
  case atStart => exact ⟨0, 0, by omega, rfl, rfl, by decide, fun _ => rfl, fun h => absurd h (by omega)⟩
  case round =>
    obtain ⟨i, acc, hi, rfl, rfl, HI⟩ := hrel
    by_cases hlt : i < S.size
    · have hdrop := drop_at S i hlt
      have HD : Hid (S.data.toList.drop i = S[i] :: S.data.toList.drop (i + 1)) := hdrop
      clear hdrop
      have hacc : acc < 100000000000000000 := Nat.lt_of_lt_of_le HI.out.1 (pow10_le i (by omega))
      by_cases hsk : i = 0 ∧ neg = true
      · obtain ⟨rfl, rfl⟩ := hsk
        have h00 := HI.out.2.1 rfl
        subst h00
        go_wp2
        go_round
        case rel => exact ⟨1, 0, by omega, rfl, rfl, by decide, fun h => absurd h (by decide), fun _ => HT1.out rfl⟩
        case measure => simp [intOf]; omega
      · have HC : Hid (T = dval acc (S.data.toList.drop i)) := by
          show T = dval acc (S.data.toList.drop i)
          rcases Nat.eq_zero_or_pos i with hz | hp
          · have hn : neg = false := by
              cases neg
              · rfl
              · exact absurd ⟨hz, rfl⟩ hsk
            rw [HT0.out hn, hz, HI.out.2.1 hz]; rfl
          · exact HI.out.2.2 hp
        have hg : (((i : Int) == 0) && neg) = false := by
          cases neg
          · simp
          · simp; intro h; exact hsk ⟨h, rfl⟩
        by_cases hd : 48 ≤ S[i].toNat ∧ S[i].toNat ≤ 57
        · obtain ⟨hd1, hd2⟩ := hd
          have hd1' : 48 ≤ ((S[i].toNat : Nat) : Int) := by omega
          have hd2' : ((S[i].toNat : Nat) : Int) ≤ 57 := by omega
          have HN : Hid (T = dval (acc * 10 + (S[i].toNat - 48)) (S.data.toList.drop (i + 1))) := by
            show T = _
            rw [HC.out, HD.out, dval_some _ _ _ ⟨hd1, hd2⟩]
          have HB : Hid (acc * 10 + (S[i].toNat - 48) < 10 ^ (i + 1)) := by
            have := HI.out.1
            show _ < _
            rw [Nat.pow_succ]; omega
          by_cases hi0 : i = 0
          · have hn : neg = false := by
              cases neg
              · rfl
              · exact absurd ⟨hi0, rfl⟩ hsk
            subst hn
            subst hi0
            clear hg hsk
            go_wp2
            go_round
            case rel => exact ⟨1, acc * 10 + (S[0].toNat - 48), by omega, rfl, by go_num, HB.out, fun h => absurd h (by decide), fun _ => HN.out⟩
            case measure => simp [intOf]; omega
          · have hi0' : ((i : Int) == 0) = false := by simp; omega
            clear hg hsk
            go_wp2
            go_round
            case rel => exact ⟨i + 1, acc * 10 + (S[i].toNat - 48), by omega, by go_num, by go_num, HB.out, fun h => absurd h (by omega), fun _ => HN.out⟩
            case measure => simp [intOf]; omega
        · have HN : T = none := by rw [HC.out, HD.out, dval_none _ _ _ hd]
          have HNH : Hid (T = none) := HN
          have hi2 : i = 0 → neg = false := fun h => by
            cases neg
            · rfl
            · exact absurd ⟨h, rfl⟩ hsk
          clear HN hg
          by_cases hi0 : i = 0
          · have hn := hi2 hi0
            subst hn
            subst hi0
            clear hsk hi2
            by_cases hlo : ((S[0].toNat : Nat) : Int) < 48
            · go_wp2
              go_ret2
              exact ⟨by rw [HNH.out]; rfl, hB0.out⟩
            · have hhi : 57 < ((S[0].toNat : Nat) : Int) := by omega
              go_wp2
              go_ret2
              exact ⟨by rw [HNH.out]; rfl, hB0.out⟩
          · have hi0' : ((i : Int) == 0) = false := by simp; omega
            clear hsk hi2
            by_cases hlo : ((S[i].toNat : Nat) : Int) < 48
            · go_wp2
              go_ret2
              exact ⟨by rw [HNH.out]; rfl, hB0.out⟩
            · have hhi : 57 < ((S[i].toNat : Nat) : Int) := by omega
              go_wp2
              go_ret2
              exact ⟨by rw [HNH.out]; rfl, hB0.out⟩
    · obtain rfl : i = S.size := by omega
      have HF : T = some acc := by
        rw [HI.out.2.2 h1, List.drop_of_length_le (by simp), dval]
      have HFH : Hid (T = some acc) := HF
      have hacc : acc < 1000000000000000000 := Nat.lt_of_lt_of_le HI.out.1 (pow10_le' S.size (by omega))
      clear HF
      cases neg
      · have c42 := fun w => decimal_any (acc : Int) (by omega) (by omega) w
        go_wp2_with (go_at_call 42; refine (c42 _).mono ?_; rintro e w' ⟨rfl, hB⟩)
        go_ret2
        exact ⟨by rw [HFH.out]; rfl, hB⟩
      · have c42 := fun w => decimal_any (-(acc : Int)) (by omega) (by omega) w
        go_wp2_with (go_at_call 42; refine (c42 _).mono ?_; rintro e w' ⟨rfl, hB⟩)
        go_ret2
        exact ⟨by rw [HFH.out]; rfl, hB⟩

theorem small_any (l : List UInt8) (mo : Nat) (hmo : mo ≤ 17) (hmax : l.length ≤ 1000) (w : World) :
    Calls Tryd.prog 44 #[.string ⟨l.toArray⟩, .int .i64 mo] w fun r w' => (∃ n : Int, ∃ ok : Bool, r = .returned (.tuple #[.int .i64 n, .bool ok]) ∧ -1000000000000000000 < n ∧ n < 1000000000000000000 ∧ (l.length ≤ mo + 1 → n = sN l ∧ ok = sOk l) ∧ (mo + 1 < l.length → ok = false)) ∧ Below w.heap.size w w' := by
  have hsz := ba_size l
  by_cases hlong : mo + 1 < l.length
  · exact (small_long ⟨l.toArray⟩ mo hmo (by omega) (by omega) w).mono fun _ _ hh => ⟨⟨0, false, hh.1, by decide, by decide, fun h => absurd h (by omega), fun _ => rfl⟩, hh.2 ▸ Below.refl _ _⟩
  cases l with
  | nil =>
    exact (small_empty ⟨#[]⟩ mo hmo rfl w).mono fun _ _ hh => ⟨⟨0, false, hh.1, by decide, by decide, fun _ => ⟨by decide +kernel, by decide +kernel⟩, fun _ => rfl⟩, hh.2⟩
  | cons c r =>
    have hpre : Lib.hasPrefix (c :: r) [45] = (((c.toNat : Nat) : Int) == 45) := by
      unfold Lib.hasPrefix
      rw [Bool.eq_iff_iff]
      simp only [List.isPrefixOf, Bool.and_true, beq_iff_eq]
      constructor
      · rintro rfl; rfl
      · intro h
        apply UInt8.toNat_inj.1
        show 45 = c.toNat
        omega
    have hc := small_core ⟨(c :: r).toArray⟩ mo hmo (by omega) (by rw [hsz]; simp) (sNeg (c :: r)) hpre.symm w (dval 0 (sBody (c :: r)))
      (fun h => by
        show dval 0 (sBody (c :: r)) = dval 0 (c :: r)
        unfold sBody Lib.trimPrefix
        unfold sNeg at h
        rw [h]; rfl)
      (fun h => by
        show dval 0 (sBody (c :: r)) = dval 0 ((c :: r).drop 1)
        unfold sBody Lib.trimPrefix
        unfold sNeg at h
        rw [h]; rfl)
    refine hc.mono fun e w' hh => ⟨?_, hh.2⟩
    have h1 := hh.1
    unfold smRes at h1
    cases hd : dval 0 (sBody (c :: r)) with
    | none =>
      rw [hd] at h1
      refine ⟨0, false, h1, by decide, by decide, fun _ => ⟨?_, ?_⟩, fun h => absurd h hlong⟩
      · unfold sN; rw [hd]
      · unfold sOk; rw [hd]
    | some a =>
      rw [hd] at h1
      have ha := dval_bd (sBody (c :: r)) 0 a 0 hd (by decide)
      have hle : (sBody (c :: r)).length ≤ (c :: r).length := trim_len _ _
      have ha2 : a < 1000000000000000000 := by
        refine Nat.lt_of_lt_of_le ha ?_
        have : (1000000000000000000 : Nat) = 10 ^ 18 := by decide
        rw [this]; exact Nat.pow_le_pow_right (by decide) (by omega)
      have hN : sN (c :: r) = if sNeg (c :: r) then -(a : Int) else a := by unfold sN; rw [hd]
      refine ⟨_, _, h1, ?_, ?_, fun _ => ⟨hN.symm, ?_⟩, fun h => absurd h hlong⟩
      · split <;> omega
      · split <;> omega
      · unfold sOk; rw [hd, hN, ByteArray.toList_eq]
end Go.Proofs.YtmeohldomplegaaDoor
