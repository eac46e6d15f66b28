/- The laws' small and good. -/
import Derived.Test.YteaajhpgmndomaaUni
namespace Go.Proofs.Yteaajhpgmndomaa
open Go.RowKit Fo
set_option maxRecDepth 100000

namespace Fo
/-- What small lets through. -/
def SmP (L : List (List Int)) : Prop := L.length ≤ 12 ∧ ∀ i, i < L.length → (gs L i).length ≤ 12
/-- No number is below 0. -/
def GoodP (L : List (List Int)) : Prop := ∀ i, i < L.length → ∀ j, j < (gs L i).length → 0 ≤ gt (gs L i) j
/-- What small answers. -/
def SmR (k : Nat) (Ls : Nat → List (List Int)) (e : Ending) : Prop := ∃ R, e = .returned (.bool R) ∧ (R = true → ∀ j, j < k → SmP (Ls j))
theorem SmR.mk {k : Nat} {Ls : Nat → List (List Int)} (R : Bool) (h : R = true → ∀ j, j < k → SmP (Ls j)) : SmR k Ls (.returned (.bool R)) := ⟨R, rfl, h⟩
end Fo
set_option maxHeartbeats 8000000 in
theorem asmall_any (w : World) (g k : Nat) (X : Nat → Value) (Ls : Nat → List (List Int)) (hk : k ≤ 5) (hc : ∀ j, j < k → w.cell? ⟨g, j, none⟩ = some (X j)) (hX : ∀ j, j < k → IsLL w (X j) (Ls j)) :
    Calls Try.prog 9 #[.slice (some ⟨g, 0, none⟩) k k] w fun e w' => SmR k Ls e ∧ w' = w := by
  have HC : Hid (∀ j, j < k → w.cell? ⟨g, j, none⟩ = some (X j)) := hc
  have HX : Hid (∀ j, j < k → IsLL w (X j) (Ls j)) := hX
  clear hc hX
  go_enter Try.func9, Try.ntmps9
  go_wp2
  go_loop [3, 4] (fun v3 v4 => ∃ i t : Nat, i ≤ k ∧ v4 = .int .i64 i ∧ v3 = .int .i64 t ∧ t ≤ 144 * i ∧ Hid (∀ j, j < i → SmP (Ls j))) (fun _ v4 => k - (intOf v4).toNat)
  case atStart => exact ⟨0, 0, Nat.zero_le _, rfl, rfl, by omega, fun j h => absurd h (by omega)⟩
  case round =>
    obtain ⟨i, t, hi, rfl, rfl, ht, HI⟩ := hrel
    by_cases hlt : i < k
    · obtain ⟨a, c, V, eX, hr, hs⟩ := HX.out i hlt
      have hci := HC.out i hlt
      rw [eX] at hci
      have HR : Hid (Rd w a (Ls i).length c V) := hr
      have HS : Hid (∀ j, j < (Ls i).length → IsL w (V j) (gs (Ls i) j)) := hs
      obtain ⟨n, hN0⟩ : ∃ n, n = (Ls i).length := ⟨_, rfl⟩
      rw [← hN0] at hci HR HS
      have HN : Hid (n = (Ls i).length) := hN0
      have hn := HR.out.1
      have hcm := HR.out.2.1
      have j1 : (0 : Int) ≤ (i : Int) := by omega
      have j2 : (i : Int) < (k : Int) := by omega
      clear hr hs eX hN0
      by_cases hb : 12 < n
      · have hb' : (12 : Int) < (n : Int) := by omega
        clear HC HX HI HR HS
        go_wp2
        go_ret
        exact ⟨SmR.mk false fun h => (by cases h), rfl⟩
      · have hb' : ¬ (12 : Int) < (n : Int) := by omega
        go_wp2
        go_loop [3, 5] (fun v3 v5 => ∃ q t : Nat, q ≤ n ∧ v5 = .int .i64 q ∧ v3 = .int .i64 t ∧ t ≤ 144 * i + 12 * q ∧ Hid (∀ j, j < q → (gs (Ls i) j).length ≤ 12)) (fun _ v5 => n - (intOf v5).toNat)
        case atStart => exact ⟨0, t, Nat.zero_le _, rfl, rfl, by omega, fun j h => absurd h (by omega)⟩
        case round =>
          clear ht
          obtain ⟨q, t, hq, rfl, rfl, ht, HJ⟩ := hrel
          by_cases hqn : q < n
          · obtain ⟨ga, oa, rfl, hca⟩ := HR.out.at (by omega)
            obtain ⟨b, d, eV, hr2⟩ := HS.out q hqn
            have hcq := hca q hqn
            rw [eV] at hcq
            obtain ⟨m, hM0⟩ : ∃ m, m = (gs (Ls i) q).length := ⟨_, rfl⟩
            rw [← hM0] at hcq hr2
            have HM : Hid (m = (gs (Ls i) q).length) := hM0
            have hm := hr2.1
            have hdm := hr2.2.1
            have k1 : (0 : Int) ≤ (q : Int) := by omega
            have k2 : (q : Int) < (n : Int) := by omega
            clear hca eV hr2 hM0
            by_cases hb2 : 12 < m
            · have hb3 : (12 : Int) < (m : Int) := by omega
              clear HC HX HI HR HS HJ
              go_wp2
              go_ret
              exact ⟨SmR.mk false fun h => (by cases h), rfl⟩
            · have hb3 : ¬ (12 : Int) < (m : Int) := by omega
              have HJ' : Hid (∀ j, j < q + 1 → (gs (Ls i) j).length ≤ 12) := fun j hj => by
                by_cases e : j = q
                · subst e; rw [← HM.out]; omega
                · exact HJ.out j (by omega)
              have hwr : IntKind.i64.wrap ((t : Int) + (m : Int)) = (t : Int) + (m : Int) := by rw [IntKind.wrap_i64]; omega
              clear HJ
              go_wp2
              go_round
              case rel => exact ⟨q + 1, t + m, by omega, by go_num, by go_num, by omega, HJ'⟩
              case measure => simp [intOf]; omega
          · obtain rfl : q = n := by omega
            have HI' : Hid (∀ j, j < i + 1 → SmP (Ls j)) := fun j hj => by
              by_cases e : j = i
              · subst e; exact ⟨by rw [← HN.out]; omega, by rw [← HN.out]; exact HJ.out⟩
              · exact HI.out j (by omega)
            clear HI HJ
            go_wp2
            go_round
            case rel => exact ⟨i + 1, t, by omega, by go_num, rfl, by omega, HI'⟩
            case measure => simp [intOf]; omega
    · obtain rfl : i = k := by omega
      have HI' : Hid (∀ R : Bool, R = true → ∀ j, j < i → SmP (Ls j)) := fun _ _ => HI.out
      clear HC HX HI
      go_wp2
      go_ret
      exact ⟨SmR.mk _ (HI'.out _), rfl⟩
set_option maxHeartbeats 8000000 in
theorem agood_any (w : World) (v : Value) (L : List (List Int)) (R : Bool) (h : IsLL w v L) (hR : R = true ↔ GoodP L) :
    Calls Try.prog 12 #[v] w fun e w' => e = .returned (.bool R) ∧ w' = w := by
  obtain ⟨a, c, V, rfl, h1, hs⟩ := h
  have H1 : Hid (Rd w a L.length c V) := h1
  have HS : Hid (∀ j, j < L.length → IsL w (V j) (gs L j)) := hs
  have HG : Hid (R = true ↔ GoodP L) := hR
  clear h1 hs hR
  obtain ⟨n, hN0⟩ : ∃ n, n = L.length := ⟨_, rfl⟩
  rw [← hN0] at H1 HS ⊢
  have HN : Hid (n = L.length) := hN0
  have hn := H1.out.1
  have hcm := H1.out.2.1
  clear hN0
  go_enter Try.func12, Try.ntmps12
  go_wp2
  go_loop [3] (fun v3 => ∃ i : Nat, i ≤ n ∧ v3 = .int .i64 i ∧ Hid (∀ p, p < i → ∀ j, j < (gs L p).length → 0 ≤ gt (gs L p) j)) (fun v3 => n - (intOf v3).toNat)
  case atStart => exact ⟨0, Nat.zero_le _, rfl, fun j h => absurd h (by omega)⟩
  case round =>
    obtain ⟨i, hi, rfl, HI⟩ := hrel
    by_cases hlt : i < n
    · obtain ⟨ga, oa, rfl, hca⟩ := H1.out.at (by omega)
      obtain ⟨b, d, eV, hr2⟩ := HS.out i hlt
      have hci := hca i hlt
      rw [eV] at hci
      obtain ⟨m, hM0⟩ : ∃ m, m = (gs L i).length := ⟨_, rfl⟩
      rw [← hM0] at hci hr2
      have HM : Hid (m = (gs L i).length) := hM0
      have HR2 : Hid (Rd w b m d (ivs (gt (gs L i)))) := hr2
      have hm := hr2.1
      have hdm := hr2.2.1
      have j1 : (0 : Int) ≤ (i : Int) := by omega
      have j2 : (i : Int) < (n : Int) := by omega
      clear hca eV hr2 hM0
      go_wp2
      go_loop [4] (fun v4 => ∃ k : Nat, k ≤ m ∧ v4 = .int .i64 k ∧ Hid (∀ j, j < k → 0 ≤ gt (gs L i) j)) (fun v4 => m - (intOf v4).toNat)
      case atStart => exact ⟨0, Nat.zero_le _, rfl, fun j h => absurd h (by omega)⟩
      case round =>
        obtain ⟨k, hk, rfl, HJ⟩ := hrel
        by_cases hkm : k < m
        · obtain ⟨gb, ob, rfl, hcb⟩ := HR2.out.at (by omega)
          have hck := hcb k hkm
          unfold ivs at hck
          have k1 : (0 : Int) ≤ (k : Int) := by omega
          have k2 : (k : Int) < (m : Int) := by omega
          clear hcb
          by_cases hneg : gt (gs L i) k < 0
          · have HE : Hid (false = R) := by
              show _ = _
              cases h : R
              · rfl
              · have := HG.out.1 h i (by rw [← HN.out]; exact hlt) k (by rw [← HM.out]; exact hkm)
                omega
            clear H1 HS HG HI HJ HR2
            go_wp2
            go_ret
            exact ⟨ret_bool HE.out, rfl⟩
          · have HJ' : Hid (∀ j, j < k + 1 → 0 ≤ gt (gs L i) j) := fun j hj => by
              by_cases e : j = k
              · subst e; omega
              · exact HJ.out j (by omega)
            clear H1 HS HG HI HJ HR2
            go_wp2
            go_round
            case rel => exact ⟨k + 1, by omega, by go_num, HJ'⟩
            case measure => simp [intOf]; omega
        · obtain rfl : k = m := by omega
          have HI' : Hid (∀ p, p < i + 1 → ∀ j, j < (gs L p).length → 0 ≤ gt (gs L p) j) := fun p hp => by
            by_cases e : p = i
            · subst e; rw [← HM.out]; exact HJ.out
            · exact HI.out p (by omega)
          clear HI HJ
          go_wp2
          go_round
          case rel => exact ⟨i + 1, by omega, by go_num, HI'⟩
          case measure => simp [intOf]; omega
    · obtain rfl : i = n := by omega
      have HE : Hid (true = R) := (HG.out.2 (by intro p hp; exact HI.out p (by rw [HN.out]; exact hp))).symm
      clear H1 HS HG HI
      go_wp2
      go_ret
      exact ⟨ret_bool HE.out, rfl⟩
end Go.Proofs.Yteaajhpgmndomaa
