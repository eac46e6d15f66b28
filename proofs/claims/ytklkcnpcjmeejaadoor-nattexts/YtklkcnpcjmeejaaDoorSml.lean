/- small: are all numbers short? -/
import Derived.Test.YtklkcnpcjmeejaaDoorMul
namespace Go.Proofs.YtklkcnpcjmeejaaDoor
open Go.RowKit Fo
set_option maxRecDepth 100000

theorem small_any (g k : Nat) (A : Nat → Option Addr) (n C : Nat → Nat) (w : World) (hk : k ≤ 10) (hk1 : 1 ≤ k) (R : Bool) (hc : ∀ j, j < k → w.cell? ⟨g, j * 2 + 1, none⟩ = some (.slice (A j) (n j) (C j)))
    (hT : (∀ j, j < k → n j ≤ 100) → true = R) (hF : ∀ j, j < k → 100 < n j → false = R) :
    Calls Tryd.prog 9 #[.slice (some ⟨g, 0, none⟩) k k] w fun e w' => e = .returned (.bool R) ∧ w' = w := by
  have HT : Hid ((∀ j, j < k → n j ≤ 100) → true = R) := hT
  have HF : Hid (∀ j, j < k → 100 < n j → false = R) := hF
  clear hT hF
  go_enter Tryd.func9, Tryd.ntmps9
  go_wp2
  go_loop [3] (fun v => ∃ i : Nat, i ≤ k ∧ v = .int .i64 i ∧ Hid (∀ j, j < i → n j ≤ 100)) (fun v => k - (intOf v).toNat)
  case atStart => exact ⟨0, Nat.zero_le _, rfl, fun j hj => absurd hj (by omega)⟩
  case round =>
    obtain ⟨i, hi, rfl, HK⟩ := hrel
    by_cases hlt : i < k
    · have hci := hc i hlt
      by_cases h : 100 < n i
      · have HE : Hid (false = R) := HF.out i hlt h
        have h1 : (100 : Int) < (n i : Int) := by omega
        clear HT HF HK hc
        go_wp2
        go_ret
        exact ⟨ret_bool HE.out, rfl⟩
      · have HK' : Hid (∀ j, j < i + 1 → n j ≤ 100) := fun j hj => by
          by_cases e : j = i
          · subst e; omega
          · exact HK.out j (by omega)
        have h1 : ¬ (100 : Int) < (n i : Int) := by omega
        clear HT HF HK hc h
        go_wp2
        go_round
        case rel => exact ⟨i + 1, by omega, by go_num, HK'⟩
        case measure => simp [intOf]; omega
    · obtain rfl : i = k := by omega
      have HE : Hid (true = R) := HT.out HK.out
      clear HT HF HK hc
      go_wp2
      go_ret
      exact ⟨ret_bool HE.out, rfl⟩
end Go.Proofs.YtklkcnpcjmeejaaDoor
