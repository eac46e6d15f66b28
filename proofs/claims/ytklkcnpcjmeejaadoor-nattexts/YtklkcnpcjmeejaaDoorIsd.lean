/- nat's isDecimal. -/
import Derived.Test.YtklkcnpcjmeejaaDoorTxt
import Derived.Lib.ConvBytes
import Derived.Outline
namespace Go.Proofs.YtklkcnpcjmeejaaDoor
open Go.RowKit Fo
set_option maxRecDepth 100000

/-- The byte at a place. -/
def byt (l : List UInt8) (j : Nat) : Nat := (l.getD j 0).toNat
theorem byt_lt (l : List UInt8) (j : Nat) : byt l j < 256 := (l.getD j 0).toNat_lt
def u8s (L : Nat → Nat) (j : Nat) : Value := .int .u8 (L j)
/-- '[]byte(s)'. -/
theorem conv_bytes (l : List UInt8) (w : World) : ∃ c w1, (convert 9 34 (.string ⟨l.toArray⟩)).run Tryd.prog w = .ok (.slice (some ⟨w.heap.size, 0, none⟩) l.length c) w1 ∧ Below w.heap.size w w1 ∧ ∀ j, j < l.length → w1.cell? ⟨w.heap.size, j, none⟩ = some (.int .u8 (byt l j : Int)) := by
  have h := Lib.run_convert_string_bytes (P := Tryd.prog) w 9 34 5 ⟨l.toArray⟩ Tryd.underlying9 Tryd.underlying34 Tryd.underlying5
  have hsz : (⟨l.toArray⟩ : ByteArray).size = l.length := by simp [ByteArray.size]
  rw [hsz] at h
  refine ⟨_, _, h, ⟨?_, ?_, ?_, ?_, fun k hk => Lib.bytesWorld_at_old w 5 _ k hk⟩, fun j hj => ?_⟩
  · rfl
  · rfl
  · rfl
  · rw [Lib.bytesWorld_size]; omega
  · rw [Lib.bytesWorld_cell w 5 ⟨l.toArray⟩ j (by rw [hsz]; exact hj)]
    rfl
/-- Decimal digits alone. -/
def digB (l : List UInt8) : Prop := ∀ j, j < l.length → 48 ≤ byt l j ∧ byt l j ≤ 57
theorem first_byte (l : List UInt8) (h : 0 < (⟨l.toArray⟩ : ByteArray).size) : ((⟨l.toArray⟩ : ByteArray)[0]'h).toNat = byt l 0 := by
  cases l with
  | nil => simp [ByteArray.size] at h
  | cons a r => rfl
theorem isd_yes (l : List UInt8) (hl : l.length ≤ 100000) (w : World) (R : Bool) (h0 : l ≠ []) (h1 : byt l 0 ≠ 48 ∨ l = [48]) (hT : digB l → true = R) (hF : ∀ j, j < l.length → ¬ (48 ≤ byt l j ∧ byt l j ≤ 57) → false = R) :
    Calls Tryd.prog 39 #[.string ⟨l.toArray⟩] w fun e w' => e = .returned (.bool R) ∧ Below w.heap.size w w' := by
  obtain ⟨c, w1, hcv, hB, hcell⟩ := conv_bytes l w
  have HB : Hid (Below w.heap.size w w1) := hB
  have HT : Hid (digB l → true = R) := hT
  have HF : Hid (∀ j, j < l.length → ¬ (48 ≤ byt l j ∧ byt l j ≤ 57) → false = R) := hF
  have HCELL : Hid (∀ j, j < l.length → w1.cell? ⟨w.heap.size, j, none⟩ = some (.int .u8 (byt l j : Int))) := hcell
  clear hB hT hF hcell
  have hne : l.isEmpty = false := by cases l <;> simp_all
  have hpos : 0 < l.length := by cases l <;> simp_all
  have hfb := first_byte l
  rcases h1 with hz | rfl
  · have hz' : ¬ ((byt l 0 : Nat) : Int) = 48 := by omega
    clear hz h0
    go_enter Tryd.func39, Tryd.ntmps39
    go_wp2
    clear hcv hfb hz' hne
    go_loop [19] (fun v => ∃ k : Nat, k ≤ l.length ∧ v = .int .i64 k ∧ Hid (∀ j, j < k → 48 ≤ byt l j ∧ byt l j ≤ 57)) (fun v => l.length - (intOf v).toNat)
    case atStart => exact ⟨0, Nat.zero_le _, rfl, fun j hj => absurd hj (by omega)⟩
    case round =>
      obtain ⟨k, hk, rfl, HK⟩ := hrel
      by_cases hkl : k < l.length
      · have hck := HCELL.out k hkl
        have i1 : (0 : Int) ≤ (k : Int) := by omega
        have i2 : (k : Int) < (l.length : Int) := by omega
        obtain ⟨x, hx⟩ : ∃ x, x = byt l k := ⟨_, rfl⟩
        rw [← hx] at hck
        have hx256 : x < 256 := by rw [hx]; exact byt_lt _ _
        by_cases hlo : x < 48
        · have HE : Hid (false = R) := HF.out k hkl (by rw [← hx]; omega)
          have j1 : (x : Int) < 48 := by omega
          clear hx
          go_wp2
          go_ret
          exact ⟨ret_bool HE.out, HB.out⟩
        · by_cases hhi : 57 < x
          · have HE : Hid (false = R) := HF.out k hkl (by rw [← hx]; omega)
            have j1 : ¬ (x : Int) < 48 := by omega
            have j2 : (57 : Int) < (x : Int) := by omega
            clear hx
            go_wp2
            go_ret
            exact ⟨ret_bool HE.out, HB.out⟩
          · have HK' : Hid (∀ j, j < k + 1 → 48 ≤ byt l j ∧ byt l j ≤ 57) := fun j hj => by
              by_cases e : j = k
              · rw [e, ← hx]; omega
              · exact HK.out j (by omega)
            have j1 : ¬ (x : Int) < 48 := by omega
            have j2 : ¬ (57 : Int) < (x : Int) := by omega
            clear hx HK
            go_wp2
            go_round
            case rel => exact ⟨k + 1, by omega, by go_num, HK'⟩
            case measure => simp [intOf]; omega
      · obtain rfl : k = l.length := by omega
        have HE : Hid (true = R) := HT.out HK.out
        clear HK
        go_wp2
        go_ret
        exact ⟨ret_bool HE.out, HB.out⟩
  · have hlen : ([48] : List UInt8).length = 1 := rfl
    clear h0 hfb
    go_enter Tryd.func39, Tryd.ntmps39
    go_wp2
    clear hcv hne
    go_loop [19] (fun v => ∃ k : Nat, k ≤ ([48] : List UInt8).length ∧ v = .int .i64 k ∧ Hid (∀ j, j < k → 48 ≤ byt [48] j ∧ byt [48] j ≤ 57)) (fun v => ([48] : List UInt8).length - (intOf v).toNat)
    case atStart => exact ⟨0, Nat.zero_le _, rfl, fun j hj => absurd hj (by omega)⟩
    case round =>
      obtain ⟨k, hk, rfl, HK⟩ := hrel
      by_cases hkl : k < ([48] : List UInt8).length
      · have hck := HCELL.out k hkl
        have i1 : (0 : Int) ≤ (k : Int) := by omega
        have i2 : (k : Int) < (([48] : List UInt8).length : Int) := by omega
        obtain ⟨x, hx⟩ : ∃ x, x = byt [48] k := ⟨_, rfl⟩
        rw [← hx] at hck
        have hx256 : x < 256 := by rw [hx]; exact byt_lt _ _
        by_cases hlo : x < 48
        · have HE : Hid (false = R) := HF.out k hkl (by rw [← hx]; omega)
          have j1 : (x : Int) < 48 := by omega
          clear hx
          go_wp2
          go_ret
          exact ⟨ret_bool HE.out, HB.out⟩
        · by_cases hhi : 57 < x
          · have HE : Hid (false = R) := HF.out k hkl (by rw [← hx]; omega)
            have j1 : ¬ (x : Int) < 48 := by omega
            have j2 : (57 : Int) < (x : Int) := by omega
            clear hx
            go_wp2
            go_ret
            exact ⟨ret_bool HE.out, HB.out⟩
          · have HK' : Hid (∀ j, j < k + 1 → 48 ≤ byt [48] j ∧ byt [48] j ≤ 57) := fun j hj => by
              by_cases e : j = k
              · rw [e, ← hx]; omega
              · exact HK.out j (by omega)
            have j1 : ¬ (x : Int) < 48 := by omega
            have j2 : ¬ (57 : Int) < (x : Int) := by omega
            clear hx HK
            go_wp2
            go_round
            case rel => exact ⟨k + 1, by omega, by go_num, HK'⟩
            case measure => simp [intOf]; omega
      · obtain rfl : k = ([48] : List UInt8).length := by omega
        have HE : Hid (true = R) := HT.out HK.out
        clear HK
        go_wp2
        go_ret
        exact ⟨ret_bool HE.out, HB.out⟩
theorem isd_no0 (w : World) : Calls Tryd.prog 39 #[.string ⟨([] : List UInt8).toArray⟩] w fun e w' => e = .returned (.bool false) ∧ Below w.heap.size w w' := by
  go_enter Tryd.func39, Tryd.ntmps39
  go_wp2
  go_ret
  exact ⟨rfl, below_refl w⟩
theorem isd_no48 (l : List UInt8) (w : World) (h0 : l ≠ []) (h48 : byt l 0 = 48) (h1 : l ≠ [48]) : Calls Tryd.prog 39 #[.string ⟨l.toArray⟩] w fun e w' => e = .returned (.bool false) ∧ Below w.heap.size w w' := by
  have hne : l.isEmpty = false := by cases l <;> simp_all
  have hpos : 0 < l.length := by cases l <;> simp_all
  have hfb := first_byte l
  rw [h48] at hfb
  have h1' : (l == [48]) = false := by simpa using h1
  clear h0 h1 h48
  go_enter Tryd.func39, Tryd.ntmps39
  go_wp2
  go_ret
  exact ⟨rfl, below_refl w⟩
/-- A number's text: decimal digits, without noughts ahead. -/
def decT (l : List UInt8) : Prop := l ≠ [] ∧ (byt l 0 ≠ 48 ∨ l = [48]) ∧ digB l
theorem isd_any (l : List UInt8) (hl : l.length ≤ 100000) (w : World) (R : Bool) (hT : decT l → true = R) (hF : ¬ decT l → false = R) : Calls Tryd.prog 39 #[.string ⟨l.toArray⟩] w fun e w' => e = .returned (.bool R) ∧ Below w.heap.size w w' := by
  by_cases h0 : l = []
  · subst h0
    rw [← hF fun h => h.1 rfl]
    exact isd_no0 w
  · by_cases h1 : byt l 0 ≠ 48 ∨ l = [48]
    · exact isd_yes l hl w R h0 h1 (fun h => hT ⟨h0, h1, h⟩) (fun j hj h => hF fun hd => h (hd.2.2 j hj))
    · rw [← hF fun h => h1 h.2.1]
      have h48 : byt l 0 = 48 := by
        rcases Nat.decEq (byt l 0) 48 with h | h
        · exact absurd (Or.inl h) h1
        · exact h
      exact isd_no48 l w h0 h48 (fun h => h1 (Or.inr h))
end Go.Proofs.YtklkcnpcjmeejaaDoor
