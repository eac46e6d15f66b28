/- What is read and written is one answer only: for NatTexts. -/
import Derived.Test.YtklkcnpcjmeejaaDoorRps
import Derived.Test.YtklkcnpcjmeejaaDoorRtx
import Derived.Test.YtklkcnpcjmeejaaDoorRby
import Derived.Test.YtklkcnpcjmeejaaDoorRun
import Derived.Test.YtklkcnpcjmeejaaDoorBck
import Derived.Test.YtklkcnpcjmeejaaDoorBig
namespace Go.Proofs.YtklkcnpcjmeejaaDoor
open Go.RowKit Fo
set_option maxRecDepth 100000

/-- The bytes of a row, as a list. -/
def bl (F : Nat → Nat) (m : Nat) : List UInt8 := (List.range m).map fun j => UInt8.ofNat (F j)
theorem bl_congr {F G : Nat → Nat} {m : Nat} (h : ∀ j, j < m → F j = G j) : bl F m = bl G m := by
  unfold bl
  refine List.map_congr_left fun j hj => ?_
  rw [h j (List.mem_range.1 hj)]
theorem conv_any {w : World} {a : Option Addr} {m c : Nat} {F : Nat → Nat} (h : Rd w a m c (u8s F)) (hb : ∀ j, j < m → F j < 256) : (convert 34 9 (.slice a m c)).run Tryd.prog w = .ok (.string ⟨(bl F m).toArray⟩) w := by
  have hlen : (bl F m).length = m := by unfold bl; simp
  obtain ⟨-, -, h3⟩ := h
  by_cases h0 : m = 0
  · subst h0
    cases a with
    | none =>
      rw [run_convert_bytes_string (P := Tryd.prog) w 34 9 5 none 0 c Tryd.underlying34 Tryd.underlying5 Tryd.underlying9]
      simp [Conv.bytesToString, bl]
      try rfl
    | some ad =>
      have := run_convert_bytes_back (P := Tryd.prog) w 34 9 5 ad c [] Tryd.underlying34 Tryd.underlying5 Tryd.underlying9 (fun j hj => absurd hj (Nat.not_lt_zero _))
      exact this
  · rcases h3 with h3 | ⟨b, off, rfl, hc⟩
    · exact absurd h3 h0
    · have := run_convert_bytes_back (P := Tryd.prog) w 34 9 5 ⟨b, off, none⟩ c (bl F m) Tryd.underlying34 Tryd.underlying5 Tryd.underlying9 (fun j hj => by
        rw [hlen] at hj
        rw [add_off, hc j hj]
        have : (bl F m)[j]'(by rw [hlen]; exact hj) = UInt8.ofNat (F j) := by
          unfold bl
          simp only [List.getElem_map, List.getElem_range]
        rw [this, UInt8.toNat_ofNat', Nat.mod_eq_of_lt (by have := hb j hj; omega)]
        rfl)
      rw [hlen] at this
      exact this
theorem pr_fun {l : List UInt8} {X X' : Option Nat} {q q' : Int} (h : PR l X q) (h' : PR l X' q') : X' = X ∧ q' = q := by
  rcases h with h | h | h | h <;> rcases h' with h' | h' | h' | h'
  · exact ⟨h'.2.1.trans h.2.1.symm, h'.2.2.trans h.2.2.symm⟩
  · omega
  · omega
  · omega
  · omega
  · exact ⟨h'.2.2.1.trans h.2.2.1.symm, h'.2.2.2.trans h.2.2.2.symm⟩
  · exact absurd h.2.1 h'.2.1
  · exact absurd (h.2.1 ▸ h'.2.1) inf_not_dec
  · omega
  · exact absurd h'.2.1 h.2.1
  · exact ⟨h'.2.2.2.1.trans h.2.2.2.1.symm, h'.2.2.2.2.trans h.2.2.2.2.symm⟩
  · exact absurd h'.2.1 h.2.2.1
  · omega
  · exact absurd (h'.2.1 ▸ h.2.1) inf_not_dec
  · exact absurd h.2.1 h'.2.2.1
  · exact ⟨h'.2.2.1.trans h.2.2.1.symm, h'.2.2.2.trans h.2.2.2.symm⟩
theorem pr_ln {l : List UInt8} {X : Option Nat} {q : Int} (h : PR l X q) (N : Nat) (e : X = some N) : ln N ≤ 1000000 := by
  rcases h with h | h | h | h
  · obtain rfl : 0 = N := Option.some.inj (h.2.1.symm.trans e)
    exact Nat.le_trans (ln_le 0 0 (by decide)) (by decide)
  · rw [h.2.2.1] at e; cases e
  · obtain rfl : 0 = N := Option.some.inj (h.2.2.2.1.symm.trans e)
    exact Nat.le_trans (ln_le 0 0 (by decide)) (by decide)
  · obtain rfl : dv l l.length = N := Option.some.inj (h.2.2.1.symm.trans e)
    exact Nat.le_trans (dv_ln l l.length fun j hj => (h.2.1.2.2 j hj).2) (by omega)
theorem br_fun {i : Bool} {n m m' : Nat} {L F F' : Nat → Nat} {q q' : Int} (h : BR i n L m F q) (h' : BR i n L m' F' q') : m' = m ∧ q' = q ∧ ∀ j, j < m → F' j = F j := by
  rcases h with h | h | h | h <;> rcases h' with h' | h' | h' | h'
  · exact ⟨by omega, by omega, fun j hj => by omega⟩
  · rw [h.1] at h'; cases h'.1
  · rw [h.1] at h'; cases h'.1
  · rw [h.1] at h'; cases h'.1
  · rw [h.1] at h'; cases h'.1
  · refine ⟨by omega, by omega, fun j hj => ?_⟩
    obtain rfl : j = 0 := by omega
    rw [h.2.2.2.1, h'.2.2.2.1]
  · rw [h.2.1] at h'; cases h'.2.1
  · rw [h.2.1] at h'; cases h'.2.1
  · rw [h.1] at h'; cases h'.1
  · rw [h.2.1] at h'; cases h'.2.1
  · exact ⟨by omega, by omega, fun j hj => by omega⟩
  · omega
  · rw [h.1] at h'; cases h'.1
  · rw [h.2.1] at h'; cases h'.2.1
  · omega
  · refine ⟨by omega, by omega, fun j hj => ?_⟩
    rw [h.2.2.2.2.1, h'.2.2.2.2.1]
theorem br_byte' {i : Bool} {n m : Nat} {L F : Nat → Nat} {q : Int} (h : BR i n L m F q) (j : Nat) (hj : j < m) : F j < 256 := by
  rcases h with h | h | h | h
  · omega
  · obtain rfl : j = 0 := by omega
    rw [h.2.2.2.1]; decide
  · omega
  · rw [h.2.2.2.2.1]
    unfold bnat
    split
    · omega
    · exact Nat.mod_lt _ (by decide)
theorem ur_fun {m : Nat} {L : Nat → Nat} {X X' : Option Nat} {n n' q q' : Int} (h : UR m L X n q) (h' : UR m L X' n' q') : X' = X ∧ n' = n ∧ q' = q := by
  rcases h with h | h | h | h | h <;> rcases h' with h' | h' | h' | h' | h'
  · exact ⟨h'.2.1.trans h.2.1.symm, by omega, by omega⟩
  · omega
  · omega
  · omega
  · omega
  · omega
  · exact ⟨h'.2.2.1.trans h.2.2.1.symm, by omega, by omega⟩
  · omega
  · omega
  · omega
  · omega
  · omega
  · exact ⟨h'.2.2.2.1.trans h.2.2.2.1.symm, by omega, by omega⟩
  · omega
  · omega
  · omega
  · omega
  · omega
  · exact ⟨h'.2.2.2.1.trans h.2.2.2.1.symm, by omega, by omega⟩
  · omega
  · omega
  · omega
  · omega
  · omega
  · exact ⟨h'.2.2.2.1.trans h.2.2.2.1.symm, by omega, by omega⟩
theorem ur_ln {m : Nat} {L : Nat → Nat} {X : Option Nat} {n q : Int} (h : UR m L X n q) (N : Nat) (e : X = some N) : ln N ≤ 1000000 := by
  have h0 : ln 0 ≤ 1000000 := Nat.le_trans (ln_le 0 0 (by decide)) (by decide)
  rcases h with h | h | h | h | h
  · obtain rfl : 0 = N := Option.some.inj (h.2.1.symm.trans e)
    exact h0
  · rw [h.2.2.1] at e; cases e
  · obtain rfl : 0 = N := Option.some.inj (h.2.2.2.1.symm.trans e)
    exact h0
  · obtain rfl : 0 = N := Option.some.inj (h.2.2.2.1.symm.trans e)
    exact h0
  · obtain rfl : uval L = N := Option.some.inj (h.2.2.2.1.symm.trans e)
    omega
end Go.Proofs.YtklkcnpcjmeejaaDoor
