/- Lists of numbers in memory; the document's own Subset, lessSet. -/
import Derived.Test.YteaajhpgmndomaaProg
import Derived.Test.YteaajhpgmndomaaOwr
import Derived.KernelRfl
namespace Go.Proofs.Yteaajhpgmndomaa
open Go.RowKit Fo
set_option maxRecDepth 100000

namespace Fo
def ivs (K : Nat → Int) (j : Nat) : Value := .int .i64 (K j)
/-- Each number of one list is in the other. -/
def sb (K : Nat → Int) (n : Nat) (M : Nat → Int) (m : Nat) : Prop := ∀ i, i < n → ∃ k, k < m ∧ K i = M k
end Fo
set_option maxHeartbeats 4000000 in
/-- The document's own Subset. -/
theorem rsub_any (a b : Option Addr) (n c m d : Nat) (K M : Nat → Int) (w : World) (R : Bool) (h1 : Rd w a n c (ivs K)) (h2 : Rd w b m d (ivs M)) (hn : n ≤ 1000000000) (hm : m ≤ 1000000000) (hT : sb K n M m → true = R) (hF : ∀ i, i < n → (∀ k, k < m → K i ≠ M k) → false = R) :
    Calls Try.prog 38 #[.slice a n c, .slice b m d] w fun e w' => e = .returned (.bool R) ∧ Below w.heap.size w w' := by
  have H1 : Hid (Rd w a n c (ivs K)) := h1
  have H2 : Hid (Rd w b m d (ivs M)) := h2
  have HT : Hid (sb K n M m → true = R) := hT
  have HF : Hid (∀ i, i < n → (∀ k, k < m → K i ≠ M k) → false = R) := hF
  clear h1 h2 hT hF
  go_enter Try.func38, Try.ntmps38
  go_wp2
  go_loopw [5] (fun v wr => ∃ i : Nat, i ≤ n ∧ v = .int .i64 i ∧ Hid (Below w.heap.size w wr) ∧ Hid (∀ j, j < i → ∃ k, k < m ∧ K j = M k)) (fun v _ => n - (intOf v).toNat)
  case atStart => exact ⟨0, Nat.zero_le _, rfl, below_refl _, fun j hj => absurd hj (by omega)⟩
  case round =>
    obtain ⟨i, hi, rfl, HW, HI⟩ := hrel
    rename World => wr
    by_cases hlt : i < n
    · have hlt' : (i : Int) < (n : Int) := by omega
      go_wp2
      go_loopw [6, 7] (fun v6 v7 wq => ∃ (k : Nat) (q : Bool), k ≤ m ∧ v7 = .int .i64 k ∧ v6 = .bool q ∧ Hid (Below w.heap.size w wq) ∧ Hid (q = true ↔ ∃ j, j < k ∧ K i = M j)) (fun _ v7 _ => m - (intOf v7).toNat)
      case atStart => exact ⟨0, false, Nat.zero_le _, rfl, rfl, HW, by show _ ↔ _; simp⟩
      case round =>
        obtain ⟨k, q, hk, rfl, rfl, HW2, HJ⟩ := hrel
        rename World => wq
        by_cases hkm : k < m
        · obtain ⟨ga, oa, rfl, hca⟩ := (H1.out.below HW2.out).at (by omega)
          obtain ⟨gb, ob, rfl, hcb⟩ := (H2.out.below HW2.out).at (by omega)
          have hci := hca i hlt
          have hck := hcb k hkm
          unfold ivs at hci hck
          have j1 : (0 : Int) ≤ (i : Int) := by omega
          have j3 : (0 : Int) ≤ (k : Int) := by omega
          have j4 : (k : Int) < (m : Int) := by omega
          have HJ' : Hid ((q || (K i == M k)) = true ↔ ∃ j, j < k + 1 ∧ K i = M j) := by
            show _ ↔ _
            rw [Bool.or_eq_true, HJ.out, beq_iff_eq]
            constructor
            · rintro (⟨j, hj, e⟩ | e)
              · exact ⟨j, by omega, e⟩
              · exact ⟨k, by omega, e⟩
            · rintro ⟨j, hj, e⟩
              by_cases ejk : j = k
              · subst ejk; exact Or.inr e
              · exact Or.inl ⟨j, by omega, e⟩
          clear hca hcb H1 H2 HT HF HI HJ HW
          cases q
          all_goals
            go_wp2
            go_quiet (fail)
            go_wp2
            go_roundw
            case rel => exact ⟨k + 1, _, by omega, by go_num, rfl, below_drewN HW2.out _, by simpa using HJ'⟩
            case measure => simp [intOf]; omega
        · obtain rfl : k = m := by omega
          cases q
          · have HE : Hid (false = R) := HF.out i hlt (fun j hj e => by have := HJ.out.2 ⟨j, hj, e⟩; cases this)
            clear H1 H2 HT HF HI HJ HW
            go_wp2
            go_ret
            exact ⟨ret_bool HE.out, HW2.out⟩
          · have HI' : Hid (∀ j, j < i + 1 → ∃ q, q < k ∧ K j = M q) := fun j hj => by
              by_cases e : j = i
              · subst e; exact HJ.out.1 rfl
              · exact HI.out j (by omega)
            clear H1 H2 HT HF HI HJ HW
            go_wp2
            go_roundw
            case rel => exact ⟨i + 1, by omega, by go_num, HW2, HI'⟩
            case measure => simp [intOf]; omega
    · obtain rfl : i = n := by omega
      have HE : Hid (true = R) := HT.out HI.out
      clear H1 H2 HT HF HI
      go_wp2
      go_ret
      exact ⟨ret_bool HE.out, HW.out⟩
namespace Fo
/-- The first number in which two lists differ is less in the one. -/
def lx (K M : Nat → Int) (n : Nat) : Prop := ∃ i, i < n ∧ K i < M i ∧ ∀ j, j < i → K j = M j
def lsK (K : Nat → Int) (n : Nat) (M : Nat → Int) (m : Nat) : Prop := n < m ∨ (n = m ∧ lx K M n)
end Fo
set_option maxHeartbeats 4000000 in
/-- The document's own lessSet. -/
theorem rless_any (a b : Option Addr) (n c m d : Nat) (K M : Nat → Int) (w : World) (R : Bool) (h1 : Rd w a n c (ivs K)) (h2 : Rd w b m d (ivs M)) (hR : R = true ↔ lsK K n M m) :
    Calls Try.prog 39 #[.slice a n c, .slice b m d] w fun e w' => e = .returned (.bool R) ∧ Below w.heap.size w w' := by
  have H1 : Hid (Rd w a n c (ivs K)) := h1
  have H2 : Hid (Rd w b m d (ivs M)) := h2
  have HR : Hid (R = true ↔ lsK K n M m) := hR
  have hn := h1.1
  have hm := h2.1
  have hc := h1.2.1
  have hd := h2.2.1
  clear h1 h2 hR
  by_cases hnm : n = m
  · subst hnm
    go_enter Try.func39, Try.ntmps39
    go_wp2
    go_loopw [5] (fun v wr => ∃ i : Nat, i ≤ n ∧ v = .int .i64 i ∧ Hid (Below w.heap.size w wr) ∧ Hid (∀ j, j < i → K j = M j)) (fun v _ => n - (intOf v).toNat)
    case atStart => exact ⟨0, Nat.zero_le _, rfl, below_refl _, fun j hj => absurd hj (by omega)⟩
    case round =>
      obtain ⟨i, hi, rfl, HW, HI⟩ := hrel
      rename World => wr
      by_cases hlt : i < n
      · obtain ⟨ga, oa, rfl, hca⟩ := (H1.out.below HW.out).at (by omega)
        obtain ⟨gb, ob, rfl, hcb⟩ := (H2.out.below HW.out).at (by omega)
        have hci := hca i hlt
        have hck := hcb i hlt
        unfold ivs at hci hck
        have j1 : (0 : Int) ≤ (i : Int) := by omega
        have j2 : (i : Int) < (n : Int) := by omega
        clear hca hcb H1 H2
        by_cases he : K i = M i
        · have HI' : Hid (∀ j, j < i + 1 → K j = M j) := fun j hj => by
            by_cases e : j = i
            · subst e; exact he
            · exact HI.out j (by omega)
          have hne : (K i != M i) = false := by simp [he]
          clear HR HI he
          go_wp2
          go_quiet (fail)
          go_wp2
          go_roundw
          case rel => exact ⟨i + 1, by omega, by go_num, below_drewN HW.out _, HI'⟩
          case measure => simp [intOf]; omega
        · have hne : (K i != M i) = true := by simp [he]
          have HE : Hid (decide (K i < M i) = R) := by
            show _ = _
            rw [Bool.eq_iff_iff, decide_eq_true_eq, HR.out]
            constructor
            · intro h; exact Or.inr ⟨rfl, i, hlt, h, HI.out⟩
            · rintro (h | ⟨-, j, hj, h, h'⟩)
              · omega
              · rcases Nat.lt_trichotomy j i with k | k | k
                · have := HI.out j k; omega
                · subst k; exact h
                · exact absurd (h' i k) he
          clear HR HI he
          go_wp2
          go_quiet (fail)
          go_wp2
          go_quiet (fail)
          go_wp2
          go_ret
          exact ⟨ret_bool HE.out, below_drewN (below_drewN HW.out _) _⟩
      · obtain rfl : i = n := by omega
        have HE : Hid (false = R) := by
          show _ = _
          cases hR : R
          · rfl
          · rcases HR.out.1 hR with h | ⟨-, j, hj, h, -⟩
            · omega
            · have := HI.out j hj; omega
        clear H1 H2 HR HI
        go_wp2
        go_ret
        exact ⟨ret_bool HE.out, HW.out⟩
  · have hne : ((n : Int) != (m : Int)) = true := by simp; omega
    have HE : Hid (decide (n < m) = R) := by
      show _ = _
      rw [Bool.eq_iff_iff, decide_eq_true_eq, HR.out]
      unfold lsK
      constructor
      · intro h; exact Or.inl h
      · rintro (h | ⟨h, -⟩)
        · exact h
        · exact absurd h hnm
    clear H1 H2 HR
    go_enter Try.func39, Try.ntmps39
    go_wp2
    go_ret
    exact ⟨ret_bool HE.out, below_refl _⟩
end Go.Proofs.Yteaajhpgmndomaa
