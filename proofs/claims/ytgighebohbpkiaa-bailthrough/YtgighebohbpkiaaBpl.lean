/- What a program of leaving and catching does: as numbers alone. -/
import Derived.Test.YtgighebohbpkiaaBpn
namespace Go.Proofs.Ytgighebohbpkiaa
open Go.RowKit Fo
set_option maxRecDepth 100000

namespace Fo
/-- What was noted, and what is left. -/
structure St where
  notes : List Int
  left : Int
abbrev Run := St → En × St
def St.note (x : St) (l : List Int) : St := ⟨x.notes ++ l, x.left⟩
/-- Some of a row, one behind the other, till one leaves: from i on, d of them. -/
def allRun (rs : Nat → Run) : Nat → Nat → Run
  | _, 0 => fun x => (.ret, x)
  | i, d + 1 => fun x => match rs i x with
    | (.ret, y) => allRun rs (i + 1) d y
    | p => p
def noteC : En × St → En × St
  | (.ret, y) => (.ret, y.note [0, 0])
  | (.bail c a, y) => (.ret, y.note [c, a])
  | p => p
def noteO (k : Int) : En × St → En × St
  | (.ret, y) => (.ret, y.note [0])
  | (.bail c a, y) => if c = k then (.ret, y.note [1]) else (.bail c a, y)
  | p => p
def noteS : En × St → En × St
  | (.ret, y) => (.ret, y.note [-1])
  | (.bail c a, y) => (.ret, y.note [-2, c, a])
  | (.num m, y) => (.ret, y.note [-3, m])
  | (.nilB, y) => (.ret, y.note [-4])
def kidRun (rs : Nat → Run) (len i : Nat) : Run := if i < len then rs i else fun x => (.ret, x)
def both (r s : Run) : Run := fun x => ((r x).1.behind (s (r x).2).1, (s (r x).2).2)
def nodeRun (kind code n : Int) (len : Nat) (rs : Nat → Run) : Run := fun x =>
  if kind = 1 then (.bail code n, x) else if kind = 2 then (.num n, x) else if kind = 3 then allRun rs 0 len x
  else if kind = 4 then noteC (kidRun rs len 0 x) else if kind = 5 then noteO code (kidRun rs len 0 x)
  else if kind = 6 then both (kidRun rs len 0) (kidRun rs len 1) x else if kind = 7 then noteS (kidRun rs len 0 x)
  else if kind = 8 then (.ret, x.note [n]) else if kind = 9 then (useE x.left n, ⟨x.notes, useL x.left n⟩) else (.ret, x)
def sumTo (ms : Nat → Nat) : Nat → Nat
  | 0 => 0
  | i + 1 => sumTo ms i + ms i
theorem sumTo_mono (ms : Nat → Nat) : ∀ {i j : Nat}, i ≤ j → sumTo ms i ≤ sumTo ms j := fun {i j} h => by
  induction h with
  | refl => exact Nat.le_refl _
  | step _ ih => exact Nat.le_trans ih (Nat.le_add_right _ _)
theorem sumTo_one (ms : Nat → Nat) {i n : Nat} (h : i < n) : ms i ≤ sumTo ms n := Nat.le_trans (Nat.le_add_left _ _) (sumTo_mono ms (show i + 1 ≤ n from h))
theorem sumTo_two (ms : Nat → Nat) {n : Nat} (h : 1 < n) : ms 0 + ms 1 ≤ sumTo ms n := by
  have := sumTo_mono ms (show 2 ≤ n from h)
  simp only [sumTo] at this
  omega
def InR (x : St) : Prop := 0 ≤ x.left ∧ x.left ≤ 9223372036854775807
/-- A run notes no more than m numbers. -/
def RunB (m : Nat) (r : Run) : Prop := ∀ x, InR x → (r x).1 ≠ .nilB ∧ (r x).2.notes.length ≤ x.notes.length + m ∧ InR (r x).2
theorem RunB.mono {m m' : Nat} {r : Run} (h : RunB m r) (hm : m ≤ m') : RunB m' r := fun x hx => ⟨(h x hx).1, Nat.le_trans (h x hx).2.1 (Nat.add_le_add_left hm _), (h x hx).2.2⟩
theorem useL_in {l n : Int} (h : 0 ≤ l ∧ l ≤ 9223372036854775807) : 0 ≤ useL l n ∧ useL l n ≤ 9223372036854775807 := by
  unfold useL
  split
  · exact h
  · split
    · exact h
    · omega
theorem useE_nil (l n : Int) : useE l n ≠ .nilB := by
  unfold useE
  split
  · exact fun h => by cases h
  · split <;> exact fun h => by cases h
theorem all_b {rs : Nat → Run} {ms : Nat → Nat} : ∀ (d i : Nat), (∀ j, j < i + d → RunB (3 * ms j) (rs j)) → RunB (3 * (sumTo ms (i + d) - sumTo ms i)) (allRun rs i d)
  | 0, i, _ => fun x hx => ⟨fun h => (by cases h), Nat.le_add_right _ _, hx⟩
  | d + 1, i, h => fun x hx => by
    have h1 := h i (by omega) x hx
    have ih := all_b d (i + 1) (fun j hj => h j (by omega))
    have hs1 : sumTo ms (i + 1) = sumTo ms i + ms i := rfl
    have hs2 := sumTo_mono ms (show i + 1 ≤ i + 1 + d by omega)
    rw [show i + (d + 1) = i + 1 + d by omega]
    obtain ⟨e, y, hp⟩ : ∃ e y, rs i x = (e, y) := ⟨_, _, rfl⟩
    rw [hp] at h1
    simp only [allRun, hp]
    cases e with
    | ret =>
      have h2 := ih y h1.2.2
      exact ⟨h2.1, by have := h2.2.1; have := h1.2.1; simp only at *; omega, h2.2.2⟩
    | bail c a => exact ⟨fun h => (by cases h), by have := h1.2.1; simp only at *; omega, h1.2.2⟩
    | num n => exact ⟨fun h => (by cases h), by have := h1.2.1; simp only at *; omega, h1.2.2⟩
    | nilB => exact absurd rfl h1.1
theorem kid_b {rs : Nat → Run} {ms : Nat → Nat} {len i : Nat} (h : ∀ j, j < len → RunB (3 * ms j) (rs j)) : RunB (3 * (if i < len then ms i else 0)) (kidRun rs len i) := by
  unfold kidRun
  by_cases hi : i < len
  · rw [if_pos hi, if_pos hi]; exact h i hi
  · rw [if_neg hi, if_neg hi]; exact fun x hx => ⟨fun h => (by cases h), Nat.le_add_right _ _, hx⟩
theorem node_b {kind code n : Int} {len : Nat} {rs : Nat → Run} {ms : Nat → Nat} (h : ∀ j, j < len → RunB (3 * ms j) (rs j)) : RunB (3 * (1 + sumTo ms len)) (nodeRun kind code n len rs) := fun x hx => by
  have k0 := kid_b (i := 0) h x hx
  have hm0 : (if 0 < len then ms 0 else 0) ≤ sumTo ms len := by
    split
    · rename_i q; exact sumTo_one ms q
    · exact Nat.zero_le _
  unfold nodeRun
  split
  · exact ⟨fun h => (by cases h), Nat.le_add_right _ _, hx⟩
  split
  · exact ⟨fun h => (by cases h), Nat.le_add_right _ _, hx⟩
  split
  · have := all_b len 0 (fun j hj => h j (by omega)) x hx
    simp only [Nat.zero_add, sumTo] at this
    exact ⟨this.1, by have := this.2.1; omega, this.2.2⟩
  split
  · obtain ⟨e, y, hp⟩ : ∃ e y, kidRun rs len 0 x = (e, y) := ⟨_, _, rfl⟩
    rw [hp] at k0 ⊢
    obtain ⟨q1, q2, q3⟩ := k0
    simp only at q1 q2 q3
    cases e with
    | ret => exact ⟨fun h => (by cases h), by simp [noteC, St.note]; omega, q3⟩
    | bail c a => exact ⟨fun h => (by cases h), by simp [noteC, St.note]; omega, q3⟩
    | num n => exact ⟨fun h => (by cases h), by simp [noteC]; omega, q3⟩
    | nilB => exact absurd rfl q1
  split
  · obtain ⟨e, y, hp⟩ : ∃ e y, kidRun rs len 0 x = (e, y) := ⟨_, _, rfl⟩
    rw [hp] at k0 ⊢
    obtain ⟨q1, q2, q3⟩ := k0
    simp only at q1 q2 q3
    cases e with
    | ret => exact ⟨fun h => (by cases h), by simp [noteO, St.note]; omega, q3⟩
    | bail c a =>
      unfold noteO
      simp only
      split
      · exact ⟨fun h => (by cases h), by simp [St.note]; omega, q3⟩
      · exact ⟨fun h => (by cases h), by simp only; omega, q3⟩
    | num n => exact ⟨fun h => (by cases h), by simp [noteO]; omega, q3⟩
    | nilB => exact absurd rfl q1
  split
  · have k1 := kid_b (i := 1) h (kidRun rs len 0 x).2 k0.2.2
    have hm1 : (if 0 < len then ms 0 else 0) + (if 1 < len then ms 1 else 0) ≤ sumTo ms len := by
      by_cases q : 1 < len
      · rw [if_pos q, if_pos (by omega)]; exact sumTo_two ms q
      · rw [if_neg q]; exact hm0
    refine ⟨?_, ?_, k1.2.2⟩
    · unfold both
      simp only
      have a0 := k0.1
      have a1 := k1.1
      generalize (kidRun rs len 0 x).1 = e0 at a0
      generalize (kidRun rs len 1 (kidRun rs len 0 x).2).1 = e1 at a1
      cases e1 <;> simp_all [En.behind]
    · have := k0.2.1
      have := k1.2.1
      unfold both
      simp only
      omega
  split
  · obtain ⟨e, y, hp⟩ : ∃ e y, kidRun rs len 0 x = (e, y) := ⟨_, _, rfl⟩
    rw [hp] at k0 ⊢
    obtain ⟨q1, q2, q3⟩ := k0
    simp only at q1 q2 q3
    cases e with
    | ret => exact ⟨fun h => (by cases h), by simp [noteS, St.note]; omega, q3⟩
    | bail c a => exact ⟨fun h => (by cases h), by simp [noteS, St.note]; omega, q3⟩
    | num n => exact ⟨fun h => (by cases h), by simp [noteS, St.note]; omega, q3⟩
    | nilB => exact absurd rfl q1
  split
  · exact ⟨fun h => (by cases h), by simp [St.note]; omega, hx⟩
  split
  · exact ⟨useE_nil _ _, by simp only; omega, useL_in hx⟩
  · exact ⟨fun h => (by cases h), by simp only; omega, hx⟩
/-- How many nodes a program has; more than many, if it is too deep. K: the kids. -/
def sz (K : NV → Nat → NV) : Nat → NV → Nat
  | 0, _ => 1073741824
  | k + 1, x => 1 + sumTo (fun j => sz K k (K x j)) x.len
def run (K : NV → Nat → NV) : Nat → NV → Run
  | 0, _ => fun x => (.ret, x)
  | k + 1, x => nodeRun x.kind x.code x.n x.len fun j => run K k (K x j)
theorem sz_pos (K : NV → Nat → NV) (k : Nat) (x : NV) : 1 ≤ sz K k x := by cases k <;> simp [sz]
theorem run_b (K : NV → Nat → NV) : ∀ (k : Nat) (x : NV), RunB (3 * sz K k x) (run K k x)
  | 0, _ => fun x hx => ⟨fun h => (by cases h), Nat.le_add_right _ _, hx⟩
  | k + 1, x => node_b fun j _ => run_b K k (K x j)
end Fo
end Go.Proofs.Ytgighebohbpkiaa
