/- How the program's parser reads bounds and names. -/
import Derived.Test.YtbgkfjelgnbfmaaGreatDoorPrn
namespace Go.Proofs.YtbgkfjelgnbfmaaGreatDoor
open Go.RowKit Fo
set_option maxRecDepth 100000
set_option linter.unusedSimpArgs false
set_option linter.unusedVariables false

namespace Fo
def numM (s : List UInt8) : Except Nat (Int × List UInt8) :=
  match Lib.atoiAll (s.takeWhile digB) with
  | .ok v => .ok (v, s.dropWhile digB)
  | _ => .error (s.dropWhile digB).length
def bndM2 (lo : Int) (s : List UInt8) : Except Nat (Int × Int × List UInt8) :=
  match numM s with
  | .error e => .error e
  | .ok (hi, r) => match wantM 125 r with
    | .error e => .error e
    | .ok (_, r') => .ok (lo, hi, r')
def bndM1 (lo : Int) : List UInt8 → Except Nat (Int × Int × List UInt8)
  | [] => bndM2 lo []
  | c :: r => if c = 125 then .ok (lo, -1, r) else bndM2 lo (c :: r)
/-- Bounds, behind their bracket. -/
def bndM (s : List UInt8) : Except Nat (Int × Int × List UInt8) :=
  match numM s with
  | .error e => .error e
  | .ok (lo, r) => match wantM 44 r with
    | .error e => .error e
    | .ok (_, r') => bndM1 lo r'
def hexV (c : Nat) : Nat := if 48 ≤ c ∧ c ≤ 57 then c - 48 else if 97 ≤ c ∧ c ≤ 102 then c - 87 else 16
def hexM : List UInt8 → Except Nat (Nat × List UInt8)
  | [] => .error 0
  | c :: r => if hexV c.toNat < 16 then .ok (hexV c.toNat, r) else .error r.length
def qtM : Nat → List UInt8 → List UInt8 → Except Nat (List UInt8 × List UInt8)
  | 0, _, _ => .error 0
  | n + 1, acc, s => match s with
    | [] => .error 0
    | c :: r => if c = 62 then .ok (acc, r) else if c = 92 then (match hexM r with | .error e => .error e | .ok (a, r1) => match hexM r1 with | .error e => .error e | .ok (b, r2) => qtM n (acc ++ [UInt8.ofNat (a * 16 + b)]) r2) else qtM n (acc ++ [c]) r
/-- A word. -/
def wdM (s : List UInt8) : Except Nat (List UInt8 × List UInt8) := if s.takeWhile wordB = [] then .error s.length else .ok (s.takeWhile wordB, s.dropWhile wordB)
def namM : List UInt8 → Except Nat (List UInt8 × List UInt8)
  | [] => wdM []
  | c :: r => if c = 60 then qtM (r.length + 1) [] r else wdM (c :: r)
/-- The program's reader. -/
def RP : Rdr := ⟨bndM, namM⟩
theorem drop_len (P : UInt8 → Bool) : ∀ s : List UInt8, (s.dropWhile P).length ≤ s.length
  | [] => Nat.le_refl _
  | c :: r => by
    rw [List.dropWhile]
    split
    · have := drop_len P r; simp; omega
    · exact Nat.le_refl _
theorem numM_len {s r : List UInt8} {v : Int} (h : numM s = .ok (v, r)) : r.length ≤ s.length := by
  unfold numM at h
  split at h
  · injection h with h; injection h with h1 h2; subst h2; exact drop_len _ _
  · cases h
theorem wantM_len {c : UInt8} {s r : List UInt8} {u : Unit} (h : wantM c s = .ok (u, r)) : r.length < s.length := by
  cases s with
  | nil => cases h
  | cons d t =>
    have h' : (if d = c then Except.ok ((), t) else Except.error (d :: t).length) = Except.ok (u, r) := h
    by_cases e : d = c
    · rw [if_pos e] at h'; injection h' with h'; injection h' with h1 h2; subst h2; simp
    · rw [if_neg e] at h'; cases h'
theorem bndM2_len {lo lo' hi : Int} {s r : List UInt8} (h : bndM2 lo s = .ok (lo', hi, r)) : r.length < s.length := by
  unfold bndM2 at h
  cases h1 : numM s with
  | error e => rw [h1] at h; cases h
  | ok q =>
    obtain ⟨v, t⟩ := q
    rw [h1] at h
    simp only at h
    have l1 := numM_len h1
    cases h2 : wantM 125 t with
    | error e => rw [h2] at h; cases h
    | ok q2 =>
      obtain ⟨u, t2⟩ := q2
      rw [h2] at h
      have l2 := wantM_len h2
      simp only at h
      injection h with h; injection h with _ h; injection h with _ h; subst h; omega
theorem bndM_len {s r : List UInt8} {lo hi : Int} (h : bndM s = .ok (lo, hi, r)) : r.length < s.length := by
  unfold bndM at h
  cases h1 : numM s with
  | error e => rw [h1] at h; cases h
  | ok q =>
    obtain ⟨v, t⟩ := q
    rw [h1] at h
    simp only at h
    have l1 := numM_len h1
    cases h2 : wantM 44 t with
    | error e => rw [h2] at h; cases h
    | ok q2 =>
      obtain ⟨u, t2⟩ := q2
      rw [h2] at h
      have l2 := wantM_len h2
      simp only at h
      cases t2 with
      | nil =>
        have := bndM2_len (lo := v) (s := []) h
        simp at this
      | cons c t3 =>
        have h' : (if c = 125 then Except.ok (v, -1, t3) else bndM2 v (c :: t3)) = Except.ok (lo, hi, r) := h
        by_cases e : c = 125
        · rw [if_pos e] at h'; injection h' with h'; injection h' with _ h'; injection h' with _ h'; subst h'; simp at l2; omega
        · rw [if_neg e] at h'; have := bndM2_len h'; omega
theorem numM_dg (n : Int) (h1 : 0 ≤ n) (h2 : n ≤ 8) (r : List UInt8) (hr : ∀ d t, r = d :: t → digB d = false) : numM (dg n ++ r) = .ok (n, r) := by
  have hd : digB (UInt8.ofNat (48 + n.toNat)) = true := by
    obtain ⟨k, rfl⟩ : ∃ k : Nat, n = k := ⟨n.toNat, by omega⟩
    have hk : k ≤ 8 := by omega
    have hall : ∀ j : Fin 9, digB (UInt8.ofNat (48 + ((j.val : Nat) : Int).toNat)) = true := by decide
    exact hall ⟨k, by omega⟩
  obtain ⟨w1, w2⟩ := while_split (P := digB) (s := dg n ++ r) rfl (by unfold dg; rw [List.all_cons, hd]; rfl) hr
  unfold numM
  rw [w1, w2]
  have ha : Lib.atoiAll (dg n) = .ok n := by
    obtain ⟨k, rfl⟩ : ∃ k : Nat, n = k := ⟨n.toNat, by omega⟩
    have hk : k ≤ 8 := by omega
    have : k = 0 ∨ k = 1 ∨ k = 2 ∨ k = 3 ∨ k = 4 ∨ k = 5 ∨ k = 6 ∨ k = 7 ∨ k = 8 := by omega
    rcases this with rfl | rfl | rfl | rfl | rfl | rfl | rfl | rfl | rfl <;> rfl
  rw [ha]
theorem bndM_ok (lo hi : Int) (r : List UInt8) (h1 : 0 ≤ lo) (h2 : lo ≤ 8) (h3 : hi = -1 ∨ (1 ≤ hi ∧ hi ≤ 8)) : bndM (dg lo ++ 44 :: ((if hi = -1 then [] else dg hi) ++ 125 :: r)) = .ok (lo, hi, r) := by
  unfold bndM
  rw [numM_dg lo h1 h2 _ (fun d t e => by injection e with e _; subst e; decide)]
  show bndM1 lo ((if hi = -1 then [] else dg hi) ++ 125 :: r) = _
  rcases h3 with rfl | ⟨h3, h4⟩
  · rfl
  · rw [if_neg (by omega)]
    have hne : UInt8.ofNat (48 + hi.toNat) ≠ 125 := by
      obtain ⟨k, rfl⟩ : ∃ k : Nat, hi = k := ⟨hi.toNat, by omega⟩
      have hall : ∀ j : Fin 9, UInt8.ofNat (48 + ((j.val : Nat) : Int).toNat) ≠ 125 := by decide
      exact hall ⟨k, by omega⟩
    show (if UInt8.ofNat (48 + hi.toNat) = 125 then _ else bndM2 lo (dg hi ++ 125 :: r)) = _
    rw [if_neg hne]
    unfold bndM2
    rw [numM_dg hi (by omega) h4 _ (fun d t e => by injection e with e _; subst e; decide)]
    rfl
theorem hexV_D (k : Nat) (h : k < 16) : hexV (hexD k).toNat = k := by
  have hall : ∀ j : Fin 16, hexV (hexD j.val).toNat = j.val := by decide
  exact hall ⟨k, h⟩
theorem hexM_ok (k : Nat) (h : k < 16) (r : List UInt8) : hexM (hexD k :: r) = .ok (k, r) := by
  unfold hexM
  simp only [hexV_D k h, h, if_true]
theorem qtM_esc : ∀ (l : List UInt8) (n : Nat) (acc r : List UInt8), l.length < n → qtM n acc (esc l ++ 62 :: r) = .ok (acc ++ l, r)
  | [], 0, _, _, h => by simp at h
  | [], n + 1, acc, r, _ => by simp [esc, qtM]
  | c :: l, 0, _, _, h => by simp at h
  | c :: l, n + 1, acc, r, h => by
    have hl : l.length < n := by simp at h; exact h
    rw [esc]
    unfold escB
    by_cases hp : plainB c = true
    · rw [if_pos hp]
      have h62 : c ≠ 62 := by rintro rfl; revert hp; decide
      have h92 : c ≠ 92 := by rintro rfl; revert hp; decide
      simp only [List.cons_append, List.nil_append, qtM, h62, h92, if_false]
      rw [qtM_esc l n (acc ++ [c]) r hl]
      simp
    · rw [if_neg hp]
      have hc : c.toNat < 256 := UInt8.toNat_lt c
      have h1 : c.toNat / 16 < 16 := by omega
      have h2 : c.toNat % 16 < 16 := by omega
      have hcc : UInt8.ofNat (c.toNat / 16 * 16 + c.toNat % 16) = c := by
        rw [show c.toNat / 16 * 16 + c.toNat % 16 = c.toNat by omega]
        simp
      have e92 : ((92 : UInt8) = 62) = False := by simp
      simp only [List.cons_append, List.nil_append, qtM]
      rw [if_neg (by decide), if_pos trivial]
      simp only [hexM_ok _ h1, hexM_ok _ h2, hcc]
      rw [qtM_esc l n (acc ++ [c]) r hl]
      simp
theorem namM_ok (l r : List UInt8) (hl : l ≠ []) (hr : stops st3 r) : namM (nameT l ++ r) = .ok (l, r) := by
  unfold nameT
  by_cases hw : isWd l = true
  · rw [if_pos hw]
    unfold isWd at hw
    simp only [Bool.and_eq_true] at hw
    obtain ⟨w1, w2⟩ := while_split (P := wordB) (s := l ++ r) rfl hw.1 (fun d t e => by subst e; exact hr)
    have hwd : wdM (l ++ r) = .ok (l, r) := by
      unfold wdM
      rw [w1, w2, if_neg hl]
    cases l with
    | nil => exact absurd rfl hl
    | cons c t =>
      have hc : c ≠ 60 := by
        rintro rfl
        have := hw.1
        simp [wordB] at this
      show (if c = 60 then _ else wdM (c :: (t ++ r))) = _
      rw [if_neg hc]
      exact hwd
  · rw [if_neg hw]
    show qtM ((esc l ++ [62] ++ r).length + 1) [] (esc l ++ [62] ++ r) = _
    rw [show esc l ++ [62] ++ r = esc l ++ 62 :: r by simp]
    have hle : l.length ≤ (esc l).length := by
      clear hw hl hr
      induction l with
      | nil => simp
      | cons c t ih =>
        rw [esc]
        have : 1 ≤ (escB c).length := by unfold escB; split <;> simp
        simp; omega
    rw [qtM_esc l _ [] r (by simp; omega)]
    rfl
theorem rp_ok : RdrOk RP := ⟨namM_ok, bndM_ok, fun h => bndM_len h⟩
end Fo
end Go.Proofs.YtbgkfjelgnbfmaaGreatDoor
