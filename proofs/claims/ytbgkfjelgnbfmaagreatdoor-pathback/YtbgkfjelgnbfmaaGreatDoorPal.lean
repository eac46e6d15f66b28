/- The parser: single, seq, alt; all of it. -/
import Derived.Test.YtbgkfjelgnbfmaaGreatDoorPls
namespace Go.Proofs.YtbgkfjelgnbfmaaGreatDoor
open Go.RowKit Fo
set_option maxRecDepth 100000
set_option linter.unusedSimpArgs false
set_option linter.unusedVariables false

namespace Fo
/-- Nothing is read twice. -/
theorem more_lenG {one : List UInt8 → Rs} (h1 : ∀ s t r, one s = .ok (t, r) → r.length ≤ s.length) (sign : UInt8) : ∀ (n : Nat) (acc : List PT) (s : List UInt8) (ts : List PT) (r : List UInt8), more one sign n acc s = .ok (ts, r) → r.length ≤ s.length
  | 0, acc, s, ts, r, h => by injection h with h; injection h with _ h; rw [h]; exact Nat.le_refl _
  | n + 1, acc, [], ts, r, h => by injection h with h; injection h with _ h; rw [← h]; exact Nat.le_refl _
  | n + 1, acc, c :: s, ts, r, h => by
    have h' : (if c = sign then mstep one sign n acc s else .ok (acc, c :: s)) = .ok (ts, r) := h
    by_cases e : c = sign
    · rw [if_pos e] at h'
      unfold mstep at h'
      cases h2 : one s with
      | error er => rw [h2] at h'; cases h'
      | ok q =>
        obtain ⟨t, s2⟩ := q
        rw [h2] at h'
        have l1 := h1 s t s2 h2
        have l2 := more_lenG h1 sign n _ s2 ts r h'
        simp; omega
    · rw [if_neg e] at h'
      injection h' with h'; injection h' with _ h'; rw [← h']; exact Nat.le_refl _
theorem lstG_len {one : List UInt8 → Rs} (h1 : ∀ s t r, one s = .ok (t, r) → r.length ≤ s.length) (k : Int) (sign : UInt8) {s r : List UInt8} {t : PT} (h : lstG k sign one s = .ok (t, r)) : r.length ≤ s.length := by
  unfold lstG at h
  cases h2 : one s with
  | error er => rw [h2] at h; cases h
  | ok q =>
    obtain ⟨t0, s2⟩ := q
    rw [h2] at h
    simp only at h
    cases h3 : more one sign (s2.length + 1) [t0] s2 with
    | error er => rw [h3] at h; cases h
    | ok q3 =>
      obtain ⟨ts, s3⟩ := q3
      rw [h3] at h
      injection h with h; injection h with _ h
      have l1 := h1 s t0 s2 h2
      have l2 := more_lenG h1 sign _ _ s2 ts s3 h3
      subst h; omega
theorem post_len {R : Rdr} (hb : ∀ {s r : List UInt8} {lo hi : Int}, R.bnd s = .ok (lo, hi, r) → r.length < s.length) : ∀ (n : Nat) (p : PT) (s : List UInt8) (t : PT) (r : List UInt8), post R n p s = .ok (t, r) → r.length ≤ s.length
  | 0, p, s, t, r, h => by injection h with h; injection h with _ h; rw [h]; exact Nat.le_refl _
  | n + 1, p, [], t, r, h => by injection h with h; injection h with _ h; rw [← h]; exact Nat.le_refl _
  | n + 1, p, c :: s, t, r, h => by
    have h' : (if c = 42 then post R n (ovr 6 p) s else if c = 43 then post R n (ovr 7 p) s else if c = 63 then post R n (ovr 8 p) s else if c = 123 then (match R.bnd s with | .error e => .error e | .ok (lo, hi, r') => post R n (.mk 9 [] [p] lo hi) r') else .ok (p, c :: s)) = .ok (t, r) := h
    by_cases e1 : c = 42
    · rw [if_pos e1] at h'; have := post_len hb n _ s t r h'; simp; omega
    rw [if_neg e1] at h'
    by_cases e2 : c = 43
    · rw [if_pos e2] at h'; have := post_len hb n _ s t r h'; simp; omega
    rw [if_neg e2] at h'
    by_cases e3 : c = 63
    · rw [if_pos e3] at h'; have := post_len hb n _ s t r h'; simp; omega
    rw [if_neg e3] at h'
    by_cases e4 : c = 123
    · rw [if_pos e4] at h'
      cases h2 : R.bnd s with
      | error er => rw [h2] at h'; cases h'
      | ok q =>
        obtain ⟨lo, hi, s2⟩ := q
        rw [h2] at h'
        have l1 := hb h2
        have l2 := post_len hb n _ s2 t r h'
        simp; omega
    · rw [if_neg e4] at h'
      injection h' with h'; injection h' with _ h'; rw [← h']; exact Nat.le_refl _
theorem named_len {R : Rdr} (hn : ∀ {s l r : List UInt8}, R.nam s = .ok (l, r) → r.length ≤ s.length) {k : Int} {s r : List UInt8} {t : PT} (h : named R k s = .ok (t, r)) : r.length ≤ s.length := by
  unfold named at h
  cases h2 : R.nam s with
  | error er => rw [h2] at h; cases h
  | ok q =>
    obtain ⟨l, s2⟩ := q
    rw [h2] at h
    injection h with h; injection h with _ h
    have := hn h2
    subst h; exact this
theorem shutB_len {x : Rs} {t : PT} {r : List UInt8} (h : shutB x = .ok (t, r)) : ∃ c, x = .ok (t, c :: r) := by
  cases x with
  | error e => cases h
  | ok q =>
    obtain ⟨p, s⟩ := q
    cases s with
    | nil => cases h
    | cons c s =>
      have h' : (if c = 41 then Except.ok (p, s) else Except.error (s.length + 1)) = Except.ok (t, r) := h
      by_cases e : c = 41
      · rw [if_pos e] at h'; injection h' with h'; injection h' with h1 h2; subst h1 h2; exact ⟨c, rfl⟩
      · rw [if_neg e] at h'; cases h'
def par (alt : List UInt8 → Rs) : List UInt8 → Rs
  | [] => shutB (alt [])
  | d :: r' => if d = 41 then .ok (.mk 1 [] [] 0 0, r') else shutB (alt (d :: r'))
theorem single_cons (R : Rdr) (alt : List UInt8 → Rs) (c : UInt8) (r : List UInt8) : single R alt (c :: r) = if c = 94 then named R 3 r else if c = 40 then par alt r else named R 2 (c :: r) := by
  cases r <;> rfl
theorem G_len {R : Rdr} (hb : ∀ {s r : List UInt8} {lo hi : Int}, R.bnd s = .ok (lo, hi, r) → r.length < s.length) (hn : ∀ {s l r : List UInt8}, R.nam s = .ok (l, r) → r.length ≤ s.length) : ∀ (n lev : Nat) (s : List UInt8) (t : PT) (r : List UInt8), G R n lev s = .ok (t, r) → r.length ≤ s.length
  | 0, lev, s, t, r, h => by cases h
  | n + 1, 0, s, t, r, h => lstG_len (fun s t r => G_len hb hn n 1 s t r) 5 124 h
  | n + 1, 1, s, t, r, h => lstG_len (fun s t r => G_len hb hn n 2 s t r) 4 47 h
  | n + 1, 2, s, t, r, h => by
    have h' : sgn R (G R n 3) s = .ok (t, r) := h
    unfold sgn at h'
    cases h2 : G R n 3 s with
    | error er => rw [h2] at h'; cases h'
    | ok q =>
      obtain ⟨p, s2⟩ := q
      rw [h2] at h'
      have l1 := G_len hb hn n 3 s p s2 h2
      have l2 := post_len hb _ p s2 t r h'
      omega
  | n + 1, lev + 3, s, t, r, h => by
    have h' : single R (G R n 0) s = .ok (t, r) := h
    cases s with
    | nil => exact named_len hn h'
    | cons c s =>
      have h3 := h'
      rw [single_cons] at h3
      by_cases e1 : c = 94
      · rw [if_pos e1] at h3; have := named_len hn h3; simp; omega
      rw [if_neg e1] at h3
      by_cases e2 : c = 40
      · rw [if_pos e2] at h3
        cases s with
        | nil =>
          obtain ⟨c, hc⟩ := shutB_len h3
          have := G_len hb hn n 0 [] t (c :: r) hc
          simp at this
        | cons d s =>
          have h4 : (if d = 41 then Except.ok (PT.mk 1 [] [] 0 0, s) else shutB (G R n 0 (d :: s))) = .ok (t, r) := h3
          by_cases e3 : d = 41
          · rw [if_pos e3] at h4; injection h4 with h4; injection h4 with _ h4; subst h4; simp; omega
          · rw [if_neg e3] at h4
            obtain ⟨c, hc⟩ := shutB_len h4
            have := G_len hb hn n 0 (d :: s) t (c :: r) hc
            simp at this ⊢; omega
      · rw [if_neg e2] at h3; exact named_len hn h3
theorem qtM_len : ∀ (n : Nat) (acc s l r : List UInt8), qtM n acc s = .ok (l, r) → r.length ≤ s.length
  | 0, _, _, _, _, h => by cases h
  | n + 1, acc, [], l, r, h => by cases h
  | n + 1, acc, c :: s, l, r, h => by
    have h' : (if c = 62 then .ok (acc, s) else if c = 92 then (match hexM s with | .error e => .error e | .ok (a, r1) => match hexM r1 with | .error e => .error e | .ok (b, r2) => qtM n (acc ++ [UInt8.ofNat (a * 16 + b)]) r2) else qtM n (acc ++ [c]) s) = .ok (l, r) := h
    by_cases e1 : c = 62
    · rw [if_pos e1] at h'; injection h' with h'; injection h' with _ h'; subst h'; simp
    rw [if_neg e1] at h'
    by_cases e2 : c = 92
    · rw [if_pos e2] at h'
      cases h2 : hexM s with
      | error er => rw [h2] at h'; cases h'
      | ok q =>
        obtain ⟨a, s2⟩ := q
        rw [h2] at h'
        simp only at h'
        cases h3 : hexM s2 with
        | error er => rw [h3] at h'; cases h'
        | ok q3 =>
          obtain ⟨b, s3⟩ := q3
          rw [h3] at h'
          have l1 := hexM_len h2
          have l2 := hexM_len h3
          have l3 := qtM_len n _ s3 l r h'
          simp; omega
    · rw [if_neg e2] at h'
      have := qtM_len n _ s l r h'
      simp; omega
theorem wdM_len {s l r : List UInt8} (h : wdM s = .ok (l, r)) : r.length ≤ s.length := by
  unfold wdM at h
  split at h
  · cases h
  · injection h with h; injection h with _ h; subst h; exact drop_len _ _
theorem namM_len {s l r : List UInt8} (h : namM s = .ok (l, r)) : r.length ≤ s.length := by
  cases s with
  | nil => exact wdM_len h
  | cons c s =>
    have h' : (if c = 60 then qtM (s.length + 1) [] s else wdM (c :: s)) = .ok (l, r) := h
    by_cases e : c = 60
    · rw [if_pos e] at h'; have := qtM_len _ _ _ _ _ h'; simp; omega
    · rw [if_neg e] at h'; exact wdM_len h'
end Fo
end Go.Proofs.YtbgkfjelgnbfmaaGreatDoor
