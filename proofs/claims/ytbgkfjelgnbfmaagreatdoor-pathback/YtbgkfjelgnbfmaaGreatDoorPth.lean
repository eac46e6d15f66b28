/- Paths as trees, their texts, and a reader of texts. Free of any program. -/
import Derived.RowKit3
namespace Go.Proofs.YtbgkfjelgnbfmaaGreatDoor
open Go.RowKit
set_option maxRecDepth 100000
set_option linter.unusedVariables false
set_option linter.unusedSimpArgs false

namespace Fo
/-- A path. -/
inductive PT where
  | mk (kind : Int) (label : List UInt8) (kids : List PT) (lo hi : Int)
namespace PT
def kind : PT → Int | .mk k _ _ _ _ => k
def label : PT → List UInt8 | .mk _ l _ _ _ => l
def kids : PT → List PT | .mk _ _ ks _ _ => ks
def lo : PT → Int | .mk _ _ _ a _ => a
def hi : PT → Int | .mk _ _ _ _ b => b
def zero : PT := .mk 0 [] [] 0 0
end PT
theorem PT.ind {M : PT → Prop} (h : ∀ k l ks lo hi, (∀ t ∈ ks, M t) → M (.mk k l ks lo hi)) (t : PT) : M t :=
  PT.rec (motive_1 := M) (motive_2 := fun ks => ∀ t ∈ ks, M t) (fun k l ks lo hi ih => h k l ks lo hi ih) (fun _ ht => by cases ht) (fun a as h1 h2 t ht => by
    rcases List.mem_cons.1 ht with rfl | h'
    · exact h1
    · exact h2 t h') t
mutual
/-- How deep. -/
def deep : PT → Nat
  | .mk _ _ ks _ _ => 1 + deeps ks
def deeps : List PT → Nat
  | [] => 0
  | t :: ts => max (deep t) (deeps ts)
end
def edge (k : Int) : Bool := decide (k = 2) || decide (k = 3)
def kidsOK (k : Int) (ks : List PT) : Bool :=
  if k = 1 ∨ k = 2 ∨ k = 3 then decide (ks.length = 0)
  else if k = 4 ∨ k = 5 then decide (2 ≤ ks.length) && !ks.any (fun t => decide (t.kind = k))
  else if k = 6 ∨ k = 7 ∨ k = 8 ∨ k = 9 then decide (ks.length = 1)
  else false
def labOK (l : List UInt8) : Bool := decide (1 ≤ l.length) && decide (l.length ≤ 20)
def repOK (lo hi : Int) : Bool := !(decide (lo < 0) || decide (8 < lo)) && (decide (hi = -1) || decide (max lo 1 ≤ hi) && decide (hi ≤ 8))
/-- What is wrong with one by itself. -/
def alone (k : Int) (l : List UInt8) (ks : List PT) (lo hi : Int) : Int :=
  if kidsOK k ks = false then 1 else if edge k = true ∧ labOK l = false then 2 else if k = 9 ∧ repOK lo hi = false then 1 else 0
mutual
/-- The first fault. -/
def ck : PT → Int
  | .mk k l ks lo hi => if alone k l ks lo hi ≠ 0 then alone k l ks lo hi else cks ks
def cks : List PT → Int
  | [] => 0
  | t :: ts => if ck t ≠ 0 then ck t else cks ts
end
def M40 : Int := 1099511627776
def timesN (lo hi : Int) : Int := if hi = -1 then min (max lo 0) M40 + 1 else max hi 0
def prodN (n k : Int) : Int := if 0 < k ∧ M40 / k < n then M40 else n * k
def szk (k : Int) (n : Int) (lo hi : Int) : Int :=
  if k = 1 ∨ k = 2 ∨ k = 3 then 1
  else if k = 4 ∨ k = 5 ∨ k = 6 then min (n + 1) M40
  else if k = 7 then min (2 * n + 2) M40
  else if k = 8 then min (n + 2) M40
  else if k = 9 then min (prodN (timesN lo hi) n + 3) M40
  else 0
mutual
/-- How great. -/
def sz : PT → Int
  | .mk k _ ks lo hi => szk k (szs ks 0) lo hi
def szs : List PT → Int → Int
  | [], n => n
  | t :: ts, n => szs ts (min (n + sz t) M40)
end
/-- May one be? -/
def chk (t : PT) : Int := if 20 < deep t then 4 else if ck t ≠ 0 then ck t else if 60 < sz t then 5 else 0
def wordB (c : UInt8) : Bool := decide (97 ≤ c.toNat) && decide (c.toNat ≤ 122) || decide (65 ≤ c.toNat) && decide (c.toNat ≤ 90) || decide (48 ≤ c.toNat) && decide (c.toNat ≤ 57) || decide (c.toNat = 95)
def hexD (n : Nat) : UInt8 := if n < 10 then UInt8.ofNat (48 + n) else UInt8.ofNat (87 + n)
def plainB (c : UInt8) : Bool := !(decide (c.toNat < 32) || decide (126 < c.toNat) || decide (c.toNat = 60) || decide (c.toNat = 62) || decide (c.toNat = 92))
def escB (c : UInt8) : List UInt8 := if plainB c = true then [c] else [92, hexD (c.toNat / 16), hexD (c.toNat % 16)]
def isWd (l : List UInt8) : Bool := l.all wordB && !l.isEmpty
def esc : List UInt8 → List UInt8
  | [] => []
  | c :: l => escB c ++ esc l
/-- A name, written. -/
def nameT (l : List UInt8) : List UInt8 := if isWd l = true then l else 60 :: (esc l ++ [62])
def bnd (k : Int) : Nat := if k = 5 then 1 else if k = 4 then 2 else 3
def dg (n : Int) : List UInt8 := [UInt8.ofNat (48 + n.toNat)]
def repT (lo hi : Int) : List UInt8 := 123 :: (dg lo ++ 44 :: ((if hi = -1 then [] else dg hi) ++ [125]))
def brk (b : Bool) (l : List UInt8) : List UInt8 := if b then 40 :: (l ++ [41]) else l
def headT (k : Int) (l : List UInt8) (s4 s5 s1 : List UInt8) (lo hi : Int) : List UInt8 :=
  if k = 2 then nameT l else if k = 3 then 94 :: nameT l else if k = 5 then s5 else if k = 4 then s4
  else if k = 6 then s1 ++ [42] else if k = 7 then s1 ++ [43] else if k = 8 then s1 ++ [63] else if k = 9 then s1 ++ repT lo hi else [40, 41]
mutual
/-- A path, written. -/
def tx : PT → List UInt8
  | .mk k l ks lo hi => headT k l (txs 47 2 ks) (txs 124 1 ks) (txs 0 3 ks) lo hi
def txs (sign : UInt8) (least : Nat) : List PT → List UInt8
  | [] => []
  | t :: ts => brk (decide (bnd t.kind < least)) (tx t) ++ txr sign least ts
def txr (sign : UInt8) (least : Nat) : List PT → List UInt8
  | [] => []
  | t :: ts => sign :: (brk (decide (bnd t.kind < least)) (tx t) ++ txr sign least ts)
end
def win (least : Nat) (t : PT) : List UInt8 := brk (decide (bnd t.kind < least)) (tx t)
theorem txs_cons (sign : UInt8) (least : Nat) (t : PT) (ts : List PT) : txs sign least (t :: ts) = win least t ++ txr sign least ts := by rw [txs]; rfl
theorem txr_cons (sign : UInt8) (least : Nat) (t : PT) (ts : List PT) : txr sign least (t :: ts) = sign :: (win least t ++ txr sign least ts) := by rw [txr]; rfl
mutual
/-- A path without what is not asked. -/
def norm : PT → PT
  | .mk k l ks lo hi => .mk k (if edge k = true then l else []) (norms ks) (if k = 9 then lo else 0) (if k = 9 then hi else 0)
def norms : List PT → List PT
  | [] => []
  | t :: ts => norm t :: norms ts
end
mutual
/-- Are two the same? -/
def same : PT → PT → Bool
  | .mk k l ks lo hi, .mk k' l' ks' lo' hi' => decide (k = k') && decide (ks.length = ks'.length) && (if edge k = true then decide (l = l') else if k = 9 then decide (lo = lo') && decide (hi = hi') else true) && sames ks ks'
def sames : List PT → List PT → Bool
  | [], [] => true
  | t :: ts, t' :: ts' => same t t' && sames ts ts'
  | _, _ => false
end
/-! ### Facts -/
theorem norms_len : ∀ ks : List PT, (norms ks).length = ks.length
  | [] => by rw [norms]
  | t :: ts => by rw [norms]; simp [norms_len ts]
theorem norms_map : ∀ ks : List PT, norms ks = ks.map norm
  | [] => by rw [norms]; rfl
  | t :: ts => by rw [norms, norms_map ts]; rfl
theorem norm_kind (t : PT) : (norm t).kind = t.kind := by cases t; rw [norm]; rfl
theorem sames_len : ∀ (a b : List PT), sames a b = true → a.length = b.length
  | [], [], _ => rfl
  | _ :: ts, _ :: ts', h => by
    rw [sames, Bool.and_eq_true] at h
    simp [sames_len ts ts' h.2]
  | [], _ :: _, h => by simp [sames] at h
  | _ :: _, [], h => by simp [sames] at h
theorem sames_iff : ∀ (a b : List PT) (_ : ∀ t ∈ a, ∀ t', same t t' = true ↔ norm t = norm t'), sames a b = true ↔ norms a = norms b
  | [], [], _ => by simp [sames, norms]
  | [], _ :: _, _ => by simp [sames, norms]
  | _ :: _, [], _ => by simp [sames, norms]
  | t :: ts, t' :: ts', h => by
    rw [sames, Bool.and_eq_true, norms, norms, h t (by simp), sames_iff ts ts' (fun u hu => h u (by simp [hu]))]
    simp
theorem same_iff (t : PT) : ∀ t', same t t' = true ↔ norm t = norm t' := by
  induction t using PT.ind with
  | h k l ks lo hi ih =>
    rintro ⟨k', l', ks', lo', hi'⟩
    have hs := sames_iff ks ks' ih
    rw [same, norm, norm]
    simp only [Bool.and_eq_true, hs, decide_eq_true_eq, PT.mk.injEq]
    constructor
    · rintro ⟨⟨⟨rfl, -⟩, h2⟩, h3⟩
      refine ⟨rfl, ?_, h3, ?_, ?_⟩
      · by_cases e : edge k = true
        · rw [if_pos e] at h2 ⊢; rw [if_pos e]; simpa using h2
        · rw [if_neg e, if_neg e]
      · by_cases e : k = 9
        · subst e
          rw [if_neg (by decide)] at h2
          simp at h2 ⊢; exact h2.1
        · rw [if_neg e, if_neg e]
      · by_cases e : k = 9
        · subst e
          rw [if_neg (by decide)] at h2
          simp at h2 ⊢; exact h2.2
        · rw [if_neg e, if_neg e]
    · rintro ⟨rfl, h2, h3, h4, h5⟩
      refine ⟨⟨⟨rfl, ?_⟩, ?_⟩, h3⟩
      · have := congrArg List.length h3
        simpa [norms_len] using this
      · by_cases e : edge k = true
        · rw [if_pos e] at h2 ⊢; rw [if_pos e] at h2; simpa using h2
        · rw [if_neg e]
          by_cases e9 : k = 9
          · rw [if_pos e9] at h4 h5 ⊢; rw [if_pos e9] at h4 h5; simp [h4, h5]
          · rw [if_neg e9]
theorem deeps_norm : ∀ (a : List PT) (_ : ∀ t ∈ a, deep (norm t) = deep t), deeps (norms a) = deeps a
  | [], _ => by simp [norms]
  | t :: ts, h => by rw [norms, deeps, deeps, h t (by simp), deeps_norm ts (fun u hu => h u (by simp [hu]))]
theorem deep_norm (t : PT) : deep (norm t) = deep t := by
  induction t using PT.ind with
  | h k l ks lo hi ih => rw [norm, deep, deep, deeps_norm ks ih]
theorem kidsOK_norm (k : Int) (ks : List PT) : kidsOK k (norms ks) = kidsOK k ks := by
  unfold kidsOK
  rw [norms_len, norms_map, List.any_map]
  have : ((fun t : PT => decide (t.kind = k)) ∘ norm) = fun t => decide (t.kind = k) := by funext t; simp [norm_kind]
  rw [this]
theorem alone_norm (k : Int) (l : List UInt8) (ks : List PT) (lo hi : Int) : alone k (if edge k = true then l else []) (norms ks) (if k = 9 then lo else 0) (if k = 9 then hi else 0) = alone k l ks lo hi := by
  unfold alone
  rw [kidsOK_norm]
  have h9 : edge 9 = false := by decide
  by_cases e9 : k = 9
  · subst e9; simp [h9]
  · by_cases e : edge k = true <;> simp [e, e9]
theorem cks_norm : ∀ (a : List PT) (_ : ∀ t ∈ a, ck (norm t) = ck t), cks (norms a) = cks a
  | [], _ => by simp [norms]
  | t :: ts, h => by rw [norms, cks, cks, h t (by simp), cks_norm ts (fun u hu => h u (by simp [hu]))]
theorem ck_norm (t : PT) : ck (norm t) = ck t := by
  induction t using PT.ind with
  | h k l ks lo hi ih => rw [norm, ck, ck, alone_norm, cks_norm ks ih]
theorem szk_norm (k n lo hi : Int) : szk k n (if k = 9 then lo else 0) (if k = 9 then hi else 0) = szk k n lo hi := by
  unfold szk
  by_cases e : k = 9 <;> simp [e]
theorem szs_norm : ∀ (a : List PT) (n : Int) (_ : ∀ t ∈ a, sz (norm t) = sz t), szs (norms a) n = szs a n
  | [], n, _ => by simp [norms]
  | t :: ts, n, h => by rw [norms, szs, szs, h t (by simp), szs_norm ts _ (fun u hu => h u (by simp [hu]))]
theorem sz_norm (t : PT) : sz (norm t) = sz t := by
  induction t using PT.ind with
  | h k l ks lo hi ih => rw [norm, sz, sz, szs_norm ks _ ih, szk_norm]
theorem chk_norm (t : PT) : chk (norm t) = chk t := by unfold chk; rw [deep_norm, ck_norm, sz_norm]
theorem txr_norm (s : UInt8) (m : Nat) : ∀ (a : List PT) (_ : ∀ t ∈ a, tx (norm t) = tx t), txr s m (norms a) = txr s m a
  | [], _ => by simp [norms]
  | t :: ts, h => by rw [norms, txr, txr, norm_kind, h t (by simp), txr_norm s m ts (fun u hu => h u (by simp [hu]))]
theorem txs_norm (s : UInt8) (m : Nat) (a : List PT) (h : ∀ t ∈ a, tx (norm t) = tx t) : txs s m (norms a) = txs s m a := by
  cases a with
  | nil => simp [norms]
  | cons t ts => rw [norms, txs, txs, norm_kind, h t (by simp), txr_norm s m ts (fun u hu => h u (by simp [hu]))]
theorem tx_norm (t : PT) : tx (norm t) = tx t := by
  induction t using PT.ind with
  | h k l ks lo hi ih =>
    rw [norm, tx, tx, txs_norm _ _ ks ih, txs_norm _ _ ks ih, txs_norm _ _ ks ih]
    unfold headT edge
    by_cases e2 : k = 2
    · simp [e2]
    by_cases e3 : k = 3
    · simp [e3]
    by_cases e9 : k = 9
    · simp [e9]
    simp [e2, e3, e9]
theorem cks_mem : ∀ {ks : List PT}, cks ks = 0 → ∀ t ∈ ks, ck t = 0
  | t :: ts, h, u, hu => by
    rw [cks] at h
    by_cases e : ck t = 0
    · rw [if_neg (by simp [e])] at h
      rcases List.mem_cons.1 hu with rfl | h'
      · exact e
      · exact cks_mem h u h'
    · rw [if_pos e] at h; exact absurd h e
theorem ck_mk {k : Int} {l : List UInt8} {ks : List PT} {lo hi : Int} (h : ck (.mk k l ks lo hi) = 0) : alone k l ks lo hi = 0 ∧ ∀ t ∈ ks, ck t = 0 := by
  rw [ck] at h
  by_cases e : alone k l ks lo hi = 0
  · rw [if_neg (by simp [e])] at h
    exact ⟨e, cks_mem h⟩
  · rw [if_pos e] at h; exact absurd h e
theorem alone_zero {k : Int} {l : List UInt8} {ks : List PT} {lo hi : Int} (h : alone k l ks lo hi = 0) : kidsOK k ks = true ∧ (edge k = true → labOK l = true) ∧ (k = 9 → repOK lo hi = true) := by
  unfold alone at h
  by_cases e1 : kidsOK k ks = false
  · rw [if_pos e1] at h; cases h
  rw [if_neg e1] at h
  by_cases e2 : edge k = true ∧ labOK l = false
  · rw [if_pos e2] at h; cases h
  rw [if_neg e2] at h
  by_cases e3 : k = 9 ∧ repOK lo hi = false
  · rw [if_pos e3] at h; cases h
  refine ⟨by simpa using e1, fun q => ?_, fun q => ?_⟩
  · by_cases r : labOK l = true
    · exact r
    · exact absurd ⟨q, by simpa using r⟩ e2
  · by_cases r : repOK lo hi = true
    · exact r
    · exact absurd ⟨q, by simpa using r⟩ e3
/-- The shapes of one that may be. -/
theorem shapes {k : Int} {l : List UInt8} {ks : List PT} {lo hi : Int} (h : alone k l ks lo hi = 0) :
    (k = 1 ∧ ks = []) ∨ ((k = 2 ∨ k = 3) ∧ ks = [] ∧ 1 ≤ l.length ∧ l.length ≤ 20) ∨ ((k = 4 ∨ k = 5) ∧ 2 ≤ ks.length ∧ ∀ t ∈ ks, t.kind ≠ k) ∨ ((k = 6 ∨ k = 7 ∨ k = 8) ∧ ∃ t, ks = [t]) ∨ (k = 9 ∧ (∃ t, ks = [t]) ∧ 0 ≤ lo ∧ lo ≤ 8 ∧ (hi = -1 ∨ (lo ≤ hi ∧ 1 ≤ hi ∧ hi ≤ 8))) := by
  obtain ⟨h1, h2, h3⟩ := alone_zero h
  unfold kidsOK at h1
  by_cases c1 : k = 1 ∨ k = 2 ∨ k = 3
  · rw [if_pos c1] at h1
    have hk : ks = [] := by simpa using h1
    rcases c1 with c | c
    · exact Or.inl ⟨c, hk⟩
    · have he : edge k = true := by unfold edge; rcases c with c | c <;> simp [c]
      have := h2 he
      unfold labOK at this
      simp at this
      exact Or.inr (Or.inl ⟨c, hk, this.1, this.2⟩)
  rw [if_neg c1] at h1
  by_cases c2 : k = 4 ∨ k = 5
  · rw [if_pos c2] at h1
    simp at h1
    exact Or.inr (Or.inr (Or.inl ⟨c2, h1.1, fun t ht => h1.2 t ht⟩))
  rw [if_neg c2] at h1
  by_cases c3 : k = 6 ∨ k = 7 ∨ k = 8 ∨ k = 9
  · rw [if_pos c3] at h1
    have hl : ks.length = 1 := by simpa using h1
    obtain ⟨t, rfl⟩ := List.length_eq_one_iff.1 hl
    rcases c3 with c | c | c | c
    · exact Or.inr (Or.inr (Or.inr (Or.inl ⟨Or.inl c, t, rfl⟩)))
    · exact Or.inr (Or.inr (Or.inr (Or.inl ⟨Or.inr (Or.inl c), t, rfl⟩)))
    · exact Or.inr (Or.inr (Or.inr (Or.inl ⟨Or.inr (Or.inr c), t, rfl⟩)))
    · have := h3 c
      unfold repOK at this
      simp at this
      refine Or.inr (Or.inr (Or.inr (Or.inr ⟨c, ⟨t, rfl⟩, ?_⟩)))
      omega
  rw [if_neg c3] at h1
  cases h1
/-- The first byte of a text. -/
def okH : List UInt8 → Prop
  | [] => False
  | c :: _ => c ≠ 41
theorem okH_app {a : List UInt8} (b : List UInt8) (h : okH a) : okH (a ++ b) := by cases a with | nil => cases h | cons c r => exact h
theorem okH_brk {a : List UInt8} (b : Bool) (h : okH a) : okH (brk b a) := by
  unfold brk; split
  · show (40 : UInt8) ≠ 41; decide
  · exact h
theorem okH_name (l : List UInt8) : okH (nameT l) := by
  unfold nameT
  split
  · rename_i h
    unfold isWd at h
    cases l with
    | nil => simp at h
    | cons c r =>
      show c ≠ 41
      rintro rfl
      simp [wordB] at h
  · show (60 : UInt8) ≠ 41; decide
theorem okH_tx (t : PT) (h : ck t = 0) : okH (tx t) := by
  induction t using PT.ind with
  | h k l ks lo hi ih =>
    obtain ⟨ha, hk⟩ := ck_mk h
    have hs : ∀ (s : UInt8) (m : Nat), ks ≠ [] → okH (txs s m ks) := fun s m hne => by
      cases ks with
      | nil => exact absurd rfl hne
      | cons u us => rw [txs_cons]; exact okH_app _ (okH_brk _ (ih u (by simp) (hk u (by simp))))
    rw [tx]
    unfold headT
    rcases shapes ha with ⟨rfl, rfl⟩ | ⟨c, rfl, -⟩ | ⟨c, hl, -⟩ | ⟨c, t, rfl⟩ | ⟨rfl, ⟨t, rfl⟩, -⟩
    · show (40 : UInt8) ≠ 41; decide
    · rcases c with rfl | rfl
      · exact okH_name l
      · show (94 : UInt8) ≠ 41; decide
    · have hne : ks ≠ [] := by rintro rfl; simp at hl
      rcases c with rfl | rfl
      · exact hs _ _ hne
      · exact hs _ _ hne
    · rcases c with rfl | rfl | rfl
      · exact okH_app _ (hs _ _ (by simp))
      · exact okH_app _ (hs _ _ (by simp))
      · exact okH_app _ (hs _ _ (by simp))
    · exact okH_app _ (hs _ _ (by simp))
end Fo
end Go.Proofs.YtbgkfjelgnbfmaaGreatDoor
