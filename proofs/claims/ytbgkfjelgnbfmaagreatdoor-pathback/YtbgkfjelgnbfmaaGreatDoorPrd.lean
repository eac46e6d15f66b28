/- A reader of paths' texts, and that it reads what was written. Free of any program. -/
import Derived.Test.YtbgkfjelgnbfmaaGreatDoorPth
namespace Go.Proofs.YtbgkfjelgnbfmaaGreatDoor
open Go.RowKit
set_option maxRecDepth 100000
set_option linter.unusedVariables false
set_option linter.unusedSimpArgs false

namespace Fo
/-- How bounds and names are read. -/
structure Rdr where
  bnd : List UInt8 → Except Nat (Int × Int × List UInt8)
  nam : List UInt8 → Except Nat (List UInt8 × List UInt8)
abbrev Rs := Except Nat (PT × List UInt8)
def more (one : List UInt8 → Rs) (sign : UInt8) : Nat → List PT → List UInt8 → Except Nat (List PT × List UInt8)
  | 0, acc, s => .ok (acc, s)
  | n + 1, acc, s => match s with
    | [] => .ok (acc, [])
    | c :: r => if c = sign then (match one r with | .error e => .error e | .ok (t, r') => more one sign n (acc ++ [t]) r') else .ok (acc, c :: r)
/-- One alone is itself. -/
def outL (k : Int) : List PT → PT
  | [t] => t
  | ts => .mk k [] ts 0 0
def lstG (k : Int) (sign : UInt8) (one : List UInt8 → Rs) (s : List UInt8) : Rs :=
  match one s with
  | .error e => .error e
  | .ok (t, r) => match more one sign (r.length + 1) [t] r with
    | .error e => .error e
    | .ok (ts, r') => .ok (outL k ts, r')
def ovr (k : Int) (p : PT) : PT := .mk k [] [p] 0 0
def post (R : Rdr) : Nat → PT → List UInt8 → Rs
  | 0, p, s => .ok (p, s)
  | n + 1, p, s => match s with
    | [] => .ok (p, [])
    | c :: r =>
      if c = 42 then post R n (ovr 6 p) r
      else if c = 43 then post R n (ovr 7 p) r
      else if c = 63 then post R n (ovr 8 p) r
      else if c = 123 then (match R.bnd r with | .error e => .error e | .ok (lo, hi, r') => post R n (.mk 9 [] [p] lo hi) r')
      else .ok (p, c :: r)
/-- What is behind a bracket that was opened. -/
def inBr (alt : List UInt8 → Rs) : List UInt8 → Rs
  | [] => alt []
  | c :: r => if c = 41 then .ok (.mk 1 [] [] 0 0, r) else alt (c :: r)
def shutB : Rs → Rs
  | .error e => .error e
  | .ok (_, []) => .error 0
  | .ok (p, c :: r) => if c = 41 then .ok (p, r) else .error (r.length + 1)
def named (R : Rdr) (k : Int) (s : List UInt8) : Rs := match R.nam s with | .error e => .error e | .ok (l, r) => .ok (.mk k l [] 0 0, r)
def single (R : Rdr) (alt : List UInt8 → Rs) : List UInt8 → Rs
  | [] => named R 2 []
  | c :: r => if c = 94 then named R 3 r else if c = 40 then (match r with | [] => shutB (alt []) | d :: r' => if d = 41 then .ok (.mk 1 [] [] 0 0, r') else shutB (alt (d :: r'))) else named R 2 (c :: r)
def sgn (R : Rdr) (one : List UInt8 → Rs) (s : List UInt8) : Rs := match one s with | .error e => .error e | .ok (p, r) => post R (r.length + 1) p r
/-- The reader: 0 what is one of, 1 what stands one behind the other, 2 what is repeated, 3 one. -/
def G (R : Rdr) : Nat → Nat → List UInt8 → Rs
  | 0, _, s => .error s.length
  | n + 1, lev, s => match lev with
    | 0 => lstG 5 124 (G R n 1) s
    | 1 => lstG 4 47 (G R n 2) s
    | 2 => sgn R (G R n 3) s
    | _ => single R (G R n 0) s
theorem G0 (R : Rdr) (n : Nat) (s : List UInt8) : G R (n + 1) 0 s = lstG 5 124 (G R n 1) s := rfl
theorem G1 (R : Rdr) (n : Nat) (s : List UInt8) : G R (n + 1) 1 s = lstG 4 47 (G R n 2) s := rfl
theorem G2 (R : Rdr) (n : Nat) (s : List UInt8) : G R (n + 1) 2 s = sgn R (G R n 3) s := rfl
theorem G3 (R : Rdr) (n : Nat) (s : List UInt8) : G R (n + 1) 3 s = single R (G R n 0) s := rfl
/-- The first byte is none of these. -/
def stops (bs : UInt8 → Bool) : List UInt8 → Prop
  | [] => True
  | c :: _ => bs c = false
def st3 (c : UInt8) : Bool := wordB c
def st2 (c : UInt8) : Bool := wordB c || decide (c = 42) || decide (c = 43) || decide (c = 63) || decide (c = 123)
def st1 (c : UInt8) : Bool := st2 c || decide (c = 47)
def st0 (c : UInt8) : Bool := st1 c || decide (c = 124)
theorem stops_mono {f g : UInt8 → Bool} {s : List UInt8} (h : ∀ c, f c = false → g c = false) (k : stops f s) : stops g s := by cases s with | nil => trivial | cons c r => exact h c k
theorem st01 {s : List UInt8} (h : stops st0 s) : stops st1 s := stops_mono (fun c h => by unfold st0 at h; simp at h ⊢; exact h.1) h
theorem st12 {s : List UInt8} (h : stops st1 s) : stops st2 s := stops_mono (fun c h => by unfold st1 at h; simp at h ⊢; exact h.1) h
theorem st23 {s : List UInt8} (h : stops st2 s) : stops st3 s := stops_mono (fun c h => by unfold st2 at h; unfold st3; simp at h ⊢; exact h.1.1.1.1) h
/-- A reader that reads what is written. -/
structure RdrOk (R : Rdr) : Prop where
  nam : ∀ (l r : List UInt8), l ≠ [] → stops st3 r → R.nam (nameT l ++ r) = .ok (l, r)
  bnd : ∀ (lo hi : Int) (r : List UInt8), 0 ≤ lo → lo ≤ 8 → (hi = -1 ∨ (1 ≤ hi ∧ hi ≤ 8)) → R.bnd (dg lo ++ 44 :: ((if hi = -1 then [] else dg hi) ++ 125 :: r)) = .ok (lo, hi, r)
  bndL : ∀ {s r : List UInt8} {lo hi : Int}, R.bnd s = .ok (lo, hi, r) → r.length < s.length
theorem more_end (one : List UInt8 → Rs) (sign : UInt8) (n : Nat) (acc : List PT) (s : List UInt8) (h : stops (fun c => decide (c = sign)) s) : more one sign n acc s = .ok (acc, s) := by
  cases n with
  | zero => rfl
  | succ n =>
    cases s with
    | nil => rfl
    | cons c r =>
      have : ¬ c = sign := by simpa [stops] using h
      simp [more, this]
theorem more_many (one : List UInt8 → Rs) (sign : UInt8) (m : Nat) (rest : List UInt8) (hr : stops (fun c => decide (c = sign)) rest) : ∀ (ts acc : List PT) (n : Nat), ts.length < n →
    (∀ (t : PT), t ∈ ts → ∀ r : List UInt8, (win m t).length + r.length ≤ (txr sign m ts).length + rest.length → (r = rest ∨ ∃ r', r = sign :: r') → one (win m t ++ r) = .ok (norm t, r)) →
    more one sign n acc (txr sign m ts ++ rest) = .ok (acc ++ norms ts, rest)
  | [], acc, n, _, _ => by rw [txr]; simp only [List.nil_append, norms, List.append_nil]; exact more_end one sign n acc rest hr
  | t :: ts, acc, n, hn, h => by
    obtain ⟨n', rfl⟩ : ∃ n', n = n' + 1 := ⟨n - 1, by simp at hn; omega⟩
    rw [txr_cons] at h ⊢
    have h1 := h t (by simp) (txr sign m ts ++ rest) (by simp; omega) (by
      cases ts with
      | nil => left; rw [txr]; rfl
      | cons u us => right; exact ⟨_, by rw [txr_cons]; rfl⟩)
    simp only [List.cons_append, List.append_assoc, more, if_true, h1]
    rw [more_many one sign m rest hr ts (acc ++ [norm t]) n' (by simp at hn; omega) (fun u hu r hl => h u (by simp [hu]) r (by simp; omega))]
    rw [norms]; simp
theorem post_more (R : Rdr) (hR : RdrOk R) : ∀ (n m : Nat) (p : PT) (s : List UInt8), s.length < n → s.length < m → post R n p s = post R m p s
  | 0, _, _, _, h, _ => by omega
  | _ + 1, 0, _, _, _, h => by omega
  | n + 1, m + 1, p, s, h1, h2 => by
    cases s with
    | nil => rfl
    | cons c r =>
      simp only [List.length_cons] at h1 h2
      simp only [post]
      rw [post_more R hR n m (ovr 6 p) r (by omega) (by omega), post_more R hR n m (ovr 7 p) r (by omega) (by omega), post_more R hR n m (ovr 8 p) r (by omega) (by omega)]
      cases hb : R.bnd r with
      | error e => rfl
      | ok q =>
        obtain ⟨lo, hi, r'⟩ := q
        have := hR.bndL hb
        simp only
        rw [post_more R hR n m (.mk 9 [] [p] lo hi) r' (by omega) (by omega)]
theorem post_stop (R : Rdr) (n : Nat) (p : PT) (s : List UInt8) (h : stops st2 s) : post R n p s = .ok (p, s) := by
  cases n with
  | zero => rfl
  | succ n =>
    cases s with
    | nil => rfl
    | cons c r =>
      have h' : st2 c = false := h
      unfold st2 at h'
      simp at h'
      simp [post, h']
theorem bnd_lt3 (t : PT) : (bnd t.kind < 3 ∧ (t.kind = 4 ∨ t.kind = 5)) ∨ (bnd t.kind = 3 ∧ t.kind ≠ 4 ∧ t.kind ≠ 5) := by
  unfold bnd
  by_cases h5 : t.kind = 5
  · left; simp [h5]
  by_cases h4 : t.kind = 4
  · left; simp [h4]
  right; simp [h5, h4]
theorem win_brk {m : Nat} {t : PT} (h : bnd t.kind < m) : win m t = 40 :: (tx t ++ [41]) := by unfold win; rw [decide_eq_true h]; rfl
theorem win_bare {m : Nat} {t : PT} (h : ¬ bnd t.kind < m) : win m t = tx t := by unfold win; rw [decide_eq_false h]; rfl
theorem txr_len (s : UInt8) (m : Nat) : ∀ ts : List PT, ts.length ≤ (txr s m ts).length
  | [] => Nat.zero_le _
  | t :: ts => by rw [txr_cons]; have := txr_len s m ts; simp; omega
section
variable (R : Rdr) (hR : RdrOk R)
include hR
omit hR in
/-- What stands in brackets. -/
theorem read_brk (t : PT) (h : ck t = 0) (n : Nat) (r : List UInt8) (hA : G R n 0 (tx t ++ 41 :: r) = .ok (norm t, 41 :: r)) : G R (n + 1) 3 (40 :: (tx t ++ 41 :: r)) = .ok (norm t, r) := by
  rw [G3]
  have hh := okH_tx t h
  cases he : tx t with
  | nil => rw [he] at hh; cases hh
  | cons c s =>
    rw [he] at hh hA
    have hc : ¬ c = 41 := hh
    simp only [single, List.cons_append] at hA ⊢
    rw [if_neg (by decide), if_pos trivial, if_neg hc, hA]
    simp [shutB]
/-- What a tree's readings are. -/
structure Rt (t : PT) : Prop where
  a : ∀ (n : Nat) (r : List UInt8), stops st0 r → 4 * ((tx t).length + r.length) + 4 ≤ n → G R n 0 (tx t ++ r) = .ok (norm t, r)
  b : ∀ (n : Nat) (r : List UInt8), stops st1 r → 4 * ((win 2 t).length + r.length) + 3 ≤ n → G R n 1 (win 2 t ++ r) = .ok (norm t, r)
  c : ∀ (n : Nat) (r : List UInt8), stops st3 r → 4 * ((win 3 t).length + r.length) + 2 ≤ n → G R n 2 (win 3 t ++ r) = post R (r.length + 1) (norm t) r
omit hR in
theorem lst_one {k : Int} {sign : UInt8} {one : List UInt8 → Rs} {s r : List UInt8} {p : PT} (h : one s = .ok (p, r)) (hr : stops (fun c => decide (c = sign)) r) : lstG k sign one s = .ok (p, r) := by
  unfold lstG
  rw [h]
  simp only
  rw [more_end one sign _ _ _ hr]
  rfl
omit hR in
theorem stops_sign {f : UInt8 → Bool} {sign : UInt8} {r : List UInt8} (hf : f sign = true) (h : stops f r) : stops (fun c => decide (c = sign)) r := by
  cases r with
  | nil => trivial
  | cons c r =>
    show decide (c = sign) = false
    have h' : f c = false := h
    simp
    rintro rfl
    rw [hf] at h'; cases h'
omit hR in
theorem lst_many {k : Int} {sign : UInt8} {one : List UInt8 → Rs} {m : Nat} {ts : List PT} {r : List UInt8} (h2 : 2 ≤ ts.length) (hr : stops (fun c => decide (c = sign)) r)
    (h : ∀ (t : PT), t ∈ ts → ∀ r' : List UInt8, r'.length + (win m t).length ≤ (txs sign m ts).length + r.length → (r' = r ∨ ∃ x, r' = sign :: x) → one (win m t ++ r') = .ok (norm t, r')) : lstG k sign one (txs sign m ts ++ r) = .ok (.mk k [] (norms ts) 0 0, r) := by
  match ts, h2 with
  | t :: u :: us, _ =>
    rw [txs_cons]
    unfold lstG
    have hlen : (txs sign m (t :: u :: us)).length = (win m t).length + (txr sign m (u :: us)).length := by rw [txs_cons]; simp
    rw [List.append_assoc, h t (by simp) (txr sign m (u :: us) ++ r) (by rw [hlen]; simp; omega) (Or.inr ⟨_, by rw [txr_cons]; rfl⟩)]
    simp only
    rw [more_many one sign m r hr (u :: us) [norm t] ((txr sign m (u :: us) ++ r).length + 1) (by
      have := txr_len sign m (u :: us)
      simp at this ⊢; omega) (fun v hv r' hl he => h v (by simp [List.mem_cons.1 hv]) r' (by rw [hlen]; omega) he)]
    rw [norms, norms]
    rfl
theorem named_ok (k : Int) (l r : List UInt8) (h : l ≠ []) (hr : stops st3 r) : named R k (nameT l ++ r) = .ok (.mk k l [] 0 0, r) := by
  unfold named
  rw [hR.nam l r h hr]
omit hR in
theorem nameT_head (l : List UInt8) : ∃ c s, nameT l = c :: s ∧ c ≠ 94 ∧ c ≠ 40 := by
  unfold nameT
  split
  · rename_i h
    unfold isWd at h
    cases l with
    | nil => simp at h
    | cons c r =>
      refine ⟨c, r, rfl, ?_, ?_⟩
      · rintro rfl; simp [wordB] at h
      · rintro rfl; simp [wordB] at h
  · exact ⟨60, _, rfl, by decide, by decide⟩
omit hR in
/-- From a reading of level 3 to one of level 2. -/
theorem sgn_of {t : PT} {n : Nat} {s r : List UInt8} (h : G R n 3 s = .ok (norm t, r)) : G R (n + 1) 2 s = post R (r.length + 1) (norm t) r := by
  rw [G2]
  unfold sgn
  rw [h]
theorem rt (t : PT) : ck t = 0 → Rt R t := by
  induction t using PT.ind with
  | h k l ks lo hi ih =>
    intro h
    obtain ⟨ha, hk⟩ := ck_mk h
    have ih' : ∀ u ∈ ks, Rt R u := fun u hu => ih u hu (hk u hu)
    have hsh := shapes ha
    obtain ⟨T, hT⟩ : ∃ T, T = tx (.mk k l ks lo hi) := ⟨_, rfl⟩
    -- level 2 of what is not in brackets
    have hC3 : k ≠ 4 → k ≠ 5 → ∀ (n : Nat) (r : List UInt8), stops st3 r → 4 * ((tx (.mk k l ks lo hi)).length + r.length) + 2 ≤ n → G R n 2 (tx (.mk k l ks lo hi) ++ r) = post R (r.length + 1) (norm (.mk k l ks lo hi)) r := by
      intro h4 h5 n r hr hn
      obtain ⟨n', rfl⟩ : ∃ n', n = n' + 1 := ⟨n - 1, by omega⟩
      rcases hsh with ⟨rfl, rfl⟩ | ⟨c, rfl, l1, -⟩ | ⟨c, -⟩ | ⟨c, u, rfl⟩ | ⟨rfl, ⟨u, rfl⟩, b1, b2, b3⟩
      · obtain ⟨n'', rfl⟩ : ∃ n'', n' = n'' + 1 := ⟨n' - 1, by omega⟩
        refine sgn_of R ?_
        rfl
      · obtain ⟨n'', rfl⟩ : ∃ n'', n' = n'' + 1 := ⟨n' - 1, by omega⟩
        refine sgn_of R ?_
        have hl : l ≠ [] := by rintro rfl; simp at l1
        rw [G3]
        rcases c with rfl | rfl
        · obtain ⟨c, s, e, c1, c2⟩ := nameT_head l
          have hn := named_ok R hR 2 l r hl hr
          have htx : tx (.mk 2 l [] lo hi) = nameT l := by rw [tx]; rfl
          rw [htx]
          rw [e] at hn ⊢
          simp only [List.cons_append, single, c1, c2, if_false] at hn ⊢
          rw [hn]
          rfl
        · have hn := named_ok R hR 3 l r hl hr
          have htx : tx (.mk 3 l [] lo hi) = 94 :: nameT l := by rw [tx]; rfl
          rw [htx]
          simp only [List.cons_append, single, if_true]
          rw [hn]
          rfl
      · exfalso; rcases c with c | c
        · exact h4 c
        · exact h5 c
      · have hu := ih' u (by simp)
        have one : ∀ (c : UInt8), wordB c = false → tx (.mk k l [u] lo hi) = win 3 u ++ [c] → (∀ (m : Nat) (s : List UInt8), post R (m + 1) (norm u) (c :: s) = post R m (norm (.mk k l [u] lo hi)) s) → G R (n' + 1) 2 (tx (.mk k l [u] lo hi) ++ r) = post R (r.length + 1) (norm (.mk k l [u] lo hi)) r := fun c hw ht hp => by
          rw [ht] at hn ⊢
          rw [List.append_assoc]
          simp only [List.length_append, List.length_cons, List.length_nil] at hn
          rw [hu.c (n' + 1) ([c] ++ r) hw (by simp; omega)]
          exact hp _ _
        have ht : tx (.mk k l [u] lo hi) = headT k l (txs 47 2 [u]) (txs 124 1 [u]) (win 3 u) lo hi := by
          rw [tx, txs_cons 0 3]; simp [txr]
        rcases c with rfl | rfl | rfl
        · exact one 42 (by decide) (by rw [ht]; rfl) (fun m s => by simp [post, ovr, norm, norms, edge])
        · exact one 43 (by decide) (by rw [ht]; rfl) (fun m s => by simp [post, ovr, norm, norms, edge])
        · exact one 63 (by decide) (by rw [ht]; rfl) (fun m s => by simp [post, ovr, norm, norms, edge])
      · have hu := ih' u (by simp)
        have ht : tx (.mk 9 l [u] lo hi) = win 3 u ++ repT lo hi := by
          rw [tx, txs_cons 0 3]; simp [txr, headT]
        rw [ht] at hn ⊢
        rw [List.append_assoc]
        simp only [List.length_append] at hn
        rw [hu.c (n' + 1) (repT lo hi ++ r) (by show wordB 123 = false; decide) (by simp; omega)]
        have hb := hR.bnd lo hi r b1 b2 (by omega)
        have he : repT lo hi ++ r = 123 :: (dg lo ++ 44 :: ((if hi = -1 then [] else dg hi) ++ 125 :: r)) := by unfold repT; simp
        have hp : ∀ (m : Nat) (p : PT) (s : List UInt8), post R (m + 1) p (123 :: s) = (match R.bnd s with | .error e => .error e | .ok (lo, hi, r') => post R m (.mk 9 [] [p] lo hi) r') := fun m p s => by simp [post]
        rw [he, hp, hb]
        simp only
        rw [post_more R hR _ (r.length + 1) _ r (by simp; omega) (by omega)]
        simp [norm, norms, edge]
    -- bracketed, from level 0
    have hBr : ∀ (hA : ∀ (n : Nat) (r : List UInt8), stops st0 r → 4 * ((tx (.mk k l ks lo hi)).length + r.length) + 4 ≤ n → G R n 0 (tx (.mk k l ks lo hi) ++ r) = .ok (norm (.mk k l ks lo hi), r)) (n : Nat) (r : List UInt8), 4 * ((tx (.mk k l ks lo hi)).length + 2 + r.length) + 2 ≤ n → G R n 2 (40 :: (tx (.mk k l ks lo hi) ++ [41]) ++ r) = post R (r.length + 1) (norm (.mk k l ks lo hi)) r := by
      intro hA n r hn
      obtain ⟨n', rfl⟩ : ∃ n', n = n' + 2 := ⟨n - 2, by omega⟩
      refine sgn_of R (n := n' + 1) ?_
      have := read_brk R (.mk k l ks lo hi) h n' r (hA n' (41 :: r) (by show st0 41 = false; decide) (by simp; omega))
      simpa using this
    by_cases h45 : k = 4 ∨ k = 5
    · obtain ⟨h2, hne⟩ : 2 ≤ ks.length ∧ ∀ t ∈ ks, t.kind ≠ k := by
        rcases hsh with ⟨rfl, rfl⟩ | ⟨c, rfl, l1, -⟩ | ⟨c, h2, h3⟩ | ⟨c, u, rfl⟩ | ⟨rfl, -⟩
        · omega
        · omega
        · exact ⟨h2, h3⟩
        · omega
        · omega
      have hnm : norm (.mk k l ks lo hi) = .mk k [] (norms ks) 0 0 := by
        rw [norm]
        rcases h45 with rfl | rfl <;> simp [edge]
      rcases h45 with rfl | rfl
      · -- one behind the other
        have htx : tx (.mk 4 l ks lo hi) = txs 47 2 ks := by rw [tx]; rfl
        have hB : ∀ (n : Nat) (r : List UInt8), stops st1 r → 4 * ((tx (.mk 4 l ks lo hi)).length + r.length) + 3 ≤ n → G R n 1 (tx (.mk 4 l ks lo hi) ++ r) = .ok (norm (.mk 4 l ks lo hi), r) := by
          intro n r hr hn
          obtain ⟨n', rfl⟩ : ∃ n', n = n' + 1 := ⟨n - 1, by omega⟩
          rw [G1, hnm]
          rw [htx] at hn ⊢
          refine lst_many h2 (stops_sign (by decide) hr) fun u hu r' hl he => ?_
          have hw : win 2 u = win 3 u := by
            have hk4 := hne u hu
            unfold win bnd
            by_cases h5 : u.kind = 5
            · simp [h5]
            · simp [h5, hk4]
          have hs2 : stops st2 r' := by
            rcases he with rfl | ⟨x, rfl⟩
            · exact st12 hr
            · show st2 47 = false; decide
          rw [hw] at hl ⊢
          rw [(ih' u hu).c n' r' (st23 hs2) (by omega)]
          exact post_stop R _ _ _ hs2
        have hA : ∀ (n : Nat) (r : List UInt8), stops st0 r → 4 * ((tx (.mk 4 l ks lo hi)).length + r.length) + 4 ≤ n → G R n 0 (tx (.mk 4 l ks lo hi) ++ r) = .ok (norm (.mk 4 l ks lo hi), r) := by
          intro n r hr hn
          obtain ⟨n', rfl⟩ : ∃ n', n = n' + 1 := ⟨n - 1, by omega⟩
          rw [G0]
          exact lst_one (hB n' r (st01 hr) (by omega)) (stops_sign (by decide) hr)
        refine ⟨hA, ?_, ?_⟩
        · intro n r hr hn
          rw [win_bare (by show ¬ bnd 4 < 2; decide)] at hn ⊢
          exact hB n r hr hn
        · intro n r hr hn
          rw [win_brk (by show bnd 4 < 3; decide)] at hn ⊢
          simp only [List.length_cons, List.length_append, List.length_nil] at hn
          exact hBr hA n r (by omega)
      · -- one of
        have htx : tx (.mk 5 l ks lo hi) = txs 124 1 ks := by rw [tx]; rfl
        have hA : ∀ (n : Nat) (r : List UInt8), stops st0 r → 4 * ((tx (.mk 5 l ks lo hi)).length + r.length) + 4 ≤ n → G R n 0 (tx (.mk 5 l ks lo hi) ++ r) = .ok (norm (.mk 5 l ks lo hi), r) := by
          intro n r hr hn
          obtain ⟨n', rfl⟩ : ∃ n', n = n' + 1 := ⟨n - 1, by omega⟩
          rw [G0, hnm]
          rw [htx] at hn ⊢
          refine lst_many h2 (stops_sign (by decide) hr) fun u hu r' hl he => ?_
          have hw : win 1 u = win 2 u := by
            have hk5 := hne u hu
            unfold win bnd
            by_cases h4 : u.kind = 4
            · simp [h4]
            · simp [hk5, h4]
          have hs1 : stops st1 r' := by
            rcases he with rfl | ⟨x, rfl⟩
            · exact st01 hr
            · show st1 124 = false; decide
          rw [hw] at hl ⊢
          exact (ih' u hu).b n' r' hs1 (by omega)
        have hC : ∀ (n : Nat) (r : List UInt8), 4 * ((tx (.mk 5 l ks lo hi)).length + 2 + r.length) + 2 ≤ n → G R n 2 (40 :: (tx (.mk 5 l ks lo hi) ++ [41]) ++ r) = post R (r.length + 1) (norm (.mk 5 l ks lo hi)) r := hBr hA
        refine ⟨hA, ?_, ?_⟩
        · intro n r hr hn
          rw [win_brk (by show bnd 5 < 2; decide)] at hn ⊢
          simp only [List.length_cons, List.length_append, List.length_nil] at hn
          obtain ⟨n', rfl⟩ : ∃ n', n = n' + 1 := ⟨n - 1, by omega⟩
          rw [G1]
          refine lst_one ?_ (stops_sign (by decide) hr)
          rw [hC n' r (by omega)]
          exact post_stop R _ _ _ (st12 hr)
        · intro n r hr hn
          rw [win_brk (by show bnd 5 < 3; decide)] at hn ⊢
          simp only [List.length_cons, List.length_append, List.length_nil] at hn
          exact hC n r (by omega)
    · have h4 : k ≠ 4 := fun e => h45 (Or.inl e)
      have h5 : k ≠ 5 := fun e => h45 (Or.inr e)
      have hC := hC3 h4 h5
      have hb3 : bnd k = 3 := by unfold bnd; rw [if_neg h5, if_neg h4]
      have hB : ∀ (n : Nat) (r : List UInt8), stops st1 r → 4 * ((tx (.mk k l ks lo hi)).length + r.length) + 3 ≤ n → G R n 1 (tx (.mk k l ks lo hi) ++ r) = .ok (norm (.mk k l ks lo hi), r) := by
        intro n r hr hn
        obtain ⟨n', rfl⟩ : ∃ n', n = n' + 1 := ⟨n - 1, by omega⟩
        rw [G1]
        refine lst_one ?_ (stops_sign (by decide) hr)
        rw [hC n' r (st23 (st12 hr)) (by omega)]
        exact post_stop R _ _ _ (st12 hr)
      refine ⟨?_, ?_, ?_⟩
      · intro n r hr hn
        obtain ⟨n', rfl⟩ : ∃ n', n = n' + 1 := ⟨n - 1, by omega⟩
        rw [G0]
        exact lst_one (hB n' r (st01 hr) (by omega)) (stops_sign (by decide) hr)
      · intro n r hr hn
        rw [win_bare (by show ¬ bnd k < 2; omega)] at hn ⊢
        exact hB n r hr hn
      · intro n r hr hn
        rw [win_bare (by show ¬ bnd k < 3; omega)] at hn ⊢
        exact hC n r hr hn
/-- WHAT IS WRITTEN IS READ. -/
theorem read_back (t : PT) (h : ck t = 0) (n : Nat) (r : List UInt8) (hr : stops st0 r) (hn : 4 * ((tx t).length + r.length) + 4 ≤ n) : G R n 0 (tx t ++ r) = .ok (norm t, r) := (rt R hR t h).a n r hr hn
end
end Fo
end Go.Proofs.YtbgkfjelgnbfmaaGreatDoor
