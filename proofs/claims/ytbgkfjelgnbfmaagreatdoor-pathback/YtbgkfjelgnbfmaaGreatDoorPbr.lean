/- Texts that are no path's: brackets too many, a bar too many. Free of any program. -/
import Derived.Test.YtbgkfjelgnbfmaaGreatDoorPak
namespace Go.Proofs.YtbgkfjelgnbfmaaGreatDoor
open Go.RowKit Fo
set_option maxRecDepth 100000
set_option linter.unusedSimpArgs false
set_option linter.unusedVariables false

namespace Fo
/-- The last byte of a text. -/
def okE (l : List UInt8) : Prop := ∃ r c, l = r ++ [c] ∧ c ≠ 124
theorem okE_app {a b : List UInt8} (h : okE b) : okE (a ++ b) := by
  obtain ⟨r, c, rfl, hc⟩ := h
  exact ⟨a ++ r, c, by simp, hc⟩
theorem okE_one (c : UInt8) (h : c ≠ 124) (a : List UInt8) : okE (a ++ [c]) := ⟨a, c, rfl, h⟩
theorem okE_brk {b : Bool} {l : List UInt8} (h : okE l) : okE (brk b l) := by
  unfold brk
  split
  · exact ⟨40 :: l, 41, rfl, by decide⟩
  · exact h
theorem okE_name (l : List UInt8) (h : l ≠ []) : okE (nameT l) := by
  unfold nameT
  split
  · rename_i hw
    unfold isWd at hw
    simp only [Bool.and_eq_true] at hw
    refine ⟨l.dropLast, l.getLast h, (List.dropLast_concat_getLast h).symm, fun e => ?_⟩
    have := List.all_eq_true.1 hw.1 _ (List.getLast_mem h)
    rw [e] at this
    revert this; decide
  · exact ⟨60 :: esc l, 62, rfl, by decide⟩
theorem okE_txr (s : UInt8) (m : Nat) : ∀ ts : List PT, (∀ t ∈ ts, okE (tx t)) → ts ≠ [] → okE (txr s m ts)
  | [], _, h => absurd rfl h
  | [t], h, _ => by
    rw [txr_cons]
    have : okE (win m t) := okE_brk (h t (by simp))
    rw [txr, List.append_nil]
    exact okE_app (a := [s]) this
  | t :: u :: us, h, _ => by
    rw [txr_cons]
    have := okE_txr s m (u :: us) (fun v hv => h v (by simp [List.mem_cons.1 hv])) (by simp)
    exact okE_app (a := s :: win m t) this
theorem okE_txs (s : UInt8) (m : Nat) (ts : List PT) (h : ∀ t ∈ ts, okE (tx t)) (h0 : ts ≠ []) : okE (txs s m ts) := by
  cases ts with
  | nil => exact absurd rfl h0
  | cons t us =>
    rw [txs_cons]
    by_cases h1 : us = []
    · subst h1
      rw [txr, List.append_nil]
      exact okE_brk (h t (by simp))
    · exact okE_app (okE_txr s m us (fun v hv => h v (by simp [hv])) h1)
theorem okE_tx (t : PT) : ck t = 0 → okE (tx t) := by
  induction t using PT.ind with
  | h k l ks lo hi ih =>
    intro hc
    obtain ⟨ha, hk⟩ := ck_mk hc
    have hh : ∀ t ∈ ks, okE (tx t) := fun t ht => ih t ht (hk t ht)
    rw [tx]
    unfold headT
    rcases shapes ha with ⟨rfl, rfl⟩ | ⟨c, rfl, l1, -⟩ | ⟨c, hl, -⟩ | ⟨c, t, rfl⟩ | ⟨rfl, ⟨t, rfl⟩, -⟩
    · exact ⟨[40], 41, rfl, by decide⟩
    · have hl : l ≠ [] := by rintro rfl; simp at l1
      rcases c with rfl | rfl
      · exact okE_name l hl
      · exact okE_app (a := [94]) (okE_name l hl)
    · have hne : ks ≠ [] := by rintro rfl; simp at hl
      rcases c with rfl | rfl
      · exact okE_txs _ _ _ hh hne
      · exact okE_txs _ _ _ hh hne
    · rcases c with rfl | rfl | rfl
      · exact okE_one _ (by decide) _
      · exact okE_one _ (by decide) _
      · exact okE_one _ (by decide) _
    · exact okE_app ⟨123 :: (dg lo ++ 44 :: (if hi = -1 then [] else dg hi)), 125, by unfold repT; simp, by decide⟩
theorem par_bar (t : PT) (h : chk t = 0) : parM (tx t ++ [124]) = (PT.zero, 3) := by
  have hl := chk_len h
  refine parM_no (by simp; omega) fun t' h' e => ?_
  obtain ⟨r, c, h1, h2⟩ := okE_tx t' (chk_zero h').2.1
  rw [e] at h1
  have := congrArg List.getLast? h1
  simp at this
  exact h2 this.symm
theorem par_both (t : PT) (h : chk t = 0) : parM (40 :: (tx t ++ [41])) = (PT.zero, 3) := by
  have hl := chk_len h
  have hc := (chk_zero h).2.1
  refine parM_no (by simp; omega) fun t' h' e => ?_
  obtain ⟨n, hn⟩ : ∃ n, n = 4 * (tx t).length + 40 := ⟨_, rfl⟩
  have hA := read_back RP rp_ok t hc n [41] (by show st0 41 = false; decide) (by simp; omega)
  have hB := read_brk RP t hc n [] hA
  have h2 : G RP (n + 2) 2 (40 :: (tx t ++ [41])) = .ok (norm t, []) := by
    rw [sgn_of (R := RP) (t := t) hB]; rfl
  have h1 : G RP (n + 3) 1 (40 :: (tx t ++ [41])) = .ok (norm t, []) := by
    rw [G1]; exact lst_one h2 trivial
  have h0 : G RP (n + 4) 0 (40 :: (tx t ++ [41])) = .ok (norm t, []) := by
    rw [G0]; exact lst_one h1 trivial
  have hb := read_back RP rp_ok t' (chk_zero h').2.1 (n + 4) [] trivial (by rw [e]; simp; omega)
  rw [List.append_nil, e, h0] at hb
  injection hb with hb; injection hb with hb _
  have : tx t = tx t' := by rw [← tx_norm t, hb, tx_norm]
  rw [e] at this
  have := congrArg List.length this
  simp at this
  omega
theorem par_left (t : PT) (h : chk t = 0) : parM (40 :: tx t) = (PT.zero, 3) := by
  have hl := chk_len h
  have hc := (chk_zero h).2.1
  refine parM_no (by simp; omega) fun t' h' e => ?_
  obtain ⟨n, hn⟩ : ∃ n, n = 4 * (tx t).length + 40 := ⟨_, rfl⟩
  have hA := read_back RP rp_ok t hc n [] trivial (by simp; omega)
  rw [List.append_nil] at hA
  have hh := okH_tx t hc
  have h3 : ∃ er : Nat, G RP (n + 1) 3 (40 :: tx t) = .error er := by
    rw [G3]
    cases he : tx t with
    | nil => rw [he] at hh; cases hh
    | cons c s =>
      rw [he] at hh hA
      have hc41 : ¬ c = 41 := hh
      refine ⟨0, ?_⟩
      unfold single
      simp only []
      rw [if_neg (by decide), if_pos trivial, if_neg hc41, hA]
      rfl
  obtain ⟨er, h3⟩ := h3
  have h2 : G RP (n + 2) 2 (40 :: tx t) = .error er := by rw [G2]; unfold sgn; rw [h3]
  have h1 : G RP (n + 3) 1 (40 :: tx t) = .error er := by rw [G1]; unfold lstG; rw [h2]
  have h0 : G RP (n + 4) 0 (40 :: tx t) = .error er := by rw [G0]; unfold lstG; rw [h1]
  have hb := read_back RP rp_ok t' (chk_zero h').2.1 (n + 4) [] trivial (by rw [e]; simp; omega)
  rw [List.append_nil, e, h0] at hb
  cases hb
/-- As strings are held against each other. -/
theorem str_beq (a b : List UInt8) : ((str a).toList == (str b).toList) = decide (a = b) := by
  rw [ByteArray.toList_eq, ByteArray.toList_eq]
  have e : ∀ l : List UInt8, (str l).data.toList = l := fun l => by simp [str]
  rw [e, e]
  by_cases h : a = b
  · subst h; simp
  · simp [h]
def epsT : PT := .mk 1 [] [] 0 0
theorem par_eps : parM [40, 41] = (epsT, 0) := by
  have := parM_tx epsT (by decide +kernel)
  rwa [show tx epsT = [40, 41] from rfl, show norm epsT = epsT from rfl] at this
end Fo
end Go.Proofs.YtbgkfjelgnbfmaaGreatDoor
