/- What Parse answers, in the words of texts; the laws' awake. -/
import Derived.Test.YtbgkfjelgnbfmaaGreatDoorPse
namespace Go.Proofs.YtbgkfjelgnbfmaaGreatDoor
open Go.RowKit Fo
set_option maxRecDepth 100000
set_option linter.unusedSimpArgs false
set_option linter.unusedVariables false

namespace Fo
theorem readM_nil : ∃ n, readM [] = .error n := ⟨0, rfl⟩
theorem readM_ok {s : List UInt8} {t : PT} (h : readM s = .ok t) : chk t = 0 ∧ tx t = s := by
  have h0 := h
  unfold readM at h
  cases h1 : G RP (4 * s.length + 4) 0 s with
  | error e => rw [h1] at h; cases h
  | ok q =>
    obtain ⟨t', r⟩ := q
    rw [h1] at h
    simp only at h
    by_cases h2 : txt t' = s
    · rw [if_pos h2] at h
      injection h with h
      subst h
      unfold txt at h2
      by_cases h3 : chk t' = 0
      · rw [if_pos h3] at h2; exact ⟨h3, h2⟩
      · rw [if_neg h3] at h2
        subst h2
        obtain ⟨n, hn⟩ := readM_nil
        rw [hn] at h0; cases h0
    · rw [if_neg h2] at h; cases h
theorem readM_tx (t : PT) (h : chk t = 0) : readM (tx t) = .ok (norm t) := by
  obtain ⟨-, h2, -⟩ := chk_zero h
  have hb := read_back RP rp_ok t h2 (4 * (tx t).length + 4) [] trivial (by simp)
  rw [List.append_nil] at hb
  unfold readM
  rw [hb]
  simp only
  have : txt (norm t) = tx t := by unfold txt; rw [chk_norm, if_pos h, tx_norm]
  rw [if_pos this]
theorem parM_tx (t : PT) (h : chk t = 0) : parM (tx t) = (norm t, 0) := by
  have := chk_len h
  unfold parM
  rw [if_neg (by omega), readM_tx t h]
theorem parM_ok {s : List UInt8} (h : (parM s).2 = 0) : chk (parM s).1 = 0 ∧ tx (parM s).1 = s ∧ s.length ≤ 4000 := by
  unfold parM at h ⊢
  by_cases h1 : 4000 < s.length
  · rw [if_pos h1] at h; cases h
  · rw [if_neg h1] at h ⊢
    cases h2 : readM s with
    | error e => rw [h2] at h; cases h
    | ok t =>
      obtain ⟨a, b⟩ := readM_ok h2
      exact ⟨a, b, by omega⟩
/-- What isn't read is refused: too long, or no path's text. -/
theorem parM_no {s : List UInt8} (h1 : s.length ≤ 4000) (h2 : ∀ t, chk t = 0 → tx t ≠ s) : parM s = (PT.zero, 3) := by
  unfold parM
  rw [if_neg (by omega)]
  cases h : readM s with
  | error e => rfl
  | ok t => obtain ⟨a, b⟩ := readM_ok h; exact absurd b (h2 t a)
theorem parM_cases (s : List UInt8) : ((parM s).2 = 0 ∧ chk (parM s).1 = 0 ∧ tx (parM s).1 = s) ∨ (parM s).1 = PT.zero := by
  by_cases h : (parM s).2 = 0
  · obtain ⟨a, b, -⟩ := parM_ok h; exact Or.inl ⟨h, a, b⟩
  · right
    unfold parM at h ⊢
    by_cases h1 : 4000 < s.length
    · rw [if_pos h1]
    · rw [if_neg h1] at h ⊢
      cases h2 : readM s with
      | error e => rfl
      | ok t => rw [h2] at h; exact absurd rfl h
/-- The path of the laws' awake. -/
def akT : PT := .mk 4 [] [.mk 6 [] [.mk 2 [107, 110, 111, 119, 115] [] 0 0] 0 0, .mk 3 [108, 105, 107, 101, 115] [] 0 0] 0 0
def akS : List UInt8 := [107, 110, 111, 119, 115, 42, 47, 94, 108, 105, 107, 101, 115]
theorem akT_chk : chk akT = 0 := by decide +kernel
theorem akT_tx : tx akT = akS := by decide +kernel
theorem akT_par : parM akS = (norm akT, 0) := by rw [← akT_tx]; exact parM_tx akT akT_chk
theorem akT_txt : txt (norm akT) = akS := by unfold txt; rw [chk_norm, if_pos akT_chk, tx_norm, akT_tx]
end Fo
set_option maxHeartbeats 8000000 in
/-- THE LAWS' AWAKE. -/
theorem awake_any (C : BailSays) (w : World) (lo : Nat) (henv : EnvP lo w) : Calls Tryz.prog 8 #[] w fun e w' => e = .returned (.bool true) ∧ Below w.heap.size w w' := by
  have hpar := parse_any C w akS lo henv
  rw [akT_par] at hpar
  have HPAR : Hid (Calls _ _ _ _ _) := hpar
  clear hpar henv
  go_enter Tryz.func8, Tryz.ntmps8
  go_wp2_with (go_at_call 9; fail)
  refine HPAR.out.mono ?_
  rintro e w1 ⟨⟨x, F, rfl, hi⟩, b1⟩
  obtain ⟨x0, x1, x2, x3, x4, x5, x6⟩ := x
  unfold PV.v
  have h3 : x3 = 2 := by
    obtain ⟨V, ks, e, hl, -⟩ := hi.inv
    have := congrArg (fun t : PT => t.kids.length) e
    have hk : (norm akT).kids.length = 2 := rfl
    simp only at hl
    rw [← hl]
    show ks.length = 2
    rw [← hk]
    exact this.symm
  subst h3
  have HI : Hid (IsP F w1 ⟨x0, x1, x2, 2, x4, x5, x6⟩ (norm akT)) := hi
  have HB1 : Hid (Below w.heap.size w w1) := b1
  clear hi b1 HPAR
  obtain ⟨W2, hW2⟩ : ∃ W2, W2 = w1.alloc (.cells #[.int .i64 x0, .string x1, .slice x2 2 x4, .int .i64 x5, .int .i64 x6] 25) := ⟨_, rfl⟩
  have b2 : Below w1.heap.size w1 W2 := by rw [hW2]; exact below1 w1 _
  have HB2 : Hid (Below w.heap.size w W2) := below_step HB1.out b2
  have HG2 : Hid (W2.heap[w1.heap.size]? = some (.cells #[.int .i64 x0, .string x1, .slice x2 2 x4, .int .i64 x5, .int .i64 x6] 25)) := by show W2.heap[_]? = _; rw [hW2]; exact heap_new1 w1 _
  have HI2 : Hid (IsP F W2 ⟨x0, x1, x2, 2, x4, x5, x6⟩ (norm akT)) := HI.out.bel b2
  have hlit : str akS = ⟨#[107, 110, 111, 119, 115, 42, 47, 94, 108, 105, 107, 101, 115]⟩ := rfl
  go_wp2_with (go_at_call 15; fail)
  rw [← hW2]
  clear hW2 b2 HI HB1
  refine (text_any (norm akT) F W2 ⟨x0, x1, x2, 2, x4, x5, x6⟩ HI2.out).mono ?_
  rw [akT_txt, hlit]
  rintro e w3 ⟨rfl, b3⟩
  have HB3 : Hid (Below w.heap.size w w3) := below_step HB2.out b3
  have hg3 : w3.heap[w1.heap.size]? = some (.cells #[.int .i64 x0, .string x1, .slice x2 2 x4, .int .i64 x5, .int .i64 x6] 25) := (b3.block _ (lt_of_heap HG2.out)).trans HG2.out
  have c0 := cell_of_row _ _ 0 _ _ _ hg3
  have c1 := cell_of_row _ _ 1 _ _ _ hg3
  have c2 := cell_of_row _ _ 2 _ _ _ hg3
  have c3 := cell_of_row _ _ 3 _ _ _ hg3
  have c4 := cell_of_row _ _ 4 _ _ _ hg3
  simp only [List.getElem?_toArray, List.getElem?_cons_zero, List.getElem?_cons_succ] at c0 c1 c2 c3 c4
  clear b3 hg3 HB2 HG2 HI2 hlit
  have hnm := name_any w3 [97, 32, 98] (by decide)
  have hlit2 : str (nameT [97, 32, 98]) = ⟨#[60, 97, 32, 98, 62]⟩ := rfl
  have hlit3 : str [97, 32, 98] = ⟨#[97, 32, 98]⟩ := rfl
  rw [hlit2, hlit3] at hnm
  have HNM : Hid (Calls _ _ _ _ _) := hnm
  clear hnm hlit2 hlit3
  go_wp2_with (go_at_call 12; fail)
  refine HNM.out.mono ?_
  rintro e w4 ⟨rfl, b4⟩
  have HB4 : Hid (Below w.heap.size w w4) := below_step HB3.out b4
  clear b4 c0 c1 c2 c3 c4 HNM HB3
  go_wp2_with (go_at_call 16; fail)
  refine (chk_any PT.zero (fun _ => False) w4 PV.zero (IsP.zero _ _)).mono ?_
  rw [show chk PT.zero = 1 from by decide +kernel]
  rintro e w5 ⟨rfl, b5⟩
  have HB5 : Hid (Below w.heap.size w w5) := below_step HB4.out b5
  clear b5 HB4
  go_wp2
  go_ret
  exact ⟨rfl, HB5.out⟩
end Go.Proofs.YtbgkfjelgnbfmaaGreatDoor
