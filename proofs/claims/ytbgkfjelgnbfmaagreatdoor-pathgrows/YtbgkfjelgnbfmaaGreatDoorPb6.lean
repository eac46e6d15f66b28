/- PathBinds: what is called. -/
import Derived.Test.YtbgkfjelgnbfmaaGreatDoorPbr
import Derived.Test.YtbgkfjelgnbfmaaGreatDoorPop
namespace Go.Proofs.YtbgkfjelgnbfmaaGreatDoor
open Go.RowKit Fo
set_option maxRecDepth 100000
set_option linter.unusedSimpArgs false
set_option linter.unusedVariables false

namespace Fo
theorem tx_alt (a b : PT) : tx (.mk 5 [] [a, b] 0 0) = tx a ++ (124 :: tx b) := by
  rw [tx]; unfold headT
  rw [if_neg (by decide), if_neg (by decide), if_pos rfl, txs_cons, txr_cons, txr, win_bare (by unfold bnd; split <;> (try split) <;> omega), win_bare (by unfold bnd; split <;> (try split) <;> omega)]
  simp
theorem tx_seq (a b : PT) : tx (.mk 4 [] [a, b] 0 0) = win 2 a ++ (47 :: win 2 b) := by
  rw [tx]; unfold headT
  rw [if_neg (by decide), if_neg (by decide), if_neg (by decide), if_pos rfl, txs_cons, txr_cons, txr]
  simp
theorem tx_star (a : PT) : tx (.mk 6 [] [a] 0 0) = win 3 a ++ [42] := by
  rw [tx]; unfold headT
  rw [if_neg (by decide), if_neg (by decide), if_neg (by decide), if_neg (by decide), if_pos rfl, txs_cons, txr]
  simp
theorem win_len (m : Nat) (t : PT) : (win m t).length ≤ (tx t).length + 2 := by
  by_cases h : bnd t.kind < m
  · rw [win_brk h]; simp
  · rw [win_bare h]; omega
end Fo
set_option maxHeartbeats 4000000 in
theorem round_any (w : World) (n : Int) : Calls Tryz.prog 18 #[.int .i64 n, .int .i64 3] w fun e w' => (∃ r, e = .returned (.int .i64 r) ∧ (r = 0 ∨ r = 1 ∨ r = 2)) ∧ w' = w := by
  have h1 := Int.emod_lt_of_pos n (by decide : (0 : Int) < 3)
  have h2 := Int.tmod_lt_of_pos n (by decide : (0 : Int) < 3)
  have h3 : -3 < n.tmod 3 := by
    have := Int.lt_tmod_of_pos n (by decide : (0 : Int) < 3)
    omega
  generalize hm : n.tmod 3 = m at h2 h3
  by_cases h : m < 0
  · go_enter Tryz.func18, Tryz.ntmps18
    go_wp2
    go_ret
    exact ⟨⟨_, rfl, by omega⟩, rfl⟩
  · go_enter Tryz.func18, Tryz.ntmps18
    go_wp2
    go_ret
    exact ⟨⟨_, rfl, by omega⟩, rfl⟩
set_option maxHeartbeats 4000000 in
theorem wrap_any (t : PT) (x : PV) (w : World) (alt : Bool) (hk : x.kind = t.kind) (hl : (tx t).length ≤ 3839) :
    Calls Tryz.prog 22 #[x.v, .string (str (tx t)), .bool alt] w fun e w' => e = .returned (.string (str (win (cond alt 2 3) t))) ∧ Below w.heap.size w w' := by
  have hz : (str (tx t)).size ≤ 3839 := by rw [str_size]; exact hl
  have HW : Hid (str (win (cond alt 2 3) t) = if bnd t.kind < cond alt 2 3 then ⟨#[40]⟩ ++ str (tx t) ++ ⟨#[41]⟩ else str (tx t)) := by
    show _ = if bnd t.kind < cond alt 2 3 then str [40] ++ str (tx t) ++ str [41] else str (tx t)
    by_cases h : bnd t.kind < cond alt 2 3
    · rw [win_brk h, if_pos h, str_app, str_app]; simp
    · rw [win_bare h, if_neg h]
  rw [← hk] at HW
  obtain ⟨kind, label, a, len, cap, lo', hi'⟩ := x
  unfold PV.v
  simp only at HW
  generalize str (win (cond alt 2 3) t) = RR at HW ⊢
  generalize str (tx t) = S at HW hz ⊢
  clear hk hl
  have hend : ∀ Z, Below w.heap.size w (w.alloc Z) := fun Z => below1 w Z
  have HEND : Hid (∀ Z, Below w.heap.size w (w.alloc Z)) := hend
  clear hend
  by_cases h5 : kind = 5
  · subst h5
    rw [HW.out, if_pos (by show 1 < _; cases alt <;> decide)]
    clear HW
    go_enter Tryz.func22, Tryz.ntmps22
    go_wp2
    go_ret
    exact ⟨rfl, HEND.out _⟩
  by_cases h4 : kind = 4
  · subst h4
    cases alt with
    | true =>
      rw [HW.out, if_neg (by decide)]
      clear HW
      go_enter Tryz.func22, Tryz.ntmps22
      go_wp2
      go_ret
      exact ⟨rfl, HEND.out _⟩
    | false =>
      rw [HW.out, if_pos (by decide)]
      clear HW
      go_enter Tryz.func22, Tryz.ntmps22
      go_wp2
      go_ret
      exact ⟨rfl, HEND.out _⟩
  rw [HW.out, if_neg (by unfold bnd; rw [if_neg h5, if_neg h4]; cases alt <;> decide)]
  clear HW
  go_enter Tryz.func22, Tryz.ntmps22
  go_wp2
  go_ret
  exact ⟨rfl, HEND.out _⟩
end Go.Proofs.YtbgkfjelgnbfmaaGreatDoor
