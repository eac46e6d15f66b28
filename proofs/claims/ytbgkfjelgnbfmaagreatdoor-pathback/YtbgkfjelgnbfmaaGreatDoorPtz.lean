/- bare, Text. -/
import Derived.Test.YtbgkfjelgnbfmaaGreatDoorPty
namespace Go.Proofs.YtbgkfjelgnbfmaaGreatDoor
open Go.RowKit Fo
set_option maxRecDepth 100000
set_option linter.unusedSimpArgs false
set_option linter.unusedVariables false

set_option maxHeartbeats 16000000 in
theorem bare_any (t : PT) : ck t = 0 → (tx t).length ≤ 1000000 → BareSays t := by
  induction t using PT.ind with
  | h k l ks lo hi ih =>
    intro hc hl F w x hp
    obtain ⟨ha, hk0⟩ := ck_mk hc
    have hsh := shapes ha
    obtain ⟨q1, q2, q3, q4, q5, V, hr, hk⟩ := open_tree hp
    obtain ⟨kind, label, a, len, cap, lo', hi'⟩ := x
    unfold PV.v
    simp only at q1 q2 q3 q4 q5 hr ⊢
    subst q5 q1 q3 q4
    have q2' : label = str l := q2
    subst q2'
    clear q2 hp hc
    obtain ⟨W1, hW1⟩ : ∃ W1, W1 = w.alloc (.cells #[.int .i64 kind, .string (str l), .slice a ks.length cap, .int .i64 lo', .int .i64 hi'] 25) := ⟨_, rfl⟩
    have HBW1 : Hid (Below w.heap.size w W1) := by rw [hW1]; exact below1 w _
    have HGW1 : Hid (W1.heap[w.heap.size]? = some (.cells #[.int .i64 kind, .string (str l), .slice a ks.length cap, .int .i64 lo', .int .i64 hi'] 25)) := by show W1.heap[_]? = _; rw [hW1]; exact heap_new1 w _
    have HR1 : Hid (PRow F W1 a ks.length cap V) := hr.kp (Kp.of_below (F := fun _ => False) HBW1.out) (fun _ _ h => h) fun _ _ h => h
    have HK1 : Hid (∀ (j : Nat) (h : j < ks.length), IsP F W1 (V j) ks[j]) := fun j h => (hk j h).kp (Kp.of_below (F := fun _ => False) HBW1.out) (fun _ _ h => h) fun _ _ h => h
    have hl1 := hr.1
    have hl2 := hr.2.1
    clear hr hk
    rcases hsh with ⟨rfl, rfl⟩ | ⟨c, rfl, l1, l2⟩ | ⟨c, h2, hne⟩ | ⟨c, u, rfl⟩ | ⟨rfl, ⟨u, rfl⟩, b1, b2, b3⟩
    · have HT : Hid (tx (.mk 1 l [] lo' hi') = [40, 41]) := by show _ = _; rw [tx]; rfl
      go_enter Tryz.func33, Tryz.ntmps33
      go_wp2
      go_ret
      exact ⟨ret_str (by rw [HT.out]; rfl), below1 w _⟩
    · simp only [List.length_nil] at hW1 HBW1 HGW1
      have hnm := name_any W1 l (by omega)
      have HNM : Hid (Calls _ _ _ _ _) := hnm
      have hnl : (nameT l).length ≤ 62 := by
        unfold nameT
        split
        · omega
        · have := esc_len l; simp; omega
      have hsz : (str (nameT l)).size ≤ 62 := by rw [str_size]; exact hnl
      rcases c with rfl | rfl
      · have HT : Hid (str (tx (.mk 2 l [] lo' hi')) = str (nameT l)) := by show _ = _; rw [tx]; rfl
        clear hnm hnl
        generalize str (nameT l) = S at HNM HT hsz
        go_enter Tryz.func33, Tryz.ntmps33
        go_wp2_with (go_at_call 12; fail)
        rw [← hW1]
        clear hW1
        refine HNM.out.mono ?_
        rintro e w2 ⟨rfl, b2⟩
        have HB2 : Hid (Below w.heap.size w w2) := below_step HBW1.out b2
        clear b2
        go_wp2
        go_ret
        exact ⟨ret_str HT.out.symm, HB2.out⟩
      · have HT : Hid (str (tx (.mk 3 l [] lo' hi')) = ⟨#[94]⟩ ++ str (nameT l)) := by
          show _ = str [94] ++ str (nameT l)
          rw [str_app, tx]; rfl
        clear hnm hnl
        generalize str (nameT l) = S at HNM HT hsz
        go_enter Tryz.func33, Tryz.ntmps33
        go_wp2_with (go_at_call 12; fail)
        rw [← hW1]
        clear hW1
        refine HNM.out.mono ?_
        rintro e w2 ⟨rfl, b2⟩
        have HB2 : Hid (Below w.heap.size w w2) := below_step HBW1.out b2
        clear b2
        go_wp2
        go_ret
        exact ⟨ret_str HT.out.symm, HB2.out⟩
    · have hne0 : ks ≠ [] := by rintro rfl; simp at h2
      rcases c with rfl | rfl
      · have htx : tx (.mk 4 l ks lo' hi') = txs 47 2 ks := by rw [tx]; rfl
        rw [htx] at hl
        have hbs : ∀ t ∈ ks, BareSays t := fun t ht => ih t ht (hk0 t ht) (Nat.le_trans (tx_le_win 2 t) (Nat.le_trans (win_le 47 2 ks t ht) hl))
        have HJ : Hid (Calls Tryz.prog 52 #[.slice a ks.length cap, .string (str [47]), .int .i64 (2 : Nat)] W1 fun e w' => e = .returned (.string (str (txs 47 2 ks))) ∧ Below W1.heap.size W1 w') := joi_any ks hbs 47 2 hl (by
          have := txr_len 47 2 ks
          cases ks with
          | nil => simp
          | cons v vs => rw [txr_cons] at this; rw [txs_cons] at hl; simp at this hl ⊢; omega) F W1 V a cap HR1.out HK1.out
        have HT : Hid (str (tx (.mk 4 l ks lo' hi')) = str (txs 47 2 ks)) := by show _ = _; rw [htx]
        clear hbs htx hl ih hk0 ha hne
        generalize str (txs 47 2 ks) = S at HJ HT
        go_enter Tryz.func33, Tryz.ntmps33
        go_wp2_with (go_at_call 52; fail)
        rw [← hW1]
        clear hW1
        refine HJ.out.mono ?_
        rintro e w2 ⟨rfl, b2⟩
        have HB2 : Hid (Below w.heap.size w w2) := below_step HBW1.out b2
        clear b2
        go_wp2
        go_ret
        exact ⟨ret_str HT.out.symm, HB2.out⟩
      · have htx : tx (.mk 5 l ks lo' hi') = txs 124 1 ks := by rw [tx]; rfl
        rw [htx] at hl
        have hbs : ∀ t ∈ ks, BareSays t := fun t ht => ih t ht (hk0 t ht) (Nat.le_trans (tx_le_win 1 t) (Nat.le_trans (win_le 124 1 ks t ht) hl))
        have HJ : Hid (Calls Tryz.prog 52 #[.slice a ks.length cap, .string (str [124]), .int .i64 (1 : Nat)] W1 fun e w' => e = .returned (.string (str (txs 124 1 ks))) ∧ Below W1.heap.size W1 w') := joi_any ks hbs 124 1 hl (by
          have := txr_len 124 1 ks
          cases ks with
          | nil => simp
          | cons v vs => rw [txr_cons] at this; rw [txs_cons] at hl; simp at this hl ⊢; omega) F W1 V a cap HR1.out HK1.out
        have HT : Hid (str (tx (.mk 5 l ks lo' hi')) = str (txs 124 1 ks)) := by show _ = _; rw [htx]
        clear hbs htx hl ih hk0 ha hne
        generalize str (txs 124 1 ks) = S at HJ HT
        go_enter Tryz.func33, Tryz.ntmps33
        go_wp2_with (go_at_call 52; fail)
        rw [← hW1]
        clear hW1
        refine HJ.out.mono ?_
        rintro e w2 ⟨rfl, b2⟩
        have HB2 : Hid (Below w.heap.size w w2) := below_step HBW1.out b2
        clear b2
        go_wp2
        go_ret
        exact ⟨ret_str HT.out.symm, HB2.out⟩
    · have htx : tx (.mk kind l [u] lo' hi') = headT kind l (txs 47 2 [u]) (txs 124 1 [u]) (win 3 u) lo' hi' := by rw [tx, txs_cons 0 3]; simp [txr]
      rcases c with rfl | rfl | rfl
      · have HT : Hid (str (tx (.mk 6 l [u] lo' hi')) = str (win 3 u) ++ ⟨#[42]⟩) := by
          show _ = str (win 3 u) ++ str [42]
          rw [str_app, htx]; rfl
        have HWL : Hid ((win 3 u).length ≤ (tx (.mk 6 l [u] lo' hi')).length) := by
          show _ ≤ _
          rw [htx]; simp [headT]
        obtain ⟨b, off, rfl, -, hc⟩ := HR1.out.2.2.resolve_left (by simp)
        have hP := hc 0 (by simp)
        have hK0 := HK1.out 0 (by simp)
        have hu : ([u] : List PT)[0] = u := rfl
        rw [hu] at hK0
        obtain ⟨y, hy⟩ : ∃ y, y = V 0 := ⟨_, rfl⟩
        rw [← hy] at hP hK0
        have HK0 : Hid (IsP F W1 y u) := hK0
        have hwl : (win 3 u).length ≤ 1000000 := Nat.le_trans HWL.out hl
        have hbu : BareSays u := ih u (by simp) (hk0 u (by simp)) (Nat.le_trans (tx_le_win 3 u) hwl)
        have hwi := fun (w' : World) (h : IsP F w' y u) => wit_any u hbu (Nat.le_trans (tx_le_win 3 u) hwl) F w' y 3 h
        have HWI : Hid (∀ (w' : World) (h : IsP F w' y u), Calls Tryz.prog 53 #[y.v, .int .i64 (3 : Nat)] w' fun e w'' => e = .returned (.string (str (win 3 u))) ∧ Below w'.heap.size w' w'') := hwi
        have hsz : (str (win 3 u)).size ≤ 1000000 := by rw [str_size]; exact hwl
        clear hc hK0 hu hy hwl hbu hwi ih hk0 ha HR1 HK1 HWL hl
        obtain ⟨c0, c1, c2, c3, c4⟩ := hP
        obtain ⟨k0, k1, k2, k3, k4, k5, k6⟩ := y
        simp only [Nat.zero_mul, Nat.add_zero] at c0 c1 c2 c3 c4
        simp only [List.length_cons, List.length_nil, Nat.zero_add] at hl1 HBW1 HGW1 hW1 ⊢
        rw [hW1] at c0 c1 c2 c3 c4
        have HTT : Hid (tx (.mk 6 l [u] lo' hi') = tx (.mk 6 l [u] lo' hi')) := rfl
        generalize str (win 3 u) = S at HWI HT hsz
        go_enter Tryz.func33, Tryz.ntmps33
        go_wp2_with (go_at_call 53; fail)
        rw [← hW1]
        clear hW1
        refine (HWI.out _ HK0.out).mono ?_
        rintro e w2 ⟨rfl, b2⟩
        have HB2 : Hid (Below w.heap.size w w2) := below_step HBW1.out b2
        clear b2
        go_wp2
        go_ret
        exact ⟨ret_str HT.out.symm, HB2.out⟩
      · have HT : Hid (str (tx (.mk 7 l [u] lo' hi')) = str (win 3 u) ++ ⟨#[43]⟩) := by
          show _ = str (win 3 u) ++ str [43]
          rw [str_app, htx]; rfl
        have HWL : Hid ((win 3 u).length ≤ (tx (.mk 7 l [u] lo' hi')).length) := by
          show _ ≤ _
          rw [htx]; simp [headT]
        obtain ⟨b, off, rfl, -, hc⟩ := HR1.out.2.2.resolve_left (by simp)
        have hP := hc 0 (by simp)
        have hK0 := HK1.out 0 (by simp)
        have hu : ([u] : List PT)[0] = u := rfl
        rw [hu] at hK0
        obtain ⟨y, hy⟩ : ∃ y, y = V 0 := ⟨_, rfl⟩
        rw [← hy] at hP hK0
        have HK0 : Hid (IsP F W1 y u) := hK0
        have hwl : (win 3 u).length ≤ 1000000 := Nat.le_trans HWL.out hl
        have hbu : BareSays u := ih u (by simp) (hk0 u (by simp)) (Nat.le_trans (tx_le_win 3 u) hwl)
        have hwi := fun (w' : World) (h : IsP F w' y u) => wit_any u hbu (Nat.le_trans (tx_le_win 3 u) hwl) F w' y 3 h
        have HWI : Hid (∀ (w' : World) (h : IsP F w' y u), Calls Tryz.prog 53 #[y.v, .int .i64 (3 : Nat)] w' fun e w'' => e = .returned (.string (str (win 3 u))) ∧ Below w'.heap.size w' w'') := hwi
        have hsz : (str (win 3 u)).size ≤ 1000000 := by rw [str_size]; exact hwl
        clear hc hK0 hu hy hwl hbu hwi ih hk0 ha HR1 HK1 HWL hl
        obtain ⟨c0, c1, c2, c3, c4⟩ := hP
        obtain ⟨k0, k1, k2, k3, k4, k5, k6⟩ := y
        simp only [Nat.zero_mul, Nat.add_zero] at c0 c1 c2 c3 c4
        simp only [List.length_cons, List.length_nil, Nat.zero_add] at hl1 HBW1 HGW1 hW1 ⊢
        rw [hW1] at c0 c1 c2 c3 c4
        have HTT : Hid (tx (.mk 7 l [u] lo' hi') = tx (.mk 7 l [u] lo' hi')) := rfl
        generalize str (win 3 u) = S at HWI HT hsz
        go_enter Tryz.func33, Tryz.ntmps33
        go_wp2_with (go_at_call 53; fail)
        rw [← hW1]
        clear hW1
        refine (HWI.out _ HK0.out).mono ?_
        rintro e w2 ⟨rfl, b2⟩
        have HB2 : Hid (Below w.heap.size w w2) := below_step HBW1.out b2
        clear b2
        go_wp2
        go_ret
        exact ⟨ret_str HT.out.symm, HB2.out⟩
      · have HT : Hid (str (tx (.mk 8 l [u] lo' hi')) = str (win 3 u) ++ ⟨#[63]⟩) := by
          show _ = str (win 3 u) ++ str [63]
          rw [str_app, htx]; rfl
        have HWL : Hid ((win 3 u).length ≤ (tx (.mk 8 l [u] lo' hi')).length) := by
          show _ ≤ _
          rw [htx]; simp [headT]
        obtain ⟨b, off, rfl, -, hc⟩ := HR1.out.2.2.resolve_left (by simp)
        have hP := hc 0 (by simp)
        have hK0 := HK1.out 0 (by simp)
        have hu : ([u] : List PT)[0] = u := rfl
        rw [hu] at hK0
        obtain ⟨y, hy⟩ : ∃ y, y = V 0 := ⟨_, rfl⟩
        rw [← hy] at hP hK0
        have HK0 : Hid (IsP F W1 y u) := hK0
        have hwl : (win 3 u).length ≤ 1000000 := Nat.le_trans HWL.out hl
        have hbu : BareSays u := ih u (by simp) (hk0 u (by simp)) (Nat.le_trans (tx_le_win 3 u) hwl)
        have hwi := fun (w' : World) (h : IsP F w' y u) => wit_any u hbu (Nat.le_trans (tx_le_win 3 u) hwl) F w' y 3 h
        have HWI : Hid (∀ (w' : World) (h : IsP F w' y u), Calls Tryz.prog 53 #[y.v, .int .i64 (3 : Nat)] w' fun e w'' => e = .returned (.string (str (win 3 u))) ∧ Below w'.heap.size w' w'') := hwi
        have hsz : (str (win 3 u)).size ≤ 1000000 := by rw [str_size]; exact hwl
        clear hc hK0 hu hy hwl hbu hwi ih hk0 ha HR1 HK1 HWL hl
        obtain ⟨c0, c1, c2, c3, c4⟩ := hP
        obtain ⟨k0, k1, k2, k3, k4, k5, k6⟩ := y
        simp only [Nat.zero_mul, Nat.add_zero] at c0 c1 c2 c3 c4
        simp only [List.length_cons, List.length_nil, Nat.zero_add] at hl1 HBW1 HGW1 hW1 ⊢
        rw [hW1] at c0 c1 c2 c3 c4
        have HTT : Hid (tx (.mk 8 l [u] lo' hi') = tx (.mk 8 l [u] lo' hi')) := rfl
        generalize str (win 3 u) = S at HWI HT hsz
        go_enter Tryz.func33, Tryz.ntmps33
        go_wp2_with (go_at_call 53; fail)
        rw [← hW1]
        clear hW1
        refine (HWI.out _ HK0.out).mono ?_
        rintro e w2 ⟨rfl, b2⟩
        have HB2 : Hid (Below w.heap.size w w2) := below_step HBW1.out b2
        clear b2
        go_wp2
        go_ret
        exact ⟨ret_str HT.out.symm, HB2.out⟩
    · have htx : tx (.mk 9 l [u] lo' hi') = win 3 u ++ repT lo' hi' := by rw [tx, txs_cons 0 3]; simp [txr, headT]
      have HT : Hid (str (tx (.mk 9 l [u] lo' hi')) = str (win 3 u) ++ str (repT lo' hi')) := by
        show _ = _
        rw [str_app, htx]
      have HWL : Hid ((win 3 u).length ≤ (tx (.mk 9 l [u] lo' hi')).length) := by
        show _ ≤ _
        rw [htx]; simp
      have hrl : (repT lo' hi').length ≤ 5 := by unfold repT dg; split <;> simp
      have hsz2 : (str (repT lo' hi')).size ≤ 5 := by rw [str_size]; exact hrl
      clear hrl
      obtain ⟨b, off, rfl, -, hc⟩ := HR1.out.2.2.resolve_left (by simp)
      have hP := hc 0 (by simp)
      have hK0 := HK1.out 0 (by simp)
      have hu : ([u] : List PT)[0] = u := rfl
      rw [hu] at hK0
      obtain ⟨y, hy⟩ : ∃ y, y = V 0 := ⟨_, rfl⟩
      rw [← hy] at hP hK0
      have HK0 : Hid (IsP F W1 y u) := hK0
      have hwl : (win 3 u).length ≤ 1000000 := Nat.le_trans HWL.out hl
      have hbu : BareSays u := ih u (by simp) (hk0 u (by simp)) (Nat.le_trans (tx_le_win 3 u) hwl)
      have hwi := fun (w' : World) (h : IsP F w' y u) => wit_any u hbu (Nat.le_trans (tx_le_win 3 u) hwl) F w' y 3 h
      have HWI : Hid (∀ (w' : World) (h : IsP F w' y u), Calls Tryz.prog 53 #[y.v, .int .i64 (3 : Nat)] w' fun e w'' => e = .returned (.string (str (win 3 u))) ∧ Below w'.heap.size w' w'') := hwi
      have hsz : (str (win 3 u)).size ≤ 1000000 := by rw [str_size]; exact hwl
      clear hc hK0 hu hy hwl hbu hwi ih hk0 ha HR1 HK1 HWL hl
      obtain ⟨c0, c1, c2, c3, c4⟩ := hP
      obtain ⟨k0, k1, k2, k3, k4, k5, k6⟩ := y
      simp only [Nat.zero_mul, Nat.add_zero] at c0 c1 c2 c3 c4
      simp only [List.length_cons, List.length_nil, Nat.zero_add] at hl1 HBW1 HGW1 hW1 ⊢
      rw [hW1] at c0 c1 c2 c3 c4
      rw [← hW1] at c0 c1 c2 c3 c4
      go_enter Tryz.func33, Tryz.ntmps33
      go_wp2
      rw [← hW1]
      clear hW1
      refine wp_region_held_drew (S := (fun w' => Below W1.heap.size W1 w')) (by kernel_rfl) ?_ (fun hHeld => ?_)
      · (try dsimp only); exact (below_refl W1).drew
      refine wpAnyH_take (i := 0) (oi := { dst := some 52, op := Op.fieldAddr 25 (Operand.tmp 1) 2, type := 0, pos := "text.go:83", after := #[], guard := none }) (v := ?vu51) rfl (by kernel_rfl) (by kernel_rfl) (by kernel_rfl) (by intro _ _ _ h; exact h) (Or.inl ⟨by rfl, ?hyu51⟩) (by assumption) ?restu51
      case hyu51 => (intro w hSw; (try dsimp only at hSw); go_simp; (try with_reducible rfl))
      try simp only [Act.put, List.setIfInBounds_toArray, List.set_cons_zero, List.set_cons_succ]
      refine wpAnyH_take (i := 1) (oi := { dst := some 53, op := Op.load 23 (Operand.tmp 52), type := 23, pos := "text.go:83", after := #[{ on := 0, ground := Ground.data }], guard := none }) (v := ?vu52) rfl (by kernel_rfl) (by kernel_rfl) (by kernel_rfl) (by intro _ _ _ h; exact h) (Or.inl ⟨by rfl, ?hyu52⟩) (by assumption) ?restu52
      case hyu52 => (intro wz hSw; (try dsimp only at hSw); have t2 := cell_of_row _ _ 2 _ _ _ ((hSw.block _ (lt_of_heap HGW1.out)).trans HGW1.out); have t3 := cell_of_row _ _ 3 _ _ _ ((hSw.block _ (lt_of_heap HGW1.out)).trans HGW1.out); have t4 := cell_of_row _ _ 4 _ _ _ ((hSw.block _ (lt_of_heap HGW1.out)).trans HGW1.out); have y0 := c0; have z0 := (hSw.cell (World.block_lt_of_cell? _ _ c0)).trans c0; have z1 := (hSw.cell (World.block_lt_of_cell? _ _ c1)).trans c1; have z2 := (hSw.cell (World.block_lt_of_cell? _ _ c2)).trans c2; have z3 := (hSw.cell (World.block_lt_of_cell? _ _ c3)).trans c3; have z4 := (hSw.cell (World.block_lt_of_cell? _ _ c4)).trans c4; (try simp only [List.getElem?_toArray, List.getElem?_cons_zero, List.getElem?_cons_succ] at t2 t3 t4); go_simp; (try with_reducible rfl))
      try simp only [Act.put, List.setIfInBounds_toArray, List.set_cons_zero, List.set_cons_succ]
      refine wpAnyH_take (i := 2) (oi := { dst := some 54, op := Op.indexAddr 23 (Operand.tmp 53) (Operand.const (Value.int IntKind.i64 0)), type := 0, pos := "text.go:83", after := #[{ on := 1, ground := Ground.data }], guard := none }) (v := ?vu53) rfl (by kernel_rfl) (by kernel_rfl) (by kernel_rfl) (by intro _ _ _ h; exact h) (Or.inl ⟨by rfl, ?hyu53⟩) (by assumption) ?restu53
      case hyu53 => (intro w hSw; (try dsimp only at hSw); go_simp; (try with_reducible rfl))
      try simp only [Act.put, List.setIfInBounds_toArray, List.set_cons_zero, List.set_cons_succ]
      refine wpAnyH_take (i := 3) (oi := { dst := some 55, op := Op.load 25 (Operand.tmp 54), type := 25, pos := "text.go:83", after := #[{ on := 2, ground := Ground.data }], guard := none }) (v := ?vu54) rfl (by kernel_rfl) (by kernel_rfl) (by kernel_rfl) (by intro _ _ _ h; exact h) (Or.inl ⟨by rfl, ?hyu54⟩) (by assumption) ?restu54
      case hyu54 => (intro wz hSw; (try dsimp only at hSw); have t2 := cell_of_row _ _ 2 _ _ _ ((hSw.block _ (lt_of_heap HGW1.out)).trans HGW1.out); have t3 := cell_of_row _ _ 3 _ _ _ ((hSw.block _ (lt_of_heap HGW1.out)).trans HGW1.out); have t4 := cell_of_row _ _ 4 _ _ _ ((hSw.block _ (lt_of_heap HGW1.out)).trans HGW1.out); have y0 := c0; have z0 := (hSw.cell (World.block_lt_of_cell? _ _ c0)).trans c0; have z1 := (hSw.cell (World.block_lt_of_cell? _ _ c1)).trans c1; have z2 := (hSw.cell (World.block_lt_of_cell? _ _ c2)).trans c2; have z3 := (hSw.cell (World.block_lt_of_cell? _ _ c3)).trans c3; have z4 := (hSw.cell (World.block_lt_of_cell? _ _ c4)).trans c4; (try simp only [List.getElem?_toArray, List.getElem?_cons_zero, List.getElem?_cons_succ] at t2 t3 t4); go_simp; (try with_reducible rfl))
      try simp only [Act.put, List.setIfInBounds_toArray, List.set_cons_zero, List.set_cons_succ]
      refine wpAnyH_take (i := 5) (oi := { dst := some 57, op := Op.fieldAddr 25 (Operand.tmp 1) 3, type := 0, pos := "text.go:83", after := #[], guard := none }) (v := ?vu55) rfl (by kernel_rfl) (by kernel_rfl) (by kernel_rfl) (by intro _ _ _ h; exact h) (Or.inl ⟨by rfl, ?hyu55⟩) (by assumption) ?restu55
      case hyu55 => (intro w hSw; (try dsimp only at hSw); go_simp; (try with_reducible rfl))
      try simp only [Act.put, List.setIfInBounds_toArray, List.set_cons_zero, List.set_cons_succ]
      refine wpAnyH_take (i := 6) (oi := { dst := some 58, op := Op.load 3 (Operand.tmp 57), type := 3, pos := "text.go:83", after := #[{ on := 5, ground := Ground.data }], guard := none }) (v := ?vu56) rfl (by kernel_rfl) (by kernel_rfl) (by kernel_rfl) (by intro _ _ _ h; exact h) (Or.inl ⟨by rfl, ?hyu56⟩) (by assumption) ?restu56
      case hyu56 => (intro wz hSw; (try dsimp only at hSw); have t2 := cell_of_row _ _ 2 _ _ _ ((hSw.block _ (lt_of_heap HGW1.out)).trans HGW1.out); have t3 := cell_of_row _ _ 3 _ _ _ ((hSw.block _ (lt_of_heap HGW1.out)).trans HGW1.out); have t4 := cell_of_row _ _ 4 _ _ _ ((hSw.block _ (lt_of_heap HGW1.out)).trans HGW1.out); have y0 := c0; have z0 := (hSw.cell (World.block_lt_of_cell? _ _ c0)).trans c0; have z1 := (hSw.cell (World.block_lt_of_cell? _ _ c1)).trans c1; have z2 := (hSw.cell (World.block_lt_of_cell? _ _ c2)).trans c2; have z3 := (hSw.cell (World.block_lt_of_cell? _ _ c3)).trans c3; have z4 := (hSw.cell (World.block_lt_of_cell? _ _ c4)).trans c4; (try simp only [List.getElem?_toArray, List.getElem?_cons_zero, List.getElem?_cons_succ] at t2 t3 t4); go_simp; (try with_reducible rfl))
      try simp only [Act.put, List.setIfInBounds_toArray, List.set_cons_zero, List.set_cons_succ]
      refine wpAnyH_take (i := 7) (oi := { dst := some 59, op := Op.fieldAddr 25 (Operand.tmp 1) 4, type := 0, pos := "text.go:83", after := #[], guard := none }) (v := ?vu57) rfl (by kernel_rfl) (by kernel_rfl) (by kernel_rfl) (by intro _ _ _ h; exact h) (Or.inl ⟨by rfl, ?hyu57⟩) (by assumption) ?restu57
      case hyu57 => (intro w hSw; (try dsimp only at hSw); go_simp; (try with_reducible rfl))
      try simp only [Act.put, List.setIfInBounds_toArray, List.set_cons_zero, List.set_cons_succ]
      refine wpAnyH_take (i := 8) (oi := { dst := some 60, op := Op.load 3 (Operand.tmp 59), type := 3, pos := "text.go:83", after := #[{ on := 7, ground := Ground.data }], guard := none }) (v := ?vu58) rfl (by kernel_rfl) (by kernel_rfl) (by kernel_rfl) (by intro _ _ _ h; exact h) (Or.inl ⟨by rfl, ?hyu58⟩) (by assumption) ?restu58
      case hyu58 => (intro wz hSw; (try dsimp only at hSw); have t2 := cell_of_row _ _ 2 _ _ _ ((hSw.block _ (lt_of_heap HGW1.out)).trans HGW1.out); have t3 := cell_of_row _ _ 3 _ _ _ ((hSw.block _ (lt_of_heap HGW1.out)).trans HGW1.out); have t4 := cell_of_row _ _ 4 _ _ _ ((hSw.block _ (lt_of_heap HGW1.out)).trans HGW1.out); have y0 := c0; have z0 := (hSw.cell (World.block_lt_of_cell? _ _ c0)).trans c0; have z1 := (hSw.cell (World.block_lt_of_cell? _ _ c1)).trans c1; have z2 := (hSw.cell (World.block_lt_of_cell? _ _ c2)).trans c2; have z3 := (hSw.cell (World.block_lt_of_cell? _ _ c3)).trans c3; have z4 := (hSw.cell (World.block_lt_of_cell? _ _ c4)).trans c4; (try simp only [List.getElem?_toArray, List.getElem?_cons_zero, List.getElem?_cons_succ] at t2 t3 t4); go_simp; (try with_reducible rfl))
      try simp only [Act.put, List.setIfInBounds_toArray, List.set_cons_zero, List.set_cons_succ]
      refine wpAnyH_ready (rs := [4]) (by kernel_rfl) (by simp) ?_
      refine AllReadyH.cons (o := { dst := some 56, op := Op.call { callee := Callee.value (Operand.func 53), args := #[Operand.tmp 55, Operand.const (Value.int IntKind.i64 3)], argTypes := #[25, 3] }, type := 9, pos := "text.go:83", after := #[{ on := 3, ground := Ground.data }], guard := none }) rfl (fun K hK => ?_) AllReadyH.nil
      go_simp
      go_at_call 53
      refine (HWI.out _ (HK0.out.bel (below_refl W1).drew)).mono ?_
      rintro e w2 ⟨rfl, b2⟩
      have HB2 : Hid (Below W1.heap.size W1 w2) := below_step (below_refl W1).drew b2
      clear b2
      refine hK.out _ _ ?_ (fun hHeldB => ?_)
      · (try dsimp only); exact HB2.out
      clear hK K hHeld
      have hHeld := hHeldB
      clear hHeldB
      try simp only [Act.put, List.setIfInBounds_toArray, List.set_cons_zero, List.set_cons_succ]
      refine wpAnyH_ready (rs := [9]) (by kernel_rfl) (by simp) ?_
      refine AllReadyH.cons (o := { dst := some 61, op := Op.call { callee := Callee.value (Operand.func 54), args := #[Operand.tmp 58, Operand.tmp 60], argTypes := #[3, 3] }, type := 9, pos := "text.go:83", after := #[{ on := 6, ground := Ground.data }, { on := 8, ground := Ground.data }, { on := 4, ground := Ground.chain }], guard := none }) rfl (fun K hK => ?_) AllReadyH.nil
      go_simp
      go_at_call 54
      refine (bds_any _ _ _ b1 b2 (by omega)).mono ?_
      rintro e w3 ⟨rfl, rfl⟩
      refine hK.out _ _ ?_ (fun hHeldB => ?_)
      · (try dsimp only); exact HB2.out
      clear hK K hHeld
      have hHeld := hHeldB
      clear hHeldB
      try simp only [Act.put, List.setIfInBounds_toArray, List.set_cons_zero, List.set_cons_succ]
      refine wpAnyH_take (i := 10) (oi := { dst := some 62, op := Op.binOp BinOp.add 9 (Operand.tmp 56) (Operand.tmp 61) 9, type := 9, pos := "text.go:83", after := #[{ on := 4, ground := Ground.data }, { on := 9, ground := Ground.data }], guard := none }) (v := ?vu59) rfl (by kernel_rfl) (by kernel_rfl) (by kernel_rfl) (by intro _ _ _ h; exact h) (Or.inl ⟨by rfl, ?hyu59⟩) (by assumption) ?restu59
      case hyu59 => (intro w hSw; (try dsimp only at hSw); go_simp; (try rw [if_neg (by (try simp only [ByteArray.size_append]); (try simp); omega)]); (try with_reducible rfl))
      try simp only [Act.put, List.setIfInBounds_toArray, List.set_cons_zero, List.set_cons_succ]
      refine wpAnyH_take (i := 11) (oi := { dst := some 2, op := Op.assign (Operand.tmp 62), type := 9, pos := "text.go:83", after := #[{ on := 10, ground := Ground.data }, { on := 9, ground := Ground.chain }, { on := 0, ground := Ground.phase }, { on := 1, ground := Ground.phase }, { on := 2, ground := Ground.phase }, { on := 3, ground := Ground.phase }, { on := 4, ground := Ground.phase }, { on := 5, ground := Ground.phase }, { on := 6, ground := Ground.phase }, { on := 7, ground := Ground.phase }, { on := 8, ground := Ground.phase }, { on := 9, ground := Ground.phase }, { on := 10, ground := Ground.phase }], guard := none }) (v := ?vu60) rfl (by kernel_rfl) (by kernel_rfl) (by kernel_rfl) (by intro _ _ _ h; exact h) (Or.inl ⟨by rfl, ?hyu60⟩) (by assumption) ?restu60
      case hyu60 => (intro w hSw; (try dsimp only at hSw); go_simp; (try with_reducible rfl))
      try simp only [Act.put, List.setIfInBounds_toArray, List.set_cons_zero, List.set_cons_succ]
      refine wpAnyH_done (by kernel_rfl) ?_ _
      go_wp2
      go_ret
      exact ⟨ret_str HT.out.symm, below_step HBW1.out HB2.out⟩
namespace Fo
/-- What Text answers. -/
def txt (t : PT) : List UInt8 := if chk t = 0 then tx t else []
theorem chk_zero {t : PT} (h : chk t = 0) : deep t ≤ 20 ∧ ck t = 0 ∧ sz t ≤ 60 := by
  unfold chk at h
  by_cases h1 : 20 < deep t
  · rw [if_pos h1] at h; cases h
  rw [if_neg h1] at h
  by_cases h2 : ck t = 0
  · rw [if_neg (by simp [h2])] at h
    by_cases h3 : 60 < sz t
    · rw [if_pos h3] at h; cases h
    · exact ⟨by omega, h2, by omega⟩
  · rw [if_pos h2] at h; exact absurd h h2
theorem chk_len {t : PT} (h : chk t = 0) : (tx t).length ≤ 3839 := by
  obtain ⟨-, h2, h3⟩ := chk_zero h
  have := (tx_len t h2 h3).1
  omega
theorem txt_len (t : PT) : (txt t).length ≤ 3839 := by
  unfold txt
  split
  · rename_i h; exact chk_len h
  · simp
end Fo
set_option maxHeartbeats 4000000 in
theorem text_any (t : PT) (F : Nat → Prop) (w : World) (x : PV) (hp : IsP F w x t) : Calls Tryz.prog 15 #[x.v] w fun e w' => e = .returned (.string (str (txt t))) ∧ Below w.heap.size w w' := by
  have HP : Hid (IsP F w x t) := hp
  have HTX : Hid (txt t = if chk t = 0 then tx t else []) := rfl
  have HBA : Hid (chk t = 0 → BareSays t) := fun h => bare_any t (chk_zero h).2.1 (by have := chk_len h; omega)
  generalize txt t = R at HTX
  obtain ⟨c, hc⟩ : ∃ c, c = chk t := ⟨_, rfl⟩
  have HC : Hid (c = chk t) := hc
  rw [← hc] at HTX HBA
  clear hp hc
  obtain ⟨kind, label, a, len, cap, lo', hi'⟩ := x
  unfold PV.v
  obtain ⟨W1, hW1⟩ : ∃ W1, W1 = w.alloc (.cells #[.int .i64 kind, .string label, .slice a len cap, .int .i64 lo', .int .i64 hi'] 25) := ⟨_, rfl⟩
  have HBW1 : Hid (Below w.heap.size w W1) := by rw [hW1]; exact below1 w _
  have HGW1 : Hid (W1.heap[w.heap.size]? = some (.cells #[.int .i64 kind, .string label, .slice a len cap, .int .i64 lo', .int .i64 hi'] 25)) := by show W1.heap[_]? = _; rw [hW1]; exact heap_new1 w _
  go_enter Tryz.func15, Tryz.ntmps15
  go_wp2_with (go_at_call 16; fail)
  rw [← hW1]
  clear hW1
  refine (chk_any t F _ ⟨kind, label, a, len, cap, lo', hi'⟩ (HP.out.kp (Kp.of_below (F := fun _ => False) HBW1.out) (fun _ _ h => h) fun _ _ h => h)).mono ?_
  rw [← HC.out]
  rintro e w2 ⟨rfl, b2⟩
  have HB2 : Hid (Below w.heap.size w w2) := below_step HBW1.out b2
  have HG2 : Hid (w2.heap[w.heap.size]? = some (.cells #[.int .i64 kind, .string label, .slice a len cap, .int .i64 lo', .int .i64 hi'] 25)) := (b2.block _ (lt_of_heap HGW1.out)).trans HGW1.out
  clear b2 HBW1 HGW1
  have e0 := cell_of_row _ _ 0 _ _ _ HG2.out
  have e1 := cell_of_row _ _ 1 _ _ _ HG2.out
  have e2 := cell_of_row _ _ 2 _ _ _ HG2.out
  have e3 := cell_of_row _ _ 3 _ _ _ HG2.out
  have e4 := cell_of_row _ _ 4 _ _ _ HG2.out
  simp only [List.getElem?_toArray, List.getElem?_cons_zero, List.getElem?_cons_succ] at e0 e1 e2 e3 e4
  by_cases hz : c = 0
  · have HB : Hid (BareSays t) := HBA.out hz
    have hR : R = tx t := by rw [HTX.out, if_pos hz]
    subst hR
    have hz' : (c != 0) = false := by simp [hz]
    subst hz
    clear HTX HBA HC
    go_wp2_with (go_at_call 33; fail)
    refine (HB.out F _ ⟨kind, label, a, len, cap, lo', hi'⟩ (HP.out.kp (Kp.of_below (F := fun _ => False) HB2.out) (fun _ _ h => h) fun _ _ h => h)).mono ?_
    rintro e w3 ⟨rfl, b3⟩
    have HB3 : Hid (Below w.heap.size w w3) := below_step HB2.out b3
    clear b3
    go_wp2
    go_ret
    exact ⟨ret_str rfl, HB3.out⟩
  · have hR : R = [] := by rw [HTX.out, if_neg hz]
    subst hR
    have hz' : (c != 0) = true := by simp [hz]
    go_wp2
    go_ret
    exact ⟨ret_str rfl, HB2.out⟩
end Go.Proofs.YtbgkfjelgnbfmaaGreatDoor
