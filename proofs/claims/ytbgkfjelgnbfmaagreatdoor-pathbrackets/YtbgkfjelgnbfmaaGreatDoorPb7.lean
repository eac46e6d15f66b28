/- PathBrackets. -/
import Derived.Test.YtbgkfjelgnbfmaaGreatDoorPbr
import Derived.Test.YtbgkfjelgnbfmaaGreatDoorPop
namespace Go.Proofs.YtbgkfjelgnbfmaaGreatDoor
open Go.RowKit Fo
set_option maxRecDepth 100000
set_option linter.unusedSimpArgs false
set_option linter.unusedVariables false

set_option maxHeartbeats 16000000 in
theorem brackets_any (C : BailSays) (w : World) (x : PV) (lo : Nat) (henv : EnvP lo w) (hw : Wfp w 61 x) :
    Calls Tryz.prog 7 #[x.v] w fun e w' => e = .returned (.bool true) ∧ Below w.heap.size w w' := by
  have HENV : Hid (EnvP lo w) := henv
  have HW : Hid (Wfp w 61 x) := hw
  obtain ⟨y, hy⟩ : ∃ y, y = x := ⟨_, rfl⟩
  rw [← hy] at HW ⊢
  obtain ⟨kind, label, a, len, cap, lo', hi'⟩ := y
  clear hw henv hy
  unfold PV.v
  obtain ⟨W1, hW1⟩ : ∃ W1, W1 = w.alloc (.cells #[.int .i64 kind, .string label, .slice a len cap, .int .i64 lo', .int .i64 hi'] 25) := ⟨_, rfl⟩
  have HBW1 : Hid (Below w.heap.size w W1) := by rw [hW1]; exact below1 w _
  have HGW1 : Hid (W1.heap[w.heap.size]? = some (.cells #[.int .i64 kind, .string label, .slice a len cap, .int .i64 lo', .int .i64 hi'] 25)) := by show W1.heap[_]? = _; rw [hW1]; exact heap_new1 w _
  go_enter Tryz.func7, Tryz.ntmps7
  go_wp2_with (go_at_call 14; fail)
  rw [← hW1]
  clear hW1
  refine (sma_any ⟨kind, label, a, len, cap, lo', hi'⟩ W1 (HW.out.below HBW1.out)).mono ?_
  rintro e w2 ⟨⟨b, rfl, hx⟩, b2⟩
  have HX : Hid (b = true → ∃ t, IsP (fun _ => True) w2 ⟨kind, label, a, len, cap, lo', hi'⟩ t) := hx
  have HB2 : Hid (Below w.heap.size w w2) := below_step HBW1.out b2
  have hg2 : w2.heap[w.heap.size]? = some (.cells #[.int .i64 kind, .string label, .slice a len cap, .int .i64 lo', .int .i64 hi'] 25) := (b2.block _ (lt_of_heap HGW1.out)).trans HGW1.out
  have HG2 : Hid (w2.heap[w.heap.size]? = some (.cells #[.int .i64 kind, .string label, .slice a len cap, .int .i64 lo', .int .i64 hi'] 25)) := hg2
  have c0 := cell_of_row _ _ 0 _ _ _ hg2
  have c1 := cell_of_row _ _ 1 _ _ _ hg2
  have c2 := cell_of_row _ _ 2 _ _ _ hg2
  have c3 := cell_of_row _ _ 3 _ _ _ hg2
  have c4 := cell_of_row _ _ 4 _ _ _ hg2
  simp only [List.getElem?_toArray, List.getElem?_cons_zero, List.getElem?_cons_succ] at c0 c1 c2 c3 c4
  clear hx b2 hg2 HGW1 HBW1 HW
  cases b with
  | false =>
    clear HX
    go_wp2_with (go_at_call 8; fail)
    refine (awake_any C _ lo (HENV.out.below HB2.out)).mono ?_
    rintro e wz ⟨rfl, bz⟩
    have HBZ : Hid (Below w.heap.size w wz) := below_step HB2.out bz
    clear bz
    go_wp2
    go_ret
    exact ⟨rfl, HBZ.out⟩
  | true =>
  obtain ⟨t, ht⟩ := HX.out rfl
  have HI : Hid (IsP (fun _ => True) w2 ⟨kind, label, a, len, cap, lo', hi'⟩ t) := ht
  clear ht HX
  go_wp2_with (go_at_call 15; fail)
  refine (text_any t _ w2 ⟨kind, label, a, len, cap, lo', hi'⟩ HI.out).mono ?_
  rintro e w3 ⟨rfl, b3⟩
  have HB3 : Hid (Below w.heap.size w w3) := below_step HB2.out b3
  have hg3 : w3.heap[w.heap.size]? = some (.cells #[.int .i64 kind, .string label, .slice a len cap, .int .i64 lo', .int .i64 hi'] 25) := (b3.block _ (lt_of_heap HG2.out)).trans HG2.out
  have HI3 : Hid (IsP (fun _ => True) w3 ⟨kind, label, a, len, cap, lo', hi'⟩ t) := HI.out.bel b3
  clear c0 c1 c2 c3 c4
  have c0 := cell_of_row _ _ 0 _ _ _ hg3
  have c1 := cell_of_row _ _ 1 _ _ _ hg3
  have c2 := cell_of_row _ _ 2 _ _ _ hg3
  have c3 := cell_of_row _ _ 3 _ _ _ hg3
  have c4 := cell_of_row _ _ 4 _ _ _ hg3
  simp only [List.getElem?_toArray, List.getElem?_cons_zero, List.getElem?_cons_succ] at c0 c1 c2 c3 c4
  clear b3 hg3 HG2 HI HB2
  have hnb := str_beq (txt t) []
  have htx : txt t = if chk t = 0 then tx t else [] := rfl
  by_cases hc : chk t = 0
  · rw [if_pos hc] at htx
    have hl := chk_len hc
    have hne : tx t ≠ [] := fun h => by have := okH_tx t (chk_zero hc).2.1; rw [h] at this; cases this
    have HPB : Hid (∀ w', EnvP lo w' → Calls Tryz.prog 9 #[.string (str (40 :: (tx t ++ [41])))] w' fun e w'' => (∃ (x : PV) (F : Nat → Prop), e = .returned (.tuple #[x.v, .int .i64 3])) ∧ Below w'.heap.size w' w'') := fun w' hw' => by
      have := parse_any C w' (40 :: (tx t ++ [41])) lo hw'
      rw [par_both t hc] at this
      exact this.mono fun _ _ ⟨⟨x, F, h, _⟩, hb⟩ => ⟨⟨x, F, h⟩, hb⟩
    have HPL : Hid (∀ w', EnvP lo w' → Calls Tryz.prog 9 #[.string (str (40 :: tx t))] w' fun e w'' => (∃ (x : PV) (F : Nat → Prop), e = .returned (.tuple #[x.v, .int .i64 3])) ∧ Below w'.heap.size w' w'') := fun w' hw' => by
      have := parse_any C w' (40 :: tx t) lo hw'
      rw [par_left t hc] at this
      exact this.mono fun _ _ ⟨⟨x, F, h, _⟩, hb⟩ => ⟨⟨x, F, h⟩, hb⟩
    have HPR : Hid (∀ w', EnvP lo w' → Calls Tryz.prog 9 #[.string (str (tx t ++ [124]))] w' fun e w'' => (∃ (x : PV) (F : Nat → Prop), e = .returned (.tuple #[x.v, .int .i64 3])) ∧ Below w'.heap.size w' w'') := fun w' hw' => by
      have := parse_any C w' (tx t ++ [124]) lo hw'
      rw [par_bar t hc] at this
      exact this.mono fun _ _ ⟨⟨x, F, h, _⟩, hb⟩ => ⟨⟨x, F, h⟩, hb⟩
    have HPE : Hid (∀ w', EnvP lo w' → Calls Tryz.prog 9 #[.string ⟨#[40, 41]⟩] w' fun e w'' => (∃ x : PV, e = .returned (.tuple #[x.v, .int .i64 0]) ∧ x.kind = 1) ∧ Below w'.heap.size w' w'') := fun w' hw' => by
      have := parse_any C w' [40, 41] lo hw'
      rw [par_eps] at this
      exact this.mono fun _ _ ⟨⟨x, F, h, hi⟩, hb⟩ => ⟨⟨x, h, by obtain ⟨V, ks, e, -⟩ := hi.inv; exact (congrArg PT.kind e).symm⟩, hb⟩
    have hz : (str (tx t)).size ≤ 3839 := by rw [str_size]; exact hl
    have e1 : str (40 :: (tx t ++ [41])) = ⟨#[40]⟩ ++ str (tx t) ++ ⟨#[41]⟩ := by
      show _ = str [40] ++ str (tx t) ++ str [41]
      rw [str_app, str_app]; simp
    have e2 : str (40 :: tx t) = ⟨#[40]⟩ ++ str (tx t) := by
      show _ = str [40] ++ str (tx t)
      rw [str_app]; simp
    have e3 : str (tx t ++ [124]) = str (tx t) ++ ⟨#[124]⟩ := by
      show _ = str (tx t) ++ str [124]
      rw [str_app]
    rw [e1] at HPB
    rw [e2] at HPL
    rw [e3] at HPR
    clear hnb
    have hnb : (str (tx t)).toList.isEmpty = false := by
      rw [ByteArray.toList_eq]
      have e : (str (tx t)).data.toList = tx t := by simp [str]
      rw [e]
      cases h : tx t with
      | nil => exact absurd h hne
      | cons c s => rfl
    rw [htx]
    clear e1 e2 e3 hl hne htx hc HI3
    generalize str (tx t) = S at hnb hz HPB HPL HPR ⊢
    go_wp2_with (go_at_call 9; fail)
    refine (HPB.out w3 (HENV.out.below HB3.out)).mono ?_
    rintro e w4 ⟨⟨⟨k0, k1, k2, k3, k4, k5, k6⟩, F, rfl⟩, b4⟩
    have HB4 : Hid (Below w.heap.size w w4) := below_step HB3.out b4
    clear b4 c0 c1 c2 c3 c4 HB3
    unfold PV.v
    go_wp2_with (go_at_call 9; fail)
    obtain ⟨W4, hW4⟩ : ∃ W, W = w4.alloc (.cells #[.int .i64 k0, .string k1, .slice k2 k3 k4, .int .i64 k5, .int .i64 k6] 25) := ⟨_, rfl⟩
    have HD4 : Hid (Below w.heap.size w W4) := by show Below _ _ _; rw [hW4]; exact below_step HB4.out (below1 w4 _)
    rw [← hW4]
    clear hW4
    refine (HPE.out W4 (HENV.out.below HD4.out)).mono ?_
    rintro e w5 ⟨⟨⟨l0, l1, l2, l3, l4, l5, l6⟩, rfl, h0⟩, b5⟩
    obtain rfl : l0 = 1 := h0
    have HB5 : Hid (Below w.heap.size w w5) := below_step HD4.out b5
    clear b5 HD4 HB4 HPE
    unfold PV.v
    go_wp2_with (go_at_call 9; fail)
    obtain ⟨W5, hW5⟩ : ∃ W, W = w5.alloc (.cells #[.int .i64 1, .string l1, .slice l2 l3 l4, .int .i64 l5, .int .i64 l6] 25) := ⟨_, rfl⟩
    have HD5 : Hid (Below w.heap.size w W5) := by show Below _ _ _; rw [hW5]; exact below_step HB5.out (below1 w5 _)
    have HG5 : Hid (W5.heap[w5.heap.size]? = some (.cells #[.int .i64 1, .string l1, .slice l2 l3 l4, .int .i64 l5, .int .i64 l6] 25)) := by show W5.heap[_]? = _; rw [hW5]; exact heap_new1 w5 _
    rw [← hW5]
    clear hW5
    refine (HPL.out W5 (HENV.out.below HD5.out)).mono ?_
    rintro e w6 ⟨⟨⟨m0, m1, m2, m3, m4, m5, m6⟩, F6, rfl⟩, b6⟩
    have HB6 : Hid (Below w.heap.size w w6) := below_step HD5.out b6
    have HG6 : Hid (w6.heap[w5.heap.size]? = some (.cells #[.int .i64 1, .string l1, .slice l2 l3 l4, .int .i64 l5, .int .i64 l6] 25)) := (b6.block _ (lt_of_heap HG5.out)).trans HG5.out
    clear b6 HD5 HB5 HPL HG5
    unfold PV.v
    go_wp2_with (go_at_call 9; fail)
    obtain ⟨W6, hW6⟩ : ∃ W, W = w6.alloc (.cells #[.int .i64 m0, .string m1, .slice m2 m3 m4, .int .i64 m5, .int .i64 m6] 25) := ⟨_, rfl⟩
    have HD6 : Hid (Below w.heap.size w W6) := by show Below _ _ _; rw [hW6]; exact below_step HB6.out (below1 w6 _)
    have HH6 : Hid (W6.heap[w5.heap.size]? = some (.cells #[.int .i64 1, .string l1, .slice l2 l3 l4, .int .i64 l5, .int .i64 l6] 25)) := by show W6.heap[_]? = _; rw [hW6]; exact ((below1 w6 _).block _ (lt_of_heap HG6.out)).trans HG6.out
    rw [← hW6]
    clear hW6 HG6
    refine (HPR.out W6 (HENV.out.below HD6.out)).mono ?_
    rintro e w7 ⟨⟨⟨n0, n1, n2, n3, n4, n5, n6⟩, F7, rfl⟩, b7⟩
    have HB7 : Hid (Below w.heap.size w w7) := below_step HD6.out b7
    have HG7 : Hid (w7.heap[w5.heap.size]? = some (.cells #[.int .i64 1, .string l1, .slice l2 l3 l4, .int .i64 l5, .int .i64 l6] 25)) := (b7.block _ (lt_of_heap HH6.out)).trans HH6.out
    obtain ⟨W7, hW7⟩ : ∃ W, W = w7.alloc (.cells #[.int .i64 n0, .string n1, .slice n2 n3 n4, .int .i64 n5, .int .i64 n6] 25) := ⟨_, rfl⟩
    have HD7 : Hid (Below w.heap.size w W7) := by show Below _ _ _; rw [hW7]; exact below_step HB7.out (below1 w7 _)
    have hg7 : W7.heap[w5.heap.size]? = some (.cells #[.int .i64 1, .string l1, .slice l2 l3 l4, .int .i64 l5, .int .i64 l6] 25) := by rw [hW7]; exact ((below1 w7 _).block _ (lt_of_heap HG7.out)).trans HG7.out
    have c0 : W7.cell? ⟨w5.heap.size, 0, none⟩ = some (.int .i64 1) := by rw [cell_of_row _ _ _ _ _ _ hg7]; rfl
    clear b7 HD6 HB6 HPR HG7 HH6 hg7
    rw [hW7] at c0
    unfold PV.v
    go_wp2_with (go_at_call 8; fail)
    rw [← hW7]
    clear hW7 c0
    refine (awake_any C _ lo (HENV.out.below HD7.out)).mono ?_
    rintro e wz ⟨rfl, bz⟩
    have HBZ : Hid (Below w.heap.size w wz) := below_step HD7.out bz
    clear bz
    go_wp2
    go_ret
    exact ⟨rfl, HBZ.out⟩
  · rw [if_neg hc] at htx
    rw [htx] at hnb ⊢
    rw [decide_eq_true rfl] at hnb
    have hemp : str [] = ⟨#[]⟩ := rfl
    rw [hemp] at hnb ⊢
    have HC : Hid (Calls _ _ _ _ _) := chk_any t _ w3 ⟨kind, label, a, len, cap, lo', hi'⟩ HI3.out
    generalize chk t = cc at hc HC
    clear htx hemp
    go_wp2_with (go_at_call 16; fail)
    refine HC.out.mono ?_
    rintro e w4 ⟨rfl, b4⟩
    have HB4 : Hid (Below w.heap.size w w4) := below_step HB3.out b4
    clear b4 c0 c1 c2 c3 c4 HC HI3 HB3
    have hc' : (cc != 0) = true := by simpa using hc
    go_wp2_with (go_at_call 8; fail)
    refine (awake_any C _ lo (HENV.out.below HB4.out)).mono ?_
    rintro e wz ⟨rfl, bz⟩
    have HBZ : Hid (Below w.heap.size w wz) := below_step HB4.out bz
    clear bz
    go_wp2
    go_ret
    exact ⟨rfl, HBZ.out⟩
end Go.Proofs.YtbgkfjelgnbfmaaGreatDoor
