/- BailPlays, out of what bail answers. -/
import Derived.Test.YtgighebohbpkiaaBwl
import Derived.Test.YtgighebohbpkiaaBp3
namespace Go.Proofs.Ytgighebohbpkiaa
open Go.RowKit Fo
set_option maxRecDepth 100000
set_option linter.unusedSimpArgs false
set_option linter.unusedVariables false

set_option maxHeartbeats 4000000 in
theorem ints_same (w : World) (a b : Option Addr) (c d n : Nat) (K : Nat → Int) (h1 : Rd w a n c (ivs K)) (h2 : Rd w b n d (ivs K)) :
    Calls Try.prog 15 #[.slice a n c, .slice b n d] w fun e w' => e = .returned (.bool true) ∧ Below w.heap.size w w' := by
  have H1 : Hid (Rd w a n c (ivs K)) := h1
  have H2 : Hid (Rd w b n d (ivs K)) := h2
  have hn := h1.1
  have hm := h2.1
  have hc := h1.2.1
  have hd := h2.2.1
  clear h1 h2
  go_enter Try.func15, Try.ntmps15
  go_wp2
  go_loopw [5] (fun v wr => ∃ i : Nat, i ≤ n ∧ v = .int .i64 i ∧ Hid (Below w.heap.size w wr)) (fun v _ => n - (intOf v).toNat)
  case atStart => exact ⟨0, Nat.zero_le _, rfl, below_refl _⟩
  case round =>
    obtain ⟨i, hi, rfl, HW⟩ := hrel
    rename World => wr
    by_cases hlt : i < n
    · obtain ⟨ga, oa, rfl, hca⟩ := (H1.out.below HW.out).at (by omega)
      obtain ⟨gb, ob, rfl, hcb⟩ := (H2.out.below HW.out).at (by omega)
      have hci := hca i hlt
      have hck := hcb i hlt
      unfold ivs at hci hck
      have j1 : (0 : Int) ≤ (i : Int) := by omega
      have j2 : (i : Int) < (n : Int) := by omega
      have hne : (K i != K i) = false := by simp
      clear hca hcb H1 H2
      go_wp2
      go_quiet (fail)
      go_wp2
      exact ⟨⟨i + 1, by omega, by simp, below_drewN HW.out _⟩, by simp [intOf]; omega⟩
    · obtain rfl : i = n := by omega
      clear H1 H2
      go_wp2
      go_ret
      exact ⟨rfl, HW.out⟩
theorem fnv_bp1 (cap : Array Value) : Fnv Try.prog 13 cap := enters_of Try.func13 (by kernel_rfl) rfl cap
set_option maxHeartbeats 4000000 in
theorem bp1_plays {M : (Nat → Prop) → World → Value → Int → Prop} (D : MeterSays M) (lo bw b1 b2 : Nat) (F : Nat → Prop) (w : World) (x y : St) (r : En) (kind code n : Int) (na : Option Addr) (len cap : Nat) (h1 : w.heap[b1]? = some (.cells #[.pointer (some ⟨bw, 0, none⟩)] 27)) (h2 : w.heap[b2]? = some (.cells #[.int .i64 kind, .int .i64 code, .int .i64 n, .slice na len cap] 24))
    (hd : Calls Try.prog 14 #[(.pointer (some ⟨bw, 0, none⟩)), .agg #[.int .i64 kind, .int .i64 code, .int .i64 n, .slice na len cap]] w (Fins (WS M lo bw) F w r y)) :
    Plays Try.prog 13 #[.pointer (some ⟨b1, 0, none⟩), .pointer (some ⟨b2, 0, none⟩)] w (Fins (WS M lo bw) F w r y) := by
  refine ⟨_, _, Try.func13, rfl, ?_⟩
  simp only [Try.ntmps13, List.size_toArray, List.length_cons, List.length_nil, Nat.reduceAdd, Nat.reduceSub, Array.replicate_succ, Array.replicate_zero, List.push_toArray, List.append_toArray, List.nil_append, List.cons_append]
  have HD : Hid (Calls Try.prog 14 #[(.pointer (some ⟨bw, 0, none⟩)), .agg #[.int .i64 kind, .int .i64 code, .int .i64 n, .slice na len cap]] w (Fins (WS M lo bw) F w r y)) := hd
  have q0 : w.cell? ⟨b1, 0, none⟩ = some (.pointer (some ⟨bw, 0, none⟩)) := by rw [cell_of_row _ _ _ _ _ _ h1]; rfl
  have u0 : w.cell? ⟨b2, 0, none⟩ = some (.int .i64 kind) := by rw [cell_of_row _ _ _ _ _ _ h2]; rfl
  have u1 : w.cell? ⟨b2, 1, none⟩ = some (.int .i64 code) := by rw [cell_of_row _ _ _ _ _ _ h2]; rfl
  have u2 : w.cell? ⟨b2, 2, none⟩ = some (.int .i64 n) := by rw [cell_of_row _ _ _ _ _ _ h2]; rfl
  have u3 : w.cell? ⟨b2, 3, none⟩ = some (.slice na len cap) := by rw [cell_of_row _ _ _ _ _ _ h2]; rfl
  clear hd h1 h2
  go_wp2_with (go_at_call 14; fail)
  refine HD.out.mono ?_
  intro e w' hfin
  have HFin : Hid (Fins (WS M lo bw) F w r y e w') := hfin
  obtain ⟨G, hl, he⟩ := hfin
  rcases he with ⟨hr, rfl⟩ | ⟨v, old, rfl, -⟩
  · clear hl hr
    go_wp2
    go_end0
    exact HFin.out
  · clear hl
    go_wp2
    exact ⟨rfl, HFin.out⟩
set_option maxHeartbeats 16000000 in
theorem bplays_any {M : (Nat → Prop) → World → Value → Int → Prop} (C : BailSays) (D : MeterSays M) (w : World) (K : NV → Nat → NV) (nv : NV) (b : Int) (hw : Wf K w 13 nv) (hb1 : b ≤ 9223372036854775807) :
    Calls Try.prog 3 #[nv.v, .int .i64 b] w fun e w' => e = .returned (.bool true) ∧ Below w.heap.size w w' := by
  have hmf : ∀ (fn : Fn) (first cap : Array Value) (w : World), (Instr.makeFunc fn first cap).run Try.prog w = .ok (.func fn first cap) w := fun _ _ _ _ => rfl
  have HWf : Hid (Wf K w 13 nv) := hw
  have hwt := fun (w1 : World) (h : Wf K w1 13 nv) => weight_any K 13 (by decide) nv w1 h
  have hdo := fun (w0 : World) (bw : Nat) (h : Wf K w0 13 nv) (hz : sz K 13 nv ≤ 200) => does_all (M := M) C D K w0 bw 13 nv h hz
  have hpl := fun (w0 : World) (pb : Nat) (h : Wf K w0 13 nv) (hz : sz K 13 nv ≤ 200) => plays_all K w0 pb 13 nv h hz
  have hrb := run_b K 13 nv
  obtain ⟨S, hS⟩ : ∃ S, S = sz K 13 nv := ⟨_, rfl⟩
  obtain ⟨rn, hrn⟩ : ∃ rn, rn = run K 13 nv := ⟨_, rfl⟩
  rw [← hS] at hwt hdo hpl hrb
  rw [← hrn] at hdo hpl hrb
  have HWT : Hid (∀ (w1 : World), Wf K w1 13 nv → Calls Try.prog 8 #[nv.v, .int .i64 (13 - (13 : Nat))] w1 fun e w' => (∃ W, e = .returned (.int .i64 W) ∧ InvW W S) ∧ Below w1.heap.size w1 w') := hwt
  have HDO : Hid (∀ (w0 : World) (bw : Nat), Wf K w0 13 nv → S ≤ 200 → DoesP M w0 bw nv rn (3 * S)) := hdo
  have HPL : Hid (∀ (w0 : World) (pb : Nat), Wf K w0 13 nv → S ≤ 200 → PlayP w0 pb nv rn (3 * S)) := hpl
  have HRB : Hid (RunB (3 * S) rn) := hrb
  clear hw hwt hdo hpl hrb hS hrn
  obtain ⟨kind, code, n, na, len, cap⟩ := nv
  unfold NV.v at *
  simp only at HWT
  obtain ⟨W1, hW1⟩ : ∃ W1, W1 = w.alloc (.cells #[.int .i64 kind, .int .i64 code, .int .i64 n, .slice na len cap] 24) := ⟨_, rfl⟩
  have HB1 : Hid (Below w.heap.size w W1) := by rw [hW1]; exact below1 w _
  have HQ1 : Hid (W1.heap[w.heap.size]? = some (.cells #[.int .i64 kind, .int .i64 code, .int .i64 n, .slice na len cap] 24)) := by show W1.heap[_]? = _; rw [hW1]; exact heap_new1 w _
  go_enter Try.func3, Try.ntmps3
  go_wp2_with (go_at_call 8; fail)
  rw [← hW1]
  clear hW1
  refine (HWT.out W1 (HWf.out.below HB1.out)).mono ?_
  rintro e w2 ⟨⟨W, rfl, hI⟩, b2⟩
  have HI : Hid (InvW W S) := hI
  have HB2 : Hid (Below w.heap.size w w2) := below_step HB1.out b2
  have HQ2 : Hid (w2.heap[w.heap.size]? = some (.cells #[.int .i64 kind, .int .i64 code, .int .i64 n, .slice na len cap] 24)) := (b2.block _ (lt_of_heap HQ1.out)).trans HQ1.out
  clear hI b2 HWT
  by_cases hW : 200 < W
  · go_wp2_with (go_at_call 9; fail)
    refine (awake_of C D w2).mono ?_
    rintro e w3 ⟨rfl, b3⟩
    have HB3 : Hid (Below w.heap.size w w3) := below_step HB2.out b3
    clear b3
    go_wp2
    go_ret
    exact ⟨rfl, HB3.out⟩
  have hS : S ≤ 200 := by
    obtain ⟨q1, q2, q3⟩ := HI.out
    omega
  have HS : Hid (S ≤ 200) := hS
  clear hS
  go_wp2_with (go_at_call 10; fail)
  refine (D.new w2 b (max b 0) hb1 rfl).mono ?_
  rintro e w3 ⟨⟨FM, p, rfl, hm, hF⟩, b3⟩
  have HM : Hid (M FM w3 (.pointer p) (max b 0)) := hm
  have HFM : Hid (∀ k, FM k → w2.heap.size ≤ k) := hF
  have HB23 : Hid (Below w2.heap.size w2 w3) := b3
  have HB3 : Hid (Below w.heap.size w w3) := below_step HB2.out b3
  have HQ3 : Hid (w3.heap[w.heap.size]? = some (.cells #[.int .i64 kind, .int .i64 code, .int .i64 n, .slice na len cap] 24)) := (b3.block _ (lt_of_heap HQ2.out)).trans HQ2.out
  clear hm hF b3
  have hz23 := HB23.out.size
  have hz2 := HB2.out.size
  by_cases hb : b < 0
  · skip
    have hmx : max b 0 = 0 := by omega
    rw [hmx] at HM
    clear hmx
    obtain ⟨W5, hW5⟩ : ∃ W5, W5 = (((w3.alloc (.cells #[.slice none 0 0, .pointer p] 32)).alloc (.cells #[.pointer (some ⟨w3.heap.size, 0, none⟩)] 27)).alloc (.cells #[.slice none 0 0, .int .i64 0] 35)) := ⟨_, rfl⟩
    have hW5f : W5 = List.foldl World.alloc w3 [.cells #[.slice none 0 0, .pointer p] 32, .cells #[.pointer (some ⟨w3.heap.size, 0, none⟩)] 27, .cells #[.slice none 0 0, .int .i64 0] 35] := hW5
    have hb5 : Below w3.heap.size w3 W5 := by rw [hW5f]; exact fold_below _ w3 w3 (below_refl w3)
    have HB35 : Hid (Below w3.heap.size w3 W5) := hb5
    have HZ5 : Hid (W5.heap.size = w3.heap.size + 3) := by show _ = _; rw [hW5f, fold_size]; rfl
    have HA5 : Hid (W5.heap[w3.heap.size]? = some (.cells #[.slice none 0 0, .pointer p] 32)) := by show W5.heap[_]? = _; rw [hW5f]; exact fold_heap _ w3 0 _ rfl
    have HX5 : Hid (W5.heap[w3.heap.size + 1]? = some (.cells #[.pointer (some ⟨w3.heap.size, 0, none⟩)] 27)) := by show W5.heap[_]? = _; rw [hW5f]; exact fold_heap _ w3 1 _ rfl
    have HC5 : Hid (W5.heap[w3.heap.size + 1 + 1]? = some (.cells #[.slice none 0 0, .int .i64 0] 35)) := by show W5.heap[_]? = _; rw [hW5f]; exact fold_heap _ w3 2 _ rfl
    have HN5 : Hid (W5.heap[w.heap.size]? = some (.cells #[.int .i64 kind, .int .i64 code, .int .i64 n, .slice na len cap] 24)) := (hb5.block _ (lt_of_heap HQ3.out)).trans HQ3.out
    have HB5 : Hid (Below w.heap.size w W5) := below_step HB3.out hb5
    have HIR : Hid (InR ⟨[], 0⟩) := ⟨by simp only; omega, by simp only; omega⟩
    obtain ⟨FW, hFW⟩ : ∃ FW : Nat → Prop, FW = fun b => FM b ∨ b = w3.heap.size := ⟨_, rfl⟩
    have hlt3 := D.lt HM.out
    have HW5 : Hid (WS M w.heap.size w3.heap.size FW W5 ⟨[], 0⟩) := by
      rw [hFW]
      exact ⟨none, 0, p, FM, HA5.out, Ow.nil _ _ _ _, fun g h => (by cases h), D.frame HM.out (Kp.of_below (F := fun _ => False) hb5) fun _ _ h => h, fun b h => Or.inl h, fun h => by have := hlt3 _ h; omega, Or.inr rfl, fun b h => by have := HZ5.out; rcases h with h | h; have := hlt3 _ h; omega; omega, fun b h => by rcases h with h | h; have := HFM.out _ h; omega; omega⟩
    have HFWlo : Hid (∀ b, FW b → w.heap.size ≤ b) := fun b h => by
      rw [hFW] at h
      rcases h with h | h
      · have := HFM.out _ h; omega
      · omega
    have HFWhi : Hid (∀ b, FW b → b ≤ w3.heap.size) := fun b h => by
      rw [hFW] at h
      rcases h with h | h
      · have := hlt3 _ h; omega
      · omega
    have HP5 : Hid (PS w.heap.size (w3.heap.size + 1 + 1) (fun b => b = w3.heap.size + 1 + 1) W5 ⟨[], 0⟩) := ⟨none, 0, HC5.out, Ow.nil _ _ _ _, fun g h => (by cases h), rfl, fun b h => by have := HZ5.out; omega, fun b h => by have := HB3.out.size; omega⟩
    obtain ⟨e0, y, hrun⟩ : ∃ e0 y, rn ⟨[], 0⟩ = (e0, y) := ⟨_, _, rfl⟩
    have HRN : Hid (rn ⟨[], 0⟩ = (e0, y)) := hrun
    have HNL : Hid (e0 ≠ .nilB) := by have := (HRB.out _ HIR.out).1; rw [hrun] at this; exact this
    have u0 : W5.cell? ⟨w.heap.size, 0, none⟩ = some (.int .i64 kind) := by rw [cell_of_row _ _ _ _ _ _ HN5.out]; rfl
    have u1 : W5.cell? ⟨w.heap.size, 1, none⟩ = some (.int .i64 code) := by rw [cell_of_row _ _ _ _ _ _ HN5.out]; rfl
    have u2 : W5.cell? ⟨w.heap.size, 2, none⟩ = some (.int .i64 n) := by rw [cell_of_row _ _ _ _ _ _ HN5.out]; rfl
    have u3 : W5.cell? ⟨w.heap.size, 3, none⟩ = some (.slice na len cap) := by rw [cell_of_row _ _ _ _ _ _ HN5.out]; rfl
    rw [hW5] at u0 u1 u2 u3
    have HWW : Hid (W5 = (((w3.alloc (.cells #[.slice none 0 0, .pointer p] 32)).alloc (.cells #[.pointer (some ⟨w3.heap.size, 0, none⟩)] 27)).alloc (.cells #[.slice none 0 0, .int .i64 0] 35))) := hW5
    clear hrun hW5f hb5 hlt3 hFW hW5
    go_wp2_with (go_at_call 11; fail)
    rw [← HWW.out]
    clear u0 u1 u2 u3 HWW
    refine (HPL.out w (w3.heap.size + 1 + 1) HWf.out HS.out _ W5 ⟨[], 0⟩ HB5.out HP5.out (by simp only [List.length_nil]; have := HS.out; omega) HIR.out).mono ?_
    rintro e w6 ⟨he6, G6, hl⟩
    rw [HRN.out] at he6 hl
    simp only at he6 hl
    have HL6 : Hid (Lft (PS w.heap.size (w3.heap.size + 1 + 1)) (fun b => b = w3.heap.size + 1 + 1) W5 y G6 w6) := hl
    have HZ6 : Hid (w3.heap.size + 3 ≤ w6.heap.size) := by have := hl.2.2.size; rw [HZ5.out] at this; exact this
    have HB6 : Hid (Below w.heap.size w w6) := HB5.out.trans (hl.2.2.below HB5.out.size fun b hb h => by have := HB3.out.size; omega)
    have HW6 : Hid (WS M w.heap.size w3.heap.size FW w6 ⟨[], 0⟩) := (ws_st D _ _).frame HW5.out hl.2.2 fun b h1 h2 => by have := HFWhi.out b h1; omega
    have HN6 : Hid (w6.heap[w.heap.size]? = some (.cells #[.int .i64 kind, .int .i64 code, .int .i64 n, .slice na len cap] 24)) := hl.2.2.heap HN5.out (by have := HB3.out.size; omega)
    have HX6 : Hid (w6.heap[w3.heap.size + 1]? = some (.cells #[.pointer (some ⟨w3.heap.size, 0, none⟩)] 27)) := hl.2.2.heap HX5.out (by omega)
    have HDJ : Hid (∀ b, G6 b → ¬ FW b) := fun b h1 h2 => by
      have h3 := HFWhi.out b h2
      rcases hl.2.1 b h1 with q | q
      · omega
      · have := HZ5.out; omega
    clear hl
    cases e0 with
    | ret =>
      replace he6 : e = .returned (.agg #[.int .i64 0, .int .i64 0, .int .i64 0]) := he6
      subst he6
      have hb7 : Below w6.heap.size w6 (w6.alloc (.cells #[.int .i64 0, .int .i64 0, .int .i64 0] 37)) := below1 w6 _
      have HW7 : Hid (WS M w.heap.size w3.heap.size FW (w6.alloc (.cells #[.int .i64 0, .int .i64 0, .int .i64 0] 37)) ⟨[], 0⟩) := (ws_st D _ _).below HW6.out hb7
      have HP7 : Hid (PS w.heap.size (w3.heap.size + 1 + 1) G6 (w6.alloc (.cells #[.int .i64 0, .int .i64 0, .int .i64 0] 37)) y) := (ps_st _ _).below HL6.out.1 hb7
      have HB7 : Hid (Below w.heap.size w (w6.alloc (.cells #[.int .i64 0, .int .i64 0, .int .i64 0] 37))) := below_step HB6.out hb7
      have HE7 : Hid ((w6.alloc (.cells #[.int .i64 0, .int .i64 0, .int .i64 0] 37)).heap[w6.heap.size]? = some (.cells #[.int .i64 0, .int .i64 0, .int .i64 0] 37)) := heap_new1 w6 _
      have HN7 : Hid ((w6.alloc (.cells #[.int .i64 0, .int .i64 0, .int .i64 0] 37)).heap[w.heap.size]? = some (.cells #[.int .i64 kind, .int .i64 code, .int .i64 n, .slice na len cap] 24)) := (hb7.block _ (lt_of_heap HN6.out)).trans HN6.out
      have HX7 : Hid ((w6.alloc (.cells #[.int .i64 0, .int .i64 0, .int .i64 0] 37)).heap[w3.heap.size + 1]? = some (.cells #[.pointer (some ⟨w3.heap.size, 0, none⟩)] 27)) := (hb7.block _ (lt_of_heap HX6.out)).trans HX6.out
      clear hb7
      go_wp2_with (go_at_call 12; fail)
      refine (C.safe (ws_st D w.heap.size w3.heap.size) FW (w6.alloc (.cells #[.int .i64 0, .int .i64 0, .int .i64 0] 37)) ⟨[], 0⟩ y _ _ (.ret) (fnv_bp1 _) HW7.out fun w1 hb hs => bp1_plays D w.heap.size w3.heap.size _ _ FW w1 ⟨[], 0⟩ y (.ret) kind code n na len cap ((hb.block _ (lt_of_heap HX7.out)).trans HX7.out) ((hb.block _ (lt_of_heap HN7.out)).trans HN7.out) (by
        have := HDO.out w w3.heap.size HWf.out HS.out FW w1 ⟨[], 0⟩ (HB7.out.trans (hb.mono HB7.out.size)) hs (by simp only [List.length_nil]; have := HS.out; omega) HIR.out
        rwa [HRN.out] at this)).mono ?_
      rintro e w8 ⟨G8, hl, he⟩
      have HL8 : Hid (Lft (WS M w.heap.size w3.heap.size) FW (w6.alloc (.cells #[.int .i64 0, .int .i64 0, .int .i64 0] 37)) y G8 w8) := hl
      have HB8 : Hid (Below w.heap.size w w8) := HB7.out.trans (hl.2.2.below HB7.out.size fun b hb hF => by have := HFWlo.out b hF; omega)
      have HP8 : Hid (PS w.heap.size (w3.heap.size + 1 + 1) G6 w8 y) := (ps_st _ _).frame HP7.out hl.2.2 fun b h1 h2 => HDJ.out b h1 h2
      have HE8 : Hid (w8.heap[w6.heap.size]? = some (.cells #[.int .i64 0, .int .i64 0, .int .i64 0] 37)) := hl.2.2.heap HE7.out fun h => by have := HFWhi.out _ h; have := HZ6.out; omega
      have HX8 : Hid (w8.heap[w3.heap.size + 1]? = some (.cells #[.pointer (some ⟨w3.heap.size, 0, none⟩)] 27)) := hl.2.2.heap HX7.out fun h => by have := HFWhi.out _ h; omega
      have HHE : Hid (SafE (w6.alloc (.cells #[.int .i64 0, .int .i64 0, .int .i64 0] 37)).heap.size G8 w8 (.ret) e) := he
      clear hl he
      obtain rfl : e = .returned (.tuple #[.nilIface, .bool true]) := by
        rcases HHE.out with ⟨-, h⟩ | ⟨v, -, h⟩
        · exact h
        · exact h.elim
      have ta1 : ∀ w, (Instr.typeAssert .nilIface 20 44 true).run Try.prog w = .ok (.tuple #[.pointer none, .bool false]) w := fun _ => by kernel_rfl
      have ta2 : ∀ w, (Instr.typeAssert .nilIface 20 3 true).run Try.prog w = .ok (.tuple #[.int .i64 0, .bool false]) w := fun _ => by kernel_rfl
      obtain ⟨a8, c8, p8, FM8, h8⟩ := HL8.out.1
      have HY8 : Hid (WX M w.heap.size w3.heap.size G8 w8 y a8 c8 p8 FM8) := h8
      obtain ⟨a6, c6, h6⟩ := HP8.out
      have HY6 : Hid (PX w.heap.size (w3.heap.size + 1 + 1) G6 w8 y a6 c6) := h6
      clear h8 h6
      go_wp2
      refine wp_region_held_drew (S := (fun w' => Below w8.heap.size w8 w')) (by kernel_rfl) ?_ (fun hHeld => ?_)
      · (try dsimp only); exact (below_refl w8).drew
      refine wpAnyH_take (i := 0) (oi := { dst := some 34, op := Op.load 27 (Operand.tmp 5), type := 27, pos := "law.go:191", after := #[], guard := none }) (v := ?vu174) rfl (by kernel_rfl) (by kernel_rfl) (by kernel_rfl) (fun _ _ _ h => h) (Or.inl ⟨by rfl, ?hyu174⟩) (by assumption) ?restu174
      case hyu174 => (intro wz hSw; (try dsimp only at hSw); have q0 := cell_of_row _ _ 0 _ _ _ ((hSw.block _ (lt_of_heap HX8.out)).trans HX8.out); have q1 := cell_of_row _ _ 0 _ _ _ ((hSw.block _ (lt_of_heap HY8.out.hb)).trans HY8.out.hb); have q2 := cell_of_row _ _ 1 _ _ _ ((hSw.block _ (lt_of_heap HY8.out.hb)).trans HY8.out.hb); have q3 := cell_of_row _ _ 0 _ _ _ ((hSw.block _ (lt_of_heap HY6.out.hb)).trans HY6.out.hb); have q4 := cell_of_row _ _ 1 _ _ _ ((hSw.block _ (lt_of_heap HY6.out.hb)).trans HY6.out.hb); have q5 := cell_of_row _ _ 0 _ _ _ ((hSw.block _ (lt_of_heap HE8.out)).trans HE8.out); (try simp only [List.getElem?_toArray, List.getElem?_cons_zero, List.getElem?_cons_succ] at q0 q1 q2 q3 q4 q5); go_simp; (try with_reducible rfl))
      try simp only [Act.put, List.setIfInBounds_toArray, List.set_cons_zero, List.set_cons_succ]
      refine wpAnyH_take (i := 1) (oi := { dst := some 35, op := Op.nilCheck (Operand.tmp 34), type := 0, pos := "law.go:191", after := #[{ on := 0, ground := Ground.data }], guard := none }) (v := ?vu175) rfl (by kernel_rfl) (by kernel_rfl) (by kernel_rfl) (fun _ _ _ h => h) (Or.inl ⟨by rfl, ?hyu175⟩) (by assumption) ?restu175
      case hyu175 => (intro w hSw; (try dsimp only at hSw); go_simp; (try with_reducible rfl))
      try simp only [Act.put, List.setIfInBounds_toArray, List.set_cons_zero, List.set_cons_succ]
      refine wpAnyH_take (i := 2) (oi := { dst := some 36, op := Op.fieldAddr 32 (Operand.tmp 35) 0, type := 0, pos := "law.go:191", after := #[{ on := 1, ground := Ground.data }], guard := none }) (v := ?vu176) rfl (by kernel_rfl) (by kernel_rfl) (by kernel_rfl) (fun _ _ _ h => h) (Or.inl ⟨by rfl, ?hyu176⟩) (by assumption) ?restu176
      case hyu176 => (intro w hSw; (try dsimp only at hSw); go_simp; (try with_reducible rfl))
      try simp only [Act.put, List.setIfInBounds_toArray, List.set_cons_zero, List.set_cons_succ]
      refine wpAnyH_take (i := 3) (oi := { dst := some 37, op := Op.load 30 (Operand.tmp 36), type := 30, pos := "law.go:191", after := #[{ on := 2, ground := Ground.data }], guard := none }) (v := ?vu177) rfl (by kernel_rfl) (by kernel_rfl) (by kernel_rfl) (fun _ _ _ h => h) (Or.inl ⟨by rfl, ?hyu177⟩) (by assumption) ?restu177
      case hyu177 => (intro wz hSw; (try dsimp only at hSw); have q0 := cell_of_row _ _ 0 _ _ _ ((hSw.block _ (lt_of_heap HX8.out)).trans HX8.out); have q1 := cell_of_row _ _ 0 _ _ _ ((hSw.block _ (lt_of_heap HY8.out.hb)).trans HY8.out.hb); have q2 := cell_of_row _ _ 1 _ _ _ ((hSw.block _ (lt_of_heap HY8.out.hb)).trans HY8.out.hb); have q3 := cell_of_row _ _ 0 _ _ _ ((hSw.block _ (lt_of_heap HY6.out.hb)).trans HY6.out.hb); have q4 := cell_of_row _ _ 1 _ _ _ ((hSw.block _ (lt_of_heap HY6.out.hb)).trans HY6.out.hb); have q5 := cell_of_row _ _ 0 _ _ _ ((hSw.block _ (lt_of_heap HE8.out)).trans HE8.out); (try simp only [List.getElem?_toArray, List.getElem?_cons_zero, List.getElem?_cons_succ] at q0 q1 q2 q3 q4 q5); go_simp; (try with_reducible rfl))
      try simp only [Act.put, List.setIfInBounds_toArray, List.set_cons_zero, List.set_cons_succ]
      refine wpAnyH_take (i := 4) (oi := { dst := some 38, op := Op.move (Operand.tmp 6), type := 33, pos := "law.go:191", after := #[], guard := none }) (v := ?vu178) rfl (by kernel_rfl) (by kernel_rfl) (by kernel_rfl) (fun _ _ _ h => h) (Or.inl ⟨by rfl, ?hyu178⟩) (by assumption) ?restu178
      case hyu178 => (intro w hSw; (try dsimp only at hSw); go_simp; (try with_reducible rfl))
      try simp only [Act.put, List.setIfInBounds_toArray, List.set_cons_zero, List.set_cons_succ]
      refine wpAnyH_take (i := 5) (oi := { dst := some 39, op := Op.nilCheck (Operand.tmp 38), type := 0, pos := "law.go:191", after := #[{ on := 4, ground := Ground.data }], guard := none }) (v := ?vu179) rfl (by kernel_rfl) (by kernel_rfl) (by kernel_rfl) (fun _ _ _ h => h) (Or.inl ⟨by rfl, ?hyu179⟩) (by assumption) ?restu179
      case hyu179 => (intro w hSw; (try dsimp only at hSw); go_simp; (try with_reducible rfl))
      try simp only [Act.put, List.setIfInBounds_toArray, List.set_cons_zero, List.set_cons_succ]
      refine wpAnyH_take (i := 6) (oi := { dst := some 40, op := Op.fieldAddr 35 (Operand.tmp 39) 0, type := 0, pos := "law.go:191", after := #[{ on := 5, ground := Ground.data }], guard := none }) (v := ?vu180) rfl (by kernel_rfl) (by kernel_rfl) (by kernel_rfl) (fun _ _ _ h => h) (Or.inl ⟨by rfl, ?hyu180⟩) (by assumption) ?restu180
      case hyu180 => (intro w hSw; (try dsimp only at hSw); go_simp; (try with_reducible rfl))
      try simp only [Act.put, List.setIfInBounds_toArray, List.set_cons_zero, List.set_cons_succ]
      refine wpAnyH_take (i := 7) (oi := { dst := some 41, op := Op.load 30 (Operand.tmp 40), type := 30, pos := "law.go:191", after := #[{ on := 6, ground := Ground.data }], guard := none }) (v := ?vu181) rfl (by kernel_rfl) (by kernel_rfl) (by kernel_rfl) (fun _ _ _ h => h) (Or.inl ⟨by rfl, ?hyu181⟩) (by assumption) ?restu181
      case hyu181 => (intro wz hSw; (try dsimp only at hSw); have q0 := cell_of_row _ _ 0 _ _ _ ((hSw.block _ (lt_of_heap HX8.out)).trans HX8.out); have q1 := cell_of_row _ _ 0 _ _ _ ((hSw.block _ (lt_of_heap HY8.out.hb)).trans HY8.out.hb); have q2 := cell_of_row _ _ 1 _ _ _ ((hSw.block _ (lt_of_heap HY8.out.hb)).trans HY8.out.hb); have q3 := cell_of_row _ _ 0 _ _ _ ((hSw.block _ (lt_of_heap HY6.out.hb)).trans HY6.out.hb); have q4 := cell_of_row _ _ 1 _ _ _ ((hSw.block _ (lt_of_heap HY6.out.hb)).trans HY6.out.hb); have q5 := cell_of_row _ _ 0 _ _ _ ((hSw.block _ (lt_of_heap HE8.out)).trans HE8.out); (try simp only [List.getElem?_toArray, List.getElem?_cons_zero, List.getElem?_cons_succ] at q0 q1 q2 q3 q4 q5); go_simp; (try with_reducible rfl))
      try simp only [Act.put, List.setIfInBounds_toArray, List.set_cons_zero, List.set_cons_succ]
      refine wpAnyH_ready (rs := [8]) (by kernel_rfl) (by simp) ?_
      refine AllReadyH.cons (o := { dst := some 42, op := Op.call { callee := Callee.value (Operand.func 15), args := #[Operand.tmp 37, Operand.tmp 41], argTypes := #[30, 30] }, type := 4, pos := "law.go:191", after := #[{ on := 3, ground := Ground.data }, { on := 7, ground := Ground.data }], guard := none }) rfl (fun K hK => ?_) AllReadyH.nil
      go_simp
      go_at_call 15
      refine (ints_same w8.drew a8 a6 c8 c6 y.notes.length (gt y.notes) (HY8.out.ow.drew.rd1) (HY6.out.ow.drew.rd1)).mono ?_
      rintro e z1 ⟨rfl, b⟩
      have HZ1 : Hid (Below w8.heap.size w8 z1) := (below_refl w8).drew.trans b
      clear b
      refine hK.out _ _ ?_ (fun hHeldB => ?_)
      · (try dsimp only); first | exact HZ1.out | exact HZ2.out
      clear hK K hHeld
      have hHeld := hHeldB
      clear hHeldB
      try simp only [Act.put, List.setIfInBounds_toArray, List.set_cons_zero, List.set_cons_succ]
      refine wpAnyH_take (i := 9) (oi := { dst := some 43, op := Op.unOp UnOp.not 4 (Operand.tmp 42), type := 4, pos := "law.go:191", after := #[{ on := 8, ground := Ground.data }], guard := none }) (v := ?vu182) rfl (by kernel_rfl) (by kernel_rfl) (by kernel_rfl) (fun _ _ _ h => h) (Or.inl ⟨by rfl, ?hyu182⟩) (by assumption) ?restu182
      case hyu182 => (intro w hSw; (try dsimp only at hSw); go_simp; (try with_reducible rfl))
      try simp only [Act.put, List.setIfInBounds_toArray, List.set_cons_zero, List.set_cons_succ]
      refine wpAnyH_take (i := 10) (oi := { dst := some 44, op := Op.move (Operand.tmp 43), type := 4, pos := "law.go:191", after := #[{ on := 9, ground := Ground.data }, { on := 8, ground := Ground.chain }], guard := none }) (v := ?vu183) rfl (by kernel_rfl) (by kernel_rfl) (by kernel_rfl) (fun _ _ _ h => h) (Or.inl ⟨by rfl, ?hyu183⟩) (by assumption) ?restu183
      case hyu183 => (intro w hSw; (try dsimp only at hSw); go_simp; (try with_reducible rfl))
      try simp only [Act.put, List.setIfInBounds_toArray, List.set_cons_zero, List.set_cons_succ]
      refine wpAnyH_take (i := 11) (oi := { dst := some 45, op := Op.load 27 (Operand.tmp 5), type := 27, pos := "law.go:191", after := #[{ on := 10, ground := Ground.guard }], guard := some (10, false) }) (v := ?vu184) rfl (by kernel_rfl) (by kernel_rfl) (by kernel_rfl) (fun _ _ _ h => h) (Or.inl ⟨by rfl, ?hyu184⟩) (by assumption) ?restu184
      case hyu184 => (intro wz hSw; (try dsimp only at hSw); have q0 := cell_of_row _ _ 0 _ _ _ ((hSw.block _ (lt_of_heap HX8.out)).trans HX8.out); have q1 := cell_of_row _ _ 0 _ _ _ ((hSw.block _ (lt_of_heap HY8.out.hb)).trans HY8.out.hb); have q2 := cell_of_row _ _ 1 _ _ _ ((hSw.block _ (lt_of_heap HY8.out.hb)).trans HY8.out.hb); have q3 := cell_of_row _ _ 0 _ _ _ ((hSw.block _ (lt_of_heap HY6.out.hb)).trans HY6.out.hb); have q4 := cell_of_row _ _ 1 _ _ _ ((hSw.block _ (lt_of_heap HY6.out.hb)).trans HY6.out.hb); have q5 := cell_of_row _ _ 0 _ _ _ ((hSw.block _ (lt_of_heap HE8.out)).trans HE8.out); (try simp only [List.getElem?_toArray, List.getElem?_cons_zero, List.getElem?_cons_succ] at q0 q1 q2 q3 q4 q5); go_simp; (try with_reducible rfl))
      try simp only [Act.put, List.setIfInBounds_toArray, List.set_cons_zero, List.set_cons_succ]
      refine wpAnyH_take (i := 12) (oi := { dst := some 46, op := Op.nilCheck (Operand.tmp 45), type := 0, pos := "law.go:191", after := #[{ on := 11, ground := Ground.data }, { on := 10, ground := Ground.guard }], guard := some (10, false) }) (v := ?vu185) rfl (by kernel_rfl) (by kernel_rfl) (by kernel_rfl) (fun _ _ _ h => h) (Or.inl ⟨by rfl, ?hyu185⟩) (by assumption) ?restu185
      case hyu185 => (intro w hSw; (try dsimp only at hSw); go_simp; (try with_reducible rfl))
      try simp only [Act.put, List.setIfInBounds_toArray, List.set_cons_zero, List.set_cons_succ]
      refine wpAnyH_take (i := 13) (oi := { dst := some 47, op := Op.fieldAddr 32 (Operand.tmp 46) 1, type := 0, pos := "law.go:191", after := #[{ on := 12, ground := Ground.data }, { on := 10, ground := Ground.guard }], guard := some (10, false) }) (v := ?vu186) rfl (by kernel_rfl) (by kernel_rfl) (by kernel_rfl) (fun _ _ _ h => h) (Or.inl ⟨by rfl, ?hyu186⟩) (by assumption) ?restu186
      case hyu186 => (intro w hSw; (try dsimp only at hSw); go_simp; (try with_reducible rfl))
      try simp only [Act.put, List.setIfInBounds_toArray, List.set_cons_zero, List.set_cons_succ]
      refine wpAnyH_take (i := 14) (oi := { dst := some 48, op := Op.load 28 (Operand.tmp 47), type := 28, pos := "law.go:191", after := #[{ on := 13, ground := Ground.data }, { on := 10, ground := Ground.guard }], guard := some (10, false) }) (v := ?vu187) rfl (by kernel_rfl) (by kernel_rfl) (by kernel_rfl) (fun _ _ _ h => h) (Or.inl ⟨by rfl, ?hyu187⟩) (by assumption) ?restu187
      case hyu187 => (intro wz hSw; (try dsimp only at hSw); have q0 := cell_of_row _ _ 0 _ _ _ ((hSw.block _ (lt_of_heap HX8.out)).trans HX8.out); have q1 := cell_of_row _ _ 0 _ _ _ ((hSw.block _ (lt_of_heap HY8.out.hb)).trans HY8.out.hb); have q2 := cell_of_row _ _ 1 _ _ _ ((hSw.block _ (lt_of_heap HY8.out.hb)).trans HY8.out.hb); have q3 := cell_of_row _ _ 0 _ _ _ ((hSw.block _ (lt_of_heap HY6.out.hb)).trans HY6.out.hb); have q4 := cell_of_row _ _ 1 _ _ _ ((hSw.block _ (lt_of_heap HY6.out.hb)).trans HY6.out.hb); have q5 := cell_of_row _ _ 0 _ _ _ ((hSw.block _ (lt_of_heap HE8.out)).trans HE8.out); (try simp only [List.getElem?_toArray, List.getElem?_cons_zero, List.getElem?_cons_succ] at q0 q1 q2 q3 q4 q5); go_simp; (try with_reducible rfl))
      try simp only [Act.put, List.setIfInBounds_toArray, List.set_cons_zero, List.set_cons_succ]
      refine wpAnyH_take (i := 16) (oi := { dst := some 50, op := Op.move (Operand.tmp 6), type := 33, pos := "law.go:191", after := #[{ on := 10, ground := Ground.guard }], guard := some (10, false) }) (v := ?vu188) rfl (by kernel_rfl) (by kernel_rfl) (by kernel_rfl) (fun _ _ _ h => h) (Or.inl ⟨by rfl, ?hyu188⟩) (by assumption) ?restu188
      case hyu188 => (intro w hSw; (try dsimp only at hSw); go_simp; (try with_reducible rfl))
      try simp only [Act.put, List.setIfInBounds_toArray, List.set_cons_zero, List.set_cons_succ]
      refine wpAnyH_take (i := 17) (oi := { dst := some 51, op := Op.nilCheck (Operand.tmp 50), type := 0, pos := "law.go:191", after := #[{ on := 16, ground := Ground.data }, { on := 10, ground := Ground.guard }], guard := some (10, false) }) (v := ?vu189) rfl (by kernel_rfl) (by kernel_rfl) (by kernel_rfl) (fun _ _ _ h => h) (Or.inl ⟨by rfl, ?hyu189⟩) (by assumption) ?restu189
      case hyu189 => (intro w hSw; (try dsimp only at hSw); go_simp; (try with_reducible rfl))
      try simp only [Act.put, List.setIfInBounds_toArray, List.set_cons_zero, List.set_cons_succ]
      refine wpAnyH_take (i := 18) (oi := { dst := some 52, op := Op.fieldAddr 35 (Operand.tmp 51) 1, type := 0, pos := "law.go:191", after := #[{ on := 17, ground := Ground.data }, { on := 10, ground := Ground.guard }], guard := some (10, false) }) (v := ?vu190) rfl (by kernel_rfl) (by kernel_rfl) (by kernel_rfl) (fun _ _ _ h => h) (Or.inl ⟨by rfl, ?hyu190⟩) (by assumption) ?restu190
      case hyu190 => (intro w hSw; (try dsimp only at hSw); go_simp; (try with_reducible rfl))
      try simp only [Act.put, List.setIfInBounds_toArray, List.set_cons_zero, List.set_cons_succ]
      refine wpAnyH_take (i := 19) (oi := { dst := some 53, op := Op.load 3 (Operand.tmp 52), type := 3, pos := "law.go:191", after := #[{ on := 18, ground := Ground.data }, { on := 10, ground := Ground.guard }], guard := some (10, false) }) (v := ?vu191) rfl (by kernel_rfl) (by kernel_rfl) (by kernel_rfl) (fun _ _ _ h => h) (Or.inl ⟨by rfl, ?hyu191⟩) (by assumption) ?restu191
      case hyu191 => (intro wz hSw; (try dsimp only at hSw); have q0 := cell_of_row _ _ 0 _ _ _ ((hSw.block _ (lt_of_heap HX8.out)).trans HX8.out); have q1 := cell_of_row _ _ 0 _ _ _ ((hSw.block _ (lt_of_heap HY8.out.hb)).trans HY8.out.hb); have q2 := cell_of_row _ _ 1 _ _ _ ((hSw.block _ (lt_of_heap HY8.out.hb)).trans HY8.out.hb); have q3 := cell_of_row _ _ 0 _ _ _ ((hSw.block _ (lt_of_heap HY6.out.hb)).trans HY6.out.hb); have q4 := cell_of_row _ _ 1 _ _ _ ((hSw.block _ (lt_of_heap HY6.out.hb)).trans HY6.out.hb); have q5 := cell_of_row _ _ 0 _ _ _ ((hSw.block _ (lt_of_heap HE8.out)).trans HE8.out); (try simp only [List.getElem?_toArray, List.getElem?_cons_zero, List.getElem?_cons_succ] at q0 q1 q2 q3 q4 q5); go_simp; (try with_reducible rfl))
      try simp only [Act.put, List.setIfInBounds_toArray, List.set_cons_zero, List.set_cons_succ]
      refine wpAnyH_ready (rs := [15]) (by kernel_rfl) (by simp) ?_
      refine AllReadyH.cons (o := { dst := some 49, op := Op.call { callee := Callee.value (Operand.func 16), args := #[Operand.tmp 48], argTypes := #[28] }, type := 3, pos := "law.go:191", after := #[{ on := 14, ground := Ground.data }, { on := 10, ground := Ground.chain }, { on := 10, ground := Ground.guard }], guard := some (10, false) }) rfl (fun K hK => ?_) AllReadyH.nil
      go_simp
      go_at_call 16
      refine (D.left FM8 z1 (.pointer p8) y.left (D.frame HY8.out.m (Kp.of_below (F := fun _ => False) HZ1.out) fun _ _ h => h)).mono ?_
      rintro e z2 ⟨rfl, b⟩
      have HZ2 : Hid (Below w8.heap.size w8 z2) := below_step HZ1.out b
      clear b
      refine hK.out _ _ ?_ (fun hHeldB => ?_)
      · (try dsimp only); exact HZ2.out
      clear hK K hHeld
      have hHeld := hHeldB
      clear hHeldB
      try simp only [Act.put, List.setIfInBounds_toArray, List.set_cons_zero, List.set_cons_succ]
      refine wpAnyH_take (i := 20) (oi := { dst := some 54, op := Op.binOp BinOp.neq 3 (Operand.tmp 49) (Operand.tmp 53) 3, type := 4, pos := "law.go:191", after := #[{ on := 15, ground := Ground.data }, { on := 19, ground := Ground.data }, { on := 10, ground := Ground.guard }], guard := some (10, false) }) (v := ?vu192) rfl (by kernel_rfl) (by kernel_rfl) (by kernel_rfl) (fun _ _ _ h => h) (Or.inl ⟨by rfl, ?hyu192⟩) (by assumption) ?restu192
      case hyu192 => (intro w hSw; (try dsimp only at hSw); go_simp; (try with_reducible rfl))
      try simp only [Act.put, List.setIfInBounds_toArray, List.set_cons_zero, List.set_cons_succ]
      refine wpAnyH_take (i := 21) (oi := { dst := some 55, op := Op.pick (Operand.tmp 44) (Operand.const (Value.bool true)) (Operand.tmp 54), type := 4, pos := "law.go:191", after := #[{ on := 10, ground := Ground.data }, { on := 20, ground := Ground.data }], guard := none }) (v := ?vu193) rfl (by kernel_rfl) (by kernel_rfl) (by kernel_rfl) (fun _ _ _ h => h) (Or.inl ⟨by rfl, ?hyu193⟩) (by assumption) ?restu193
      case hyu193 => (intro w hSw; (try dsimp only at hSw); go_simp; (try with_reducible rfl))
      try simp only [Act.put, List.setIfInBounds_toArray, List.set_cons_zero, List.set_cons_succ]
      refine wpAnyH_take (i := 22) (oi := { dst := some 56, op := Op.move (Operand.tmp 55), type := 4, pos := "law.go:191", after := #[{ on := 21, ground := Ground.data }, { on := 15, ground := Ground.chain }], guard := none }) (v := ?vu194) rfl (by kernel_rfl) (by kernel_rfl) (by kernel_rfl) (fun _ _ _ h => h) (Or.inl ⟨by rfl, ?hyu194⟩) (by assumption) ?restu194
      case hyu194 => (intro w hSw; (try dsimp only at hSw); go_simp; (try with_reducible rfl))
      try simp only [Act.put, List.setIfInBounds_toArray, List.set_cons_zero, List.set_cons_succ]
      refine wpAnyH_take (i := 23) (oi := { dst := some 57, op := Op.move (Operand.tmp 9), type := 4, pos := "law.go:191", after := #[{ on := 22, ground := Ground.guard }], guard := some (22, false) }) (v := ?vu195) rfl (by kernel_rfl) (by kernel_rfl) (by kernel_rfl) (fun _ _ _ h => h) (Or.inl ⟨by rfl, ?hyu195⟩) (by assumption) ?restu195
      case hyu195 => (intro w hSw; (try dsimp only at hSw); go_simp; (try with_reducible rfl))
      try simp only [Act.put, List.setIfInBounds_toArray, List.set_cons_zero, List.set_cons_succ]
      refine wpAnyH_take (i := 24) (oi := { dst := some 58, op := Op.fieldAddr 37 (Operand.tmp 7) 0, type := 0, pos := "law.go:191", after := #[{ on := 22, ground := Ground.guard }], guard := some (22, false) }) (v := ?vu196) rfl (by kernel_rfl) (by kernel_rfl) (by kernel_rfl) (fun _ _ _ h => h) (Or.inl ⟨by rfl, ?hyu196⟩) (by assumption) ?restu196
      case hyu196 => (intro w hSw; (try dsimp only at hSw); go_simp; (try with_reducible rfl))
      try simp only [Act.put, List.setIfInBounds_toArray, List.set_cons_zero, List.set_cons_succ]
      refine wpAnyH_take (i := 25) (oi := { dst := some 59, op := Op.load 3 (Operand.tmp 58), type := 3, pos := "law.go:191", after := #[{ on := 24, ground := Ground.data }, { on := 22, ground := Ground.guard }], guard := some (22, false) }) (v := ?vu197) rfl (by kernel_rfl) (by kernel_rfl) (by kernel_rfl) (fun _ _ _ h => h) (Or.inl ⟨by rfl, ?hyu197⟩) (by assumption) ?restu197
      case hyu197 => (intro wz hSw; (try dsimp only at hSw); have q0 := cell_of_row _ _ 0 _ _ _ ((hSw.block _ (lt_of_heap HX8.out)).trans HX8.out); have q1 := cell_of_row _ _ 0 _ _ _ ((hSw.block _ (lt_of_heap HY8.out.hb)).trans HY8.out.hb); have q2 := cell_of_row _ _ 1 _ _ _ ((hSw.block _ (lt_of_heap HY8.out.hb)).trans HY8.out.hb); have q3 := cell_of_row _ _ 0 _ _ _ ((hSw.block _ (lt_of_heap HY6.out.hb)).trans HY6.out.hb); have q4 := cell_of_row _ _ 1 _ _ _ ((hSw.block _ (lt_of_heap HY6.out.hb)).trans HY6.out.hb); have q5 := cell_of_row _ _ 0 _ _ _ ((hSw.block _ (lt_of_heap HE8.out)).trans HE8.out); (try simp only [List.getElem?_toArray, List.getElem?_cons_zero, List.getElem?_cons_succ] at q0 q1 q2 q3 q4 q5); go_simp; (try with_reducible rfl))
      try simp only [Act.put, List.setIfInBounds_toArray, List.set_cons_zero, List.set_cons_succ]
      refine wpAnyH_take (i := 26) (oi := { dst := some 60, op := Op.binOp BinOp.eql 3 (Operand.tmp 59) (Operand.const (Value.int IntKind.i64 0)) 3, type := 4, pos := "law.go:191", after := #[{ on := 25, ground := Ground.data }, { on := 22, ground := Ground.guard }], guard := some (22, false) }) (v := ?vu198) rfl (by kernel_rfl) (by kernel_rfl) (by kernel_rfl) (fun _ _ _ h => h) (Or.inl ⟨by rfl, ?hyu198⟩) (by assumption) ?restu198
      case hyu198 => (intro w hSw; (try dsimp only at hSw); go_simp; (try with_reducible rfl))
      try simp only [Act.put, List.setIfInBounds_toArray, List.set_cons_zero, List.set_cons_succ]
      refine wpAnyH_take (i := 27) (oi := { dst := some 61, op := Op.binOp BinOp.neq 4 (Operand.tmp 57) (Operand.tmp 60) 4, type := 4, pos := "law.go:191", after := #[{ on := 23, ground := Ground.data }, { on := 26, ground := Ground.data }, { on := 22, ground := Ground.guard }], guard := some (22, false) }) (v := ?vu199) rfl (by kernel_rfl) (by kernel_rfl) (by kernel_rfl) (fun _ _ _ h => h) (Or.inl ⟨by rfl, ?hyu199⟩) (by assumption) ?restu199
      case hyu199 => (intro w hSw; (try dsimp only at hSw); go_simp; (try with_reducible rfl))
      try simp only [Act.put, List.setIfInBounds_toArray, List.set_cons_zero, List.set_cons_succ]
      refine wpAnyH_take (i := 28) (oi := { dst := some 62, op := Op.pick (Operand.tmp 56) (Operand.const (Value.bool true)) (Operand.tmp 61), type := 4, pos := "law.go:191", after := #[{ on := 22, ground := Ground.data }, { on := 27, ground := Ground.data }], guard := none }) (v := ?vu200) rfl (by kernel_rfl) (by kernel_rfl) (by kernel_rfl) (fun _ _ _ h => h) (Or.inl ⟨by rfl, ?hyu200⟩) (by assumption) ?restu200
      case hyu200 => (intro w hSw; (try dsimp only at hSw); go_simp; (try with_reducible rfl))
      try simp only [Act.put, List.setIfInBounds_toArray, List.set_cons_zero, List.set_cons_succ]
      refine wpAnyH_done (by kernel_rfl) ?_ _
      have HBz : Hid (Below w.heap.size w z2) := below_step HB8.out HZ2.out
      have hez := (HZ2.out.block _ (lt_of_heap HE8.out)).trans HE8.out
      have HEz : Hid (z2.heap[w6.heap.size]? = some (.cells #[.int .i64 0, .int .i64 0, .int .i64 0] 37)) := hez
      have q0 : z2.cell? ⟨w6.heap.size, 0, none⟩ = some (.int .i64 0) := by rw [cell_of_row _ _ _ _ _ _ hez]; rfl
      have q1 : z2.cell? ⟨w6.heap.size, 1, none⟩ = some (.int .i64 0) := by rw [cell_of_row _ _ _ _ _ _ hez]; rfl
      have q2 : z2.cell? ⟨w6.heap.size, 2, none⟩ = some (.int .i64 0) := by rw [cell_of_row _ _ _ _ _ _ hez]; rfl
      clear hez
      go_wp2_with (go_at_call 9; fail)
      refine (awake_of C D _).mono ?_
      rintro e w9 ⟨rfl, b9⟩
      have HB9 : Hid (Below w.heap.size w w9) := below_step HBz.out b9
      clear b9
      go_wp2
      go_ret
      exact ⟨rfl, HB9.out⟩
    | bail c0 a0 =>
      replace he6 : e = .returned (.agg #[.int .i64 1, .int .i64 c0, .int .i64 a0]) := he6
      subst he6
      have hb7 : Below w6.heap.size w6 (w6.alloc (.cells #[.int .i64 1, .int .i64 c0, .int .i64 a0] 37)) := below1 w6 _
      have HW7 : Hid (WS M w.heap.size w3.heap.size FW (w6.alloc (.cells #[.int .i64 1, .int .i64 c0, .int .i64 a0] 37)) ⟨[], 0⟩) := (ws_st D _ _).below HW6.out hb7
      have HP7 : Hid (PS w.heap.size (w3.heap.size + 1 + 1) G6 (w6.alloc (.cells #[.int .i64 1, .int .i64 c0, .int .i64 a0] 37)) y) := (ps_st _ _).below HL6.out.1 hb7
      have HB7 : Hid (Below w.heap.size w (w6.alloc (.cells #[.int .i64 1, .int .i64 c0, .int .i64 a0] 37))) := below_step HB6.out hb7
      have HE7 : Hid ((w6.alloc (.cells #[.int .i64 1, .int .i64 c0, .int .i64 a0] 37)).heap[w6.heap.size]? = some (.cells #[.int .i64 1, .int .i64 c0, .int .i64 a0] 37)) := heap_new1 w6 _
      have HN7 : Hid ((w6.alloc (.cells #[.int .i64 1, .int .i64 c0, .int .i64 a0] 37)).heap[w.heap.size]? = some (.cells #[.int .i64 kind, .int .i64 code, .int .i64 n, .slice na len cap] 24)) := (hb7.block _ (lt_of_heap HN6.out)).trans HN6.out
      have HX7 : Hid ((w6.alloc (.cells #[.int .i64 1, .int .i64 c0, .int .i64 a0] 37)).heap[w3.heap.size + 1]? = some (.cells #[.pointer (some ⟨w3.heap.size, 0, none⟩)] 27)) := (hb7.block _ (lt_of_heap HX6.out)).trans HX6.out
      clear hb7
      go_wp2_with (go_at_call 12; fail)
      refine (C.safe (ws_st D w.heap.size w3.heap.size) FW (w6.alloc (.cells #[.int .i64 1, .int .i64 c0, .int .i64 a0] 37)) ⟨[], 0⟩ y _ _ (.bail c0 a0) (fnv_bp1 _) HW7.out fun w1 hb hs => bp1_plays D w.heap.size w3.heap.size _ _ FW w1 ⟨[], 0⟩ y (.bail c0 a0) kind code n na len cap ((hb.block _ (lt_of_heap HX7.out)).trans HX7.out) ((hb.block _ (lt_of_heap HN7.out)).trans HN7.out) (by
        have := HDO.out w w3.heap.size HWf.out HS.out FW w1 ⟨[], 0⟩ (HB7.out.trans (hb.mono HB7.out.size)) hs (by simp only [List.length_nil]; have := HS.out; omega) HIR.out
        rwa [HRN.out] at this)).mono ?_
      rintro e w8 ⟨G8, hl, he⟩
      have HL8 : Hid (Lft (WS M w.heap.size w3.heap.size) FW (w6.alloc (.cells #[.int .i64 1, .int .i64 c0, .int .i64 a0] 37)) y G8 w8) := hl
      have HB8 : Hid (Below w.heap.size w w8) := HB7.out.trans (hl.2.2.below HB7.out.size fun b hb hF => by have := HFWlo.out b hF; omega)
      have HP8 : Hid (PS w.heap.size (w3.heap.size + 1 + 1) G6 w8 y) := (ps_st _ _).frame HP7.out hl.2.2 fun b h1 h2 => HDJ.out b h1 h2
      have HE8 : Hid (w8.heap[w6.heap.size]? = some (.cells #[.int .i64 1, .int .i64 c0, .int .i64 a0] 37)) := hl.2.2.heap HE7.out fun h => by have := HFWhi.out _ h; have := HZ6.out; omega
      have HX8 : Hid (w8.heap[w3.heap.size + 1]? = some (.cells #[.pointer (some ⟨w3.heap.size, 0, none⟩)] 27)) := hl.2.2.heap HX7.out fun h => by have := HFWhi.out _ h; omega
      have HHE : Hid (SafE (w6.alloc (.cells #[.int .i64 1, .int .i64 c0, .int .i64 a0] 37)).heap.size G8 w8 (.bail c0 a0) e) := he
      clear hl he
      obtain ⟨bb, rfl, hbb⟩ : ∃ bb, e = .returned (.tuple #[.iface 44 (.pointer (some ⟨bb, 0, none⟩)), .bool false]) ∧ w8.heap[bb]? = some (.cells #[.int .i64 c0, .int .i64 a0] 49) := by
        rcases HHE.out with ⟨h, -⟩ | ⟨v, h, b, rfl, hb, -, -⟩
        · cases h
        · exact ⟨b, h, hb⟩
      have HBb : Hid (w8.heap[bb]? = some (.cells #[.int .i64 c0, .int .i64 a0] 49)) := hbb
      clear hbb
      have ta1 : ∀ w, (Instr.typeAssert (.iface 44 (.pointer (some ⟨bb, 0, none⟩))) 20 44 true).run Try.prog w = .ok (.tuple #[.pointer (some ⟨bb, 0, none⟩), .bool true]) w := fun _ => by kernel_rfl
      have ta2 : ∀ w, (Instr.typeAssert (.iface 44 (.pointer (some ⟨bb, 0, none⟩))) 20 3 true).run Try.prog w = .ok (.tuple #[.int .i64 0, .bool false]) w := fun _ => by kernel_rfl
      obtain ⟨a8, c8, p8, FM8, h8⟩ := HL8.out.1
      have HY8 : Hid (WX M w.heap.size w3.heap.size G8 w8 y a8 c8 p8 FM8) := h8
      obtain ⟨a6, c6, h6⟩ := HP8.out
      have HY6 : Hid (PX w.heap.size (w3.heap.size + 1 + 1) G6 w8 y a6 c6) := h6
      clear h8 h6
      go_wp2
      refine wp_region_held_drew (S := (fun w' => Below w8.heap.size w8 w')) (by kernel_rfl) ?_ (fun hHeld => ?_)
      · (try dsimp only); exact (below_refl w8).drew
      refine wpAnyH_take (i := 0) (oi := { dst := some 34, op := Op.load 27 (Operand.tmp 5), type := 27, pos := "law.go:191", after := #[], guard := none }) (v := ?vu201) rfl (by kernel_rfl) (by kernel_rfl) (by kernel_rfl) (fun _ _ _ h => h) (Or.inl ⟨by rfl, ?hyu201⟩) (by assumption) ?restu201
      case hyu201 => (intro wz hSw; (try dsimp only at hSw); have q0 := cell_of_row _ _ 0 _ _ _ ((hSw.block _ (lt_of_heap HX8.out)).trans HX8.out); have q1 := cell_of_row _ _ 0 _ _ _ ((hSw.block _ (lt_of_heap HY8.out.hb)).trans HY8.out.hb); have q2 := cell_of_row _ _ 1 _ _ _ ((hSw.block _ (lt_of_heap HY8.out.hb)).trans HY8.out.hb); have q3 := cell_of_row _ _ 0 _ _ _ ((hSw.block _ (lt_of_heap HY6.out.hb)).trans HY6.out.hb); have q4 := cell_of_row _ _ 1 _ _ _ ((hSw.block _ (lt_of_heap HY6.out.hb)).trans HY6.out.hb); have q5 := cell_of_row _ _ 0 _ _ _ ((hSw.block _ (lt_of_heap HE8.out)).trans HE8.out); (try simp only [List.getElem?_toArray, List.getElem?_cons_zero, List.getElem?_cons_succ] at q0 q1 q2 q3 q4 q5); go_simp; (try with_reducible rfl))
      try simp only [Act.put, List.setIfInBounds_toArray, List.set_cons_zero, List.set_cons_succ]
      refine wpAnyH_take (i := 1) (oi := { dst := some 35, op := Op.nilCheck (Operand.tmp 34), type := 0, pos := "law.go:191", after := #[{ on := 0, ground := Ground.data }], guard := none }) (v := ?vu202) rfl (by kernel_rfl) (by kernel_rfl) (by kernel_rfl) (fun _ _ _ h => h) (Or.inl ⟨by rfl, ?hyu202⟩) (by assumption) ?restu202
      case hyu202 => (intro w hSw; (try dsimp only at hSw); go_simp; (try with_reducible rfl))
      try simp only [Act.put, List.setIfInBounds_toArray, List.set_cons_zero, List.set_cons_succ]
      refine wpAnyH_take (i := 2) (oi := { dst := some 36, op := Op.fieldAddr 32 (Operand.tmp 35) 0, type := 0, pos := "law.go:191", after := #[{ on := 1, ground := Ground.data }], guard := none }) (v := ?vu203) rfl (by kernel_rfl) (by kernel_rfl) (by kernel_rfl) (fun _ _ _ h => h) (Or.inl ⟨by rfl, ?hyu203⟩) (by assumption) ?restu203
      case hyu203 => (intro w hSw; (try dsimp only at hSw); go_simp; (try with_reducible rfl))
      try simp only [Act.put, List.setIfInBounds_toArray, List.set_cons_zero, List.set_cons_succ]
      refine wpAnyH_take (i := 3) (oi := { dst := some 37, op := Op.load 30 (Operand.tmp 36), type := 30, pos := "law.go:191", after := #[{ on := 2, ground := Ground.data }], guard := none }) (v := ?vu204) rfl (by kernel_rfl) (by kernel_rfl) (by kernel_rfl) (fun _ _ _ h => h) (Or.inl ⟨by rfl, ?hyu204⟩) (by assumption) ?restu204
      case hyu204 => (intro wz hSw; (try dsimp only at hSw); have q0 := cell_of_row _ _ 0 _ _ _ ((hSw.block _ (lt_of_heap HX8.out)).trans HX8.out); have q1 := cell_of_row _ _ 0 _ _ _ ((hSw.block _ (lt_of_heap HY8.out.hb)).trans HY8.out.hb); have q2 := cell_of_row _ _ 1 _ _ _ ((hSw.block _ (lt_of_heap HY8.out.hb)).trans HY8.out.hb); have q3 := cell_of_row _ _ 0 _ _ _ ((hSw.block _ (lt_of_heap HY6.out.hb)).trans HY6.out.hb); have q4 := cell_of_row _ _ 1 _ _ _ ((hSw.block _ (lt_of_heap HY6.out.hb)).trans HY6.out.hb); have q5 := cell_of_row _ _ 0 _ _ _ ((hSw.block _ (lt_of_heap HE8.out)).trans HE8.out); (try simp only [List.getElem?_toArray, List.getElem?_cons_zero, List.getElem?_cons_succ] at q0 q1 q2 q3 q4 q5); go_simp; (try with_reducible rfl))
      try simp only [Act.put, List.setIfInBounds_toArray, List.set_cons_zero, List.set_cons_succ]
      refine wpAnyH_take (i := 4) (oi := { dst := some 38, op := Op.move (Operand.tmp 6), type := 33, pos := "law.go:191", after := #[], guard := none }) (v := ?vu205) rfl (by kernel_rfl) (by kernel_rfl) (by kernel_rfl) (fun _ _ _ h => h) (Or.inl ⟨by rfl, ?hyu205⟩) (by assumption) ?restu205
      case hyu205 => (intro w hSw; (try dsimp only at hSw); go_simp; (try with_reducible rfl))
      try simp only [Act.put, List.setIfInBounds_toArray, List.set_cons_zero, List.set_cons_succ]
      refine wpAnyH_take (i := 5) (oi := { dst := some 39, op := Op.nilCheck (Operand.tmp 38), type := 0, pos := "law.go:191", after := #[{ on := 4, ground := Ground.data }], guard := none }) (v := ?vu206) rfl (by kernel_rfl) (by kernel_rfl) (by kernel_rfl) (fun _ _ _ h => h) (Or.inl ⟨by rfl, ?hyu206⟩) (by assumption) ?restu206
      case hyu206 => (intro w hSw; (try dsimp only at hSw); go_simp; (try with_reducible rfl))
      try simp only [Act.put, List.setIfInBounds_toArray, List.set_cons_zero, List.set_cons_succ]
      refine wpAnyH_take (i := 6) (oi := { dst := some 40, op := Op.fieldAddr 35 (Operand.tmp 39) 0, type := 0, pos := "law.go:191", after := #[{ on := 5, ground := Ground.data }], guard := none }) (v := ?vu207) rfl (by kernel_rfl) (by kernel_rfl) (by kernel_rfl) (fun _ _ _ h => h) (Or.inl ⟨by rfl, ?hyu207⟩) (by assumption) ?restu207
      case hyu207 => (intro w hSw; (try dsimp only at hSw); go_simp; (try with_reducible rfl))
      try simp only [Act.put, List.setIfInBounds_toArray, List.set_cons_zero, List.set_cons_succ]
      refine wpAnyH_take (i := 7) (oi := { dst := some 41, op := Op.load 30 (Operand.tmp 40), type := 30, pos := "law.go:191", after := #[{ on := 6, ground := Ground.data }], guard := none }) (v := ?vu208) rfl (by kernel_rfl) (by kernel_rfl) (by kernel_rfl) (fun _ _ _ h => h) (Or.inl ⟨by rfl, ?hyu208⟩) (by assumption) ?restu208
      case hyu208 => (intro wz hSw; (try dsimp only at hSw); have q0 := cell_of_row _ _ 0 _ _ _ ((hSw.block _ (lt_of_heap HX8.out)).trans HX8.out); have q1 := cell_of_row _ _ 0 _ _ _ ((hSw.block _ (lt_of_heap HY8.out.hb)).trans HY8.out.hb); have q2 := cell_of_row _ _ 1 _ _ _ ((hSw.block _ (lt_of_heap HY8.out.hb)).trans HY8.out.hb); have q3 := cell_of_row _ _ 0 _ _ _ ((hSw.block _ (lt_of_heap HY6.out.hb)).trans HY6.out.hb); have q4 := cell_of_row _ _ 1 _ _ _ ((hSw.block _ (lt_of_heap HY6.out.hb)).trans HY6.out.hb); have q5 := cell_of_row _ _ 0 _ _ _ ((hSw.block _ (lt_of_heap HE8.out)).trans HE8.out); (try simp only [List.getElem?_toArray, List.getElem?_cons_zero, List.getElem?_cons_succ] at q0 q1 q2 q3 q4 q5); go_simp; (try with_reducible rfl))
      try simp only [Act.put, List.setIfInBounds_toArray, List.set_cons_zero, List.set_cons_succ]
      refine wpAnyH_ready (rs := [8]) (by kernel_rfl) (by simp) ?_
      refine AllReadyH.cons (o := { dst := some 42, op := Op.call { callee := Callee.value (Operand.func 15), args := #[Operand.tmp 37, Operand.tmp 41], argTypes := #[30, 30] }, type := 4, pos := "law.go:191", after := #[{ on := 3, ground := Ground.data }, { on := 7, ground := Ground.data }], guard := none }) rfl (fun K hK => ?_) AllReadyH.nil
      go_simp
      go_at_call 15
      refine (ints_same w8.drew a8 a6 c8 c6 y.notes.length (gt y.notes) (HY8.out.ow.drew.rd1) (HY6.out.ow.drew.rd1)).mono ?_
      rintro e z1 ⟨rfl, b⟩
      have HZ1 : Hid (Below w8.heap.size w8 z1) := (below_refl w8).drew.trans b
      clear b
      refine hK.out _ _ ?_ (fun hHeldB => ?_)
      · (try dsimp only); first | exact HZ1.out | exact HZ2.out
      clear hK K hHeld
      have hHeld := hHeldB
      clear hHeldB
      try simp only [Act.put, List.setIfInBounds_toArray, List.set_cons_zero, List.set_cons_succ]
      refine wpAnyH_take (i := 9) (oi := { dst := some 43, op := Op.unOp UnOp.not 4 (Operand.tmp 42), type := 4, pos := "law.go:191", after := #[{ on := 8, ground := Ground.data }], guard := none }) (v := ?vu209) rfl (by kernel_rfl) (by kernel_rfl) (by kernel_rfl) (fun _ _ _ h => h) (Or.inl ⟨by rfl, ?hyu209⟩) (by assumption) ?restu209
      case hyu209 => (intro w hSw; (try dsimp only at hSw); go_simp; (try with_reducible rfl))
      try simp only [Act.put, List.setIfInBounds_toArray, List.set_cons_zero, List.set_cons_succ]
      refine wpAnyH_take (i := 10) (oi := { dst := some 44, op := Op.move (Operand.tmp 43), type := 4, pos := "law.go:191", after := #[{ on := 9, ground := Ground.data }, { on := 8, ground := Ground.chain }], guard := none }) (v := ?vu210) rfl (by kernel_rfl) (by kernel_rfl) (by kernel_rfl) (fun _ _ _ h => h) (Or.inl ⟨by rfl, ?hyu210⟩) (by assumption) ?restu210
      case hyu210 => (intro w hSw; (try dsimp only at hSw); go_simp; (try with_reducible rfl))
      try simp only [Act.put, List.setIfInBounds_toArray, List.set_cons_zero, List.set_cons_succ]
      refine wpAnyH_take (i := 11) (oi := { dst := some 45, op := Op.load 27 (Operand.tmp 5), type := 27, pos := "law.go:191", after := #[{ on := 10, ground := Ground.guard }], guard := some (10, false) }) (v := ?vu211) rfl (by kernel_rfl) (by kernel_rfl) (by kernel_rfl) (fun _ _ _ h => h) (Or.inl ⟨by rfl, ?hyu211⟩) (by assumption) ?restu211
      case hyu211 => (intro wz hSw; (try dsimp only at hSw); have q0 := cell_of_row _ _ 0 _ _ _ ((hSw.block _ (lt_of_heap HX8.out)).trans HX8.out); have q1 := cell_of_row _ _ 0 _ _ _ ((hSw.block _ (lt_of_heap HY8.out.hb)).trans HY8.out.hb); have q2 := cell_of_row _ _ 1 _ _ _ ((hSw.block _ (lt_of_heap HY8.out.hb)).trans HY8.out.hb); have q3 := cell_of_row _ _ 0 _ _ _ ((hSw.block _ (lt_of_heap HY6.out.hb)).trans HY6.out.hb); have q4 := cell_of_row _ _ 1 _ _ _ ((hSw.block _ (lt_of_heap HY6.out.hb)).trans HY6.out.hb); have q5 := cell_of_row _ _ 0 _ _ _ ((hSw.block _ (lt_of_heap HE8.out)).trans HE8.out); (try simp only [List.getElem?_toArray, List.getElem?_cons_zero, List.getElem?_cons_succ] at q0 q1 q2 q3 q4 q5); go_simp; (try with_reducible rfl))
      try simp only [Act.put, List.setIfInBounds_toArray, List.set_cons_zero, List.set_cons_succ]
      refine wpAnyH_take (i := 12) (oi := { dst := some 46, op := Op.nilCheck (Operand.tmp 45), type := 0, pos := "law.go:191", after := #[{ on := 11, ground := Ground.data }, { on := 10, ground := Ground.guard }], guard := some (10, false) }) (v := ?vu212) rfl (by kernel_rfl) (by kernel_rfl) (by kernel_rfl) (fun _ _ _ h => h) (Or.inl ⟨by rfl, ?hyu212⟩) (by assumption) ?restu212
      case hyu212 => (intro w hSw; (try dsimp only at hSw); go_simp; (try with_reducible rfl))
      try simp only [Act.put, List.setIfInBounds_toArray, List.set_cons_zero, List.set_cons_succ]
      refine wpAnyH_take (i := 13) (oi := { dst := some 47, op := Op.fieldAddr 32 (Operand.tmp 46) 1, type := 0, pos := "law.go:191", after := #[{ on := 12, ground := Ground.data }, { on := 10, ground := Ground.guard }], guard := some (10, false) }) (v := ?vu213) rfl (by kernel_rfl) (by kernel_rfl) (by kernel_rfl) (fun _ _ _ h => h) (Or.inl ⟨by rfl, ?hyu213⟩) (by assumption) ?restu213
      case hyu213 => (intro w hSw; (try dsimp only at hSw); go_simp; (try with_reducible rfl))
      try simp only [Act.put, List.setIfInBounds_toArray, List.set_cons_zero, List.set_cons_succ]
      refine wpAnyH_take (i := 14) (oi := { dst := some 48, op := Op.load 28 (Operand.tmp 47), type := 28, pos := "law.go:191", after := #[{ on := 13, ground := Ground.data }, { on := 10, ground := Ground.guard }], guard := some (10, false) }) (v := ?vu214) rfl (by kernel_rfl) (by kernel_rfl) (by kernel_rfl) (fun _ _ _ h => h) (Or.inl ⟨by rfl, ?hyu214⟩) (by assumption) ?restu214
      case hyu214 => (intro wz hSw; (try dsimp only at hSw); have q0 := cell_of_row _ _ 0 _ _ _ ((hSw.block _ (lt_of_heap HX8.out)).trans HX8.out); have q1 := cell_of_row _ _ 0 _ _ _ ((hSw.block _ (lt_of_heap HY8.out.hb)).trans HY8.out.hb); have q2 := cell_of_row _ _ 1 _ _ _ ((hSw.block _ (lt_of_heap HY8.out.hb)).trans HY8.out.hb); have q3 := cell_of_row _ _ 0 _ _ _ ((hSw.block _ (lt_of_heap HY6.out.hb)).trans HY6.out.hb); have q4 := cell_of_row _ _ 1 _ _ _ ((hSw.block _ (lt_of_heap HY6.out.hb)).trans HY6.out.hb); have q5 := cell_of_row _ _ 0 _ _ _ ((hSw.block _ (lt_of_heap HE8.out)).trans HE8.out); (try simp only [List.getElem?_toArray, List.getElem?_cons_zero, List.getElem?_cons_succ] at q0 q1 q2 q3 q4 q5); go_simp; (try with_reducible rfl))
      try simp only [Act.put, List.setIfInBounds_toArray, List.set_cons_zero, List.set_cons_succ]
      refine wpAnyH_take (i := 16) (oi := { dst := some 50, op := Op.move (Operand.tmp 6), type := 33, pos := "law.go:191", after := #[{ on := 10, ground := Ground.guard }], guard := some (10, false) }) (v := ?vu215) rfl (by kernel_rfl) (by kernel_rfl) (by kernel_rfl) (fun _ _ _ h => h) (Or.inl ⟨by rfl, ?hyu215⟩) (by assumption) ?restu215
      case hyu215 => (intro w hSw; (try dsimp only at hSw); go_simp; (try with_reducible rfl))
      try simp only [Act.put, List.setIfInBounds_toArray, List.set_cons_zero, List.set_cons_succ]
      refine wpAnyH_take (i := 17) (oi := { dst := some 51, op := Op.nilCheck (Operand.tmp 50), type := 0, pos := "law.go:191", after := #[{ on := 16, ground := Ground.data }, { on := 10, ground := Ground.guard }], guard := some (10, false) }) (v := ?vu216) rfl (by kernel_rfl) (by kernel_rfl) (by kernel_rfl) (fun _ _ _ h => h) (Or.inl ⟨by rfl, ?hyu216⟩) (by assumption) ?restu216
      case hyu216 => (intro w hSw; (try dsimp only at hSw); go_simp; (try with_reducible rfl))
      try simp only [Act.put, List.setIfInBounds_toArray, List.set_cons_zero, List.set_cons_succ]
      refine wpAnyH_take (i := 18) (oi := { dst := some 52, op := Op.fieldAddr 35 (Operand.tmp 51) 1, type := 0, pos := "law.go:191", after := #[{ on := 17, ground := Ground.data }, { on := 10, ground := Ground.guard }], guard := some (10, false) }) (v := ?vu217) rfl (by kernel_rfl) (by kernel_rfl) (by kernel_rfl) (fun _ _ _ h => h) (Or.inl ⟨by rfl, ?hyu217⟩) (by assumption) ?restu217
      case hyu217 => (intro w hSw; (try dsimp only at hSw); go_simp; (try with_reducible rfl))
      try simp only [Act.put, List.setIfInBounds_toArray, List.set_cons_zero, List.set_cons_succ]
      refine wpAnyH_take (i := 19) (oi := { dst := some 53, op := Op.load 3 (Operand.tmp 52), type := 3, pos := "law.go:191", after := #[{ on := 18, ground := Ground.data }, { on := 10, ground := Ground.guard }], guard := some (10, false) }) (v := ?vu218) rfl (by kernel_rfl) (by kernel_rfl) (by kernel_rfl) (fun _ _ _ h => h) (Or.inl ⟨by rfl, ?hyu218⟩) (by assumption) ?restu218
      case hyu218 => (intro wz hSw; (try dsimp only at hSw); have q0 := cell_of_row _ _ 0 _ _ _ ((hSw.block _ (lt_of_heap HX8.out)).trans HX8.out); have q1 := cell_of_row _ _ 0 _ _ _ ((hSw.block _ (lt_of_heap HY8.out.hb)).trans HY8.out.hb); have q2 := cell_of_row _ _ 1 _ _ _ ((hSw.block _ (lt_of_heap HY8.out.hb)).trans HY8.out.hb); have q3 := cell_of_row _ _ 0 _ _ _ ((hSw.block _ (lt_of_heap HY6.out.hb)).trans HY6.out.hb); have q4 := cell_of_row _ _ 1 _ _ _ ((hSw.block _ (lt_of_heap HY6.out.hb)).trans HY6.out.hb); have q5 := cell_of_row _ _ 0 _ _ _ ((hSw.block _ (lt_of_heap HE8.out)).trans HE8.out); (try simp only [List.getElem?_toArray, List.getElem?_cons_zero, List.getElem?_cons_succ] at q0 q1 q2 q3 q4 q5); go_simp; (try with_reducible rfl))
      try simp only [Act.put, List.setIfInBounds_toArray, List.set_cons_zero, List.set_cons_succ]
      refine wpAnyH_ready (rs := [15]) (by kernel_rfl) (by simp) ?_
      refine AllReadyH.cons (o := { dst := some 49, op := Op.call { callee := Callee.value (Operand.func 16), args := #[Operand.tmp 48], argTypes := #[28] }, type := 3, pos := "law.go:191", after := #[{ on := 14, ground := Ground.data }, { on := 10, ground := Ground.chain }, { on := 10, ground := Ground.guard }], guard := some (10, false) }) rfl (fun K hK => ?_) AllReadyH.nil
      go_simp
      go_at_call 16
      refine (D.left FM8 z1 (.pointer p8) y.left (D.frame HY8.out.m (Kp.of_below (F := fun _ => False) HZ1.out) fun _ _ h => h)).mono ?_
      rintro e z2 ⟨rfl, b⟩
      have HZ2 : Hid (Below w8.heap.size w8 z2) := below_step HZ1.out b
      clear b
      refine hK.out _ _ ?_ (fun hHeldB => ?_)
      · (try dsimp only); exact HZ2.out
      clear hK K hHeld
      have hHeld := hHeldB
      clear hHeldB
      try simp only [Act.put, List.setIfInBounds_toArray, List.set_cons_zero, List.set_cons_succ]
      refine wpAnyH_take (i := 20) (oi := { dst := some 54, op := Op.binOp BinOp.neq 3 (Operand.tmp 49) (Operand.tmp 53) 3, type := 4, pos := "law.go:191", after := #[{ on := 15, ground := Ground.data }, { on := 19, ground := Ground.data }, { on := 10, ground := Ground.guard }], guard := some (10, false) }) (v := ?vu219) rfl (by kernel_rfl) (by kernel_rfl) (by kernel_rfl) (fun _ _ _ h => h) (Or.inl ⟨by rfl, ?hyu219⟩) (by assumption) ?restu219
      case hyu219 => (intro w hSw; (try dsimp only at hSw); go_simp; (try with_reducible rfl))
      try simp only [Act.put, List.setIfInBounds_toArray, List.set_cons_zero, List.set_cons_succ]
      refine wpAnyH_take (i := 21) (oi := { dst := some 55, op := Op.pick (Operand.tmp 44) (Operand.const (Value.bool true)) (Operand.tmp 54), type := 4, pos := "law.go:191", after := #[{ on := 10, ground := Ground.data }, { on := 20, ground := Ground.data }], guard := none }) (v := ?vu220) rfl (by kernel_rfl) (by kernel_rfl) (by kernel_rfl) (fun _ _ _ h => h) (Or.inl ⟨by rfl, ?hyu220⟩) (by assumption) ?restu220
      case hyu220 => (intro w hSw; (try dsimp only at hSw); go_simp; (try with_reducible rfl))
      try simp only [Act.put, List.setIfInBounds_toArray, List.set_cons_zero, List.set_cons_succ]
      refine wpAnyH_take (i := 22) (oi := { dst := some 56, op := Op.move (Operand.tmp 55), type := 4, pos := "law.go:191", after := #[{ on := 21, ground := Ground.data }, { on := 15, ground := Ground.chain }], guard := none }) (v := ?vu221) rfl (by kernel_rfl) (by kernel_rfl) (by kernel_rfl) (fun _ _ _ h => h) (Or.inl ⟨by rfl, ?hyu221⟩) (by assumption) ?restu221
      case hyu221 => (intro w hSw; (try dsimp only at hSw); go_simp; (try with_reducible rfl))
      try simp only [Act.put, List.setIfInBounds_toArray, List.set_cons_zero, List.set_cons_succ]
      refine wpAnyH_take (i := 23) (oi := { dst := some 57, op := Op.move (Operand.tmp 9), type := 4, pos := "law.go:191", after := #[{ on := 22, ground := Ground.guard }], guard := some (22, false) }) (v := ?vu222) rfl (by kernel_rfl) (by kernel_rfl) (by kernel_rfl) (fun _ _ _ h => h) (Or.inl ⟨by rfl, ?hyu222⟩) (by assumption) ?restu222
      case hyu222 => (intro w hSw; (try dsimp only at hSw); go_simp; (try with_reducible rfl))
      try simp only [Act.put, List.setIfInBounds_toArray, List.set_cons_zero, List.set_cons_succ]
      refine wpAnyH_take (i := 24) (oi := { dst := some 58, op := Op.fieldAddr 37 (Operand.tmp 7) 0, type := 0, pos := "law.go:191", after := #[{ on := 22, ground := Ground.guard }], guard := some (22, false) }) (v := ?vu223) rfl (by kernel_rfl) (by kernel_rfl) (by kernel_rfl) (fun _ _ _ h => h) (Or.inl ⟨by rfl, ?hyu223⟩) (by assumption) ?restu223
      case hyu223 => (intro w hSw; (try dsimp only at hSw); go_simp; (try with_reducible rfl))
      try simp only [Act.put, List.setIfInBounds_toArray, List.set_cons_zero, List.set_cons_succ]
      refine wpAnyH_take (i := 25) (oi := { dst := some 59, op := Op.load 3 (Operand.tmp 58), type := 3, pos := "law.go:191", after := #[{ on := 24, ground := Ground.data }, { on := 22, ground := Ground.guard }], guard := some (22, false) }) (v := ?vu224) rfl (by kernel_rfl) (by kernel_rfl) (by kernel_rfl) (fun _ _ _ h => h) (Or.inl ⟨by rfl, ?hyu224⟩) (by assumption) ?restu224
      case hyu224 => (intro wz hSw; (try dsimp only at hSw); have q0 := cell_of_row _ _ 0 _ _ _ ((hSw.block _ (lt_of_heap HX8.out)).trans HX8.out); have q1 := cell_of_row _ _ 0 _ _ _ ((hSw.block _ (lt_of_heap HY8.out.hb)).trans HY8.out.hb); have q2 := cell_of_row _ _ 1 _ _ _ ((hSw.block _ (lt_of_heap HY8.out.hb)).trans HY8.out.hb); have q3 := cell_of_row _ _ 0 _ _ _ ((hSw.block _ (lt_of_heap HY6.out.hb)).trans HY6.out.hb); have q4 := cell_of_row _ _ 1 _ _ _ ((hSw.block _ (lt_of_heap HY6.out.hb)).trans HY6.out.hb); have q5 := cell_of_row _ _ 0 _ _ _ ((hSw.block _ (lt_of_heap HE8.out)).trans HE8.out); (try simp only [List.getElem?_toArray, List.getElem?_cons_zero, List.getElem?_cons_succ] at q0 q1 q2 q3 q4 q5); go_simp; (try with_reducible rfl))
      try simp only [Act.put, List.setIfInBounds_toArray, List.set_cons_zero, List.set_cons_succ]
      refine wpAnyH_take (i := 26) (oi := { dst := some 60, op := Op.binOp BinOp.eql 3 (Operand.tmp 59) (Operand.const (Value.int IntKind.i64 0)) 3, type := 4, pos := "law.go:191", after := #[{ on := 25, ground := Ground.data }, { on := 22, ground := Ground.guard }], guard := some (22, false) }) (v := ?vu225) rfl (by kernel_rfl) (by kernel_rfl) (by kernel_rfl) (fun _ _ _ h => h) (Or.inl ⟨by rfl, ?hyu225⟩) (by assumption) ?restu225
      case hyu225 => (intro w hSw; (try dsimp only at hSw); go_simp; (try with_reducible rfl))
      try simp only [Act.put, List.setIfInBounds_toArray, List.set_cons_zero, List.set_cons_succ]
      refine wpAnyH_take (i := 27) (oi := { dst := some 61, op := Op.binOp BinOp.neq 4 (Operand.tmp 57) (Operand.tmp 60) 4, type := 4, pos := "law.go:191", after := #[{ on := 23, ground := Ground.data }, { on := 26, ground := Ground.data }, { on := 22, ground := Ground.guard }], guard := some (22, false) }) (v := ?vu226) rfl (by kernel_rfl) (by kernel_rfl) (by kernel_rfl) (fun _ _ _ h => h) (Or.inl ⟨by rfl, ?hyu226⟩) (by assumption) ?restu226
      case hyu226 => (intro w hSw; (try dsimp only at hSw); go_simp; (try with_reducible rfl))
      try simp only [Act.put, List.setIfInBounds_toArray, List.set_cons_zero, List.set_cons_succ]
      refine wpAnyH_take (i := 28) (oi := { dst := some 62, op := Op.pick (Operand.tmp 56) (Operand.const (Value.bool true)) (Operand.tmp 61), type := 4, pos := "law.go:191", after := #[{ on := 22, ground := Ground.data }, { on := 27, ground := Ground.data }], guard := none }) (v := ?vu227) rfl (by kernel_rfl) (by kernel_rfl) (by kernel_rfl) (fun _ _ _ h => h) (Or.inl ⟨by rfl, ?hyu227⟩) (by assumption) ?restu227
      case hyu227 => (intro w hSw; (try dsimp only at hSw); go_simp; (try with_reducible rfl))
      try simp only [Act.put, List.setIfInBounds_toArray, List.set_cons_zero, List.set_cons_succ]
      refine wpAnyH_done (by kernel_rfl) ?_ _
      have HBz : Hid (Below w.heap.size w z2) := below_step HB8.out HZ2.out
      have hez := (HZ2.out.block _ (lt_of_heap HE8.out)).trans HE8.out
      have HEz : Hid (z2.heap[w6.heap.size]? = some (.cells #[.int .i64 1, .int .i64 c0, .int .i64 a0] 37)) := hez
      have q0 : z2.cell? ⟨w6.heap.size, 0, none⟩ = some (.int .i64 1) := by rw [cell_of_row _ _ _ _ _ _ hez]; rfl
      have q1 : z2.cell? ⟨w6.heap.size, 1, none⟩ = some (.int .i64 c0) := by rw [cell_of_row _ _ _ _ _ _ hez]; rfl
      have q2 : z2.cell? ⟨w6.heap.size, 2, none⟩ = some (.int .i64 a0) := by rw [cell_of_row _ _ _ _ _ _ hez]; rfl
      clear hez
      have HBz2 : Hid (z2.heap[bb]? = some (.cells #[.int .i64 c0, .int .i64 a0] 49)) := (HZ2.out.block _ (lt_of_heap HBb.out)).trans HBb.out
      clear q1 q2
      go_wp2
      refine wp_region_held_drew (S := (fun w' => Below z2.heap.size z2 w')) (by kernel_rfl) ?_ (fun hHeld => ?_)
      · (try dsimp only); exact (below_refl z2).drew
      refine wpAnyH_take (i := 0) (oi := { dst := some 77, op := Op.move (Operand.tmp 11), type := 4, pos := "law.go:198", after := #[], guard := none }) (v := ?vu228) rfl (by kernel_rfl) (by kernel_rfl) (by kernel_rfl) (fun _ _ _ h => h) (Or.inl ⟨by rfl, ?hyu228⟩) (by assumption) ?restu228
      case hyu228 => (intro w hSw; (try dsimp only at hSw); go_simp; (try with_reducible rfl))
      try simp only [Act.put, List.setIfInBounds_toArray, List.set_cons_zero, List.set_cons_succ]
      refine wpAnyH_take (i := 1) (oi := { dst := some 78, op := Op.move (Operand.tmp 77), type := 4, pos := "law.go:198", after := #[{ on := 0, ground := Ground.data }], guard := none }) (v := ?vu229) rfl (by kernel_rfl) (by kernel_rfl) (by kernel_rfl) (fun _ _ _ h => h) (Or.inl ⟨by rfl, ?hyu229⟩) (by assumption) ?restu229
      case hyu229 => (intro w hSw; (try dsimp only at hSw); go_simp; (try with_reducible rfl))
      try simp only [Act.put, List.setIfInBounds_toArray, List.set_cons_zero, List.set_cons_succ]
      refine wpAnyH_take (i := 2) (oi := { dst := some 79, op := Op.move (Operand.tmp 10), type := 44, pos := "law.go:198", after := #[{ on := 1, ground := Ground.guard }], guard := some (1, true) }) (v := ?vu230) rfl (by kernel_rfl) (by kernel_rfl) (by kernel_rfl) (fun _ _ _ h => h) (Or.inl ⟨by rfl, ?hyu230⟩) (by assumption) ?restu230
      case hyu230 => (intro w hSw; (try dsimp only at hSw); go_simp; (try with_reducible rfl))
      try simp only [Act.put, List.setIfInBounds_toArray, List.set_cons_zero, List.set_cons_succ]
      refine wpAnyH_take (i := 3) (oi := { dst := some 80, op := Op.binOp BinOp.neq 44 (Operand.tmp 79) (Operand.const (Value.pointer none)) 44, type := 4, pos := "law.go:198", after := #[{ on := 2, ground := Ground.data }, { on := 1, ground := Ground.guard }], guard := some (1, true) }) (v := ?vu231) rfl (by kernel_rfl) (by kernel_rfl) (by kernel_rfl) (fun _ _ _ h => h) (Or.inl ⟨by rfl, ?hyu231⟩) (by assumption) ?restu231
      case hyu231 => (intro w hSw; (try dsimp only at hSw); go_simp; (try with_reducible rfl))
      try simp only [Act.put, List.setIfInBounds_toArray, List.set_cons_zero, List.set_cons_succ]
      refine wpAnyH_take (i := 4) (oi := { dst := some 81, op := Op.pick (Operand.tmp 78) (Operand.tmp 80) (Operand.const (Value.bool false)), type := 4, pos := "law.go:198", after := #[{ on := 1, ground := Ground.data }, { on := 3, ground := Ground.data }], guard := none }) (v := ?vu232) rfl (by kernel_rfl) (by kernel_rfl) (by kernel_rfl) (fun _ _ _ h => h) (Or.inl ⟨by rfl, ?hyu232⟩) (by assumption) ?restu232
      case hyu232 => (intro w hSw; (try dsimp only at hSw); go_simp; (try with_reducible rfl))
      try simp only [Act.put, List.setIfInBounds_toArray, List.set_cons_zero, List.set_cons_succ]
      refine wpAnyH_take (i := 5) (oi := { dst := some 82, op := Op.move (Operand.tmp 81), type := 4, pos := "law.go:198", after := #[{ on := 4, ground := Ground.data }, { on := 1, ground := Ground.chain }], guard := none }) (v := ?vu233) rfl (by kernel_rfl) (by kernel_rfl) (by kernel_rfl) (fun _ _ _ h => h) (Or.inl ⟨by rfl, ?hyu233⟩) (by assumption) ?restu233
      case hyu233 => (intro w hSw; (try dsimp only at hSw); go_simp; (try with_reducible rfl))
      try simp only [Act.put, List.setIfInBounds_toArray, List.set_cons_zero, List.set_cons_succ]
      refine wpAnyH_take (i := 6) (oi := { dst := some 83, op := Op.move (Operand.tmp 10), type := 44, pos := "law.go:198", after := #[{ on := 5, ground := Ground.guard }], guard := some (5, true) }) (v := ?vu234) rfl (by kernel_rfl) (by kernel_rfl) (by kernel_rfl) (fun _ _ _ h => h) (Or.inl ⟨by rfl, ?hyu234⟩) (by assumption) ?restu234
      case hyu234 => (intro w hSw; (try dsimp only at hSw); go_simp; (try with_reducible rfl))
      try simp only [Act.put, List.setIfInBounds_toArray, List.set_cons_zero, List.set_cons_succ]
      refine wpAnyH_take (i := 7) (oi := { dst := some 84, op := Op.nilCheck (Operand.tmp 83), type := 0, pos := "law.go:198", after := #[{ on := 6, ground := Ground.data }, { on := 5, ground := Ground.guard }], guard := some (5, true) }) (v := ?vu235) rfl (by kernel_rfl) (by kernel_rfl) (by kernel_rfl) (fun _ _ _ h => h) (Or.inl ⟨by rfl, ?hyu235⟩) (by assumption) ?restu235
      case hyu235 => (intro w hSw; (try dsimp only at hSw); go_simp; (try with_reducible rfl))
      try simp only [Act.put, List.setIfInBounds_toArray, List.set_cons_zero, List.set_cons_succ]
      refine wpAnyH_take (i := 8) (oi := { dst := some 85, op := Op.fieldAddr 49 (Operand.tmp 84) 0, type := 0, pos := "law.go:198", after := #[{ on := 7, ground := Ground.data }, { on := 5, ground := Ground.guard }], guard := some (5, true) }) (v := ?vu236) rfl (by kernel_rfl) (by kernel_rfl) (by kernel_rfl) (fun _ _ _ h => h) (Or.inl ⟨by rfl, ?hyu236⟩) (by assumption) ?restu236
      case hyu236 => (intro w hSw; (try dsimp only at hSw); go_simp; (try with_reducible rfl))
      try simp only [Act.put, List.setIfInBounds_toArray, List.set_cons_zero, List.set_cons_succ]
      refine wpAnyH_take (i := 9) (oi := { dst := some 86, op := Op.load 47 (Operand.tmp 85), type := 47, pos := "law.go:198", after := #[{ on := 8, ground := Ground.data }, { on := 5, ground := Ground.guard }], guard := some (5, true) }) (v := ?vu237) rfl (by kernel_rfl) (by kernel_rfl) (by kernel_rfl) (fun _ _ _ h => h) (Or.inl ⟨by rfl, ?hyu237⟩) (by assumption) ?restu237
      case hyu237 => (intro wz hSw; (try dsimp only at hSw); have t0 := cell_of_row _ _ 0 _ _ _ ((hSw.block _ (lt_of_heap HBz2.out)).trans HBz2.out); have t1 := cell_of_row _ _ 1 _ _ _ ((hSw.block _ (lt_of_heap HBz2.out)).trans HBz2.out); have t2 := cell_of_row _ _ 0 _ _ _ ((hSw.block _ (lt_of_heap HEz.out)).trans HEz.out); have t3 := cell_of_row _ _ 1 _ _ _ ((hSw.block _ (lt_of_heap HEz.out)).trans HEz.out); have t4 := cell_of_row _ _ 2 _ _ _ ((hSw.block _ (lt_of_heap HEz.out)).trans HEz.out); (try simp only [List.getElem?_toArray, List.getElem?_cons_zero, List.getElem?_cons_succ] at t0 t1 t2 t3 t4); go_simp; (try with_reducible rfl))
      try simp only [Act.put, List.setIfInBounds_toArray, List.set_cons_zero, List.set_cons_succ]
      refine wpAnyH_take (i := 10) (oi := { dst := some 87, op := Op.fieldAddr 37 (Operand.tmp 7) 1, type := 0, pos := "law.go:198", after := #[{ on := 5, ground := Ground.guard }], guard := some (5, true) }) (v := ?vu238) rfl (by kernel_rfl) (by kernel_rfl) (by kernel_rfl) (fun _ _ _ h => h) (Or.inl ⟨by rfl, ?hyu238⟩) (by assumption) ?restu238
      case hyu238 => (intro w hSw; (try dsimp only at hSw); go_simp; (try with_reducible rfl))
      try simp only [Act.put, List.setIfInBounds_toArray, List.set_cons_zero, List.set_cons_succ]
      refine wpAnyH_take (i := 11) (oi := { dst := some 88, op := Op.load 3 (Operand.tmp 87), type := 3, pos := "law.go:198", after := #[{ on := 10, ground := Ground.data }, { on := 5, ground := Ground.guard }], guard := some (5, true) }) (v := ?vu239) rfl (by kernel_rfl) (by kernel_rfl) (by kernel_rfl) (fun _ _ _ h => h) (Or.inl ⟨by rfl, ?hyu239⟩) (by assumption) ?restu239
      case hyu239 => (intro wz hSw; (try dsimp only at hSw); have t0 := cell_of_row _ _ 0 _ _ _ ((hSw.block _ (lt_of_heap HBz2.out)).trans HBz2.out); have t1 := cell_of_row _ _ 1 _ _ _ ((hSw.block _ (lt_of_heap HBz2.out)).trans HBz2.out); have t2 := cell_of_row _ _ 0 _ _ _ ((hSw.block _ (lt_of_heap HEz.out)).trans HEz.out); have t3 := cell_of_row _ _ 1 _ _ _ ((hSw.block _ (lt_of_heap HEz.out)).trans HEz.out); have t4 := cell_of_row _ _ 2 _ _ _ ((hSw.block _ (lt_of_heap HEz.out)).trans HEz.out); (try simp only [List.getElem?_toArray, List.getElem?_cons_zero, List.getElem?_cons_succ] at t0 t1 t2 t3 t4); go_simp; (try with_reducible rfl))
      try simp only [Act.put, List.setIfInBounds_toArray, List.set_cons_zero, List.set_cons_succ]
      refine wpAnyH_take (i := 12) (oi := { dst := some 89, op := Op.binOp BinOp.eql 3 (Operand.tmp 86) (Operand.tmp 88) 3, type := 4, pos := "law.go:198", after := #[{ on := 9, ground := Ground.data }, { on := 11, ground := Ground.data }, { on := 5, ground := Ground.guard }], guard := some (5, true) }) (v := ?vu240) rfl (by kernel_rfl) (by kernel_rfl) (by kernel_rfl) (fun _ _ _ h => h) (Or.inl ⟨by rfl, ?hyu240⟩) (by assumption) ?restu240
      case hyu240 => (intro w hSw; (try dsimp only at hSw); go_simp; (try with_reducible rfl))
      try simp only [Act.put, List.setIfInBounds_toArray, List.set_cons_zero, List.set_cons_succ]
      refine wpAnyH_take (i := 13) (oi := { dst := some 90, op := Op.pick (Operand.tmp 82) (Operand.tmp 89) (Operand.const (Value.bool false)), type := 4, pos := "law.go:198", after := #[{ on := 5, ground := Ground.data }, { on := 12, ground := Ground.data }], guard := none }) (v := ?vu241) rfl (by kernel_rfl) (by kernel_rfl) (by kernel_rfl) (fun _ _ _ h => h) (Or.inl ⟨by rfl, ?hyu241⟩) (by assumption) ?restu241
      case hyu241 => (intro w hSw; (try dsimp only at hSw); go_simp; (try with_reducible rfl))
      try simp only [Act.put, List.setIfInBounds_toArray, List.set_cons_zero, List.set_cons_succ]
      refine wpAnyH_take (i := 14) (oi := { dst := some 91, op := Op.move (Operand.tmp 90), type := 4, pos := "law.go:198", after := #[{ on := 13, ground := Ground.data }, { on := 5, ground := Ground.chain }], guard := none }) (v := ?vu242) rfl (by kernel_rfl) (by kernel_rfl) (by kernel_rfl) (fun _ _ _ h => h) (Or.inl ⟨by rfl, ?hyu242⟩) (by assumption) ?restu242
      case hyu242 => (intro w hSw; (try dsimp only at hSw); go_simp; (try with_reducible rfl))
      try simp only [Act.put, List.setIfInBounds_toArray, List.set_cons_zero, List.set_cons_succ]
      refine wpAnyH_take (i := 15) (oi := { dst := some 92, op := Op.move (Operand.tmp 10), type := 44, pos := "law.go:198", after := #[{ on := 14, ground := Ground.guard }], guard := some (14, true) }) (v := ?vu243) rfl (by kernel_rfl) (by kernel_rfl) (by kernel_rfl) (fun _ _ _ h => h) (Or.inl ⟨by rfl, ?hyu243⟩) (by assumption) ?restu243
      case hyu243 => (intro w hSw; (try dsimp only at hSw); go_simp; (try with_reducible rfl))
      try simp only [Act.put, List.setIfInBounds_toArray, List.set_cons_zero, List.set_cons_succ]
      refine wpAnyH_take (i := 16) (oi := { dst := some 93, op := Op.nilCheck (Operand.tmp 92), type := 0, pos := "law.go:198", after := #[{ on := 15, ground := Ground.data }, { on := 14, ground := Ground.guard }], guard := some (14, true) }) (v := ?vu244) rfl (by kernel_rfl) (by kernel_rfl) (by kernel_rfl) (fun _ _ _ h => h) (Or.inl ⟨by rfl, ?hyu244⟩) (by assumption) ?restu244
      case hyu244 => (intro w hSw; (try dsimp only at hSw); go_simp; (try with_reducible rfl))
      try simp only [Act.put, List.setIfInBounds_toArray, List.set_cons_zero, List.set_cons_succ]
      refine wpAnyH_take (i := 17) (oi := { dst := some 94, op := Op.fieldAddr 49 (Operand.tmp 93) 1, type := 0, pos := "law.go:198", after := #[{ on := 16, ground := Ground.data }, { on := 14, ground := Ground.guard }], guard := some (14, true) }) (v := ?vu245) rfl (by kernel_rfl) (by kernel_rfl) (by kernel_rfl) (fun _ _ _ h => h) (Or.inl ⟨by rfl, ?hyu245⟩) (by assumption) ?restu245
      case hyu245 => (intro w hSw; (try dsimp only at hSw); go_simp; (try with_reducible rfl))
      try simp only [Act.put, List.setIfInBounds_toArray, List.set_cons_zero, List.set_cons_succ]
      refine wpAnyH_take (i := 18) (oi := { dst := some 95, op := Op.load 3 (Operand.tmp 94), type := 3, pos := "law.go:198", after := #[{ on := 17, ground := Ground.data }, { on := 14, ground := Ground.guard }], guard := some (14, true) }) (v := ?vu246) rfl (by kernel_rfl) (by kernel_rfl) (by kernel_rfl) (fun _ _ _ h => h) (Or.inl ⟨by rfl, ?hyu246⟩) (by assumption) ?restu246
      case hyu246 => (intro wz hSw; (try dsimp only at hSw); have t0 := cell_of_row _ _ 0 _ _ _ ((hSw.block _ (lt_of_heap HBz2.out)).trans HBz2.out); have t1 := cell_of_row _ _ 1 _ _ _ ((hSw.block _ (lt_of_heap HBz2.out)).trans HBz2.out); have t2 := cell_of_row _ _ 0 _ _ _ ((hSw.block _ (lt_of_heap HEz.out)).trans HEz.out); have t3 := cell_of_row _ _ 1 _ _ _ ((hSw.block _ (lt_of_heap HEz.out)).trans HEz.out); have t4 := cell_of_row _ _ 2 _ _ _ ((hSw.block _ (lt_of_heap HEz.out)).trans HEz.out); (try simp only [List.getElem?_toArray, List.getElem?_cons_zero, List.getElem?_cons_succ] at t0 t1 t2 t3 t4); go_simp; (try with_reducible rfl))
      try simp only [Act.put, List.setIfInBounds_toArray, List.set_cons_zero, List.set_cons_succ]
      refine wpAnyH_take (i := 19) (oi := { dst := some 96, op := Op.fieldAddr 37 (Operand.tmp 7) 2, type := 0, pos := "law.go:198", after := #[{ on := 14, ground := Ground.guard }], guard := some (14, true) }) (v := ?vu247) rfl (by kernel_rfl) (by kernel_rfl) (by kernel_rfl) (fun _ _ _ h => h) (Or.inl ⟨by rfl, ?hyu247⟩) (by assumption) ?restu247
      case hyu247 => (intro w hSw; (try dsimp only at hSw); go_simp; (try with_reducible rfl))
      try simp only [Act.put, List.setIfInBounds_toArray, List.set_cons_zero, List.set_cons_succ]
      refine wpAnyH_take (i := 20) (oi := { dst := some 97, op := Op.load 3 (Operand.tmp 96), type := 3, pos := "law.go:198", after := #[{ on := 19, ground := Ground.data }, { on := 14, ground := Ground.guard }], guard := some (14, true) }) (v := ?vu248) rfl (by kernel_rfl) (by kernel_rfl) (by kernel_rfl) (fun _ _ _ h => h) (Or.inl ⟨by rfl, ?hyu248⟩) (by assumption) ?restu248
      case hyu248 => (intro wz hSw; (try dsimp only at hSw); have t0 := cell_of_row _ _ 0 _ _ _ ((hSw.block _ (lt_of_heap HBz2.out)).trans HBz2.out); have t1 := cell_of_row _ _ 1 _ _ _ ((hSw.block _ (lt_of_heap HBz2.out)).trans HBz2.out); have t2 := cell_of_row _ _ 0 _ _ _ ((hSw.block _ (lt_of_heap HEz.out)).trans HEz.out); have t3 := cell_of_row _ _ 1 _ _ _ ((hSw.block _ (lt_of_heap HEz.out)).trans HEz.out); have t4 := cell_of_row _ _ 2 _ _ _ ((hSw.block _ (lt_of_heap HEz.out)).trans HEz.out); (try simp only [List.getElem?_toArray, List.getElem?_cons_zero, List.getElem?_cons_succ] at t0 t1 t2 t3 t4); go_simp; (try with_reducible rfl))
      try simp only [Act.put, List.setIfInBounds_toArray, List.set_cons_zero, List.set_cons_succ]
      refine wpAnyH_take (i := 21) (oi := { dst := some 98, op := Op.binOp BinOp.eql 3 (Operand.tmp 95) (Operand.tmp 97) 3, type := 4, pos := "law.go:198", after := #[{ on := 18, ground := Ground.data }, { on := 20, ground := Ground.data }, { on := 14, ground := Ground.guard }], guard := some (14, true) }) (v := ?vu249) rfl (by kernel_rfl) (by kernel_rfl) (by kernel_rfl) (fun _ _ _ h => h) (Or.inl ⟨by rfl, ?hyu249⟩) (by assumption) ?restu249
      case hyu249 => (intro w hSw; (try dsimp only at hSw); go_simp; (try with_reducible rfl))
      try simp only [Act.put, List.setIfInBounds_toArray, List.set_cons_zero, List.set_cons_succ]
      refine wpAnyH_take (i := 22) (oi := { dst := some 99, op := Op.pick (Operand.tmp 91) (Operand.tmp 98) (Operand.const (Value.bool false)), type := 4, pos := "law.go:198", after := #[{ on := 14, ground := Ground.data }, { on := 21, ground := Ground.data }], guard := none }) (v := ?vu250) rfl (by kernel_rfl) (by kernel_rfl) (by kernel_rfl) (fun _ _ _ h => h) (Or.inl ⟨by rfl, ?hyu250⟩) (by assumption) ?restu250
      case hyu250 => (intro w hSw; (try dsimp only at hSw); go_simp; (try with_reducible rfl))
      try simp only [Act.put, List.setIfInBounds_toArray, List.set_cons_zero, List.set_cons_succ]
      refine wpAnyH_take (i := 23) (oi := { dst := some 100, op := Op.move (Operand.tmp 99), type := 4, pos := "law.go:198", after := #[{ on := 22, ground := Ground.data }, { on := 14, ground := Ground.chain }], guard := none }) (v := ?vu251) rfl (by kernel_rfl) (by kernel_rfl) (by kernel_rfl) (fun _ _ _ h => h) (Or.inl ⟨by rfl, ?hyu251⟩) (by assumption) ?restu251
      case hyu251 => (intro w hSw; (try dsimp only at hSw); go_simp; (try with_reducible rfl))
      try simp only [Act.put, List.setIfInBounds_toArray, List.set_cons_zero, List.set_cons_succ]
      refine wpAnyH_ready (rs := [24]) (by kernel_rfl) (by simp) ?_
      refine AllReadyH.cons (o := { dst := some 101, op := Op.call { callee := Callee.value (Operand.func 9), args := #[], argTypes := #[] }, type := 4, pos := "law.go:198", after := #[{ on := 23, ground := Ground.chain }, { on := 23, ground := Ground.guard }], guard := some (23, true) }) rfl (fun K hK => ?_) AllReadyH.nil
      go_simp
      go_at_call 9
      refine (awake_of C D z2.drew).mono ?_
      rintro e z3 ⟨rfl, b⟩
      have HZ3 : Hid (Below z2.heap.size z2 z3) := (below_refl z2).drew.trans b
      clear b
      refine hK.out _ _ ?_ (fun hHeldB => ?_)
      · (try dsimp only); exact HZ3.out
      clear hK K hHeld
      have hHeld := hHeldB
      clear hHeldB
      try simp only [Act.put, List.setIfInBounds_toArray, List.set_cons_zero, List.set_cons_succ]
      refine wpAnyH_take (i := 25) (oi := { dst := some 102, op := Op.pick (Operand.tmp 100) (Operand.tmp 101) (Operand.const (Value.bool false)), type := 4, pos := "law.go:198", after := #[{ on := 23, ground := Ground.data }, { on := 24, ground := Ground.data }], guard := none }) (v := ?vu252) rfl (by kernel_rfl) (by kernel_rfl) (by kernel_rfl) (fun _ _ _ h => h) (Or.inl ⟨by rfl, ?hyu252⟩) (by assumption) ?restu252
      case hyu252 => (intro w hSw; (try dsimp only at hSw); go_simp; (try with_reducible rfl))
      try simp only [Act.put, List.setIfInBounds_toArray, List.set_cons_zero, List.set_cons_succ]
      refine wpAnyH_take (i := 26) (oi := { dst := some 4, op := Op.assign (Operand.tmp 102), type := 4, pos := "law.go:198", after := #[{ on := 25, ground := Ground.data }, { on := 24, ground := Ground.chain }, { on := 0, ground := Ground.phase }, { on := 1, ground := Ground.phase }, { on := 2, ground := Ground.phase }, { on := 3, ground := Ground.phase }, { on := 4, ground := Ground.phase }, { on := 5, ground := Ground.phase }, { on := 6, ground := Ground.phase }, { on := 7, ground := Ground.phase }, { on := 8, ground := Ground.phase }, { on := 9, ground := Ground.phase }, { on := 10, ground := Ground.phase }, { on := 11, ground := Ground.phase }, { on := 12, ground := Ground.phase }, { on := 13, ground := Ground.phase }, { on := 14, ground := Ground.phase }, { on := 15, ground := Ground.phase }, { on := 16, ground := Ground.phase }, { on := 17, ground := Ground.phase }, { on := 18, ground := Ground.phase }, { on := 19, ground := Ground.phase }, { on := 20, ground := Ground.phase }, { on := 21, ground := Ground.phase }, { on := 22, ground := Ground.phase }, { on := 23, ground := Ground.phase }, { on := 24, ground := Ground.phase }, { on := 25, ground := Ground.phase }], guard := none }) (v := ?vu253) rfl (by kernel_rfl) (by kernel_rfl) (by kernel_rfl) (fun _ _ _ h => h) (Or.inl ⟨by rfl, ?hyu253⟩) (by assumption) ?restu253
      case hyu253 => (intro w hSw; (try dsimp only at hSw); go_simp; (try with_reducible rfl))
      try simp only [Act.put, List.setIfInBounds_toArray, List.set_cons_zero, List.set_cons_succ]
      refine wpAnyH_done (by kernel_rfl) ?_ _
      go_wp2
      go_ret
      exact ⟨rfl, below_step HBz.out HZ3.out⟩
    | num m =>
      replace he6 : e = .returned (.agg #[.int .i64 2, .int .i64 0, .int .i64 m]) := he6
      subst he6
      have hb7 : Below w6.heap.size w6 (w6.alloc (.cells #[.int .i64 2, .int .i64 0, .int .i64 m] 37)) := below1 w6 _
      have HW7 : Hid (WS M w.heap.size w3.heap.size FW (w6.alloc (.cells #[.int .i64 2, .int .i64 0, .int .i64 m] 37)) ⟨[], 0⟩) := (ws_st D _ _).below HW6.out hb7
      have HP7 : Hid (PS w.heap.size (w3.heap.size + 1 + 1) G6 (w6.alloc (.cells #[.int .i64 2, .int .i64 0, .int .i64 m] 37)) y) := (ps_st _ _).below HL6.out.1 hb7
      have HB7 : Hid (Below w.heap.size w (w6.alloc (.cells #[.int .i64 2, .int .i64 0, .int .i64 m] 37))) := below_step HB6.out hb7
      have HE7 : Hid ((w6.alloc (.cells #[.int .i64 2, .int .i64 0, .int .i64 m] 37)).heap[w6.heap.size]? = some (.cells #[.int .i64 2, .int .i64 0, .int .i64 m] 37)) := heap_new1 w6 _
      have HN7 : Hid ((w6.alloc (.cells #[.int .i64 2, .int .i64 0, .int .i64 m] 37)).heap[w.heap.size]? = some (.cells #[.int .i64 kind, .int .i64 code, .int .i64 n, .slice na len cap] 24)) := (hb7.block _ (lt_of_heap HN6.out)).trans HN6.out
      have HX7 : Hid ((w6.alloc (.cells #[.int .i64 2, .int .i64 0, .int .i64 m] 37)).heap[w3.heap.size + 1]? = some (.cells #[.pointer (some ⟨w3.heap.size, 0, none⟩)] 27)) := (hb7.block _ (lt_of_heap HX6.out)).trans HX6.out
      clear hb7
      go_wp2_with (go_at_call 12; fail)
      refine (C.safe (ws_st D w.heap.size w3.heap.size) FW (w6.alloc (.cells #[.int .i64 2, .int .i64 0, .int .i64 m] 37)) ⟨[], 0⟩ y _ _ (.num m) (fnv_bp1 _) HW7.out fun w1 hb hs => bp1_plays D w.heap.size w3.heap.size _ _ FW w1 ⟨[], 0⟩ y (.num m) kind code n na len cap ((hb.block _ (lt_of_heap HX7.out)).trans HX7.out) ((hb.block _ (lt_of_heap HN7.out)).trans HN7.out) (by
        have := HDO.out w w3.heap.size HWf.out HS.out FW w1 ⟨[], 0⟩ (HB7.out.trans (hb.mono HB7.out.size)) hs (by simp only [List.length_nil]; have := HS.out; omega) HIR.out
        rwa [HRN.out] at this)).mono ?_
      rintro e w8 ⟨G8, hl, he⟩
      have HL8 : Hid (Lft (WS M w.heap.size w3.heap.size) FW (w6.alloc (.cells #[.int .i64 2, .int .i64 0, .int .i64 m] 37)) y G8 w8) := hl
      have HB8 : Hid (Below w.heap.size w w8) := HB7.out.trans (hl.2.2.below HB7.out.size fun b hb hF => by have := HFWlo.out b hF; omega)
      have HP8 : Hid (PS w.heap.size (w3.heap.size + 1 + 1) G6 w8 y) := (ps_st _ _).frame HP7.out hl.2.2 fun b h1 h2 => HDJ.out b h1 h2
      have HE8 : Hid (w8.heap[w6.heap.size]? = some (.cells #[.int .i64 2, .int .i64 0, .int .i64 m] 37)) := hl.2.2.heap HE7.out fun h => by have := HFWhi.out _ h; have := HZ6.out; omega
      have HX8 : Hid (w8.heap[w3.heap.size + 1]? = some (.cells #[.pointer (some ⟨w3.heap.size, 0, none⟩)] 27)) := hl.2.2.heap HX7.out fun h => by have := HFWhi.out _ h; omega
      have HHE : Hid (SafE (w6.alloc (.cells #[.int .i64 2, .int .i64 0, .int .i64 m] 37)).heap.size G8 w8 (.num m) e) := he
      clear hl he
      obtain rfl : e = .returned (.tuple #[.iface 3 (.int .i64 m), .bool false]) := by
        rcases HHE.out with ⟨h, -⟩ | ⟨v, h, hv⟩
        · cases h
        · replace hv : v = .iface 3 (.int .i64 m) := hv
          rw [h, hv]
      have ta1 : ∀ w, (Instr.typeAssert (.iface 3 (.int .i64 m)) 20 44 true).run Try.prog w = .ok (.tuple #[.pointer none, .bool false]) w := fun _ => by kernel_rfl
      have ta2 : ∀ w, (Instr.typeAssert (.iface 3 (.int .i64 m)) 20 3 true).run Try.prog w = .ok (.tuple #[.int .i64 m, .bool true]) w := fun _ => by kernel_rfl
      obtain ⟨a8, c8, p8, FM8, h8⟩ := HL8.out.1
      have HY8 : Hid (WX M w.heap.size w3.heap.size G8 w8 y a8 c8 p8 FM8) := h8
      obtain ⟨a6, c6, h6⟩ := HP8.out
      have HY6 : Hid (PX w.heap.size (w3.heap.size + 1 + 1) G6 w8 y a6 c6) := h6
      clear h8 h6
      go_wp2
      refine wp_region_held_drew (S := (fun w' => Below w8.heap.size w8 w')) (by kernel_rfl) ?_ (fun hHeld => ?_)
      · (try dsimp only); exact (below_refl w8).drew
      refine wpAnyH_take (i := 0) (oi := { dst := some 34, op := Op.load 27 (Operand.tmp 5), type := 27, pos := "law.go:191", after := #[], guard := none }) (v := ?vu254) rfl (by kernel_rfl) (by kernel_rfl) (by kernel_rfl) (fun _ _ _ h => h) (Or.inl ⟨by rfl, ?hyu254⟩) (by assumption) ?restu254
      case hyu254 => (intro wz hSw; (try dsimp only at hSw); have q0 := cell_of_row _ _ 0 _ _ _ ((hSw.block _ (lt_of_heap HX8.out)).trans HX8.out); have q1 := cell_of_row _ _ 0 _ _ _ ((hSw.block _ (lt_of_heap HY8.out.hb)).trans HY8.out.hb); have q2 := cell_of_row _ _ 1 _ _ _ ((hSw.block _ (lt_of_heap HY8.out.hb)).trans HY8.out.hb); have q3 := cell_of_row _ _ 0 _ _ _ ((hSw.block _ (lt_of_heap HY6.out.hb)).trans HY6.out.hb); have q4 := cell_of_row _ _ 1 _ _ _ ((hSw.block _ (lt_of_heap HY6.out.hb)).trans HY6.out.hb); have q5 := cell_of_row _ _ 0 _ _ _ ((hSw.block _ (lt_of_heap HE8.out)).trans HE8.out); (try simp only [List.getElem?_toArray, List.getElem?_cons_zero, List.getElem?_cons_succ] at q0 q1 q2 q3 q4 q5); go_simp; (try with_reducible rfl))
      try simp only [Act.put, List.setIfInBounds_toArray, List.set_cons_zero, List.set_cons_succ]
      refine wpAnyH_take (i := 1) (oi := { dst := some 35, op := Op.nilCheck (Operand.tmp 34), type := 0, pos := "law.go:191", after := #[{ on := 0, ground := Ground.data }], guard := none }) (v := ?vu255) rfl (by kernel_rfl) (by kernel_rfl) (by kernel_rfl) (fun _ _ _ h => h) (Or.inl ⟨by rfl, ?hyu255⟩) (by assumption) ?restu255
      case hyu255 => (intro w hSw; (try dsimp only at hSw); go_simp; (try with_reducible rfl))
      try simp only [Act.put, List.setIfInBounds_toArray, List.set_cons_zero, List.set_cons_succ]
      refine wpAnyH_take (i := 2) (oi := { dst := some 36, op := Op.fieldAddr 32 (Operand.tmp 35) 0, type := 0, pos := "law.go:191", after := #[{ on := 1, ground := Ground.data }], guard := none }) (v := ?vu256) rfl (by kernel_rfl) (by kernel_rfl) (by kernel_rfl) (fun _ _ _ h => h) (Or.inl ⟨by rfl, ?hyu256⟩) (by assumption) ?restu256
      case hyu256 => (intro w hSw; (try dsimp only at hSw); go_simp; (try with_reducible rfl))
      try simp only [Act.put, List.setIfInBounds_toArray, List.set_cons_zero, List.set_cons_succ]
      refine wpAnyH_take (i := 3) (oi := { dst := some 37, op := Op.load 30 (Operand.tmp 36), type := 30, pos := "law.go:191", after := #[{ on := 2, ground := Ground.data }], guard := none }) (v := ?vu257) rfl (by kernel_rfl) (by kernel_rfl) (by kernel_rfl) (fun _ _ _ h => h) (Or.inl ⟨by rfl, ?hyu257⟩) (by assumption) ?restu257
      case hyu257 => (intro wz hSw; (try dsimp only at hSw); have q0 := cell_of_row _ _ 0 _ _ _ ((hSw.block _ (lt_of_heap HX8.out)).trans HX8.out); have q1 := cell_of_row _ _ 0 _ _ _ ((hSw.block _ (lt_of_heap HY8.out.hb)).trans HY8.out.hb); have q2 := cell_of_row _ _ 1 _ _ _ ((hSw.block _ (lt_of_heap HY8.out.hb)).trans HY8.out.hb); have q3 := cell_of_row _ _ 0 _ _ _ ((hSw.block _ (lt_of_heap HY6.out.hb)).trans HY6.out.hb); have q4 := cell_of_row _ _ 1 _ _ _ ((hSw.block _ (lt_of_heap HY6.out.hb)).trans HY6.out.hb); have q5 := cell_of_row _ _ 0 _ _ _ ((hSw.block _ (lt_of_heap HE8.out)).trans HE8.out); (try simp only [List.getElem?_toArray, List.getElem?_cons_zero, List.getElem?_cons_succ] at q0 q1 q2 q3 q4 q5); go_simp; (try with_reducible rfl))
      try simp only [Act.put, List.setIfInBounds_toArray, List.set_cons_zero, List.set_cons_succ]
      refine wpAnyH_take (i := 4) (oi := { dst := some 38, op := Op.move (Operand.tmp 6), type := 33, pos := "law.go:191", after := #[], guard := none }) (v := ?vu258) rfl (by kernel_rfl) (by kernel_rfl) (by kernel_rfl) (fun _ _ _ h => h) (Or.inl ⟨by rfl, ?hyu258⟩) (by assumption) ?restu258
      case hyu258 => (intro w hSw; (try dsimp only at hSw); go_simp; (try with_reducible rfl))
      try simp only [Act.put, List.setIfInBounds_toArray, List.set_cons_zero, List.set_cons_succ]
      refine wpAnyH_take (i := 5) (oi := { dst := some 39, op := Op.nilCheck (Operand.tmp 38), type := 0, pos := "law.go:191", after := #[{ on := 4, ground := Ground.data }], guard := none }) (v := ?vu259) rfl (by kernel_rfl) (by kernel_rfl) (by kernel_rfl) (fun _ _ _ h => h) (Or.inl ⟨by rfl, ?hyu259⟩) (by assumption) ?restu259
      case hyu259 => (intro w hSw; (try dsimp only at hSw); go_simp; (try with_reducible rfl))
      try simp only [Act.put, List.setIfInBounds_toArray, List.set_cons_zero, List.set_cons_succ]
      refine wpAnyH_take (i := 6) (oi := { dst := some 40, op := Op.fieldAddr 35 (Operand.tmp 39) 0, type := 0, pos := "law.go:191", after := #[{ on := 5, ground := Ground.data }], guard := none }) (v := ?vu260) rfl (by kernel_rfl) (by kernel_rfl) (by kernel_rfl) (fun _ _ _ h => h) (Or.inl ⟨by rfl, ?hyu260⟩) (by assumption) ?restu260
      case hyu260 => (intro w hSw; (try dsimp only at hSw); go_simp; (try with_reducible rfl))
      try simp only [Act.put, List.setIfInBounds_toArray, List.set_cons_zero, List.set_cons_succ]
      refine wpAnyH_take (i := 7) (oi := { dst := some 41, op := Op.load 30 (Operand.tmp 40), type := 30, pos := "law.go:191", after := #[{ on := 6, ground := Ground.data }], guard := none }) (v := ?vu261) rfl (by kernel_rfl) (by kernel_rfl) (by kernel_rfl) (fun _ _ _ h => h) (Or.inl ⟨by rfl, ?hyu261⟩) (by assumption) ?restu261
      case hyu261 => (intro wz hSw; (try dsimp only at hSw); have q0 := cell_of_row _ _ 0 _ _ _ ((hSw.block _ (lt_of_heap HX8.out)).trans HX8.out); have q1 := cell_of_row _ _ 0 _ _ _ ((hSw.block _ (lt_of_heap HY8.out.hb)).trans HY8.out.hb); have q2 := cell_of_row _ _ 1 _ _ _ ((hSw.block _ (lt_of_heap HY8.out.hb)).trans HY8.out.hb); have q3 := cell_of_row _ _ 0 _ _ _ ((hSw.block _ (lt_of_heap HY6.out.hb)).trans HY6.out.hb); have q4 := cell_of_row _ _ 1 _ _ _ ((hSw.block _ (lt_of_heap HY6.out.hb)).trans HY6.out.hb); have q5 := cell_of_row _ _ 0 _ _ _ ((hSw.block _ (lt_of_heap HE8.out)).trans HE8.out); (try simp only [List.getElem?_toArray, List.getElem?_cons_zero, List.getElem?_cons_succ] at q0 q1 q2 q3 q4 q5); go_simp; (try with_reducible rfl))
      try simp only [Act.put, List.setIfInBounds_toArray, List.set_cons_zero, List.set_cons_succ]
      refine wpAnyH_ready (rs := [8]) (by kernel_rfl) (by simp) ?_
      refine AllReadyH.cons (o := { dst := some 42, op := Op.call { callee := Callee.value (Operand.func 15), args := #[Operand.tmp 37, Operand.tmp 41], argTypes := #[30, 30] }, type := 4, pos := "law.go:191", after := #[{ on := 3, ground := Ground.data }, { on := 7, ground := Ground.data }], guard := none }) rfl (fun K hK => ?_) AllReadyH.nil
      go_simp
      go_at_call 15
      refine (ints_same w8.drew a8 a6 c8 c6 y.notes.length (gt y.notes) (HY8.out.ow.drew.rd1) (HY6.out.ow.drew.rd1)).mono ?_
      rintro e z1 ⟨rfl, b⟩
      have HZ1 : Hid (Below w8.heap.size w8 z1) := (below_refl w8).drew.trans b
      clear b
      refine hK.out _ _ ?_ (fun hHeldB => ?_)
      · (try dsimp only); first | exact HZ1.out | exact HZ2.out
      clear hK K hHeld
      have hHeld := hHeldB
      clear hHeldB
      try simp only [Act.put, List.setIfInBounds_toArray, List.set_cons_zero, List.set_cons_succ]
      refine wpAnyH_take (i := 9) (oi := { dst := some 43, op := Op.unOp UnOp.not 4 (Operand.tmp 42), type := 4, pos := "law.go:191", after := #[{ on := 8, ground := Ground.data }], guard := none }) (v := ?vu262) rfl (by kernel_rfl) (by kernel_rfl) (by kernel_rfl) (fun _ _ _ h => h) (Or.inl ⟨by rfl, ?hyu262⟩) (by assumption) ?restu262
      case hyu262 => (intro w hSw; (try dsimp only at hSw); go_simp; (try with_reducible rfl))
      try simp only [Act.put, List.setIfInBounds_toArray, List.set_cons_zero, List.set_cons_succ]
      refine wpAnyH_take (i := 10) (oi := { dst := some 44, op := Op.move (Operand.tmp 43), type := 4, pos := "law.go:191", after := #[{ on := 9, ground := Ground.data }, { on := 8, ground := Ground.chain }], guard := none }) (v := ?vu263) rfl (by kernel_rfl) (by kernel_rfl) (by kernel_rfl) (fun _ _ _ h => h) (Or.inl ⟨by rfl, ?hyu263⟩) (by assumption) ?restu263
      case hyu263 => (intro w hSw; (try dsimp only at hSw); go_simp; (try with_reducible rfl))
      try simp only [Act.put, List.setIfInBounds_toArray, List.set_cons_zero, List.set_cons_succ]
      refine wpAnyH_take (i := 11) (oi := { dst := some 45, op := Op.load 27 (Operand.tmp 5), type := 27, pos := "law.go:191", after := #[{ on := 10, ground := Ground.guard }], guard := some (10, false) }) (v := ?vu264) rfl (by kernel_rfl) (by kernel_rfl) (by kernel_rfl) (fun _ _ _ h => h) (Or.inl ⟨by rfl, ?hyu264⟩) (by assumption) ?restu264
      case hyu264 => (intro wz hSw; (try dsimp only at hSw); have q0 := cell_of_row _ _ 0 _ _ _ ((hSw.block _ (lt_of_heap HX8.out)).trans HX8.out); have q1 := cell_of_row _ _ 0 _ _ _ ((hSw.block _ (lt_of_heap HY8.out.hb)).trans HY8.out.hb); have q2 := cell_of_row _ _ 1 _ _ _ ((hSw.block _ (lt_of_heap HY8.out.hb)).trans HY8.out.hb); have q3 := cell_of_row _ _ 0 _ _ _ ((hSw.block _ (lt_of_heap HY6.out.hb)).trans HY6.out.hb); have q4 := cell_of_row _ _ 1 _ _ _ ((hSw.block _ (lt_of_heap HY6.out.hb)).trans HY6.out.hb); have q5 := cell_of_row _ _ 0 _ _ _ ((hSw.block _ (lt_of_heap HE8.out)).trans HE8.out); (try simp only [List.getElem?_toArray, List.getElem?_cons_zero, List.getElem?_cons_succ] at q0 q1 q2 q3 q4 q5); go_simp; (try with_reducible rfl))
      try simp only [Act.put, List.setIfInBounds_toArray, List.set_cons_zero, List.set_cons_succ]
      refine wpAnyH_take (i := 12) (oi := { dst := some 46, op := Op.nilCheck (Operand.tmp 45), type := 0, pos := "law.go:191", after := #[{ on := 11, ground := Ground.data }, { on := 10, ground := Ground.guard }], guard := some (10, false) }) (v := ?vu265) rfl (by kernel_rfl) (by kernel_rfl) (by kernel_rfl) (fun _ _ _ h => h) (Or.inl ⟨by rfl, ?hyu265⟩) (by assumption) ?restu265
      case hyu265 => (intro w hSw; (try dsimp only at hSw); go_simp; (try with_reducible rfl))
      try simp only [Act.put, List.setIfInBounds_toArray, List.set_cons_zero, List.set_cons_succ]
      refine wpAnyH_take (i := 13) (oi := { dst := some 47, op := Op.fieldAddr 32 (Operand.tmp 46) 1, type := 0, pos := "law.go:191", after := #[{ on := 12, ground := Ground.data }, { on := 10, ground := Ground.guard }], guard := some (10, false) }) (v := ?vu266) rfl (by kernel_rfl) (by kernel_rfl) (by kernel_rfl) (fun _ _ _ h => h) (Or.inl ⟨by rfl, ?hyu266⟩) (by assumption) ?restu266
      case hyu266 => (intro w hSw; (try dsimp only at hSw); go_simp; (try with_reducible rfl))
      try simp only [Act.put, List.setIfInBounds_toArray, List.set_cons_zero, List.set_cons_succ]
      refine wpAnyH_take (i := 14) (oi := { dst := some 48, op := Op.load 28 (Operand.tmp 47), type := 28, pos := "law.go:191", after := #[{ on := 13, ground := Ground.data }, { on := 10, ground := Ground.guard }], guard := some (10, false) }) (v := ?vu267) rfl (by kernel_rfl) (by kernel_rfl) (by kernel_rfl) (fun _ _ _ h => h) (Or.inl ⟨by rfl, ?hyu267⟩) (by assumption) ?restu267
      case hyu267 => (intro wz hSw; (try dsimp only at hSw); have q0 := cell_of_row _ _ 0 _ _ _ ((hSw.block _ (lt_of_heap HX8.out)).trans HX8.out); have q1 := cell_of_row _ _ 0 _ _ _ ((hSw.block _ (lt_of_heap HY8.out.hb)).trans HY8.out.hb); have q2 := cell_of_row _ _ 1 _ _ _ ((hSw.block _ (lt_of_heap HY8.out.hb)).trans HY8.out.hb); have q3 := cell_of_row _ _ 0 _ _ _ ((hSw.block _ (lt_of_heap HY6.out.hb)).trans HY6.out.hb); have q4 := cell_of_row _ _ 1 _ _ _ ((hSw.block _ (lt_of_heap HY6.out.hb)).trans HY6.out.hb); have q5 := cell_of_row _ _ 0 _ _ _ ((hSw.block _ (lt_of_heap HE8.out)).trans HE8.out); (try simp only [List.getElem?_toArray, List.getElem?_cons_zero, List.getElem?_cons_succ] at q0 q1 q2 q3 q4 q5); go_simp; (try with_reducible rfl))
      try simp only [Act.put, List.setIfInBounds_toArray, List.set_cons_zero, List.set_cons_succ]
      refine wpAnyH_take (i := 16) (oi := { dst := some 50, op := Op.move (Operand.tmp 6), type := 33, pos := "law.go:191", after := #[{ on := 10, ground := Ground.guard }], guard := some (10, false) }) (v := ?vu268) rfl (by kernel_rfl) (by kernel_rfl) (by kernel_rfl) (fun _ _ _ h => h) (Or.inl ⟨by rfl, ?hyu268⟩) (by assumption) ?restu268
      case hyu268 => (intro w hSw; (try dsimp only at hSw); go_simp; (try with_reducible rfl))
      try simp only [Act.put, List.setIfInBounds_toArray, List.set_cons_zero, List.set_cons_succ]
      refine wpAnyH_take (i := 17) (oi := { dst := some 51, op := Op.nilCheck (Operand.tmp 50), type := 0, pos := "law.go:191", after := #[{ on := 16, ground := Ground.data }, { on := 10, ground := Ground.guard }], guard := some (10, false) }) (v := ?vu269) rfl (by kernel_rfl) (by kernel_rfl) (by kernel_rfl) (fun _ _ _ h => h) (Or.inl ⟨by rfl, ?hyu269⟩) (by assumption) ?restu269
      case hyu269 => (intro w hSw; (try dsimp only at hSw); go_simp; (try with_reducible rfl))
      try simp only [Act.put, List.setIfInBounds_toArray, List.set_cons_zero, List.set_cons_succ]
      refine wpAnyH_take (i := 18) (oi := { dst := some 52, op := Op.fieldAddr 35 (Operand.tmp 51) 1, type := 0, pos := "law.go:191", after := #[{ on := 17, ground := Ground.data }, { on := 10, ground := Ground.guard }], guard := some (10, false) }) (v := ?vu270) rfl (by kernel_rfl) (by kernel_rfl) (by kernel_rfl) (fun _ _ _ h => h) (Or.inl ⟨by rfl, ?hyu270⟩) (by assumption) ?restu270
      case hyu270 => (intro w hSw; (try dsimp only at hSw); go_simp; (try with_reducible rfl))
      try simp only [Act.put, List.setIfInBounds_toArray, List.set_cons_zero, List.set_cons_succ]
      refine wpAnyH_take (i := 19) (oi := { dst := some 53, op := Op.load 3 (Operand.tmp 52), type := 3, pos := "law.go:191", after := #[{ on := 18, ground := Ground.data }, { on := 10, ground := Ground.guard }], guard := some (10, false) }) (v := ?vu271) rfl (by kernel_rfl) (by kernel_rfl) (by kernel_rfl) (fun _ _ _ h => h) (Or.inl ⟨by rfl, ?hyu271⟩) (by assumption) ?restu271
      case hyu271 => (intro wz hSw; (try dsimp only at hSw); have q0 := cell_of_row _ _ 0 _ _ _ ((hSw.block _ (lt_of_heap HX8.out)).trans HX8.out); have q1 := cell_of_row _ _ 0 _ _ _ ((hSw.block _ (lt_of_heap HY8.out.hb)).trans HY8.out.hb); have q2 := cell_of_row _ _ 1 _ _ _ ((hSw.block _ (lt_of_heap HY8.out.hb)).trans HY8.out.hb); have q3 := cell_of_row _ _ 0 _ _ _ ((hSw.block _ (lt_of_heap HY6.out.hb)).trans HY6.out.hb); have q4 := cell_of_row _ _ 1 _ _ _ ((hSw.block _ (lt_of_heap HY6.out.hb)).trans HY6.out.hb); have q5 := cell_of_row _ _ 0 _ _ _ ((hSw.block _ (lt_of_heap HE8.out)).trans HE8.out); (try simp only [List.getElem?_toArray, List.getElem?_cons_zero, List.getElem?_cons_succ] at q0 q1 q2 q3 q4 q5); go_simp; (try with_reducible rfl))
      try simp only [Act.put, List.setIfInBounds_toArray, List.set_cons_zero, List.set_cons_succ]
      refine wpAnyH_ready (rs := [15]) (by kernel_rfl) (by simp) ?_
      refine AllReadyH.cons (o := { dst := some 49, op := Op.call { callee := Callee.value (Operand.func 16), args := #[Operand.tmp 48], argTypes := #[28] }, type := 3, pos := "law.go:191", after := #[{ on := 14, ground := Ground.data }, { on := 10, ground := Ground.chain }, { on := 10, ground := Ground.guard }], guard := some (10, false) }) rfl (fun K hK => ?_) AllReadyH.nil
      go_simp
      go_at_call 16
      refine (D.left FM8 z1 (.pointer p8) y.left (D.frame HY8.out.m (Kp.of_below (F := fun _ => False) HZ1.out) fun _ _ h => h)).mono ?_
      rintro e z2 ⟨rfl, b⟩
      have HZ2 : Hid (Below w8.heap.size w8 z2) := below_step HZ1.out b
      clear b
      refine hK.out _ _ ?_ (fun hHeldB => ?_)
      · (try dsimp only); exact HZ2.out
      clear hK K hHeld
      have hHeld := hHeldB
      clear hHeldB
      try simp only [Act.put, List.setIfInBounds_toArray, List.set_cons_zero, List.set_cons_succ]
      refine wpAnyH_take (i := 20) (oi := { dst := some 54, op := Op.binOp BinOp.neq 3 (Operand.tmp 49) (Operand.tmp 53) 3, type := 4, pos := "law.go:191", after := #[{ on := 15, ground := Ground.data }, { on := 19, ground := Ground.data }, { on := 10, ground := Ground.guard }], guard := some (10, false) }) (v := ?vu272) rfl (by kernel_rfl) (by kernel_rfl) (by kernel_rfl) (fun _ _ _ h => h) (Or.inl ⟨by rfl, ?hyu272⟩) (by assumption) ?restu272
      case hyu272 => (intro w hSw; (try dsimp only at hSw); go_simp; (try with_reducible rfl))
      try simp only [Act.put, List.setIfInBounds_toArray, List.set_cons_zero, List.set_cons_succ]
      refine wpAnyH_take (i := 21) (oi := { dst := some 55, op := Op.pick (Operand.tmp 44) (Operand.const (Value.bool true)) (Operand.tmp 54), type := 4, pos := "law.go:191", after := #[{ on := 10, ground := Ground.data }, { on := 20, ground := Ground.data }], guard := none }) (v := ?vu273) rfl (by kernel_rfl) (by kernel_rfl) (by kernel_rfl) (fun _ _ _ h => h) (Or.inl ⟨by rfl, ?hyu273⟩) (by assumption) ?restu273
      case hyu273 => (intro w hSw; (try dsimp only at hSw); go_simp; (try with_reducible rfl))
      try simp only [Act.put, List.setIfInBounds_toArray, List.set_cons_zero, List.set_cons_succ]
      refine wpAnyH_take (i := 22) (oi := { dst := some 56, op := Op.move (Operand.tmp 55), type := 4, pos := "law.go:191", after := #[{ on := 21, ground := Ground.data }, { on := 15, ground := Ground.chain }], guard := none }) (v := ?vu274) rfl (by kernel_rfl) (by kernel_rfl) (by kernel_rfl) (fun _ _ _ h => h) (Or.inl ⟨by rfl, ?hyu274⟩) (by assumption) ?restu274
      case hyu274 => (intro w hSw; (try dsimp only at hSw); go_simp; (try with_reducible rfl))
      try simp only [Act.put, List.setIfInBounds_toArray, List.set_cons_zero, List.set_cons_succ]
      refine wpAnyH_take (i := 23) (oi := { dst := some 57, op := Op.move (Operand.tmp 9), type := 4, pos := "law.go:191", after := #[{ on := 22, ground := Ground.guard }], guard := some (22, false) }) (v := ?vu275) rfl (by kernel_rfl) (by kernel_rfl) (by kernel_rfl) (fun _ _ _ h => h) (Or.inl ⟨by rfl, ?hyu275⟩) (by assumption) ?restu275
      case hyu275 => (intro w hSw; (try dsimp only at hSw); go_simp; (try with_reducible rfl))
      try simp only [Act.put, List.setIfInBounds_toArray, List.set_cons_zero, List.set_cons_succ]
      refine wpAnyH_take (i := 24) (oi := { dst := some 58, op := Op.fieldAddr 37 (Operand.tmp 7) 0, type := 0, pos := "law.go:191", after := #[{ on := 22, ground := Ground.guard }], guard := some (22, false) }) (v := ?vu276) rfl (by kernel_rfl) (by kernel_rfl) (by kernel_rfl) (fun _ _ _ h => h) (Or.inl ⟨by rfl, ?hyu276⟩) (by assumption) ?restu276
      case hyu276 => (intro w hSw; (try dsimp only at hSw); go_simp; (try with_reducible rfl))
      try simp only [Act.put, List.setIfInBounds_toArray, List.set_cons_zero, List.set_cons_succ]
      refine wpAnyH_take (i := 25) (oi := { dst := some 59, op := Op.load 3 (Operand.tmp 58), type := 3, pos := "law.go:191", after := #[{ on := 24, ground := Ground.data }, { on := 22, ground := Ground.guard }], guard := some (22, false) }) (v := ?vu277) rfl (by kernel_rfl) (by kernel_rfl) (by kernel_rfl) (fun _ _ _ h => h) (Or.inl ⟨by rfl, ?hyu277⟩) (by assumption) ?restu277
      case hyu277 => (intro wz hSw; (try dsimp only at hSw); have q0 := cell_of_row _ _ 0 _ _ _ ((hSw.block _ (lt_of_heap HX8.out)).trans HX8.out); have q1 := cell_of_row _ _ 0 _ _ _ ((hSw.block _ (lt_of_heap HY8.out.hb)).trans HY8.out.hb); have q2 := cell_of_row _ _ 1 _ _ _ ((hSw.block _ (lt_of_heap HY8.out.hb)).trans HY8.out.hb); have q3 := cell_of_row _ _ 0 _ _ _ ((hSw.block _ (lt_of_heap HY6.out.hb)).trans HY6.out.hb); have q4 := cell_of_row _ _ 1 _ _ _ ((hSw.block _ (lt_of_heap HY6.out.hb)).trans HY6.out.hb); have q5 := cell_of_row _ _ 0 _ _ _ ((hSw.block _ (lt_of_heap HE8.out)).trans HE8.out); (try simp only [List.getElem?_toArray, List.getElem?_cons_zero, List.getElem?_cons_succ] at q0 q1 q2 q3 q4 q5); go_simp; (try with_reducible rfl))
      try simp only [Act.put, List.setIfInBounds_toArray, List.set_cons_zero, List.set_cons_succ]
      refine wpAnyH_take (i := 26) (oi := { dst := some 60, op := Op.binOp BinOp.eql 3 (Operand.tmp 59) (Operand.const (Value.int IntKind.i64 0)) 3, type := 4, pos := "law.go:191", after := #[{ on := 25, ground := Ground.data }, { on := 22, ground := Ground.guard }], guard := some (22, false) }) (v := ?vu278) rfl (by kernel_rfl) (by kernel_rfl) (by kernel_rfl) (fun _ _ _ h => h) (Or.inl ⟨by rfl, ?hyu278⟩) (by assumption) ?restu278
      case hyu278 => (intro w hSw; (try dsimp only at hSw); go_simp; (try with_reducible rfl))
      try simp only [Act.put, List.setIfInBounds_toArray, List.set_cons_zero, List.set_cons_succ]
      refine wpAnyH_take (i := 27) (oi := { dst := some 61, op := Op.binOp BinOp.neq 4 (Operand.tmp 57) (Operand.tmp 60) 4, type := 4, pos := "law.go:191", after := #[{ on := 23, ground := Ground.data }, { on := 26, ground := Ground.data }, { on := 22, ground := Ground.guard }], guard := some (22, false) }) (v := ?vu279) rfl (by kernel_rfl) (by kernel_rfl) (by kernel_rfl) (fun _ _ _ h => h) (Or.inl ⟨by rfl, ?hyu279⟩) (by assumption) ?restu279
      case hyu279 => (intro w hSw; (try dsimp only at hSw); go_simp; (try with_reducible rfl))
      try simp only [Act.put, List.setIfInBounds_toArray, List.set_cons_zero, List.set_cons_succ]
      refine wpAnyH_take (i := 28) (oi := { dst := some 62, op := Op.pick (Operand.tmp 56) (Operand.const (Value.bool true)) (Operand.tmp 61), type := 4, pos := "law.go:191", after := #[{ on := 22, ground := Ground.data }, { on := 27, ground := Ground.data }], guard := none }) (v := ?vu280) rfl (by kernel_rfl) (by kernel_rfl) (by kernel_rfl) (fun _ _ _ h => h) (Or.inl ⟨by rfl, ?hyu280⟩) (by assumption) ?restu280
      case hyu280 => (intro w hSw; (try dsimp only at hSw); go_simp; (try with_reducible rfl))
      try simp only [Act.put, List.setIfInBounds_toArray, List.set_cons_zero, List.set_cons_succ]
      refine wpAnyH_done (by kernel_rfl) ?_ _
      have HBz : Hid (Below w.heap.size w z2) := below_step HB8.out HZ2.out
      have hez := (HZ2.out.block _ (lt_of_heap HE8.out)).trans HE8.out
      have HEz : Hid (z2.heap[w6.heap.size]? = some (.cells #[.int .i64 2, .int .i64 0, .int .i64 m] 37)) := hez
      have q0 : z2.cell? ⟨w6.heap.size, 0, none⟩ = some (.int .i64 2) := by rw [cell_of_row _ _ _ _ _ _ hez]; rfl
      have q1 : z2.cell? ⟨w6.heap.size, 1, none⟩ = some (.int .i64 0) := by rw [cell_of_row _ _ _ _ _ _ hez]; rfl
      have q2 : z2.cell? ⟨w6.heap.size, 2, none⟩ = some (.int .i64 m) := by rw [cell_of_row _ _ _ _ _ _ hez]; rfl
      clear hez
      go_wp2_with (go_at_call 9; fail)
      refine (awake_of C D _).mono ?_
      rintro e w9 ⟨rfl, b9⟩
      have HB9 : Hid (Below w.heap.size w w9) := below_step HBz.out b9
      clear b9
      go_wp2
      go_ret
      exact ⟨rfl, HB9.out⟩
    | nilB => exact absurd rfl HNL.out
  · skip
    have hmx : max b 0 = b := by omega
    rw [hmx] at HM
    clear hmx
    obtain ⟨W5, hW5⟩ : ∃ W5, W5 = (((w3.alloc (.cells #[.slice none 0 0, .pointer p] 32)).alloc (.cells #[.pointer (some ⟨w3.heap.size, 0, none⟩)] 27)).alloc (.cells #[.slice none 0 0, .int .i64 b] 35)) := ⟨_, rfl⟩
    have hW5f : W5 = List.foldl World.alloc w3 [.cells #[.slice none 0 0, .pointer p] 32, .cells #[.pointer (some ⟨w3.heap.size, 0, none⟩)] 27, .cells #[.slice none 0 0, .int .i64 b] 35] := hW5
    have hb5 : Below w3.heap.size w3 W5 := by rw [hW5f]; exact fold_below _ w3 w3 (below_refl w3)
    have HB35 : Hid (Below w3.heap.size w3 W5) := hb5
    have HZ5 : Hid (W5.heap.size = w3.heap.size + 3) := by show _ = _; rw [hW5f, fold_size]; rfl
    have HA5 : Hid (W5.heap[w3.heap.size]? = some (.cells #[.slice none 0 0, .pointer p] 32)) := by show W5.heap[_]? = _; rw [hW5f]; exact fold_heap _ w3 0 _ rfl
    have HX5 : Hid (W5.heap[w3.heap.size + 1]? = some (.cells #[.pointer (some ⟨w3.heap.size, 0, none⟩)] 27)) := by show W5.heap[_]? = _; rw [hW5f]; exact fold_heap _ w3 1 _ rfl
    have HC5 : Hid (W5.heap[w3.heap.size + 1 + 1]? = some (.cells #[.slice none 0 0, .int .i64 b] 35)) := by show W5.heap[_]? = _; rw [hW5f]; exact fold_heap _ w3 2 _ rfl
    have HN5 : Hid (W5.heap[w.heap.size]? = some (.cells #[.int .i64 kind, .int .i64 code, .int .i64 n, .slice na len cap] 24)) := (hb5.block _ (lt_of_heap HQ3.out)).trans HQ3.out
    have HB5 : Hid (Below w.heap.size w W5) := below_step HB3.out hb5
    have HIR : Hid (InR ⟨[], b⟩) := ⟨by simp only; omega, by simp only; omega⟩
    obtain ⟨FW, hFW⟩ : ∃ FW : Nat → Prop, FW = fun b => FM b ∨ b = w3.heap.size := ⟨_, rfl⟩
    have hlt3 := D.lt HM.out
    have HW5 : Hid (WS M w.heap.size w3.heap.size FW W5 ⟨[], b⟩) := by
      rw [hFW]
      exact ⟨none, 0, p, FM, HA5.out, Ow.nil _ _ _ _, fun g h => (by cases h), D.frame HM.out (Kp.of_below (F := fun _ => False) hb5) fun _ _ h => h, fun b h => Or.inl h, fun h => by have := hlt3 _ h; omega, Or.inr rfl, fun b h => by have := HZ5.out; rcases h with h | h; have := hlt3 _ h; omega; omega, fun b h => by rcases h with h | h; have := HFM.out _ h; omega; omega⟩
    have HFWlo : Hid (∀ b, FW b → w.heap.size ≤ b) := fun b h => by
      rw [hFW] at h
      rcases h with h | h
      · have := HFM.out _ h; omega
      · omega
    have HFWhi : Hid (∀ b, FW b → b ≤ w3.heap.size) := fun b h => by
      rw [hFW] at h
      rcases h with h | h
      · have := hlt3 _ h; omega
      · omega
    have HP5 : Hid (PS w.heap.size (w3.heap.size + 1 + 1) (fun b => b = w3.heap.size + 1 + 1) W5 ⟨[], b⟩) := ⟨none, 0, HC5.out, Ow.nil _ _ _ _, fun g h => (by cases h), rfl, fun b h => by have := HZ5.out; omega, fun b h => by have := HB3.out.size; omega⟩
    obtain ⟨e0, y, hrun⟩ : ∃ e0 y, rn ⟨[], b⟩ = (e0, y) := ⟨_, _, rfl⟩
    have HRN : Hid (rn ⟨[], b⟩ = (e0, y)) := hrun
    have HNL : Hid (e0 ≠ .nilB) := by have := (HRB.out _ HIR.out).1; rw [hrun] at this; exact this
    have u0 : W5.cell? ⟨w.heap.size, 0, none⟩ = some (.int .i64 kind) := by rw [cell_of_row _ _ _ _ _ _ HN5.out]; rfl
    have u1 : W5.cell? ⟨w.heap.size, 1, none⟩ = some (.int .i64 code) := by rw [cell_of_row _ _ _ _ _ _ HN5.out]; rfl
    have u2 : W5.cell? ⟨w.heap.size, 2, none⟩ = some (.int .i64 n) := by rw [cell_of_row _ _ _ _ _ _ HN5.out]; rfl
    have u3 : W5.cell? ⟨w.heap.size, 3, none⟩ = some (.slice na len cap) := by rw [cell_of_row _ _ _ _ _ _ HN5.out]; rfl
    rw [hW5] at u0 u1 u2 u3
    have HWW : Hid (W5 = (((w3.alloc (.cells #[.slice none 0 0, .pointer p] 32)).alloc (.cells #[.pointer (some ⟨w3.heap.size, 0, none⟩)] 27)).alloc (.cells #[.slice none 0 0, .int .i64 b] 35))) := hW5
    clear hrun hW5f hb5 hlt3 hFW hW5
    go_wp2_with (go_at_call 11; fail)
    rw [← HWW.out]
    clear u0 u1 u2 u3 HWW
    refine (HPL.out w (w3.heap.size + 1 + 1) HWf.out HS.out _ W5 ⟨[], b⟩ HB5.out HP5.out (by simp only [List.length_nil]; have := HS.out; omega) HIR.out).mono ?_
    rintro e w6 ⟨he6, G6, hl⟩
    rw [HRN.out] at he6 hl
    simp only at he6 hl
    have HL6 : Hid (Lft (PS w.heap.size (w3.heap.size + 1 + 1)) (fun b => b = w3.heap.size + 1 + 1) W5 y G6 w6) := hl
    have HZ6 : Hid (w3.heap.size + 3 ≤ w6.heap.size) := by have := hl.2.2.size; rw [HZ5.out] at this; exact this
    have HB6 : Hid (Below w.heap.size w w6) := HB5.out.trans (hl.2.2.below HB5.out.size fun b hb h => by have := HB3.out.size; omega)
    have HW6 : Hid (WS M w.heap.size w3.heap.size FW w6 ⟨[], b⟩) := (ws_st D _ _).frame HW5.out hl.2.2 fun b h1 h2 => by have := HFWhi.out b h1; omega
    have HN6 : Hid (w6.heap[w.heap.size]? = some (.cells #[.int .i64 kind, .int .i64 code, .int .i64 n, .slice na len cap] 24)) := hl.2.2.heap HN5.out (by have := HB3.out.size; omega)
    have HX6 : Hid (w6.heap[w3.heap.size + 1]? = some (.cells #[.pointer (some ⟨w3.heap.size, 0, none⟩)] 27)) := hl.2.2.heap HX5.out (by omega)
    have HDJ : Hid (∀ b, G6 b → ¬ FW b) := fun b h1 h2 => by
      have h3 := HFWhi.out b h2
      rcases hl.2.1 b h1 with q | q
      · omega
      · have := HZ5.out; omega
    clear hl
    cases e0 with
    | ret =>
      replace he6 : e = .returned (.agg #[.int .i64 0, .int .i64 0, .int .i64 0]) := he6
      subst he6
      have hb7 : Below w6.heap.size w6 (w6.alloc (.cells #[.int .i64 0, .int .i64 0, .int .i64 0] 37)) := below1 w6 _
      have HW7 : Hid (WS M w.heap.size w3.heap.size FW (w6.alloc (.cells #[.int .i64 0, .int .i64 0, .int .i64 0] 37)) ⟨[], b⟩) := (ws_st D _ _).below HW6.out hb7
      have HP7 : Hid (PS w.heap.size (w3.heap.size + 1 + 1) G6 (w6.alloc (.cells #[.int .i64 0, .int .i64 0, .int .i64 0] 37)) y) := (ps_st _ _).below HL6.out.1 hb7
      have HB7 : Hid (Below w.heap.size w (w6.alloc (.cells #[.int .i64 0, .int .i64 0, .int .i64 0] 37))) := below_step HB6.out hb7
      have HE7 : Hid ((w6.alloc (.cells #[.int .i64 0, .int .i64 0, .int .i64 0] 37)).heap[w6.heap.size]? = some (.cells #[.int .i64 0, .int .i64 0, .int .i64 0] 37)) := heap_new1 w6 _
      have HN7 : Hid ((w6.alloc (.cells #[.int .i64 0, .int .i64 0, .int .i64 0] 37)).heap[w.heap.size]? = some (.cells #[.int .i64 kind, .int .i64 code, .int .i64 n, .slice na len cap] 24)) := (hb7.block _ (lt_of_heap HN6.out)).trans HN6.out
      have HX7 : Hid ((w6.alloc (.cells #[.int .i64 0, .int .i64 0, .int .i64 0] 37)).heap[w3.heap.size + 1]? = some (.cells #[.pointer (some ⟨w3.heap.size, 0, none⟩)] 27)) := (hb7.block _ (lt_of_heap HX6.out)).trans HX6.out
      clear hb7
      go_wp2_with (go_at_call 12; fail)
      refine (C.safe (ws_st D w.heap.size w3.heap.size) FW (w6.alloc (.cells #[.int .i64 0, .int .i64 0, .int .i64 0] 37)) ⟨[], b⟩ y _ _ (.ret) (fnv_bp1 _) HW7.out fun w1 hb hs => bp1_plays D w.heap.size w3.heap.size _ _ FW w1 ⟨[], b⟩ y (.ret) kind code n na len cap ((hb.block _ (lt_of_heap HX7.out)).trans HX7.out) ((hb.block _ (lt_of_heap HN7.out)).trans HN7.out) (by
        have := HDO.out w w3.heap.size HWf.out HS.out FW w1 ⟨[], b⟩ (HB7.out.trans (hb.mono HB7.out.size)) hs (by simp only [List.length_nil]; have := HS.out; omega) HIR.out
        rwa [HRN.out] at this)).mono ?_
      rintro e w8 ⟨G8, hl, he⟩
      have HL8 : Hid (Lft (WS M w.heap.size w3.heap.size) FW (w6.alloc (.cells #[.int .i64 0, .int .i64 0, .int .i64 0] 37)) y G8 w8) := hl
      have HB8 : Hid (Below w.heap.size w w8) := HB7.out.trans (hl.2.2.below HB7.out.size fun b hb hF => by have := HFWlo.out b hF; omega)
      have HP8 : Hid (PS w.heap.size (w3.heap.size + 1 + 1) G6 w8 y) := (ps_st _ _).frame HP7.out hl.2.2 fun b h1 h2 => HDJ.out b h1 h2
      have HE8 : Hid (w8.heap[w6.heap.size]? = some (.cells #[.int .i64 0, .int .i64 0, .int .i64 0] 37)) := hl.2.2.heap HE7.out fun h => by have := HFWhi.out _ h; have := HZ6.out; omega
      have HX8 : Hid (w8.heap[w3.heap.size + 1]? = some (.cells #[.pointer (some ⟨w3.heap.size, 0, none⟩)] 27)) := hl.2.2.heap HX7.out fun h => by have := HFWhi.out _ h; omega
      have HHE : Hid (SafE (w6.alloc (.cells #[.int .i64 0, .int .i64 0, .int .i64 0] 37)).heap.size G8 w8 (.ret) e) := he
      clear hl he
      obtain rfl : e = .returned (.tuple #[.nilIface, .bool true]) := by
        rcases HHE.out with ⟨-, h⟩ | ⟨v, -, h⟩
        · exact h
        · exact h.elim
      have ta1 : ∀ w, (Instr.typeAssert .nilIface 20 44 true).run Try.prog w = .ok (.tuple #[.pointer none, .bool false]) w := fun _ => by kernel_rfl
      have ta2 : ∀ w, (Instr.typeAssert .nilIface 20 3 true).run Try.prog w = .ok (.tuple #[.int .i64 0, .bool false]) w := fun _ => by kernel_rfl
      obtain ⟨a8, c8, p8, FM8, h8⟩ := HL8.out.1
      have HY8 : Hid (WX M w.heap.size w3.heap.size G8 w8 y a8 c8 p8 FM8) := h8
      obtain ⟨a6, c6, h6⟩ := HP8.out
      have HY6 : Hid (PX w.heap.size (w3.heap.size + 1 + 1) G6 w8 y a6 c6) := h6
      clear h8 h6
      go_wp2
      refine wp_region_held_drew (S := (fun w' => Below w8.heap.size w8 w')) (by kernel_rfl) ?_ (fun hHeld => ?_)
      · (try dsimp only); exact (below_refl w8).drew
      refine wpAnyH_take (i := 0) (oi := { dst := some 34, op := Op.load 27 (Operand.tmp 5), type := 27, pos := "law.go:191", after := #[], guard := none }) (v := ?vu281) rfl (by kernel_rfl) (by kernel_rfl) (by kernel_rfl) (fun _ _ _ h => h) (Or.inl ⟨by rfl, ?hyu281⟩) (by assumption) ?restu281
      case hyu281 => (intro wz hSw; (try dsimp only at hSw); have q0 := cell_of_row _ _ 0 _ _ _ ((hSw.block _ (lt_of_heap HX8.out)).trans HX8.out); have q1 := cell_of_row _ _ 0 _ _ _ ((hSw.block _ (lt_of_heap HY8.out.hb)).trans HY8.out.hb); have q2 := cell_of_row _ _ 1 _ _ _ ((hSw.block _ (lt_of_heap HY8.out.hb)).trans HY8.out.hb); have q3 := cell_of_row _ _ 0 _ _ _ ((hSw.block _ (lt_of_heap HY6.out.hb)).trans HY6.out.hb); have q4 := cell_of_row _ _ 1 _ _ _ ((hSw.block _ (lt_of_heap HY6.out.hb)).trans HY6.out.hb); have q5 := cell_of_row _ _ 0 _ _ _ ((hSw.block _ (lt_of_heap HE8.out)).trans HE8.out); (try simp only [List.getElem?_toArray, List.getElem?_cons_zero, List.getElem?_cons_succ] at q0 q1 q2 q3 q4 q5); go_simp; (try with_reducible rfl))
      try simp only [Act.put, List.setIfInBounds_toArray, List.set_cons_zero, List.set_cons_succ]
      refine wpAnyH_take (i := 1) (oi := { dst := some 35, op := Op.nilCheck (Operand.tmp 34), type := 0, pos := "law.go:191", after := #[{ on := 0, ground := Ground.data }], guard := none }) (v := ?vu282) rfl (by kernel_rfl) (by kernel_rfl) (by kernel_rfl) (fun _ _ _ h => h) (Or.inl ⟨by rfl, ?hyu282⟩) (by assumption) ?restu282
      case hyu282 => (intro w hSw; (try dsimp only at hSw); go_simp; (try with_reducible rfl))
      try simp only [Act.put, List.setIfInBounds_toArray, List.set_cons_zero, List.set_cons_succ]
      refine wpAnyH_take (i := 2) (oi := { dst := some 36, op := Op.fieldAddr 32 (Operand.tmp 35) 0, type := 0, pos := "law.go:191", after := #[{ on := 1, ground := Ground.data }], guard := none }) (v := ?vu283) rfl (by kernel_rfl) (by kernel_rfl) (by kernel_rfl) (fun _ _ _ h => h) (Or.inl ⟨by rfl, ?hyu283⟩) (by assumption) ?restu283
      case hyu283 => (intro w hSw; (try dsimp only at hSw); go_simp; (try with_reducible rfl))
      try simp only [Act.put, List.setIfInBounds_toArray, List.set_cons_zero, List.set_cons_succ]
      refine wpAnyH_take (i := 3) (oi := { dst := some 37, op := Op.load 30 (Operand.tmp 36), type := 30, pos := "law.go:191", after := #[{ on := 2, ground := Ground.data }], guard := none }) (v := ?vu284) rfl (by kernel_rfl) (by kernel_rfl) (by kernel_rfl) (fun _ _ _ h => h) (Or.inl ⟨by rfl, ?hyu284⟩) (by assumption) ?restu284
      case hyu284 => (intro wz hSw; (try dsimp only at hSw); have q0 := cell_of_row _ _ 0 _ _ _ ((hSw.block _ (lt_of_heap HX8.out)).trans HX8.out); have q1 := cell_of_row _ _ 0 _ _ _ ((hSw.block _ (lt_of_heap HY8.out.hb)).trans HY8.out.hb); have q2 := cell_of_row _ _ 1 _ _ _ ((hSw.block _ (lt_of_heap HY8.out.hb)).trans HY8.out.hb); have q3 := cell_of_row _ _ 0 _ _ _ ((hSw.block _ (lt_of_heap HY6.out.hb)).trans HY6.out.hb); have q4 := cell_of_row _ _ 1 _ _ _ ((hSw.block _ (lt_of_heap HY6.out.hb)).trans HY6.out.hb); have q5 := cell_of_row _ _ 0 _ _ _ ((hSw.block _ (lt_of_heap HE8.out)).trans HE8.out); (try simp only [List.getElem?_toArray, List.getElem?_cons_zero, List.getElem?_cons_succ] at q0 q1 q2 q3 q4 q5); go_simp; (try with_reducible rfl))
      try simp only [Act.put, List.setIfInBounds_toArray, List.set_cons_zero, List.set_cons_succ]
      refine wpAnyH_take (i := 4) (oi := { dst := some 38, op := Op.move (Operand.tmp 6), type := 33, pos := "law.go:191", after := #[], guard := none }) (v := ?vu285) rfl (by kernel_rfl) (by kernel_rfl) (by kernel_rfl) (fun _ _ _ h => h) (Or.inl ⟨by rfl, ?hyu285⟩) (by assumption) ?restu285
      case hyu285 => (intro w hSw; (try dsimp only at hSw); go_simp; (try with_reducible rfl))
      try simp only [Act.put, List.setIfInBounds_toArray, List.set_cons_zero, List.set_cons_succ]
      refine wpAnyH_take (i := 5) (oi := { dst := some 39, op := Op.nilCheck (Operand.tmp 38), type := 0, pos := "law.go:191", after := #[{ on := 4, ground := Ground.data }], guard := none }) (v := ?vu286) rfl (by kernel_rfl) (by kernel_rfl) (by kernel_rfl) (fun _ _ _ h => h) (Or.inl ⟨by rfl, ?hyu286⟩) (by assumption) ?restu286
      case hyu286 => (intro w hSw; (try dsimp only at hSw); go_simp; (try with_reducible rfl))
      try simp only [Act.put, List.setIfInBounds_toArray, List.set_cons_zero, List.set_cons_succ]
      refine wpAnyH_take (i := 6) (oi := { dst := some 40, op := Op.fieldAddr 35 (Operand.tmp 39) 0, type := 0, pos := "law.go:191", after := #[{ on := 5, ground := Ground.data }], guard := none }) (v := ?vu287) rfl (by kernel_rfl) (by kernel_rfl) (by kernel_rfl) (fun _ _ _ h => h) (Or.inl ⟨by rfl, ?hyu287⟩) (by assumption) ?restu287
      case hyu287 => (intro w hSw; (try dsimp only at hSw); go_simp; (try with_reducible rfl))
      try simp only [Act.put, List.setIfInBounds_toArray, List.set_cons_zero, List.set_cons_succ]
      refine wpAnyH_take (i := 7) (oi := { dst := some 41, op := Op.load 30 (Operand.tmp 40), type := 30, pos := "law.go:191", after := #[{ on := 6, ground := Ground.data }], guard := none }) (v := ?vu288) rfl (by kernel_rfl) (by kernel_rfl) (by kernel_rfl) (fun _ _ _ h => h) (Or.inl ⟨by rfl, ?hyu288⟩) (by assumption) ?restu288
      case hyu288 => (intro wz hSw; (try dsimp only at hSw); have q0 := cell_of_row _ _ 0 _ _ _ ((hSw.block _ (lt_of_heap HX8.out)).trans HX8.out); have q1 := cell_of_row _ _ 0 _ _ _ ((hSw.block _ (lt_of_heap HY8.out.hb)).trans HY8.out.hb); have q2 := cell_of_row _ _ 1 _ _ _ ((hSw.block _ (lt_of_heap HY8.out.hb)).trans HY8.out.hb); have q3 := cell_of_row _ _ 0 _ _ _ ((hSw.block _ (lt_of_heap HY6.out.hb)).trans HY6.out.hb); have q4 := cell_of_row _ _ 1 _ _ _ ((hSw.block _ (lt_of_heap HY6.out.hb)).trans HY6.out.hb); have q5 := cell_of_row _ _ 0 _ _ _ ((hSw.block _ (lt_of_heap HE8.out)).trans HE8.out); (try simp only [List.getElem?_toArray, List.getElem?_cons_zero, List.getElem?_cons_succ] at q0 q1 q2 q3 q4 q5); go_simp; (try with_reducible rfl))
      try simp only [Act.put, List.setIfInBounds_toArray, List.set_cons_zero, List.set_cons_succ]
      refine wpAnyH_ready (rs := [8]) (by kernel_rfl) (by simp) ?_
      refine AllReadyH.cons (o := { dst := some 42, op := Op.call { callee := Callee.value (Operand.func 15), args := #[Operand.tmp 37, Operand.tmp 41], argTypes := #[30, 30] }, type := 4, pos := "law.go:191", after := #[{ on := 3, ground := Ground.data }, { on := 7, ground := Ground.data }], guard := none }) rfl (fun K hK => ?_) AllReadyH.nil
      go_simp
      go_at_call 15
      refine (ints_same w8.drew a8 a6 c8 c6 y.notes.length (gt y.notes) (HY8.out.ow.drew.rd1) (HY6.out.ow.drew.rd1)).mono ?_
      rintro e z1 ⟨rfl, b⟩
      have HZ1 : Hid (Below w8.heap.size w8 z1) := (below_refl w8).drew.trans b
      clear b
      refine hK.out _ _ ?_ (fun hHeldB => ?_)
      · (try dsimp only); first | exact HZ1.out | exact HZ2.out
      clear hK K hHeld
      have hHeld := hHeldB
      clear hHeldB
      try simp only [Act.put, List.setIfInBounds_toArray, List.set_cons_zero, List.set_cons_succ]
      refine wpAnyH_take (i := 9) (oi := { dst := some 43, op := Op.unOp UnOp.not 4 (Operand.tmp 42), type := 4, pos := "law.go:191", after := #[{ on := 8, ground := Ground.data }], guard := none }) (v := ?vu289) rfl (by kernel_rfl) (by kernel_rfl) (by kernel_rfl) (fun _ _ _ h => h) (Or.inl ⟨by rfl, ?hyu289⟩) (by assumption) ?restu289
      case hyu289 => (intro w hSw; (try dsimp only at hSw); go_simp; (try with_reducible rfl))
      try simp only [Act.put, List.setIfInBounds_toArray, List.set_cons_zero, List.set_cons_succ]
      refine wpAnyH_take (i := 10) (oi := { dst := some 44, op := Op.move (Operand.tmp 43), type := 4, pos := "law.go:191", after := #[{ on := 9, ground := Ground.data }, { on := 8, ground := Ground.chain }], guard := none }) (v := ?vu290) rfl (by kernel_rfl) (by kernel_rfl) (by kernel_rfl) (fun _ _ _ h => h) (Or.inl ⟨by rfl, ?hyu290⟩) (by assumption) ?restu290
      case hyu290 => (intro w hSw; (try dsimp only at hSw); go_simp; (try with_reducible rfl))
      try simp only [Act.put, List.setIfInBounds_toArray, List.set_cons_zero, List.set_cons_succ]
      refine wpAnyH_take (i := 11) (oi := { dst := some 45, op := Op.load 27 (Operand.tmp 5), type := 27, pos := "law.go:191", after := #[{ on := 10, ground := Ground.guard }], guard := some (10, false) }) (v := ?vu291) rfl (by kernel_rfl) (by kernel_rfl) (by kernel_rfl) (fun _ _ _ h => h) (Or.inl ⟨by rfl, ?hyu291⟩) (by assumption) ?restu291
      case hyu291 => (intro wz hSw; (try dsimp only at hSw); have q0 := cell_of_row _ _ 0 _ _ _ ((hSw.block _ (lt_of_heap HX8.out)).trans HX8.out); have q1 := cell_of_row _ _ 0 _ _ _ ((hSw.block _ (lt_of_heap HY8.out.hb)).trans HY8.out.hb); have q2 := cell_of_row _ _ 1 _ _ _ ((hSw.block _ (lt_of_heap HY8.out.hb)).trans HY8.out.hb); have q3 := cell_of_row _ _ 0 _ _ _ ((hSw.block _ (lt_of_heap HY6.out.hb)).trans HY6.out.hb); have q4 := cell_of_row _ _ 1 _ _ _ ((hSw.block _ (lt_of_heap HY6.out.hb)).trans HY6.out.hb); have q5 := cell_of_row _ _ 0 _ _ _ ((hSw.block _ (lt_of_heap HE8.out)).trans HE8.out); (try simp only [List.getElem?_toArray, List.getElem?_cons_zero, List.getElem?_cons_succ] at q0 q1 q2 q3 q4 q5); go_simp; (try with_reducible rfl))
      try simp only [Act.put, List.setIfInBounds_toArray, List.set_cons_zero, List.set_cons_succ]
      refine wpAnyH_take (i := 12) (oi := { dst := some 46, op := Op.nilCheck (Operand.tmp 45), type := 0, pos := "law.go:191", after := #[{ on := 11, ground := Ground.data }, { on := 10, ground := Ground.guard }], guard := some (10, false) }) (v := ?vu292) rfl (by kernel_rfl) (by kernel_rfl) (by kernel_rfl) (fun _ _ _ h => h) (Or.inl ⟨by rfl, ?hyu292⟩) (by assumption) ?restu292
      case hyu292 => (intro w hSw; (try dsimp only at hSw); go_simp; (try with_reducible rfl))
      try simp only [Act.put, List.setIfInBounds_toArray, List.set_cons_zero, List.set_cons_succ]
      refine wpAnyH_take (i := 13) (oi := { dst := some 47, op := Op.fieldAddr 32 (Operand.tmp 46) 1, type := 0, pos := "law.go:191", after := #[{ on := 12, ground := Ground.data }, { on := 10, ground := Ground.guard }], guard := some (10, false) }) (v := ?vu293) rfl (by kernel_rfl) (by kernel_rfl) (by kernel_rfl) (fun _ _ _ h => h) (Or.inl ⟨by rfl, ?hyu293⟩) (by assumption) ?restu293
      case hyu293 => (intro w hSw; (try dsimp only at hSw); go_simp; (try with_reducible rfl))
      try simp only [Act.put, List.setIfInBounds_toArray, List.set_cons_zero, List.set_cons_succ]
      refine wpAnyH_take (i := 14) (oi := { dst := some 48, op := Op.load 28 (Operand.tmp 47), type := 28, pos := "law.go:191", after := #[{ on := 13, ground := Ground.data }, { on := 10, ground := Ground.guard }], guard := some (10, false) }) (v := ?vu294) rfl (by kernel_rfl) (by kernel_rfl) (by kernel_rfl) (fun _ _ _ h => h) (Or.inl ⟨by rfl, ?hyu294⟩) (by assumption) ?restu294
      case hyu294 => (intro wz hSw; (try dsimp only at hSw); have q0 := cell_of_row _ _ 0 _ _ _ ((hSw.block _ (lt_of_heap HX8.out)).trans HX8.out); have q1 := cell_of_row _ _ 0 _ _ _ ((hSw.block _ (lt_of_heap HY8.out.hb)).trans HY8.out.hb); have q2 := cell_of_row _ _ 1 _ _ _ ((hSw.block _ (lt_of_heap HY8.out.hb)).trans HY8.out.hb); have q3 := cell_of_row _ _ 0 _ _ _ ((hSw.block _ (lt_of_heap HY6.out.hb)).trans HY6.out.hb); have q4 := cell_of_row _ _ 1 _ _ _ ((hSw.block _ (lt_of_heap HY6.out.hb)).trans HY6.out.hb); have q5 := cell_of_row _ _ 0 _ _ _ ((hSw.block _ (lt_of_heap HE8.out)).trans HE8.out); (try simp only [List.getElem?_toArray, List.getElem?_cons_zero, List.getElem?_cons_succ] at q0 q1 q2 q3 q4 q5); go_simp; (try with_reducible rfl))
      try simp only [Act.put, List.setIfInBounds_toArray, List.set_cons_zero, List.set_cons_succ]
      refine wpAnyH_take (i := 16) (oi := { dst := some 50, op := Op.move (Operand.tmp 6), type := 33, pos := "law.go:191", after := #[{ on := 10, ground := Ground.guard }], guard := some (10, false) }) (v := ?vu295) rfl (by kernel_rfl) (by kernel_rfl) (by kernel_rfl) (fun _ _ _ h => h) (Or.inl ⟨by rfl, ?hyu295⟩) (by assumption) ?restu295
      case hyu295 => (intro w hSw; (try dsimp only at hSw); go_simp; (try with_reducible rfl))
      try simp only [Act.put, List.setIfInBounds_toArray, List.set_cons_zero, List.set_cons_succ]
      refine wpAnyH_take (i := 17) (oi := { dst := some 51, op := Op.nilCheck (Operand.tmp 50), type := 0, pos := "law.go:191", after := #[{ on := 16, ground := Ground.data }, { on := 10, ground := Ground.guard }], guard := some (10, false) }) (v := ?vu296) rfl (by kernel_rfl) (by kernel_rfl) (by kernel_rfl) (fun _ _ _ h => h) (Or.inl ⟨by rfl, ?hyu296⟩) (by assumption) ?restu296
      case hyu296 => (intro w hSw; (try dsimp only at hSw); go_simp; (try with_reducible rfl))
      try simp only [Act.put, List.setIfInBounds_toArray, List.set_cons_zero, List.set_cons_succ]
      refine wpAnyH_take (i := 18) (oi := { dst := some 52, op := Op.fieldAddr 35 (Operand.tmp 51) 1, type := 0, pos := "law.go:191", after := #[{ on := 17, ground := Ground.data }, { on := 10, ground := Ground.guard }], guard := some (10, false) }) (v := ?vu297) rfl (by kernel_rfl) (by kernel_rfl) (by kernel_rfl) (fun _ _ _ h => h) (Or.inl ⟨by rfl, ?hyu297⟩) (by assumption) ?restu297
      case hyu297 => (intro w hSw; (try dsimp only at hSw); go_simp; (try with_reducible rfl))
      try simp only [Act.put, List.setIfInBounds_toArray, List.set_cons_zero, List.set_cons_succ]
      refine wpAnyH_take (i := 19) (oi := { dst := some 53, op := Op.load 3 (Operand.tmp 52), type := 3, pos := "law.go:191", after := #[{ on := 18, ground := Ground.data }, { on := 10, ground := Ground.guard }], guard := some (10, false) }) (v := ?vu298) rfl (by kernel_rfl) (by kernel_rfl) (by kernel_rfl) (fun _ _ _ h => h) (Or.inl ⟨by rfl, ?hyu298⟩) (by assumption) ?restu298
      case hyu298 => (intro wz hSw; (try dsimp only at hSw); have q0 := cell_of_row _ _ 0 _ _ _ ((hSw.block _ (lt_of_heap HX8.out)).trans HX8.out); have q1 := cell_of_row _ _ 0 _ _ _ ((hSw.block _ (lt_of_heap HY8.out.hb)).trans HY8.out.hb); have q2 := cell_of_row _ _ 1 _ _ _ ((hSw.block _ (lt_of_heap HY8.out.hb)).trans HY8.out.hb); have q3 := cell_of_row _ _ 0 _ _ _ ((hSw.block _ (lt_of_heap HY6.out.hb)).trans HY6.out.hb); have q4 := cell_of_row _ _ 1 _ _ _ ((hSw.block _ (lt_of_heap HY6.out.hb)).trans HY6.out.hb); have q5 := cell_of_row _ _ 0 _ _ _ ((hSw.block _ (lt_of_heap HE8.out)).trans HE8.out); (try simp only [List.getElem?_toArray, List.getElem?_cons_zero, List.getElem?_cons_succ] at q0 q1 q2 q3 q4 q5); go_simp; (try with_reducible rfl))
      try simp only [Act.put, List.setIfInBounds_toArray, List.set_cons_zero, List.set_cons_succ]
      refine wpAnyH_ready (rs := [15]) (by kernel_rfl) (by simp) ?_
      refine AllReadyH.cons (o := { dst := some 49, op := Op.call { callee := Callee.value (Operand.func 16), args := #[Operand.tmp 48], argTypes := #[28] }, type := 3, pos := "law.go:191", after := #[{ on := 14, ground := Ground.data }, { on := 10, ground := Ground.chain }, { on := 10, ground := Ground.guard }], guard := some (10, false) }) rfl (fun K hK => ?_) AllReadyH.nil
      go_simp
      go_at_call 16
      refine (D.left FM8 z1 (.pointer p8) y.left (D.frame HY8.out.m (Kp.of_below (F := fun _ => False) HZ1.out) fun _ _ h => h)).mono ?_
      rintro e z2 ⟨rfl, b⟩
      have HZ2 : Hid (Below w8.heap.size w8 z2) := below_step HZ1.out b
      clear b
      refine hK.out _ _ ?_ (fun hHeldB => ?_)
      · (try dsimp only); exact HZ2.out
      clear hK K hHeld
      have hHeld := hHeldB
      clear hHeldB
      try simp only [Act.put, List.setIfInBounds_toArray, List.set_cons_zero, List.set_cons_succ]
      refine wpAnyH_take (i := 20) (oi := { dst := some 54, op := Op.binOp BinOp.neq 3 (Operand.tmp 49) (Operand.tmp 53) 3, type := 4, pos := "law.go:191", after := #[{ on := 15, ground := Ground.data }, { on := 19, ground := Ground.data }, { on := 10, ground := Ground.guard }], guard := some (10, false) }) (v := ?vu299) rfl (by kernel_rfl) (by kernel_rfl) (by kernel_rfl) (fun _ _ _ h => h) (Or.inl ⟨by rfl, ?hyu299⟩) (by assumption) ?restu299
      case hyu299 => (intro w hSw; (try dsimp only at hSw); go_simp; (try with_reducible rfl))
      try simp only [Act.put, List.setIfInBounds_toArray, List.set_cons_zero, List.set_cons_succ]
      refine wpAnyH_take (i := 21) (oi := { dst := some 55, op := Op.pick (Operand.tmp 44) (Operand.const (Value.bool true)) (Operand.tmp 54), type := 4, pos := "law.go:191", after := #[{ on := 10, ground := Ground.data }, { on := 20, ground := Ground.data }], guard := none }) (v := ?vu300) rfl (by kernel_rfl) (by kernel_rfl) (by kernel_rfl) (fun _ _ _ h => h) (Or.inl ⟨by rfl, ?hyu300⟩) (by assumption) ?restu300
      case hyu300 => (intro w hSw; (try dsimp only at hSw); go_simp; (try with_reducible rfl))
      try simp only [Act.put, List.setIfInBounds_toArray, List.set_cons_zero, List.set_cons_succ]
      refine wpAnyH_take (i := 22) (oi := { dst := some 56, op := Op.move (Operand.tmp 55), type := 4, pos := "law.go:191", after := #[{ on := 21, ground := Ground.data }, { on := 15, ground := Ground.chain }], guard := none }) (v := ?vu301) rfl (by kernel_rfl) (by kernel_rfl) (by kernel_rfl) (fun _ _ _ h => h) (Or.inl ⟨by rfl, ?hyu301⟩) (by assumption) ?restu301
      case hyu301 => (intro w hSw; (try dsimp only at hSw); go_simp; (try with_reducible rfl))
      try simp only [Act.put, List.setIfInBounds_toArray, List.set_cons_zero, List.set_cons_succ]
      refine wpAnyH_take (i := 23) (oi := { dst := some 57, op := Op.move (Operand.tmp 9), type := 4, pos := "law.go:191", after := #[{ on := 22, ground := Ground.guard }], guard := some (22, false) }) (v := ?vu302) rfl (by kernel_rfl) (by kernel_rfl) (by kernel_rfl) (fun _ _ _ h => h) (Or.inl ⟨by rfl, ?hyu302⟩) (by assumption) ?restu302
      case hyu302 => (intro w hSw; (try dsimp only at hSw); go_simp; (try with_reducible rfl))
      try simp only [Act.put, List.setIfInBounds_toArray, List.set_cons_zero, List.set_cons_succ]
      refine wpAnyH_take (i := 24) (oi := { dst := some 58, op := Op.fieldAddr 37 (Operand.tmp 7) 0, type := 0, pos := "law.go:191", after := #[{ on := 22, ground := Ground.guard }], guard := some (22, false) }) (v := ?vu303) rfl (by kernel_rfl) (by kernel_rfl) (by kernel_rfl) (fun _ _ _ h => h) (Or.inl ⟨by rfl, ?hyu303⟩) (by assumption) ?restu303
      case hyu303 => (intro w hSw; (try dsimp only at hSw); go_simp; (try with_reducible rfl))
      try simp only [Act.put, List.setIfInBounds_toArray, List.set_cons_zero, List.set_cons_succ]
      refine wpAnyH_take (i := 25) (oi := { dst := some 59, op := Op.load 3 (Operand.tmp 58), type := 3, pos := "law.go:191", after := #[{ on := 24, ground := Ground.data }, { on := 22, ground := Ground.guard }], guard := some (22, false) }) (v := ?vu304) rfl (by kernel_rfl) (by kernel_rfl) (by kernel_rfl) (fun _ _ _ h => h) (Or.inl ⟨by rfl, ?hyu304⟩) (by assumption) ?restu304
      case hyu304 => (intro wz hSw; (try dsimp only at hSw); have q0 := cell_of_row _ _ 0 _ _ _ ((hSw.block _ (lt_of_heap HX8.out)).trans HX8.out); have q1 := cell_of_row _ _ 0 _ _ _ ((hSw.block _ (lt_of_heap HY8.out.hb)).trans HY8.out.hb); have q2 := cell_of_row _ _ 1 _ _ _ ((hSw.block _ (lt_of_heap HY8.out.hb)).trans HY8.out.hb); have q3 := cell_of_row _ _ 0 _ _ _ ((hSw.block _ (lt_of_heap HY6.out.hb)).trans HY6.out.hb); have q4 := cell_of_row _ _ 1 _ _ _ ((hSw.block _ (lt_of_heap HY6.out.hb)).trans HY6.out.hb); have q5 := cell_of_row _ _ 0 _ _ _ ((hSw.block _ (lt_of_heap HE8.out)).trans HE8.out); (try simp only [List.getElem?_toArray, List.getElem?_cons_zero, List.getElem?_cons_succ] at q0 q1 q2 q3 q4 q5); go_simp; (try with_reducible rfl))
      try simp only [Act.put, List.setIfInBounds_toArray, List.set_cons_zero, List.set_cons_succ]
      refine wpAnyH_take (i := 26) (oi := { dst := some 60, op := Op.binOp BinOp.eql 3 (Operand.tmp 59) (Operand.const (Value.int IntKind.i64 0)) 3, type := 4, pos := "law.go:191", after := #[{ on := 25, ground := Ground.data }, { on := 22, ground := Ground.guard }], guard := some (22, false) }) (v := ?vu305) rfl (by kernel_rfl) (by kernel_rfl) (by kernel_rfl) (fun _ _ _ h => h) (Or.inl ⟨by rfl, ?hyu305⟩) (by assumption) ?restu305
      case hyu305 => (intro w hSw; (try dsimp only at hSw); go_simp; (try with_reducible rfl))
      try simp only [Act.put, List.setIfInBounds_toArray, List.set_cons_zero, List.set_cons_succ]
      refine wpAnyH_take (i := 27) (oi := { dst := some 61, op := Op.binOp BinOp.neq 4 (Operand.tmp 57) (Operand.tmp 60) 4, type := 4, pos := "law.go:191", after := #[{ on := 23, ground := Ground.data }, { on := 26, ground := Ground.data }, { on := 22, ground := Ground.guard }], guard := some (22, false) }) (v := ?vu306) rfl (by kernel_rfl) (by kernel_rfl) (by kernel_rfl) (fun _ _ _ h => h) (Or.inl ⟨by rfl, ?hyu306⟩) (by assumption) ?restu306
      case hyu306 => (intro w hSw; (try dsimp only at hSw); go_simp; (try with_reducible rfl))
      try simp only [Act.put, List.setIfInBounds_toArray, List.set_cons_zero, List.set_cons_succ]
      refine wpAnyH_take (i := 28) (oi := { dst := some 62, op := Op.pick (Operand.tmp 56) (Operand.const (Value.bool true)) (Operand.tmp 61), type := 4, pos := "law.go:191", after := #[{ on := 22, ground := Ground.data }, { on := 27, ground := Ground.data }], guard := none }) (v := ?vu307) rfl (by kernel_rfl) (by kernel_rfl) (by kernel_rfl) (fun _ _ _ h => h) (Or.inl ⟨by rfl, ?hyu307⟩) (by assumption) ?restu307
      case hyu307 => (intro w hSw; (try dsimp only at hSw); go_simp; (try with_reducible rfl))
      try simp only [Act.put, List.setIfInBounds_toArray, List.set_cons_zero, List.set_cons_succ]
      refine wpAnyH_done (by kernel_rfl) ?_ _
      have HBz : Hid (Below w.heap.size w z2) := below_step HB8.out HZ2.out
      have hez := (HZ2.out.block _ (lt_of_heap HE8.out)).trans HE8.out
      have HEz : Hid (z2.heap[w6.heap.size]? = some (.cells #[.int .i64 0, .int .i64 0, .int .i64 0] 37)) := hez
      have q0 : z2.cell? ⟨w6.heap.size, 0, none⟩ = some (.int .i64 0) := by rw [cell_of_row _ _ _ _ _ _ hez]; rfl
      have q1 : z2.cell? ⟨w6.heap.size, 1, none⟩ = some (.int .i64 0) := by rw [cell_of_row _ _ _ _ _ _ hez]; rfl
      have q2 : z2.cell? ⟨w6.heap.size, 2, none⟩ = some (.int .i64 0) := by rw [cell_of_row _ _ _ _ _ _ hez]; rfl
      clear hez
      go_wp2_with (go_at_call 9; fail)
      refine (awake_of C D _).mono ?_
      rintro e w9 ⟨rfl, b9⟩
      have HB9 : Hid (Below w.heap.size w w9) := below_step HBz.out b9
      clear b9
      go_wp2
      go_ret
      exact ⟨rfl, HB9.out⟩
    | bail c0 a0 =>
      replace he6 : e = .returned (.agg #[.int .i64 1, .int .i64 c0, .int .i64 a0]) := he6
      subst he6
      have hb7 : Below w6.heap.size w6 (w6.alloc (.cells #[.int .i64 1, .int .i64 c0, .int .i64 a0] 37)) := below1 w6 _
      have HW7 : Hid (WS M w.heap.size w3.heap.size FW (w6.alloc (.cells #[.int .i64 1, .int .i64 c0, .int .i64 a0] 37)) ⟨[], b⟩) := (ws_st D _ _).below HW6.out hb7
      have HP7 : Hid (PS w.heap.size (w3.heap.size + 1 + 1) G6 (w6.alloc (.cells #[.int .i64 1, .int .i64 c0, .int .i64 a0] 37)) y) := (ps_st _ _).below HL6.out.1 hb7
      have HB7 : Hid (Below w.heap.size w (w6.alloc (.cells #[.int .i64 1, .int .i64 c0, .int .i64 a0] 37))) := below_step HB6.out hb7
      have HE7 : Hid ((w6.alloc (.cells #[.int .i64 1, .int .i64 c0, .int .i64 a0] 37)).heap[w6.heap.size]? = some (.cells #[.int .i64 1, .int .i64 c0, .int .i64 a0] 37)) := heap_new1 w6 _
      have HN7 : Hid ((w6.alloc (.cells #[.int .i64 1, .int .i64 c0, .int .i64 a0] 37)).heap[w.heap.size]? = some (.cells #[.int .i64 kind, .int .i64 code, .int .i64 n, .slice na len cap] 24)) := (hb7.block _ (lt_of_heap HN6.out)).trans HN6.out
      have HX7 : Hid ((w6.alloc (.cells #[.int .i64 1, .int .i64 c0, .int .i64 a0] 37)).heap[w3.heap.size + 1]? = some (.cells #[.pointer (some ⟨w3.heap.size, 0, none⟩)] 27)) := (hb7.block _ (lt_of_heap HX6.out)).trans HX6.out
      clear hb7
      go_wp2_with (go_at_call 12; fail)
      refine (C.safe (ws_st D w.heap.size w3.heap.size) FW (w6.alloc (.cells #[.int .i64 1, .int .i64 c0, .int .i64 a0] 37)) ⟨[], b⟩ y _ _ (.bail c0 a0) (fnv_bp1 _) HW7.out fun w1 hb hs => bp1_plays D w.heap.size w3.heap.size _ _ FW w1 ⟨[], b⟩ y (.bail c0 a0) kind code n na len cap ((hb.block _ (lt_of_heap HX7.out)).trans HX7.out) ((hb.block _ (lt_of_heap HN7.out)).trans HN7.out) (by
        have := HDO.out w w3.heap.size HWf.out HS.out FW w1 ⟨[], b⟩ (HB7.out.trans (hb.mono HB7.out.size)) hs (by simp only [List.length_nil]; have := HS.out; omega) HIR.out
        rwa [HRN.out] at this)).mono ?_
      rintro e w8 ⟨G8, hl, he⟩
      have HL8 : Hid (Lft (WS M w.heap.size w3.heap.size) FW (w6.alloc (.cells #[.int .i64 1, .int .i64 c0, .int .i64 a0] 37)) y G8 w8) := hl
      have HB8 : Hid (Below w.heap.size w w8) := HB7.out.trans (hl.2.2.below HB7.out.size fun b hb hF => by have := HFWlo.out b hF; omega)
      have HP8 : Hid (PS w.heap.size (w3.heap.size + 1 + 1) G6 w8 y) := (ps_st _ _).frame HP7.out hl.2.2 fun b h1 h2 => HDJ.out b h1 h2
      have HE8 : Hid (w8.heap[w6.heap.size]? = some (.cells #[.int .i64 1, .int .i64 c0, .int .i64 a0] 37)) := hl.2.2.heap HE7.out fun h => by have := HFWhi.out _ h; have := HZ6.out; omega
      have HX8 : Hid (w8.heap[w3.heap.size + 1]? = some (.cells #[.pointer (some ⟨w3.heap.size, 0, none⟩)] 27)) := hl.2.2.heap HX7.out fun h => by have := HFWhi.out _ h; omega
      have HHE : Hid (SafE (w6.alloc (.cells #[.int .i64 1, .int .i64 c0, .int .i64 a0] 37)).heap.size G8 w8 (.bail c0 a0) e) := he
      clear hl he
      obtain ⟨bb, rfl, hbb⟩ : ∃ bb, e = .returned (.tuple #[.iface 44 (.pointer (some ⟨bb, 0, none⟩)), .bool false]) ∧ w8.heap[bb]? = some (.cells #[.int .i64 c0, .int .i64 a0] 49) := by
        rcases HHE.out with ⟨h, -⟩ | ⟨v, h, b, rfl, hb, -, -⟩
        · cases h
        · exact ⟨b, h, hb⟩
      have HBb : Hid (w8.heap[bb]? = some (.cells #[.int .i64 c0, .int .i64 a0] 49)) := hbb
      clear hbb
      have ta1 : ∀ w, (Instr.typeAssert (.iface 44 (.pointer (some ⟨bb, 0, none⟩))) 20 44 true).run Try.prog w = .ok (.tuple #[.pointer (some ⟨bb, 0, none⟩), .bool true]) w := fun _ => by kernel_rfl
      have ta2 : ∀ w, (Instr.typeAssert (.iface 44 (.pointer (some ⟨bb, 0, none⟩))) 20 3 true).run Try.prog w = .ok (.tuple #[.int .i64 0, .bool false]) w := fun _ => by kernel_rfl
      obtain ⟨a8, c8, p8, FM8, h8⟩ := HL8.out.1
      have HY8 : Hid (WX M w.heap.size w3.heap.size G8 w8 y a8 c8 p8 FM8) := h8
      obtain ⟨a6, c6, h6⟩ := HP8.out
      have HY6 : Hid (PX w.heap.size (w3.heap.size + 1 + 1) G6 w8 y a6 c6) := h6
      clear h8 h6
      go_wp2
      refine wp_region_held_drew (S := (fun w' => Below w8.heap.size w8 w')) (by kernel_rfl) ?_ (fun hHeld => ?_)
      · (try dsimp only); exact (below_refl w8).drew
      refine wpAnyH_take (i := 0) (oi := { dst := some 34, op := Op.load 27 (Operand.tmp 5), type := 27, pos := "law.go:191", after := #[], guard := none }) (v := ?vu308) rfl (by kernel_rfl) (by kernel_rfl) (by kernel_rfl) (fun _ _ _ h => h) (Or.inl ⟨by rfl, ?hyu308⟩) (by assumption) ?restu308
      case hyu308 => (intro wz hSw; (try dsimp only at hSw); have q0 := cell_of_row _ _ 0 _ _ _ ((hSw.block _ (lt_of_heap HX8.out)).trans HX8.out); have q1 := cell_of_row _ _ 0 _ _ _ ((hSw.block _ (lt_of_heap HY8.out.hb)).trans HY8.out.hb); have q2 := cell_of_row _ _ 1 _ _ _ ((hSw.block _ (lt_of_heap HY8.out.hb)).trans HY8.out.hb); have q3 := cell_of_row _ _ 0 _ _ _ ((hSw.block _ (lt_of_heap HY6.out.hb)).trans HY6.out.hb); have q4 := cell_of_row _ _ 1 _ _ _ ((hSw.block _ (lt_of_heap HY6.out.hb)).trans HY6.out.hb); have q5 := cell_of_row _ _ 0 _ _ _ ((hSw.block _ (lt_of_heap HE8.out)).trans HE8.out); (try simp only [List.getElem?_toArray, List.getElem?_cons_zero, List.getElem?_cons_succ] at q0 q1 q2 q3 q4 q5); go_simp; (try with_reducible rfl))
      try simp only [Act.put, List.setIfInBounds_toArray, List.set_cons_zero, List.set_cons_succ]
      refine wpAnyH_take (i := 1) (oi := { dst := some 35, op := Op.nilCheck (Operand.tmp 34), type := 0, pos := "law.go:191", after := #[{ on := 0, ground := Ground.data }], guard := none }) (v := ?vu309) rfl (by kernel_rfl) (by kernel_rfl) (by kernel_rfl) (fun _ _ _ h => h) (Or.inl ⟨by rfl, ?hyu309⟩) (by assumption) ?restu309
      case hyu309 => (intro w hSw; (try dsimp only at hSw); go_simp; (try with_reducible rfl))
      try simp only [Act.put, List.setIfInBounds_toArray, List.set_cons_zero, List.set_cons_succ]
      refine wpAnyH_take (i := 2) (oi := { dst := some 36, op := Op.fieldAddr 32 (Operand.tmp 35) 0, type := 0, pos := "law.go:191", after := #[{ on := 1, ground := Ground.data }], guard := none }) (v := ?vu310) rfl (by kernel_rfl) (by kernel_rfl) (by kernel_rfl) (fun _ _ _ h => h) (Or.inl ⟨by rfl, ?hyu310⟩) (by assumption) ?restu310
      case hyu310 => (intro w hSw; (try dsimp only at hSw); go_simp; (try with_reducible rfl))
      try simp only [Act.put, List.setIfInBounds_toArray, List.set_cons_zero, List.set_cons_succ]
      refine wpAnyH_take (i := 3) (oi := { dst := some 37, op := Op.load 30 (Operand.tmp 36), type := 30, pos := "law.go:191", after := #[{ on := 2, ground := Ground.data }], guard := none }) (v := ?vu311) rfl (by kernel_rfl) (by kernel_rfl) (by kernel_rfl) (fun _ _ _ h => h) (Or.inl ⟨by rfl, ?hyu311⟩) (by assumption) ?restu311
      case hyu311 => (intro wz hSw; (try dsimp only at hSw); have q0 := cell_of_row _ _ 0 _ _ _ ((hSw.block _ (lt_of_heap HX8.out)).trans HX8.out); have q1 := cell_of_row _ _ 0 _ _ _ ((hSw.block _ (lt_of_heap HY8.out.hb)).trans HY8.out.hb); have q2 := cell_of_row _ _ 1 _ _ _ ((hSw.block _ (lt_of_heap HY8.out.hb)).trans HY8.out.hb); have q3 := cell_of_row _ _ 0 _ _ _ ((hSw.block _ (lt_of_heap HY6.out.hb)).trans HY6.out.hb); have q4 := cell_of_row _ _ 1 _ _ _ ((hSw.block _ (lt_of_heap HY6.out.hb)).trans HY6.out.hb); have q5 := cell_of_row _ _ 0 _ _ _ ((hSw.block _ (lt_of_heap HE8.out)).trans HE8.out); (try simp only [List.getElem?_toArray, List.getElem?_cons_zero, List.getElem?_cons_succ] at q0 q1 q2 q3 q4 q5); go_simp; (try with_reducible rfl))
      try simp only [Act.put, List.setIfInBounds_toArray, List.set_cons_zero, List.set_cons_succ]
      refine wpAnyH_take (i := 4) (oi := { dst := some 38, op := Op.move (Operand.tmp 6), type := 33, pos := "law.go:191", after := #[], guard := none }) (v := ?vu312) rfl (by kernel_rfl) (by kernel_rfl) (by kernel_rfl) (fun _ _ _ h => h) (Or.inl ⟨by rfl, ?hyu312⟩) (by assumption) ?restu312
      case hyu312 => (intro w hSw; (try dsimp only at hSw); go_simp; (try with_reducible rfl))
      try simp only [Act.put, List.setIfInBounds_toArray, List.set_cons_zero, List.set_cons_succ]
      refine wpAnyH_take (i := 5) (oi := { dst := some 39, op := Op.nilCheck (Operand.tmp 38), type := 0, pos := "law.go:191", after := #[{ on := 4, ground := Ground.data }], guard := none }) (v := ?vu313) rfl (by kernel_rfl) (by kernel_rfl) (by kernel_rfl) (fun _ _ _ h => h) (Or.inl ⟨by rfl, ?hyu313⟩) (by assumption) ?restu313
      case hyu313 => (intro w hSw; (try dsimp only at hSw); go_simp; (try with_reducible rfl))
      try simp only [Act.put, List.setIfInBounds_toArray, List.set_cons_zero, List.set_cons_succ]
      refine wpAnyH_take (i := 6) (oi := { dst := some 40, op := Op.fieldAddr 35 (Operand.tmp 39) 0, type := 0, pos := "law.go:191", after := #[{ on := 5, ground := Ground.data }], guard := none }) (v := ?vu314) rfl (by kernel_rfl) (by kernel_rfl) (by kernel_rfl) (fun _ _ _ h => h) (Or.inl ⟨by rfl, ?hyu314⟩) (by assumption) ?restu314
      case hyu314 => (intro w hSw; (try dsimp only at hSw); go_simp; (try with_reducible rfl))
      try simp only [Act.put, List.setIfInBounds_toArray, List.set_cons_zero, List.set_cons_succ]
      refine wpAnyH_take (i := 7) (oi := { dst := some 41, op := Op.load 30 (Operand.tmp 40), type := 30, pos := "law.go:191", after := #[{ on := 6, ground := Ground.data }], guard := none }) (v := ?vu315) rfl (by kernel_rfl) (by kernel_rfl) (by kernel_rfl) (fun _ _ _ h => h) (Or.inl ⟨by rfl, ?hyu315⟩) (by assumption) ?restu315
      case hyu315 => (intro wz hSw; (try dsimp only at hSw); have q0 := cell_of_row _ _ 0 _ _ _ ((hSw.block _ (lt_of_heap HX8.out)).trans HX8.out); have q1 := cell_of_row _ _ 0 _ _ _ ((hSw.block _ (lt_of_heap HY8.out.hb)).trans HY8.out.hb); have q2 := cell_of_row _ _ 1 _ _ _ ((hSw.block _ (lt_of_heap HY8.out.hb)).trans HY8.out.hb); have q3 := cell_of_row _ _ 0 _ _ _ ((hSw.block _ (lt_of_heap HY6.out.hb)).trans HY6.out.hb); have q4 := cell_of_row _ _ 1 _ _ _ ((hSw.block _ (lt_of_heap HY6.out.hb)).trans HY6.out.hb); have q5 := cell_of_row _ _ 0 _ _ _ ((hSw.block _ (lt_of_heap HE8.out)).trans HE8.out); (try simp only [List.getElem?_toArray, List.getElem?_cons_zero, List.getElem?_cons_succ] at q0 q1 q2 q3 q4 q5); go_simp; (try with_reducible rfl))
      try simp only [Act.put, List.setIfInBounds_toArray, List.set_cons_zero, List.set_cons_succ]
      refine wpAnyH_ready (rs := [8]) (by kernel_rfl) (by simp) ?_
      refine AllReadyH.cons (o := { dst := some 42, op := Op.call { callee := Callee.value (Operand.func 15), args := #[Operand.tmp 37, Operand.tmp 41], argTypes := #[30, 30] }, type := 4, pos := "law.go:191", after := #[{ on := 3, ground := Ground.data }, { on := 7, ground := Ground.data }], guard := none }) rfl (fun K hK => ?_) AllReadyH.nil
      go_simp
      go_at_call 15
      refine (ints_same w8.drew a8 a6 c8 c6 y.notes.length (gt y.notes) (HY8.out.ow.drew.rd1) (HY6.out.ow.drew.rd1)).mono ?_
      rintro e z1 ⟨rfl, b⟩
      have HZ1 : Hid (Below w8.heap.size w8 z1) := (below_refl w8).drew.trans b
      clear b
      refine hK.out _ _ ?_ (fun hHeldB => ?_)
      · (try dsimp only); first | exact HZ1.out | exact HZ2.out
      clear hK K hHeld
      have hHeld := hHeldB
      clear hHeldB
      try simp only [Act.put, List.setIfInBounds_toArray, List.set_cons_zero, List.set_cons_succ]
      refine wpAnyH_take (i := 9) (oi := { dst := some 43, op := Op.unOp UnOp.not 4 (Operand.tmp 42), type := 4, pos := "law.go:191", after := #[{ on := 8, ground := Ground.data }], guard := none }) (v := ?vu316) rfl (by kernel_rfl) (by kernel_rfl) (by kernel_rfl) (fun _ _ _ h => h) (Or.inl ⟨by rfl, ?hyu316⟩) (by assumption) ?restu316
      case hyu316 => (intro w hSw; (try dsimp only at hSw); go_simp; (try with_reducible rfl))
      try simp only [Act.put, List.setIfInBounds_toArray, List.set_cons_zero, List.set_cons_succ]
      refine wpAnyH_take (i := 10) (oi := { dst := some 44, op := Op.move (Operand.tmp 43), type := 4, pos := "law.go:191", after := #[{ on := 9, ground := Ground.data }, { on := 8, ground := Ground.chain }], guard := none }) (v := ?vu317) rfl (by kernel_rfl) (by kernel_rfl) (by kernel_rfl) (fun _ _ _ h => h) (Or.inl ⟨by rfl, ?hyu317⟩) (by assumption) ?restu317
      case hyu317 => (intro w hSw; (try dsimp only at hSw); go_simp; (try with_reducible rfl))
      try simp only [Act.put, List.setIfInBounds_toArray, List.set_cons_zero, List.set_cons_succ]
      refine wpAnyH_take (i := 11) (oi := { dst := some 45, op := Op.load 27 (Operand.tmp 5), type := 27, pos := "law.go:191", after := #[{ on := 10, ground := Ground.guard }], guard := some (10, false) }) (v := ?vu318) rfl (by kernel_rfl) (by kernel_rfl) (by kernel_rfl) (fun _ _ _ h => h) (Or.inl ⟨by rfl, ?hyu318⟩) (by assumption) ?restu318
      case hyu318 => (intro wz hSw; (try dsimp only at hSw); have q0 := cell_of_row _ _ 0 _ _ _ ((hSw.block _ (lt_of_heap HX8.out)).trans HX8.out); have q1 := cell_of_row _ _ 0 _ _ _ ((hSw.block _ (lt_of_heap HY8.out.hb)).trans HY8.out.hb); have q2 := cell_of_row _ _ 1 _ _ _ ((hSw.block _ (lt_of_heap HY8.out.hb)).trans HY8.out.hb); have q3 := cell_of_row _ _ 0 _ _ _ ((hSw.block _ (lt_of_heap HY6.out.hb)).trans HY6.out.hb); have q4 := cell_of_row _ _ 1 _ _ _ ((hSw.block _ (lt_of_heap HY6.out.hb)).trans HY6.out.hb); have q5 := cell_of_row _ _ 0 _ _ _ ((hSw.block _ (lt_of_heap HE8.out)).trans HE8.out); (try simp only [List.getElem?_toArray, List.getElem?_cons_zero, List.getElem?_cons_succ] at q0 q1 q2 q3 q4 q5); go_simp; (try with_reducible rfl))
      try simp only [Act.put, List.setIfInBounds_toArray, List.set_cons_zero, List.set_cons_succ]
      refine wpAnyH_take (i := 12) (oi := { dst := some 46, op := Op.nilCheck (Operand.tmp 45), type := 0, pos := "law.go:191", after := #[{ on := 11, ground := Ground.data }, { on := 10, ground := Ground.guard }], guard := some (10, false) }) (v := ?vu319) rfl (by kernel_rfl) (by kernel_rfl) (by kernel_rfl) (fun _ _ _ h => h) (Or.inl ⟨by rfl, ?hyu319⟩) (by assumption) ?restu319
      case hyu319 => (intro w hSw; (try dsimp only at hSw); go_simp; (try with_reducible rfl))
      try simp only [Act.put, List.setIfInBounds_toArray, List.set_cons_zero, List.set_cons_succ]
      refine wpAnyH_take (i := 13) (oi := { dst := some 47, op := Op.fieldAddr 32 (Operand.tmp 46) 1, type := 0, pos := "law.go:191", after := #[{ on := 12, ground := Ground.data }, { on := 10, ground := Ground.guard }], guard := some (10, false) }) (v := ?vu320) rfl (by kernel_rfl) (by kernel_rfl) (by kernel_rfl) (fun _ _ _ h => h) (Or.inl ⟨by rfl, ?hyu320⟩) (by assumption) ?restu320
      case hyu320 => (intro w hSw; (try dsimp only at hSw); go_simp; (try with_reducible rfl))
      try simp only [Act.put, List.setIfInBounds_toArray, List.set_cons_zero, List.set_cons_succ]
      refine wpAnyH_take (i := 14) (oi := { dst := some 48, op := Op.load 28 (Operand.tmp 47), type := 28, pos := "law.go:191", after := #[{ on := 13, ground := Ground.data }, { on := 10, ground := Ground.guard }], guard := some (10, false) }) (v := ?vu321) rfl (by kernel_rfl) (by kernel_rfl) (by kernel_rfl) (fun _ _ _ h => h) (Or.inl ⟨by rfl, ?hyu321⟩) (by assumption) ?restu321
      case hyu321 => (intro wz hSw; (try dsimp only at hSw); have q0 := cell_of_row _ _ 0 _ _ _ ((hSw.block _ (lt_of_heap HX8.out)).trans HX8.out); have q1 := cell_of_row _ _ 0 _ _ _ ((hSw.block _ (lt_of_heap HY8.out.hb)).trans HY8.out.hb); have q2 := cell_of_row _ _ 1 _ _ _ ((hSw.block _ (lt_of_heap HY8.out.hb)).trans HY8.out.hb); have q3 := cell_of_row _ _ 0 _ _ _ ((hSw.block _ (lt_of_heap HY6.out.hb)).trans HY6.out.hb); have q4 := cell_of_row _ _ 1 _ _ _ ((hSw.block _ (lt_of_heap HY6.out.hb)).trans HY6.out.hb); have q5 := cell_of_row _ _ 0 _ _ _ ((hSw.block _ (lt_of_heap HE8.out)).trans HE8.out); (try simp only [List.getElem?_toArray, List.getElem?_cons_zero, List.getElem?_cons_succ] at q0 q1 q2 q3 q4 q5); go_simp; (try with_reducible rfl))
      try simp only [Act.put, List.setIfInBounds_toArray, List.set_cons_zero, List.set_cons_succ]
      refine wpAnyH_take (i := 16) (oi := { dst := some 50, op := Op.move (Operand.tmp 6), type := 33, pos := "law.go:191", after := #[{ on := 10, ground := Ground.guard }], guard := some (10, false) }) (v := ?vu322) rfl (by kernel_rfl) (by kernel_rfl) (by kernel_rfl) (fun _ _ _ h => h) (Or.inl ⟨by rfl, ?hyu322⟩) (by assumption) ?restu322
      case hyu322 => (intro w hSw; (try dsimp only at hSw); go_simp; (try with_reducible rfl))
      try simp only [Act.put, List.setIfInBounds_toArray, List.set_cons_zero, List.set_cons_succ]
      refine wpAnyH_take (i := 17) (oi := { dst := some 51, op := Op.nilCheck (Operand.tmp 50), type := 0, pos := "law.go:191", after := #[{ on := 16, ground := Ground.data }, { on := 10, ground := Ground.guard }], guard := some (10, false) }) (v := ?vu323) rfl (by kernel_rfl) (by kernel_rfl) (by kernel_rfl) (fun _ _ _ h => h) (Or.inl ⟨by rfl, ?hyu323⟩) (by assumption) ?restu323
      case hyu323 => (intro w hSw; (try dsimp only at hSw); go_simp; (try with_reducible rfl))
      try simp only [Act.put, List.setIfInBounds_toArray, List.set_cons_zero, List.set_cons_succ]
      refine wpAnyH_take (i := 18) (oi := { dst := some 52, op := Op.fieldAddr 35 (Operand.tmp 51) 1, type := 0, pos := "law.go:191", after := #[{ on := 17, ground := Ground.data }, { on := 10, ground := Ground.guard }], guard := some (10, false) }) (v := ?vu324) rfl (by kernel_rfl) (by kernel_rfl) (by kernel_rfl) (fun _ _ _ h => h) (Or.inl ⟨by rfl, ?hyu324⟩) (by assumption) ?restu324
      case hyu324 => (intro w hSw; (try dsimp only at hSw); go_simp; (try with_reducible rfl))
      try simp only [Act.put, List.setIfInBounds_toArray, List.set_cons_zero, List.set_cons_succ]
      refine wpAnyH_take (i := 19) (oi := { dst := some 53, op := Op.load 3 (Operand.tmp 52), type := 3, pos := "law.go:191", after := #[{ on := 18, ground := Ground.data }, { on := 10, ground := Ground.guard }], guard := some (10, false) }) (v := ?vu325) rfl (by kernel_rfl) (by kernel_rfl) (by kernel_rfl) (fun _ _ _ h => h) (Or.inl ⟨by rfl, ?hyu325⟩) (by assumption) ?restu325
      case hyu325 => (intro wz hSw; (try dsimp only at hSw); have q0 := cell_of_row _ _ 0 _ _ _ ((hSw.block _ (lt_of_heap HX8.out)).trans HX8.out); have q1 := cell_of_row _ _ 0 _ _ _ ((hSw.block _ (lt_of_heap HY8.out.hb)).trans HY8.out.hb); have q2 := cell_of_row _ _ 1 _ _ _ ((hSw.block _ (lt_of_heap HY8.out.hb)).trans HY8.out.hb); have q3 := cell_of_row _ _ 0 _ _ _ ((hSw.block _ (lt_of_heap HY6.out.hb)).trans HY6.out.hb); have q4 := cell_of_row _ _ 1 _ _ _ ((hSw.block _ (lt_of_heap HY6.out.hb)).trans HY6.out.hb); have q5 := cell_of_row _ _ 0 _ _ _ ((hSw.block _ (lt_of_heap HE8.out)).trans HE8.out); (try simp only [List.getElem?_toArray, List.getElem?_cons_zero, List.getElem?_cons_succ] at q0 q1 q2 q3 q4 q5); go_simp; (try with_reducible rfl))
      try simp only [Act.put, List.setIfInBounds_toArray, List.set_cons_zero, List.set_cons_succ]
      refine wpAnyH_ready (rs := [15]) (by kernel_rfl) (by simp) ?_
      refine AllReadyH.cons (o := { dst := some 49, op := Op.call { callee := Callee.value (Operand.func 16), args := #[Operand.tmp 48], argTypes := #[28] }, type := 3, pos := "law.go:191", after := #[{ on := 14, ground := Ground.data }, { on := 10, ground := Ground.chain }, { on := 10, ground := Ground.guard }], guard := some (10, false) }) rfl (fun K hK => ?_) AllReadyH.nil
      go_simp
      go_at_call 16
      refine (D.left FM8 z1 (.pointer p8) y.left (D.frame HY8.out.m (Kp.of_below (F := fun _ => False) HZ1.out) fun _ _ h => h)).mono ?_
      rintro e z2 ⟨rfl, b⟩
      have HZ2 : Hid (Below w8.heap.size w8 z2) := below_step HZ1.out b
      clear b
      refine hK.out _ _ ?_ (fun hHeldB => ?_)
      · (try dsimp only); exact HZ2.out
      clear hK K hHeld
      have hHeld := hHeldB
      clear hHeldB
      try simp only [Act.put, List.setIfInBounds_toArray, List.set_cons_zero, List.set_cons_succ]
      refine wpAnyH_take (i := 20) (oi := { dst := some 54, op := Op.binOp BinOp.neq 3 (Operand.tmp 49) (Operand.tmp 53) 3, type := 4, pos := "law.go:191", after := #[{ on := 15, ground := Ground.data }, { on := 19, ground := Ground.data }, { on := 10, ground := Ground.guard }], guard := some (10, false) }) (v := ?vu326) rfl (by kernel_rfl) (by kernel_rfl) (by kernel_rfl) (fun _ _ _ h => h) (Or.inl ⟨by rfl, ?hyu326⟩) (by assumption) ?restu326
      case hyu326 => (intro w hSw; (try dsimp only at hSw); go_simp; (try with_reducible rfl))
      try simp only [Act.put, List.setIfInBounds_toArray, List.set_cons_zero, List.set_cons_succ]
      refine wpAnyH_take (i := 21) (oi := { dst := some 55, op := Op.pick (Operand.tmp 44) (Operand.const (Value.bool true)) (Operand.tmp 54), type := 4, pos := "law.go:191", after := #[{ on := 10, ground := Ground.data }, { on := 20, ground := Ground.data }], guard := none }) (v := ?vu327) rfl (by kernel_rfl) (by kernel_rfl) (by kernel_rfl) (fun _ _ _ h => h) (Or.inl ⟨by rfl, ?hyu327⟩) (by assumption) ?restu327
      case hyu327 => (intro w hSw; (try dsimp only at hSw); go_simp; (try with_reducible rfl))
      try simp only [Act.put, List.setIfInBounds_toArray, List.set_cons_zero, List.set_cons_succ]
      refine wpAnyH_take (i := 22) (oi := { dst := some 56, op := Op.move (Operand.tmp 55), type := 4, pos := "law.go:191", after := #[{ on := 21, ground := Ground.data }, { on := 15, ground := Ground.chain }], guard := none }) (v := ?vu328) rfl (by kernel_rfl) (by kernel_rfl) (by kernel_rfl) (fun _ _ _ h => h) (Or.inl ⟨by rfl, ?hyu328⟩) (by assumption) ?restu328
      case hyu328 => (intro w hSw; (try dsimp only at hSw); go_simp; (try with_reducible rfl))
      try simp only [Act.put, List.setIfInBounds_toArray, List.set_cons_zero, List.set_cons_succ]
      refine wpAnyH_take (i := 23) (oi := { dst := some 57, op := Op.move (Operand.tmp 9), type := 4, pos := "law.go:191", after := #[{ on := 22, ground := Ground.guard }], guard := some (22, false) }) (v := ?vu329) rfl (by kernel_rfl) (by kernel_rfl) (by kernel_rfl) (fun _ _ _ h => h) (Or.inl ⟨by rfl, ?hyu329⟩) (by assumption) ?restu329
      case hyu329 => (intro w hSw; (try dsimp only at hSw); go_simp; (try with_reducible rfl))
      try simp only [Act.put, List.setIfInBounds_toArray, List.set_cons_zero, List.set_cons_succ]
      refine wpAnyH_take (i := 24) (oi := { dst := some 58, op := Op.fieldAddr 37 (Operand.tmp 7) 0, type := 0, pos := "law.go:191", after := #[{ on := 22, ground := Ground.guard }], guard := some (22, false) }) (v := ?vu330) rfl (by kernel_rfl) (by kernel_rfl) (by kernel_rfl) (fun _ _ _ h => h) (Or.inl ⟨by rfl, ?hyu330⟩) (by assumption) ?restu330
      case hyu330 => (intro w hSw; (try dsimp only at hSw); go_simp; (try with_reducible rfl))
      try simp only [Act.put, List.setIfInBounds_toArray, List.set_cons_zero, List.set_cons_succ]
      refine wpAnyH_take (i := 25) (oi := { dst := some 59, op := Op.load 3 (Operand.tmp 58), type := 3, pos := "law.go:191", after := #[{ on := 24, ground := Ground.data }, { on := 22, ground := Ground.guard }], guard := some (22, false) }) (v := ?vu331) rfl (by kernel_rfl) (by kernel_rfl) (by kernel_rfl) (fun _ _ _ h => h) (Or.inl ⟨by rfl, ?hyu331⟩) (by assumption) ?restu331
      case hyu331 => (intro wz hSw; (try dsimp only at hSw); have q0 := cell_of_row _ _ 0 _ _ _ ((hSw.block _ (lt_of_heap HX8.out)).trans HX8.out); have q1 := cell_of_row _ _ 0 _ _ _ ((hSw.block _ (lt_of_heap HY8.out.hb)).trans HY8.out.hb); have q2 := cell_of_row _ _ 1 _ _ _ ((hSw.block _ (lt_of_heap HY8.out.hb)).trans HY8.out.hb); have q3 := cell_of_row _ _ 0 _ _ _ ((hSw.block _ (lt_of_heap HY6.out.hb)).trans HY6.out.hb); have q4 := cell_of_row _ _ 1 _ _ _ ((hSw.block _ (lt_of_heap HY6.out.hb)).trans HY6.out.hb); have q5 := cell_of_row _ _ 0 _ _ _ ((hSw.block _ (lt_of_heap HE8.out)).trans HE8.out); (try simp only [List.getElem?_toArray, List.getElem?_cons_zero, List.getElem?_cons_succ] at q0 q1 q2 q3 q4 q5); go_simp; (try with_reducible rfl))
      try simp only [Act.put, List.setIfInBounds_toArray, List.set_cons_zero, List.set_cons_succ]
      refine wpAnyH_take (i := 26) (oi := { dst := some 60, op := Op.binOp BinOp.eql 3 (Operand.tmp 59) (Operand.const (Value.int IntKind.i64 0)) 3, type := 4, pos := "law.go:191", after := #[{ on := 25, ground := Ground.data }, { on := 22, ground := Ground.guard }], guard := some (22, false) }) (v := ?vu332) rfl (by kernel_rfl) (by kernel_rfl) (by kernel_rfl) (fun _ _ _ h => h) (Or.inl ⟨by rfl, ?hyu332⟩) (by assumption) ?restu332
      case hyu332 => (intro w hSw; (try dsimp only at hSw); go_simp; (try with_reducible rfl))
      try simp only [Act.put, List.setIfInBounds_toArray, List.set_cons_zero, List.set_cons_succ]
      refine wpAnyH_take (i := 27) (oi := { dst := some 61, op := Op.binOp BinOp.neq 4 (Operand.tmp 57) (Operand.tmp 60) 4, type := 4, pos := "law.go:191", after := #[{ on := 23, ground := Ground.data }, { on := 26, ground := Ground.data }, { on := 22, ground := Ground.guard }], guard := some (22, false) }) (v := ?vu333) rfl (by kernel_rfl) (by kernel_rfl) (by kernel_rfl) (fun _ _ _ h => h) (Or.inl ⟨by rfl, ?hyu333⟩) (by assumption) ?restu333
      case hyu333 => (intro w hSw; (try dsimp only at hSw); go_simp; (try with_reducible rfl))
      try simp only [Act.put, List.setIfInBounds_toArray, List.set_cons_zero, List.set_cons_succ]
      refine wpAnyH_take (i := 28) (oi := { dst := some 62, op := Op.pick (Operand.tmp 56) (Operand.const (Value.bool true)) (Operand.tmp 61), type := 4, pos := "law.go:191", after := #[{ on := 22, ground := Ground.data }, { on := 27, ground := Ground.data }], guard := none }) (v := ?vu334) rfl (by kernel_rfl) (by kernel_rfl) (by kernel_rfl) (fun _ _ _ h => h) (Or.inl ⟨by rfl, ?hyu334⟩) (by assumption) ?restu334
      case hyu334 => (intro w hSw; (try dsimp only at hSw); go_simp; (try with_reducible rfl))
      try simp only [Act.put, List.setIfInBounds_toArray, List.set_cons_zero, List.set_cons_succ]
      refine wpAnyH_done (by kernel_rfl) ?_ _
      have HBz : Hid (Below w.heap.size w z2) := below_step HB8.out HZ2.out
      have hez := (HZ2.out.block _ (lt_of_heap HE8.out)).trans HE8.out
      have HEz : Hid (z2.heap[w6.heap.size]? = some (.cells #[.int .i64 1, .int .i64 c0, .int .i64 a0] 37)) := hez
      have q0 : z2.cell? ⟨w6.heap.size, 0, none⟩ = some (.int .i64 1) := by rw [cell_of_row _ _ _ _ _ _ hez]; rfl
      have q1 : z2.cell? ⟨w6.heap.size, 1, none⟩ = some (.int .i64 c0) := by rw [cell_of_row _ _ _ _ _ _ hez]; rfl
      have q2 : z2.cell? ⟨w6.heap.size, 2, none⟩ = some (.int .i64 a0) := by rw [cell_of_row _ _ _ _ _ _ hez]; rfl
      clear hez
      have HBz2 : Hid (z2.heap[bb]? = some (.cells #[.int .i64 c0, .int .i64 a0] 49)) := (HZ2.out.block _ (lt_of_heap HBb.out)).trans HBb.out
      clear q1 q2
      go_wp2
      refine wp_region_held_drew (S := (fun w' => Below z2.heap.size z2 w')) (by kernel_rfl) ?_ (fun hHeld => ?_)
      · (try dsimp only); exact (below_refl z2).drew
      refine wpAnyH_take (i := 0) (oi := { dst := some 77, op := Op.move (Operand.tmp 11), type := 4, pos := "law.go:198", after := #[], guard := none }) (v := ?vu335) rfl (by kernel_rfl) (by kernel_rfl) (by kernel_rfl) (fun _ _ _ h => h) (Or.inl ⟨by rfl, ?hyu335⟩) (by assumption) ?restu335
      case hyu335 => (intro w hSw; (try dsimp only at hSw); go_simp; (try with_reducible rfl))
      try simp only [Act.put, List.setIfInBounds_toArray, List.set_cons_zero, List.set_cons_succ]
      refine wpAnyH_take (i := 1) (oi := { dst := some 78, op := Op.move (Operand.tmp 77), type := 4, pos := "law.go:198", after := #[{ on := 0, ground := Ground.data }], guard := none }) (v := ?vu336) rfl (by kernel_rfl) (by kernel_rfl) (by kernel_rfl) (fun _ _ _ h => h) (Or.inl ⟨by rfl, ?hyu336⟩) (by assumption) ?restu336
      case hyu336 => (intro w hSw; (try dsimp only at hSw); go_simp; (try with_reducible rfl))
      try simp only [Act.put, List.setIfInBounds_toArray, List.set_cons_zero, List.set_cons_succ]
      refine wpAnyH_take (i := 2) (oi := { dst := some 79, op := Op.move (Operand.tmp 10), type := 44, pos := "law.go:198", after := #[{ on := 1, ground := Ground.guard }], guard := some (1, true) }) (v := ?vu337) rfl (by kernel_rfl) (by kernel_rfl) (by kernel_rfl) (fun _ _ _ h => h) (Or.inl ⟨by rfl, ?hyu337⟩) (by assumption) ?restu337
      case hyu337 => (intro w hSw; (try dsimp only at hSw); go_simp; (try with_reducible rfl))
      try simp only [Act.put, List.setIfInBounds_toArray, List.set_cons_zero, List.set_cons_succ]
      refine wpAnyH_take (i := 3) (oi := { dst := some 80, op := Op.binOp BinOp.neq 44 (Operand.tmp 79) (Operand.const (Value.pointer none)) 44, type := 4, pos := "law.go:198", after := #[{ on := 2, ground := Ground.data }, { on := 1, ground := Ground.guard }], guard := some (1, true) }) (v := ?vu338) rfl (by kernel_rfl) (by kernel_rfl) (by kernel_rfl) (fun _ _ _ h => h) (Or.inl ⟨by rfl, ?hyu338⟩) (by assumption) ?restu338
      case hyu338 => (intro w hSw; (try dsimp only at hSw); go_simp; (try with_reducible rfl))
      try simp only [Act.put, List.setIfInBounds_toArray, List.set_cons_zero, List.set_cons_succ]
      refine wpAnyH_take (i := 4) (oi := { dst := some 81, op := Op.pick (Operand.tmp 78) (Operand.tmp 80) (Operand.const (Value.bool false)), type := 4, pos := "law.go:198", after := #[{ on := 1, ground := Ground.data }, { on := 3, ground := Ground.data }], guard := none }) (v := ?vu339) rfl (by kernel_rfl) (by kernel_rfl) (by kernel_rfl) (fun _ _ _ h => h) (Or.inl ⟨by rfl, ?hyu339⟩) (by assumption) ?restu339
      case hyu339 => (intro w hSw; (try dsimp only at hSw); go_simp; (try with_reducible rfl))
      try simp only [Act.put, List.setIfInBounds_toArray, List.set_cons_zero, List.set_cons_succ]
      refine wpAnyH_take (i := 5) (oi := { dst := some 82, op := Op.move (Operand.tmp 81), type := 4, pos := "law.go:198", after := #[{ on := 4, ground := Ground.data }, { on := 1, ground := Ground.chain }], guard := none }) (v := ?vu340) rfl (by kernel_rfl) (by kernel_rfl) (by kernel_rfl) (fun _ _ _ h => h) (Or.inl ⟨by rfl, ?hyu340⟩) (by assumption) ?restu340
      case hyu340 => (intro w hSw; (try dsimp only at hSw); go_simp; (try with_reducible rfl))
      try simp only [Act.put, List.setIfInBounds_toArray, List.set_cons_zero, List.set_cons_succ]
      refine wpAnyH_take (i := 6) (oi := { dst := some 83, op := Op.move (Operand.tmp 10), type := 44, pos := "law.go:198", after := #[{ on := 5, ground := Ground.guard }], guard := some (5, true) }) (v := ?vu341) rfl (by kernel_rfl) (by kernel_rfl) (by kernel_rfl) (fun _ _ _ h => h) (Or.inl ⟨by rfl, ?hyu341⟩) (by assumption) ?restu341
      case hyu341 => (intro w hSw; (try dsimp only at hSw); go_simp; (try with_reducible rfl))
      try simp only [Act.put, List.setIfInBounds_toArray, List.set_cons_zero, List.set_cons_succ]
      refine wpAnyH_take (i := 7) (oi := { dst := some 84, op := Op.nilCheck (Operand.tmp 83), type := 0, pos := "law.go:198", after := #[{ on := 6, ground := Ground.data }, { on := 5, ground := Ground.guard }], guard := some (5, true) }) (v := ?vu342) rfl (by kernel_rfl) (by kernel_rfl) (by kernel_rfl) (fun _ _ _ h => h) (Or.inl ⟨by rfl, ?hyu342⟩) (by assumption) ?restu342
      case hyu342 => (intro w hSw; (try dsimp only at hSw); go_simp; (try with_reducible rfl))
      try simp only [Act.put, List.setIfInBounds_toArray, List.set_cons_zero, List.set_cons_succ]
      refine wpAnyH_take (i := 8) (oi := { dst := some 85, op := Op.fieldAddr 49 (Operand.tmp 84) 0, type := 0, pos := "law.go:198", after := #[{ on := 7, ground := Ground.data }, { on := 5, ground := Ground.guard }], guard := some (5, true) }) (v := ?vu343) rfl (by kernel_rfl) (by kernel_rfl) (by kernel_rfl) (fun _ _ _ h => h) (Or.inl ⟨by rfl, ?hyu343⟩) (by assumption) ?restu343
      case hyu343 => (intro w hSw; (try dsimp only at hSw); go_simp; (try with_reducible rfl))
      try simp only [Act.put, List.setIfInBounds_toArray, List.set_cons_zero, List.set_cons_succ]
      refine wpAnyH_take (i := 9) (oi := { dst := some 86, op := Op.load 47 (Operand.tmp 85), type := 47, pos := "law.go:198", after := #[{ on := 8, ground := Ground.data }, { on := 5, ground := Ground.guard }], guard := some (5, true) }) (v := ?vu344) rfl (by kernel_rfl) (by kernel_rfl) (by kernel_rfl) (fun _ _ _ h => h) (Or.inl ⟨by rfl, ?hyu344⟩) (by assumption) ?restu344
      case hyu344 => (intro wz hSw; (try dsimp only at hSw); have t0 := cell_of_row _ _ 0 _ _ _ ((hSw.block _ (lt_of_heap HBz2.out)).trans HBz2.out); have t1 := cell_of_row _ _ 1 _ _ _ ((hSw.block _ (lt_of_heap HBz2.out)).trans HBz2.out); have t2 := cell_of_row _ _ 0 _ _ _ ((hSw.block _ (lt_of_heap HEz.out)).trans HEz.out); have t3 := cell_of_row _ _ 1 _ _ _ ((hSw.block _ (lt_of_heap HEz.out)).trans HEz.out); have t4 := cell_of_row _ _ 2 _ _ _ ((hSw.block _ (lt_of_heap HEz.out)).trans HEz.out); (try simp only [List.getElem?_toArray, List.getElem?_cons_zero, List.getElem?_cons_succ] at t0 t1 t2 t3 t4); go_simp; (try with_reducible rfl))
      try simp only [Act.put, List.setIfInBounds_toArray, List.set_cons_zero, List.set_cons_succ]
      refine wpAnyH_take (i := 10) (oi := { dst := some 87, op := Op.fieldAddr 37 (Operand.tmp 7) 1, type := 0, pos := "law.go:198", after := #[{ on := 5, ground := Ground.guard }], guard := some (5, true) }) (v := ?vu345) rfl (by kernel_rfl) (by kernel_rfl) (by kernel_rfl) (fun _ _ _ h => h) (Or.inl ⟨by rfl, ?hyu345⟩) (by assumption) ?restu345
      case hyu345 => (intro w hSw; (try dsimp only at hSw); go_simp; (try with_reducible rfl))
      try simp only [Act.put, List.setIfInBounds_toArray, List.set_cons_zero, List.set_cons_succ]
      refine wpAnyH_take (i := 11) (oi := { dst := some 88, op := Op.load 3 (Operand.tmp 87), type := 3, pos := "law.go:198", after := #[{ on := 10, ground := Ground.data }, { on := 5, ground := Ground.guard }], guard := some (5, true) }) (v := ?vu346) rfl (by kernel_rfl) (by kernel_rfl) (by kernel_rfl) (fun _ _ _ h => h) (Or.inl ⟨by rfl, ?hyu346⟩) (by assumption) ?restu346
      case hyu346 => (intro wz hSw; (try dsimp only at hSw); have t0 := cell_of_row _ _ 0 _ _ _ ((hSw.block _ (lt_of_heap HBz2.out)).trans HBz2.out); have t1 := cell_of_row _ _ 1 _ _ _ ((hSw.block _ (lt_of_heap HBz2.out)).trans HBz2.out); have t2 := cell_of_row _ _ 0 _ _ _ ((hSw.block _ (lt_of_heap HEz.out)).trans HEz.out); have t3 := cell_of_row _ _ 1 _ _ _ ((hSw.block _ (lt_of_heap HEz.out)).trans HEz.out); have t4 := cell_of_row _ _ 2 _ _ _ ((hSw.block _ (lt_of_heap HEz.out)).trans HEz.out); (try simp only [List.getElem?_toArray, List.getElem?_cons_zero, List.getElem?_cons_succ] at t0 t1 t2 t3 t4); go_simp; (try with_reducible rfl))
      try simp only [Act.put, List.setIfInBounds_toArray, List.set_cons_zero, List.set_cons_succ]
      refine wpAnyH_take (i := 12) (oi := { dst := some 89, op := Op.binOp BinOp.eql 3 (Operand.tmp 86) (Operand.tmp 88) 3, type := 4, pos := "law.go:198", after := #[{ on := 9, ground := Ground.data }, { on := 11, ground := Ground.data }, { on := 5, ground := Ground.guard }], guard := some (5, true) }) (v := ?vu347) rfl (by kernel_rfl) (by kernel_rfl) (by kernel_rfl) (fun _ _ _ h => h) (Or.inl ⟨by rfl, ?hyu347⟩) (by assumption) ?restu347
      case hyu347 => (intro w hSw; (try dsimp only at hSw); go_simp; (try with_reducible rfl))
      try simp only [Act.put, List.setIfInBounds_toArray, List.set_cons_zero, List.set_cons_succ]
      refine wpAnyH_take (i := 13) (oi := { dst := some 90, op := Op.pick (Operand.tmp 82) (Operand.tmp 89) (Operand.const (Value.bool false)), type := 4, pos := "law.go:198", after := #[{ on := 5, ground := Ground.data }, { on := 12, ground := Ground.data }], guard := none }) (v := ?vu348) rfl (by kernel_rfl) (by kernel_rfl) (by kernel_rfl) (fun _ _ _ h => h) (Or.inl ⟨by rfl, ?hyu348⟩) (by assumption) ?restu348
      case hyu348 => (intro w hSw; (try dsimp only at hSw); go_simp; (try with_reducible rfl))
      try simp only [Act.put, List.setIfInBounds_toArray, List.set_cons_zero, List.set_cons_succ]
      refine wpAnyH_take (i := 14) (oi := { dst := some 91, op := Op.move (Operand.tmp 90), type := 4, pos := "law.go:198", after := #[{ on := 13, ground := Ground.data }, { on := 5, ground := Ground.chain }], guard := none }) (v := ?vu349) rfl (by kernel_rfl) (by kernel_rfl) (by kernel_rfl) (fun _ _ _ h => h) (Or.inl ⟨by rfl, ?hyu349⟩) (by assumption) ?restu349
      case hyu349 => (intro w hSw; (try dsimp only at hSw); go_simp; (try with_reducible rfl))
      try simp only [Act.put, List.setIfInBounds_toArray, List.set_cons_zero, List.set_cons_succ]
      refine wpAnyH_take (i := 15) (oi := { dst := some 92, op := Op.move (Operand.tmp 10), type := 44, pos := "law.go:198", after := #[{ on := 14, ground := Ground.guard }], guard := some (14, true) }) (v := ?vu350) rfl (by kernel_rfl) (by kernel_rfl) (by kernel_rfl) (fun _ _ _ h => h) (Or.inl ⟨by rfl, ?hyu350⟩) (by assumption) ?restu350
      case hyu350 => (intro w hSw; (try dsimp only at hSw); go_simp; (try with_reducible rfl))
      try simp only [Act.put, List.setIfInBounds_toArray, List.set_cons_zero, List.set_cons_succ]
      refine wpAnyH_take (i := 16) (oi := { dst := some 93, op := Op.nilCheck (Operand.tmp 92), type := 0, pos := "law.go:198", after := #[{ on := 15, ground := Ground.data }, { on := 14, ground := Ground.guard }], guard := some (14, true) }) (v := ?vu351) rfl (by kernel_rfl) (by kernel_rfl) (by kernel_rfl) (fun _ _ _ h => h) (Or.inl ⟨by rfl, ?hyu351⟩) (by assumption) ?restu351
      case hyu351 => (intro w hSw; (try dsimp only at hSw); go_simp; (try with_reducible rfl))
      try simp only [Act.put, List.setIfInBounds_toArray, List.set_cons_zero, List.set_cons_succ]
      refine wpAnyH_take (i := 17) (oi := { dst := some 94, op := Op.fieldAddr 49 (Operand.tmp 93) 1, type := 0, pos := "law.go:198", after := #[{ on := 16, ground := Ground.data }, { on := 14, ground := Ground.guard }], guard := some (14, true) }) (v := ?vu352) rfl (by kernel_rfl) (by kernel_rfl) (by kernel_rfl) (fun _ _ _ h => h) (Or.inl ⟨by rfl, ?hyu352⟩) (by assumption) ?restu352
      case hyu352 => (intro w hSw; (try dsimp only at hSw); go_simp; (try with_reducible rfl))
      try simp only [Act.put, List.setIfInBounds_toArray, List.set_cons_zero, List.set_cons_succ]
      refine wpAnyH_take (i := 18) (oi := { dst := some 95, op := Op.load 3 (Operand.tmp 94), type := 3, pos := "law.go:198", after := #[{ on := 17, ground := Ground.data }, { on := 14, ground := Ground.guard }], guard := some (14, true) }) (v := ?vu353) rfl (by kernel_rfl) (by kernel_rfl) (by kernel_rfl) (fun _ _ _ h => h) (Or.inl ⟨by rfl, ?hyu353⟩) (by assumption) ?restu353
      case hyu353 => (intro wz hSw; (try dsimp only at hSw); have t0 := cell_of_row _ _ 0 _ _ _ ((hSw.block _ (lt_of_heap HBz2.out)).trans HBz2.out); have t1 := cell_of_row _ _ 1 _ _ _ ((hSw.block _ (lt_of_heap HBz2.out)).trans HBz2.out); have t2 := cell_of_row _ _ 0 _ _ _ ((hSw.block _ (lt_of_heap HEz.out)).trans HEz.out); have t3 := cell_of_row _ _ 1 _ _ _ ((hSw.block _ (lt_of_heap HEz.out)).trans HEz.out); have t4 := cell_of_row _ _ 2 _ _ _ ((hSw.block _ (lt_of_heap HEz.out)).trans HEz.out); (try simp only [List.getElem?_toArray, List.getElem?_cons_zero, List.getElem?_cons_succ] at t0 t1 t2 t3 t4); go_simp; (try with_reducible rfl))
      try simp only [Act.put, List.setIfInBounds_toArray, List.set_cons_zero, List.set_cons_succ]
      refine wpAnyH_take (i := 19) (oi := { dst := some 96, op := Op.fieldAddr 37 (Operand.tmp 7) 2, type := 0, pos := "law.go:198", after := #[{ on := 14, ground := Ground.guard }], guard := some (14, true) }) (v := ?vu354) rfl (by kernel_rfl) (by kernel_rfl) (by kernel_rfl) (fun _ _ _ h => h) (Or.inl ⟨by rfl, ?hyu354⟩) (by assumption) ?restu354
      case hyu354 => (intro w hSw; (try dsimp only at hSw); go_simp; (try with_reducible rfl))
      try simp only [Act.put, List.setIfInBounds_toArray, List.set_cons_zero, List.set_cons_succ]
      refine wpAnyH_take (i := 20) (oi := { dst := some 97, op := Op.load 3 (Operand.tmp 96), type := 3, pos := "law.go:198", after := #[{ on := 19, ground := Ground.data }, { on := 14, ground := Ground.guard }], guard := some (14, true) }) (v := ?vu355) rfl (by kernel_rfl) (by kernel_rfl) (by kernel_rfl) (fun _ _ _ h => h) (Or.inl ⟨by rfl, ?hyu355⟩) (by assumption) ?restu355
      case hyu355 => (intro wz hSw; (try dsimp only at hSw); have t0 := cell_of_row _ _ 0 _ _ _ ((hSw.block _ (lt_of_heap HBz2.out)).trans HBz2.out); have t1 := cell_of_row _ _ 1 _ _ _ ((hSw.block _ (lt_of_heap HBz2.out)).trans HBz2.out); have t2 := cell_of_row _ _ 0 _ _ _ ((hSw.block _ (lt_of_heap HEz.out)).trans HEz.out); have t3 := cell_of_row _ _ 1 _ _ _ ((hSw.block _ (lt_of_heap HEz.out)).trans HEz.out); have t4 := cell_of_row _ _ 2 _ _ _ ((hSw.block _ (lt_of_heap HEz.out)).trans HEz.out); (try simp only [List.getElem?_toArray, List.getElem?_cons_zero, List.getElem?_cons_succ] at t0 t1 t2 t3 t4); go_simp; (try with_reducible rfl))
      try simp only [Act.put, List.setIfInBounds_toArray, List.set_cons_zero, List.set_cons_succ]
      refine wpAnyH_take (i := 21) (oi := { dst := some 98, op := Op.binOp BinOp.eql 3 (Operand.tmp 95) (Operand.tmp 97) 3, type := 4, pos := "law.go:198", after := #[{ on := 18, ground := Ground.data }, { on := 20, ground := Ground.data }, { on := 14, ground := Ground.guard }], guard := some (14, true) }) (v := ?vu356) rfl (by kernel_rfl) (by kernel_rfl) (by kernel_rfl) (fun _ _ _ h => h) (Or.inl ⟨by rfl, ?hyu356⟩) (by assumption) ?restu356
      case hyu356 => (intro w hSw; (try dsimp only at hSw); go_simp; (try with_reducible rfl))
      try simp only [Act.put, List.setIfInBounds_toArray, List.set_cons_zero, List.set_cons_succ]
      refine wpAnyH_take (i := 22) (oi := { dst := some 99, op := Op.pick (Operand.tmp 91) (Operand.tmp 98) (Operand.const (Value.bool false)), type := 4, pos := "law.go:198", after := #[{ on := 14, ground := Ground.data }, { on := 21, ground := Ground.data }], guard := none }) (v := ?vu357) rfl (by kernel_rfl) (by kernel_rfl) (by kernel_rfl) (fun _ _ _ h => h) (Or.inl ⟨by rfl, ?hyu357⟩) (by assumption) ?restu357
      case hyu357 => (intro w hSw; (try dsimp only at hSw); go_simp; (try with_reducible rfl))
      try simp only [Act.put, List.setIfInBounds_toArray, List.set_cons_zero, List.set_cons_succ]
      refine wpAnyH_take (i := 23) (oi := { dst := some 100, op := Op.move (Operand.tmp 99), type := 4, pos := "law.go:198", after := #[{ on := 22, ground := Ground.data }, { on := 14, ground := Ground.chain }], guard := none }) (v := ?vu358) rfl (by kernel_rfl) (by kernel_rfl) (by kernel_rfl) (fun _ _ _ h => h) (Or.inl ⟨by rfl, ?hyu358⟩) (by assumption) ?restu358
      case hyu358 => (intro w hSw; (try dsimp only at hSw); go_simp; (try with_reducible rfl))
      try simp only [Act.put, List.setIfInBounds_toArray, List.set_cons_zero, List.set_cons_succ]
      refine wpAnyH_ready (rs := [24]) (by kernel_rfl) (by simp) ?_
      refine AllReadyH.cons (o := { dst := some 101, op := Op.call { callee := Callee.value (Operand.func 9), args := #[], argTypes := #[] }, type := 4, pos := "law.go:198", after := #[{ on := 23, ground := Ground.chain }, { on := 23, ground := Ground.guard }], guard := some (23, true) }) rfl (fun K hK => ?_) AllReadyH.nil
      go_simp
      go_at_call 9
      refine (awake_of C D z2.drew).mono ?_
      rintro e z3 ⟨rfl, b⟩
      have HZ3 : Hid (Below z2.heap.size z2 z3) := (below_refl z2).drew.trans b
      clear b
      refine hK.out _ _ ?_ (fun hHeldB => ?_)
      · (try dsimp only); exact HZ3.out
      clear hK K hHeld
      have hHeld := hHeldB
      clear hHeldB
      try simp only [Act.put, List.setIfInBounds_toArray, List.set_cons_zero, List.set_cons_succ]
      refine wpAnyH_take (i := 25) (oi := { dst := some 102, op := Op.pick (Operand.tmp 100) (Operand.tmp 101) (Operand.const (Value.bool false)), type := 4, pos := "law.go:198", after := #[{ on := 23, ground := Ground.data }, { on := 24, ground := Ground.data }], guard := none }) (v := ?vu359) rfl (by kernel_rfl) (by kernel_rfl) (by kernel_rfl) (fun _ _ _ h => h) (Or.inl ⟨by rfl, ?hyu359⟩) (by assumption) ?restu359
      case hyu359 => (intro w hSw; (try dsimp only at hSw); go_simp; (try with_reducible rfl))
      try simp only [Act.put, List.setIfInBounds_toArray, List.set_cons_zero, List.set_cons_succ]
      refine wpAnyH_take (i := 26) (oi := { dst := some 4, op := Op.assign (Operand.tmp 102), type := 4, pos := "law.go:198", after := #[{ on := 25, ground := Ground.data }, { on := 24, ground := Ground.chain }, { on := 0, ground := Ground.phase }, { on := 1, ground := Ground.phase }, { on := 2, ground := Ground.phase }, { on := 3, ground := Ground.phase }, { on := 4, ground := Ground.phase }, { on := 5, ground := Ground.phase }, { on := 6, ground := Ground.phase }, { on := 7, ground := Ground.phase }, { on := 8, ground := Ground.phase }, { on := 9, ground := Ground.phase }, { on := 10, ground := Ground.phase }, { on := 11, ground := Ground.phase }, { on := 12, ground := Ground.phase }, { on := 13, ground := Ground.phase }, { on := 14, ground := Ground.phase }, { on := 15, ground := Ground.phase }, { on := 16, ground := Ground.phase }, { on := 17, ground := Ground.phase }, { on := 18, ground := Ground.phase }, { on := 19, ground := Ground.phase }, { on := 20, ground := Ground.phase }, { on := 21, ground := Ground.phase }, { on := 22, ground := Ground.phase }, { on := 23, ground := Ground.phase }, { on := 24, ground := Ground.phase }, { on := 25, ground := Ground.phase }], guard := none }) (v := ?vu360) rfl (by kernel_rfl) (by kernel_rfl) (by kernel_rfl) (fun _ _ _ h => h) (Or.inl ⟨by rfl, ?hyu360⟩) (by assumption) ?restu360
      case hyu360 => (intro w hSw; (try dsimp only at hSw); go_simp; (try with_reducible rfl))
      try simp only [Act.put, List.setIfInBounds_toArray, List.set_cons_zero, List.set_cons_succ]
      refine wpAnyH_done (by kernel_rfl) ?_ _
      go_wp2
      go_ret
      exact ⟨rfl, below_step HBz.out HZ3.out⟩
    | num m =>
      replace he6 : e = .returned (.agg #[.int .i64 2, .int .i64 0, .int .i64 m]) := he6
      subst he6
      have hb7 : Below w6.heap.size w6 (w6.alloc (.cells #[.int .i64 2, .int .i64 0, .int .i64 m] 37)) := below1 w6 _
      have HW7 : Hid (WS M w.heap.size w3.heap.size FW (w6.alloc (.cells #[.int .i64 2, .int .i64 0, .int .i64 m] 37)) ⟨[], b⟩) := (ws_st D _ _).below HW6.out hb7
      have HP7 : Hid (PS w.heap.size (w3.heap.size + 1 + 1) G6 (w6.alloc (.cells #[.int .i64 2, .int .i64 0, .int .i64 m] 37)) y) := (ps_st _ _).below HL6.out.1 hb7
      have HB7 : Hid (Below w.heap.size w (w6.alloc (.cells #[.int .i64 2, .int .i64 0, .int .i64 m] 37))) := below_step HB6.out hb7
      have HE7 : Hid ((w6.alloc (.cells #[.int .i64 2, .int .i64 0, .int .i64 m] 37)).heap[w6.heap.size]? = some (.cells #[.int .i64 2, .int .i64 0, .int .i64 m] 37)) := heap_new1 w6 _
      have HN7 : Hid ((w6.alloc (.cells #[.int .i64 2, .int .i64 0, .int .i64 m] 37)).heap[w.heap.size]? = some (.cells #[.int .i64 kind, .int .i64 code, .int .i64 n, .slice na len cap] 24)) := (hb7.block _ (lt_of_heap HN6.out)).trans HN6.out
      have HX7 : Hid ((w6.alloc (.cells #[.int .i64 2, .int .i64 0, .int .i64 m] 37)).heap[w3.heap.size + 1]? = some (.cells #[.pointer (some ⟨w3.heap.size, 0, none⟩)] 27)) := (hb7.block _ (lt_of_heap HX6.out)).trans HX6.out
      clear hb7
      go_wp2_with (go_at_call 12; fail)
      refine (C.safe (ws_st D w.heap.size w3.heap.size) FW (w6.alloc (.cells #[.int .i64 2, .int .i64 0, .int .i64 m] 37)) ⟨[], b⟩ y _ _ (.num m) (fnv_bp1 _) HW7.out fun w1 hb hs => bp1_plays D w.heap.size w3.heap.size _ _ FW w1 ⟨[], b⟩ y (.num m) kind code n na len cap ((hb.block _ (lt_of_heap HX7.out)).trans HX7.out) ((hb.block _ (lt_of_heap HN7.out)).trans HN7.out) (by
        have := HDO.out w w3.heap.size HWf.out HS.out FW w1 ⟨[], b⟩ (HB7.out.trans (hb.mono HB7.out.size)) hs (by simp only [List.length_nil]; have := HS.out; omega) HIR.out
        rwa [HRN.out] at this)).mono ?_
      rintro e w8 ⟨G8, hl, he⟩
      have HL8 : Hid (Lft (WS M w.heap.size w3.heap.size) FW (w6.alloc (.cells #[.int .i64 2, .int .i64 0, .int .i64 m] 37)) y G8 w8) := hl
      have HB8 : Hid (Below w.heap.size w w8) := HB7.out.trans (hl.2.2.below HB7.out.size fun b hb hF => by have := HFWlo.out b hF; omega)
      have HP8 : Hid (PS w.heap.size (w3.heap.size + 1 + 1) G6 w8 y) := (ps_st _ _).frame HP7.out hl.2.2 fun b h1 h2 => HDJ.out b h1 h2
      have HE8 : Hid (w8.heap[w6.heap.size]? = some (.cells #[.int .i64 2, .int .i64 0, .int .i64 m] 37)) := hl.2.2.heap HE7.out fun h => by have := HFWhi.out _ h; have := HZ6.out; omega
      have HX8 : Hid (w8.heap[w3.heap.size + 1]? = some (.cells #[.pointer (some ⟨w3.heap.size, 0, none⟩)] 27)) := hl.2.2.heap HX7.out fun h => by have := HFWhi.out _ h; omega
      have HHE : Hid (SafE (w6.alloc (.cells #[.int .i64 2, .int .i64 0, .int .i64 m] 37)).heap.size G8 w8 (.num m) e) := he
      clear hl he
      obtain rfl : e = .returned (.tuple #[.iface 3 (.int .i64 m), .bool false]) := by
        rcases HHE.out with ⟨h, -⟩ | ⟨v, h, hv⟩
        · cases h
        · replace hv : v = .iface 3 (.int .i64 m) := hv
          rw [h, hv]
      have ta1 : ∀ w, (Instr.typeAssert (.iface 3 (.int .i64 m)) 20 44 true).run Try.prog w = .ok (.tuple #[.pointer none, .bool false]) w := fun _ => by kernel_rfl
      have ta2 : ∀ w, (Instr.typeAssert (.iface 3 (.int .i64 m)) 20 3 true).run Try.prog w = .ok (.tuple #[.int .i64 m, .bool true]) w := fun _ => by kernel_rfl
      obtain ⟨a8, c8, p8, FM8, h8⟩ := HL8.out.1
      have HY8 : Hid (WX M w.heap.size w3.heap.size G8 w8 y a8 c8 p8 FM8) := h8
      obtain ⟨a6, c6, h6⟩ := HP8.out
      have HY6 : Hid (PX w.heap.size (w3.heap.size + 1 + 1) G6 w8 y a6 c6) := h6
      clear h8 h6
      go_wp2
      refine wp_region_held_drew (S := (fun w' => Below w8.heap.size w8 w')) (by kernel_rfl) ?_ (fun hHeld => ?_)
      · (try dsimp only); exact (below_refl w8).drew
      refine wpAnyH_take (i := 0) (oi := { dst := some 34, op := Op.load 27 (Operand.tmp 5), type := 27, pos := "law.go:191", after := #[], guard := none }) (v := ?vu361) rfl (by kernel_rfl) (by kernel_rfl) (by kernel_rfl) (fun _ _ _ h => h) (Or.inl ⟨by rfl, ?hyu361⟩) (by assumption) ?restu361
      case hyu361 => (intro wz hSw; (try dsimp only at hSw); have q0 := cell_of_row _ _ 0 _ _ _ ((hSw.block _ (lt_of_heap HX8.out)).trans HX8.out); have q1 := cell_of_row _ _ 0 _ _ _ ((hSw.block _ (lt_of_heap HY8.out.hb)).trans HY8.out.hb); have q2 := cell_of_row _ _ 1 _ _ _ ((hSw.block _ (lt_of_heap HY8.out.hb)).trans HY8.out.hb); have q3 := cell_of_row _ _ 0 _ _ _ ((hSw.block _ (lt_of_heap HY6.out.hb)).trans HY6.out.hb); have q4 := cell_of_row _ _ 1 _ _ _ ((hSw.block _ (lt_of_heap HY6.out.hb)).trans HY6.out.hb); have q5 := cell_of_row _ _ 0 _ _ _ ((hSw.block _ (lt_of_heap HE8.out)).trans HE8.out); (try simp only [List.getElem?_toArray, List.getElem?_cons_zero, List.getElem?_cons_succ] at q0 q1 q2 q3 q4 q5); go_simp; (try with_reducible rfl))
      try simp only [Act.put, List.setIfInBounds_toArray, List.set_cons_zero, List.set_cons_succ]
      refine wpAnyH_take (i := 1) (oi := { dst := some 35, op := Op.nilCheck (Operand.tmp 34), type := 0, pos := "law.go:191", after := #[{ on := 0, ground := Ground.data }], guard := none }) (v := ?vu362) rfl (by kernel_rfl) (by kernel_rfl) (by kernel_rfl) (fun _ _ _ h => h) (Or.inl ⟨by rfl, ?hyu362⟩) (by assumption) ?restu362
      case hyu362 => (intro w hSw; (try dsimp only at hSw); go_simp; (try with_reducible rfl))
      try simp only [Act.put, List.setIfInBounds_toArray, List.set_cons_zero, List.set_cons_succ]
      refine wpAnyH_take (i := 2) (oi := { dst := some 36, op := Op.fieldAddr 32 (Operand.tmp 35) 0, type := 0, pos := "law.go:191", after := #[{ on := 1, ground := Ground.data }], guard := none }) (v := ?vu363) rfl (by kernel_rfl) (by kernel_rfl) (by kernel_rfl) (fun _ _ _ h => h) (Or.inl ⟨by rfl, ?hyu363⟩) (by assumption) ?restu363
      case hyu363 => (intro w hSw; (try dsimp only at hSw); go_simp; (try with_reducible rfl))
      try simp only [Act.put, List.setIfInBounds_toArray, List.set_cons_zero, List.set_cons_succ]
      refine wpAnyH_take (i := 3) (oi := { dst := some 37, op := Op.load 30 (Operand.tmp 36), type := 30, pos := "law.go:191", after := #[{ on := 2, ground := Ground.data }], guard := none }) (v := ?vu364) rfl (by kernel_rfl) (by kernel_rfl) (by kernel_rfl) (fun _ _ _ h => h) (Or.inl ⟨by rfl, ?hyu364⟩) (by assumption) ?restu364
      case hyu364 => (intro wz hSw; (try dsimp only at hSw); have q0 := cell_of_row _ _ 0 _ _ _ ((hSw.block _ (lt_of_heap HX8.out)).trans HX8.out); have q1 := cell_of_row _ _ 0 _ _ _ ((hSw.block _ (lt_of_heap HY8.out.hb)).trans HY8.out.hb); have q2 := cell_of_row _ _ 1 _ _ _ ((hSw.block _ (lt_of_heap HY8.out.hb)).trans HY8.out.hb); have q3 := cell_of_row _ _ 0 _ _ _ ((hSw.block _ (lt_of_heap HY6.out.hb)).trans HY6.out.hb); have q4 := cell_of_row _ _ 1 _ _ _ ((hSw.block _ (lt_of_heap HY6.out.hb)).trans HY6.out.hb); have q5 := cell_of_row _ _ 0 _ _ _ ((hSw.block _ (lt_of_heap HE8.out)).trans HE8.out); (try simp only [List.getElem?_toArray, List.getElem?_cons_zero, List.getElem?_cons_succ] at q0 q1 q2 q3 q4 q5); go_simp; (try with_reducible rfl))
      try simp only [Act.put, List.setIfInBounds_toArray, List.set_cons_zero, List.set_cons_succ]
      refine wpAnyH_take (i := 4) (oi := { dst := some 38, op := Op.move (Operand.tmp 6), type := 33, pos := "law.go:191", after := #[], guard := none }) (v := ?vu365) rfl (by kernel_rfl) (by kernel_rfl) (by kernel_rfl) (fun _ _ _ h => h) (Or.inl ⟨by rfl, ?hyu365⟩) (by assumption) ?restu365
      case hyu365 => (intro w hSw; (try dsimp only at hSw); go_simp; (try with_reducible rfl))
      try simp only [Act.put, List.setIfInBounds_toArray, List.set_cons_zero, List.set_cons_succ]
      refine wpAnyH_take (i := 5) (oi := { dst := some 39, op := Op.nilCheck (Operand.tmp 38), type := 0, pos := "law.go:191", after := #[{ on := 4, ground := Ground.data }], guard := none }) (v := ?vu366) rfl (by kernel_rfl) (by kernel_rfl) (by kernel_rfl) (fun _ _ _ h => h) (Or.inl ⟨by rfl, ?hyu366⟩) (by assumption) ?restu366
      case hyu366 => (intro w hSw; (try dsimp only at hSw); go_simp; (try with_reducible rfl))
      try simp only [Act.put, List.setIfInBounds_toArray, List.set_cons_zero, List.set_cons_succ]
      refine wpAnyH_take (i := 6) (oi := { dst := some 40, op := Op.fieldAddr 35 (Operand.tmp 39) 0, type := 0, pos := "law.go:191", after := #[{ on := 5, ground := Ground.data }], guard := none }) (v := ?vu367) rfl (by kernel_rfl) (by kernel_rfl) (by kernel_rfl) (fun _ _ _ h => h) (Or.inl ⟨by rfl, ?hyu367⟩) (by assumption) ?restu367
      case hyu367 => (intro w hSw; (try dsimp only at hSw); go_simp; (try with_reducible rfl))
      try simp only [Act.put, List.setIfInBounds_toArray, List.set_cons_zero, List.set_cons_succ]
      refine wpAnyH_take (i := 7) (oi := { dst := some 41, op := Op.load 30 (Operand.tmp 40), type := 30, pos := "law.go:191", after := #[{ on := 6, ground := Ground.data }], guard := none }) (v := ?vu368) rfl (by kernel_rfl) (by kernel_rfl) (by kernel_rfl) (fun _ _ _ h => h) (Or.inl ⟨by rfl, ?hyu368⟩) (by assumption) ?restu368
      case hyu368 => (intro wz hSw; (try dsimp only at hSw); have q0 := cell_of_row _ _ 0 _ _ _ ((hSw.block _ (lt_of_heap HX8.out)).trans HX8.out); have q1 := cell_of_row _ _ 0 _ _ _ ((hSw.block _ (lt_of_heap HY8.out.hb)).trans HY8.out.hb); have q2 := cell_of_row _ _ 1 _ _ _ ((hSw.block _ (lt_of_heap HY8.out.hb)).trans HY8.out.hb); have q3 := cell_of_row _ _ 0 _ _ _ ((hSw.block _ (lt_of_heap HY6.out.hb)).trans HY6.out.hb); have q4 := cell_of_row _ _ 1 _ _ _ ((hSw.block _ (lt_of_heap HY6.out.hb)).trans HY6.out.hb); have q5 := cell_of_row _ _ 0 _ _ _ ((hSw.block _ (lt_of_heap HE8.out)).trans HE8.out); (try simp only [List.getElem?_toArray, List.getElem?_cons_zero, List.getElem?_cons_succ] at q0 q1 q2 q3 q4 q5); go_simp; (try with_reducible rfl))
      try simp only [Act.put, List.setIfInBounds_toArray, List.set_cons_zero, List.set_cons_succ]
      refine wpAnyH_ready (rs := [8]) (by kernel_rfl) (by simp) ?_
      refine AllReadyH.cons (o := { dst := some 42, op := Op.call { callee := Callee.value (Operand.func 15), args := #[Operand.tmp 37, Operand.tmp 41], argTypes := #[30, 30] }, type := 4, pos := "law.go:191", after := #[{ on := 3, ground := Ground.data }, { on := 7, ground := Ground.data }], guard := none }) rfl (fun K hK => ?_) AllReadyH.nil
      go_simp
      go_at_call 15
      refine (ints_same w8.drew a8 a6 c8 c6 y.notes.length (gt y.notes) (HY8.out.ow.drew.rd1) (HY6.out.ow.drew.rd1)).mono ?_
      rintro e z1 ⟨rfl, b⟩
      have HZ1 : Hid (Below w8.heap.size w8 z1) := (below_refl w8).drew.trans b
      clear b
      refine hK.out _ _ ?_ (fun hHeldB => ?_)
      · (try dsimp only); first | exact HZ1.out | exact HZ2.out
      clear hK K hHeld
      have hHeld := hHeldB
      clear hHeldB
      try simp only [Act.put, List.setIfInBounds_toArray, List.set_cons_zero, List.set_cons_succ]
      refine wpAnyH_take (i := 9) (oi := { dst := some 43, op := Op.unOp UnOp.not 4 (Operand.tmp 42), type := 4, pos := "law.go:191", after := #[{ on := 8, ground := Ground.data }], guard := none }) (v := ?vu369) rfl (by kernel_rfl) (by kernel_rfl) (by kernel_rfl) (fun _ _ _ h => h) (Or.inl ⟨by rfl, ?hyu369⟩) (by assumption) ?restu369
      case hyu369 => (intro w hSw; (try dsimp only at hSw); go_simp; (try with_reducible rfl))
      try simp only [Act.put, List.setIfInBounds_toArray, List.set_cons_zero, List.set_cons_succ]
      refine wpAnyH_take (i := 10) (oi := { dst := some 44, op := Op.move (Operand.tmp 43), type := 4, pos := "law.go:191", after := #[{ on := 9, ground := Ground.data }, { on := 8, ground := Ground.chain }], guard := none }) (v := ?vu370) rfl (by kernel_rfl) (by kernel_rfl) (by kernel_rfl) (fun _ _ _ h => h) (Or.inl ⟨by rfl, ?hyu370⟩) (by assumption) ?restu370
      case hyu370 => (intro w hSw; (try dsimp only at hSw); go_simp; (try with_reducible rfl))
      try simp only [Act.put, List.setIfInBounds_toArray, List.set_cons_zero, List.set_cons_succ]
      refine wpAnyH_take (i := 11) (oi := { dst := some 45, op := Op.load 27 (Operand.tmp 5), type := 27, pos := "law.go:191", after := #[{ on := 10, ground := Ground.guard }], guard := some (10, false) }) (v := ?vu371) rfl (by kernel_rfl) (by kernel_rfl) (by kernel_rfl) (fun _ _ _ h => h) (Or.inl ⟨by rfl, ?hyu371⟩) (by assumption) ?restu371
      case hyu371 => (intro wz hSw; (try dsimp only at hSw); have q0 := cell_of_row _ _ 0 _ _ _ ((hSw.block _ (lt_of_heap HX8.out)).trans HX8.out); have q1 := cell_of_row _ _ 0 _ _ _ ((hSw.block _ (lt_of_heap HY8.out.hb)).trans HY8.out.hb); have q2 := cell_of_row _ _ 1 _ _ _ ((hSw.block _ (lt_of_heap HY8.out.hb)).trans HY8.out.hb); have q3 := cell_of_row _ _ 0 _ _ _ ((hSw.block _ (lt_of_heap HY6.out.hb)).trans HY6.out.hb); have q4 := cell_of_row _ _ 1 _ _ _ ((hSw.block _ (lt_of_heap HY6.out.hb)).trans HY6.out.hb); have q5 := cell_of_row _ _ 0 _ _ _ ((hSw.block _ (lt_of_heap HE8.out)).trans HE8.out); (try simp only [List.getElem?_toArray, List.getElem?_cons_zero, List.getElem?_cons_succ] at q0 q1 q2 q3 q4 q5); go_simp; (try with_reducible rfl))
      try simp only [Act.put, List.setIfInBounds_toArray, List.set_cons_zero, List.set_cons_succ]
      refine wpAnyH_take (i := 12) (oi := { dst := some 46, op := Op.nilCheck (Operand.tmp 45), type := 0, pos := "law.go:191", after := #[{ on := 11, ground := Ground.data }, { on := 10, ground := Ground.guard }], guard := some (10, false) }) (v := ?vu372) rfl (by kernel_rfl) (by kernel_rfl) (by kernel_rfl) (fun _ _ _ h => h) (Or.inl ⟨by rfl, ?hyu372⟩) (by assumption) ?restu372
      case hyu372 => (intro w hSw; (try dsimp only at hSw); go_simp; (try with_reducible rfl))
      try simp only [Act.put, List.setIfInBounds_toArray, List.set_cons_zero, List.set_cons_succ]
      refine wpAnyH_take (i := 13) (oi := { dst := some 47, op := Op.fieldAddr 32 (Operand.tmp 46) 1, type := 0, pos := "law.go:191", after := #[{ on := 12, ground := Ground.data }, { on := 10, ground := Ground.guard }], guard := some (10, false) }) (v := ?vu373) rfl (by kernel_rfl) (by kernel_rfl) (by kernel_rfl) (fun _ _ _ h => h) (Or.inl ⟨by rfl, ?hyu373⟩) (by assumption) ?restu373
      case hyu373 => (intro w hSw; (try dsimp only at hSw); go_simp; (try with_reducible rfl))
      try simp only [Act.put, List.setIfInBounds_toArray, List.set_cons_zero, List.set_cons_succ]
      refine wpAnyH_take (i := 14) (oi := { dst := some 48, op := Op.load 28 (Operand.tmp 47), type := 28, pos := "law.go:191", after := #[{ on := 13, ground := Ground.data }, { on := 10, ground := Ground.guard }], guard := some (10, false) }) (v := ?vu374) rfl (by kernel_rfl) (by kernel_rfl) (by kernel_rfl) (fun _ _ _ h => h) (Or.inl ⟨by rfl, ?hyu374⟩) (by assumption) ?restu374
      case hyu374 => (intro wz hSw; (try dsimp only at hSw); have q0 := cell_of_row _ _ 0 _ _ _ ((hSw.block _ (lt_of_heap HX8.out)).trans HX8.out); have q1 := cell_of_row _ _ 0 _ _ _ ((hSw.block _ (lt_of_heap HY8.out.hb)).trans HY8.out.hb); have q2 := cell_of_row _ _ 1 _ _ _ ((hSw.block _ (lt_of_heap HY8.out.hb)).trans HY8.out.hb); have q3 := cell_of_row _ _ 0 _ _ _ ((hSw.block _ (lt_of_heap HY6.out.hb)).trans HY6.out.hb); have q4 := cell_of_row _ _ 1 _ _ _ ((hSw.block _ (lt_of_heap HY6.out.hb)).trans HY6.out.hb); have q5 := cell_of_row _ _ 0 _ _ _ ((hSw.block _ (lt_of_heap HE8.out)).trans HE8.out); (try simp only [List.getElem?_toArray, List.getElem?_cons_zero, List.getElem?_cons_succ] at q0 q1 q2 q3 q4 q5); go_simp; (try with_reducible rfl))
      try simp only [Act.put, List.setIfInBounds_toArray, List.set_cons_zero, List.set_cons_succ]
      refine wpAnyH_take (i := 16) (oi := { dst := some 50, op := Op.move (Operand.tmp 6), type := 33, pos := "law.go:191", after := #[{ on := 10, ground := Ground.guard }], guard := some (10, false) }) (v := ?vu375) rfl (by kernel_rfl) (by kernel_rfl) (by kernel_rfl) (fun _ _ _ h => h) (Or.inl ⟨by rfl, ?hyu375⟩) (by assumption) ?restu375
      case hyu375 => (intro w hSw; (try dsimp only at hSw); go_simp; (try with_reducible rfl))
      try simp only [Act.put, List.setIfInBounds_toArray, List.set_cons_zero, List.set_cons_succ]
      refine wpAnyH_take (i := 17) (oi := { dst := some 51, op := Op.nilCheck (Operand.tmp 50), type := 0, pos := "law.go:191", after := #[{ on := 16, ground := Ground.data }, { on := 10, ground := Ground.guard }], guard := some (10, false) }) (v := ?vu376) rfl (by kernel_rfl) (by kernel_rfl) (by kernel_rfl) (fun _ _ _ h => h) (Or.inl ⟨by rfl, ?hyu376⟩) (by assumption) ?restu376
      case hyu376 => (intro w hSw; (try dsimp only at hSw); go_simp; (try with_reducible rfl))
      try simp only [Act.put, List.setIfInBounds_toArray, List.set_cons_zero, List.set_cons_succ]
      refine wpAnyH_take (i := 18) (oi := { dst := some 52, op := Op.fieldAddr 35 (Operand.tmp 51) 1, type := 0, pos := "law.go:191", after := #[{ on := 17, ground := Ground.data }, { on := 10, ground := Ground.guard }], guard := some (10, false) }) (v := ?vu377) rfl (by kernel_rfl) (by kernel_rfl) (by kernel_rfl) (fun _ _ _ h => h) (Or.inl ⟨by rfl, ?hyu377⟩) (by assumption) ?restu377
      case hyu377 => (intro w hSw; (try dsimp only at hSw); go_simp; (try with_reducible rfl))
      try simp only [Act.put, List.setIfInBounds_toArray, List.set_cons_zero, List.set_cons_succ]
      refine wpAnyH_take (i := 19) (oi := { dst := some 53, op := Op.load 3 (Operand.tmp 52), type := 3, pos := "law.go:191", after := #[{ on := 18, ground := Ground.data }, { on := 10, ground := Ground.guard }], guard := some (10, false) }) (v := ?vu378) rfl (by kernel_rfl) (by kernel_rfl) (by kernel_rfl) (fun _ _ _ h => h) (Or.inl ⟨by rfl, ?hyu378⟩) (by assumption) ?restu378
      case hyu378 => (intro wz hSw; (try dsimp only at hSw); have q0 := cell_of_row _ _ 0 _ _ _ ((hSw.block _ (lt_of_heap HX8.out)).trans HX8.out); have q1 := cell_of_row _ _ 0 _ _ _ ((hSw.block _ (lt_of_heap HY8.out.hb)).trans HY8.out.hb); have q2 := cell_of_row _ _ 1 _ _ _ ((hSw.block _ (lt_of_heap HY8.out.hb)).trans HY8.out.hb); have q3 := cell_of_row _ _ 0 _ _ _ ((hSw.block _ (lt_of_heap HY6.out.hb)).trans HY6.out.hb); have q4 := cell_of_row _ _ 1 _ _ _ ((hSw.block _ (lt_of_heap HY6.out.hb)).trans HY6.out.hb); have q5 := cell_of_row _ _ 0 _ _ _ ((hSw.block _ (lt_of_heap HE8.out)).trans HE8.out); (try simp only [List.getElem?_toArray, List.getElem?_cons_zero, List.getElem?_cons_succ] at q0 q1 q2 q3 q4 q5); go_simp; (try with_reducible rfl))
      try simp only [Act.put, List.setIfInBounds_toArray, List.set_cons_zero, List.set_cons_succ]
      refine wpAnyH_ready (rs := [15]) (by kernel_rfl) (by simp) ?_
      refine AllReadyH.cons (o := { dst := some 49, op := Op.call { callee := Callee.value (Operand.func 16), args := #[Operand.tmp 48], argTypes := #[28] }, type := 3, pos := "law.go:191", after := #[{ on := 14, ground := Ground.data }, { on := 10, ground := Ground.chain }, { on := 10, ground := Ground.guard }], guard := some (10, false) }) rfl (fun K hK => ?_) AllReadyH.nil
      go_simp
      go_at_call 16
      refine (D.left FM8 z1 (.pointer p8) y.left (D.frame HY8.out.m (Kp.of_below (F := fun _ => False) HZ1.out) fun _ _ h => h)).mono ?_
      rintro e z2 ⟨rfl, b⟩
      have HZ2 : Hid (Below w8.heap.size w8 z2) := below_step HZ1.out b
      clear b
      refine hK.out _ _ ?_ (fun hHeldB => ?_)
      · (try dsimp only); exact HZ2.out
      clear hK K hHeld
      have hHeld := hHeldB
      clear hHeldB
      try simp only [Act.put, List.setIfInBounds_toArray, List.set_cons_zero, List.set_cons_succ]
      refine wpAnyH_take (i := 20) (oi := { dst := some 54, op := Op.binOp BinOp.neq 3 (Operand.tmp 49) (Operand.tmp 53) 3, type := 4, pos := "law.go:191", after := #[{ on := 15, ground := Ground.data }, { on := 19, ground := Ground.data }, { on := 10, ground := Ground.guard }], guard := some (10, false) }) (v := ?vu379) rfl (by kernel_rfl) (by kernel_rfl) (by kernel_rfl) (fun _ _ _ h => h) (Or.inl ⟨by rfl, ?hyu379⟩) (by assumption) ?restu379
      case hyu379 => (intro w hSw; (try dsimp only at hSw); go_simp; (try with_reducible rfl))
      try simp only [Act.put, List.setIfInBounds_toArray, List.set_cons_zero, List.set_cons_succ]
      refine wpAnyH_take (i := 21) (oi := { dst := some 55, op := Op.pick (Operand.tmp 44) (Operand.const (Value.bool true)) (Operand.tmp 54), type := 4, pos := "law.go:191", after := #[{ on := 10, ground := Ground.data }, { on := 20, ground := Ground.data }], guard := none }) (v := ?vu380) rfl (by kernel_rfl) (by kernel_rfl) (by kernel_rfl) (fun _ _ _ h => h) (Or.inl ⟨by rfl, ?hyu380⟩) (by assumption) ?restu380
      case hyu380 => (intro w hSw; (try dsimp only at hSw); go_simp; (try with_reducible rfl))
      try simp only [Act.put, List.setIfInBounds_toArray, List.set_cons_zero, List.set_cons_succ]
      refine wpAnyH_take (i := 22) (oi := { dst := some 56, op := Op.move (Operand.tmp 55), type := 4, pos := "law.go:191", after := #[{ on := 21, ground := Ground.data }, { on := 15, ground := Ground.chain }], guard := none }) (v := ?vu381) rfl (by kernel_rfl) (by kernel_rfl) (by kernel_rfl) (fun _ _ _ h => h) (Or.inl ⟨by rfl, ?hyu381⟩) (by assumption) ?restu381
      case hyu381 => (intro w hSw; (try dsimp only at hSw); go_simp; (try with_reducible rfl))
      try simp only [Act.put, List.setIfInBounds_toArray, List.set_cons_zero, List.set_cons_succ]
      refine wpAnyH_take (i := 23) (oi := { dst := some 57, op := Op.move (Operand.tmp 9), type := 4, pos := "law.go:191", after := #[{ on := 22, ground := Ground.guard }], guard := some (22, false) }) (v := ?vu382) rfl (by kernel_rfl) (by kernel_rfl) (by kernel_rfl) (fun _ _ _ h => h) (Or.inl ⟨by rfl, ?hyu382⟩) (by assumption) ?restu382
      case hyu382 => (intro w hSw; (try dsimp only at hSw); go_simp; (try with_reducible rfl))
      try simp only [Act.put, List.setIfInBounds_toArray, List.set_cons_zero, List.set_cons_succ]
      refine wpAnyH_take (i := 24) (oi := { dst := some 58, op := Op.fieldAddr 37 (Operand.tmp 7) 0, type := 0, pos := "law.go:191", after := #[{ on := 22, ground := Ground.guard }], guard := some (22, false) }) (v := ?vu383) rfl (by kernel_rfl) (by kernel_rfl) (by kernel_rfl) (fun _ _ _ h => h) (Or.inl ⟨by rfl, ?hyu383⟩) (by assumption) ?restu383
      case hyu383 => (intro w hSw; (try dsimp only at hSw); go_simp; (try with_reducible rfl))
      try simp only [Act.put, List.setIfInBounds_toArray, List.set_cons_zero, List.set_cons_succ]
      refine wpAnyH_take (i := 25) (oi := { dst := some 59, op := Op.load 3 (Operand.tmp 58), type := 3, pos := "law.go:191", after := #[{ on := 24, ground := Ground.data }, { on := 22, ground := Ground.guard }], guard := some (22, false) }) (v := ?vu384) rfl (by kernel_rfl) (by kernel_rfl) (by kernel_rfl) (fun _ _ _ h => h) (Or.inl ⟨by rfl, ?hyu384⟩) (by assumption) ?restu384
      case hyu384 => (intro wz hSw; (try dsimp only at hSw); have q0 := cell_of_row _ _ 0 _ _ _ ((hSw.block _ (lt_of_heap HX8.out)).trans HX8.out); have q1 := cell_of_row _ _ 0 _ _ _ ((hSw.block _ (lt_of_heap HY8.out.hb)).trans HY8.out.hb); have q2 := cell_of_row _ _ 1 _ _ _ ((hSw.block _ (lt_of_heap HY8.out.hb)).trans HY8.out.hb); have q3 := cell_of_row _ _ 0 _ _ _ ((hSw.block _ (lt_of_heap HY6.out.hb)).trans HY6.out.hb); have q4 := cell_of_row _ _ 1 _ _ _ ((hSw.block _ (lt_of_heap HY6.out.hb)).trans HY6.out.hb); have q5 := cell_of_row _ _ 0 _ _ _ ((hSw.block _ (lt_of_heap HE8.out)).trans HE8.out); (try simp only [List.getElem?_toArray, List.getElem?_cons_zero, List.getElem?_cons_succ] at q0 q1 q2 q3 q4 q5); go_simp; (try with_reducible rfl))
      try simp only [Act.put, List.setIfInBounds_toArray, List.set_cons_zero, List.set_cons_succ]
      refine wpAnyH_take (i := 26) (oi := { dst := some 60, op := Op.binOp BinOp.eql 3 (Operand.tmp 59) (Operand.const (Value.int IntKind.i64 0)) 3, type := 4, pos := "law.go:191", after := #[{ on := 25, ground := Ground.data }, { on := 22, ground := Ground.guard }], guard := some (22, false) }) (v := ?vu385) rfl (by kernel_rfl) (by kernel_rfl) (by kernel_rfl) (fun _ _ _ h => h) (Or.inl ⟨by rfl, ?hyu385⟩) (by assumption) ?restu385
      case hyu385 => (intro w hSw; (try dsimp only at hSw); go_simp; (try with_reducible rfl))
      try simp only [Act.put, List.setIfInBounds_toArray, List.set_cons_zero, List.set_cons_succ]
      refine wpAnyH_take (i := 27) (oi := { dst := some 61, op := Op.binOp BinOp.neq 4 (Operand.tmp 57) (Operand.tmp 60) 4, type := 4, pos := "law.go:191", after := #[{ on := 23, ground := Ground.data }, { on := 26, ground := Ground.data }, { on := 22, ground := Ground.guard }], guard := some (22, false) }) (v := ?vu386) rfl (by kernel_rfl) (by kernel_rfl) (by kernel_rfl) (fun _ _ _ h => h) (Or.inl ⟨by rfl, ?hyu386⟩) (by assumption) ?restu386
      case hyu386 => (intro w hSw; (try dsimp only at hSw); go_simp; (try with_reducible rfl))
      try simp only [Act.put, List.setIfInBounds_toArray, List.set_cons_zero, List.set_cons_succ]
      refine wpAnyH_take (i := 28) (oi := { dst := some 62, op := Op.pick (Operand.tmp 56) (Operand.const (Value.bool true)) (Operand.tmp 61), type := 4, pos := "law.go:191", after := #[{ on := 22, ground := Ground.data }, { on := 27, ground := Ground.data }], guard := none }) (v := ?vu387) rfl (by kernel_rfl) (by kernel_rfl) (by kernel_rfl) (fun _ _ _ h => h) (Or.inl ⟨by rfl, ?hyu387⟩) (by assumption) ?restu387
      case hyu387 => (intro w hSw; (try dsimp only at hSw); go_simp; (try with_reducible rfl))
      try simp only [Act.put, List.setIfInBounds_toArray, List.set_cons_zero, List.set_cons_succ]
      refine wpAnyH_done (by kernel_rfl) ?_ _
      have HBz : Hid (Below w.heap.size w z2) := below_step HB8.out HZ2.out
      have hez := (HZ2.out.block _ (lt_of_heap HE8.out)).trans HE8.out
      have HEz : Hid (z2.heap[w6.heap.size]? = some (.cells #[.int .i64 2, .int .i64 0, .int .i64 m] 37)) := hez
      have q0 : z2.cell? ⟨w6.heap.size, 0, none⟩ = some (.int .i64 2) := by rw [cell_of_row _ _ _ _ _ _ hez]; rfl
      have q1 : z2.cell? ⟨w6.heap.size, 1, none⟩ = some (.int .i64 0) := by rw [cell_of_row _ _ _ _ _ _ hez]; rfl
      have q2 : z2.cell? ⟨w6.heap.size, 2, none⟩ = some (.int .i64 m) := by rw [cell_of_row _ _ _ _ _ _ hez]; rfl
      clear hez
      go_wp2_with (go_at_call 9; fail)
      refine (awake_of C D _).mono ?_
      rintro e w9 ⟨rfl, b9⟩
      have HB9 : Hid (Below w.heap.size w w9) := below_step HBz.out b9
      clear b9
      go_wp2
      go_ret
      exact ⟨rfl, HB9.out⟩
    | nilB => exact absurd rfl HNL.out
end Go.Proofs.Ytgighebohbpkiaa
