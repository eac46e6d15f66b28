/- Same. -/
import Derived.Test.YtbgkfjelgnbfmaaGreatDoorPsa
import Derived.Deep.RegionHeld3
import Derived.Carry
namespace Go.Proofs.YtbgkfjelgnbfmaaGreatDoor
open Go.RowKit Fo
set_option maxRecDepth 100000
set_option linter.unusedSimpArgs false
set_option linter.unusedVariables false

namespace Fo
theorem least_of (p : Nat → Prop) (h : ∃ n, p n) : ∃ n, p n ∧ ∀ m, p m → n ≤ m := by
  obtain ⟨n, hn⟩ := h
  induction n using Nat.strongRecOn with
  | ind n ih =>
    by_cases hm : ∃ m, m < n ∧ p m
    · obtain ⟨m, h1, h2⟩ := hm
      exact ih m h1 h2
    · exact ⟨n, hn, fun m hp => by
        rcases Nat.lt_or_ge m n with h | h
        · exact absurd ⟨m, h, hp⟩ hm
        · exact h⟩
theorem ep_spec (p : Nat → Prop) (h : ∃ n, p n) : p (Classical.epsilon fun N => p N ∧ ∀ M, p M → N ≤ M) ∧ ∀ M, p M → (Classical.epsilon fun N => p N ∧ ∀ M, p M → N ≤ M) ≤ M :=
  Classical.epsilon_spec (p := fun N => p N ∧ ∀ M, p M → N ≤ M) (least_of p h)
def SameR (B : Nat) (F : Nat → Prop) (r : Bool) (v5 v6 : Value) (wr : World) (N : Nat) : Prop := ∃ (aL aR : Option Addr) (n cL cR : Nat) (VL VR : Nat → PV) (Lt Rt : List PT), v5 = .slice aL n cL ∧ v6 = .slice aR n cR ∧ OwP B wr v5 n VL ∧ OwP B wr v6 n VR ∧ (∀ g, v5.ownBlock = some g → v6.ownBlock ≠ some g) ∧ Trs F wr VL Lt ∧ Trs F wr VR Rt ∧ Lt.length = n ∧ Rt.length = n ∧ sames Lt Rt = r ∧ nds Lt = N
theorem one_trs {F : Nat → Prop} {w : World} {x : PV} {t : PT} (h : IsP F w x t) : Trs F w (fun _ => x) [t] := fun j hj => by
  obtain rfl : j = 0 := by simpa using hj
  exact h
theorem kp_grow {w w' : World} {ob : Option Nat} {b : Nat} (h : w.grownBy w' ob) (e : ob = some b) : Kp (fun g => g = b) w w' := Kp.of_grown (F := fun g => g = b) h fun g hg => by rw [e] at hg; exact (Option.some.inj hg).symm
theorem kp_grow_drew {w w' : World} {ob : Option Nat} {b : Nat} (h : w.drew.grownBy w' ob) (e : ob = some b) : Kp (fun g => g = b) w w' := (Kp.of_below (F := fun g => g = b) (below_refl w).drew).trans (kp_grow h e) fun _ _ h => h
theorem PRow.kp0 {F : Nat → Prop} {w w' : World} {a : Option Addr} {len cap : Nat} {V : Nat → PV} (h : PRow F w a len cap V) (hb : Below w.heap.size w w') : PRow F w' a len cap V := h.kp (Kp.of_below (F := fun _ => False) hb) (fun _ _ h => h) fun _ _ h => h
theorem Trs.cat {F : Nat → Prop} {w : World} {V V2 : Nat → PV} {L ks : List PT} {i : Nat} (h : Trs F w V L) (k : Trs F w V2 ks) (hl : L.length = i) : Trs F w (catP V i V2) (L ++ ks) := fun j hj => by
  unfold catP
  by_cases e : j < i
  · rw [if_pos e, List.getElem_append_left (by omega)]; exact h j (by omega)
  · rw [if_neg e, List.getElem_append_right (by omega)]
    have := k (j - i) (by simp at hj; omega)
    simpa [hl] using this
theorem below9 {w w8 w9 : World} {b : Nat} (h : Below w.heap.size w w8) (k : Kp (fun g => g = b) w8 w9) (hb : w.heap.size ≤ b) : Below w.heap.size w w9 :=
  h.trans (k.below h.size fun g hg e => by have e : g = b := e; omega)
theorem snoc_of {l : List PT} {i : Nat} (h : l.length = i + 1) : ∃ m t, l = m ++ [t] ∧ m.length = i := by
  have hne : l ≠ [] := by rintro rfl; simp at h
  exact ⟨l.dropLast, l.getLast hne, (List.dropLast_concat_getLast hne).symm, by simp [h]⟩
end Fo
set_option maxHeartbeats 16000000 in
theorem same_any (t u : PT) (ht : chk t = 0) (F : Nat → Prop) (w : World) (x y : PV) (hx : IsP F w x t) (hy : IsP F w y u) :
    Calls Tryz.prog 17 #[x.v, y.v] w fun e w' => e = .returned (.bool (same t u)) ∧ Below w.heap.size w w' := by
  obtain ⟨r, hr⟩ : ∃ r, r = same t u := ⟨_, rfl⟩
  have HR : Hid (r = same t u) := hr
  rw [← hr]
  have HD : Hid (¬ ((min (deep t) 41 : Nat) : Int) > 40) := by
    have := (chk_zero ht).1
    show ¬ _
    omega
  have HN : Hid (nd t ≤ 3839) := nd_chk ht
  have HX : Hid (IsP (fun b => F b ∧ b < w.heap.size) w x t) := hx.lt
  have HY : Hid (IsP (fun b => F b ∧ b < w.heap.size) w y u) := hy.lt
  clear hx hy ht hr
  obtain ⟨kind, label, a, len, cap, lo', hi'⟩ := x
  obtain ⟨kind2, label2, a2, len2, cap2, lo2, hi2⟩ := y
  unfold PV.v
  obtain ⟨W1, hW1⟩ : ∃ W, W = (w.alloc (.cells #[.int .i64 kind, .string label, .slice a len cap, .int .i64 lo', .int .i64 hi'] 25)).alloc (.cells #[.int .i64 kind2, .string label2, .slice a2 len2 cap2, .int .i64 lo2, .int .i64 hi2] 25) := ⟨_, rfl⟩
  have HB1 : Hid (Below w.heap.size w W1) := by show Below _ _ _; rw [hW1]; exact (below1 w _).alloc (by simp) _
  have HG1 : Hid (W1.heap[w.heap.size]? = some (.cells #[.int .i64 kind, .string label, .slice a len cap, .int .i64 lo', .int .i64 hi'] 25)) := by show W1.heap[_]? = _; rw [hW1]; exact heap_new2 w _ _
  have HH1 : Hid (W1.heap[w.heap.size + 1]? = some (.cells #[.int .i64 kind2, .string label2, .slice a2 len2 cap2, .int .i64 lo2, .int .i64 hi2] 25)) := by
    show W1.heap[_]? = _
    rw [hW1]
    have := heap_new1 (w.alloc (.cells #[.int .i64 kind, .string label, .slice a len cap, .int .i64 lo', .int .i64 hi'] 25)) (.cells #[.int .i64 kind2, .string label2, .slice a2 len2 cap2, .int .i64 lo2, .int .i64 hi2] 25)
    simpa using this
  go_enter Tryz.func17, Tryz.ntmps17
  go_wp2
  rw [← hW1]
  clear hW1
  have c0 := cell_of_row _ _ 0 _ _ _ HG1.out
  have c1 := cell_of_row _ _ 1 _ _ _ HG1.out
  have c2 := cell_of_row _ _ 2 _ _ _ HG1.out
  have c3 := cell_of_row _ _ 3 _ _ _ HG1.out
  have c4 := cell_of_row _ _ 4 _ _ _ HG1.out
  simp only [List.getElem?_toArray, List.getElem?_cons_zero, List.getElem?_cons_succ] at c0 c1 c2 c3 c4
  have d0 := cell_of_row _ _ 0 _ _ _ HH1.out
  have d1 := cell_of_row _ _ 1 _ _ _ HH1.out
  have d2 := cell_of_row _ _ 2 _ _ _ HH1.out
  have d3 := cell_of_row _ _ 3 _ _ _ HH1.out
  have d4 := cell_of_row _ _ 4 _ _ _ HH1.out
  simp only [List.getElem?_toArray, List.getElem?_cons_zero, List.getElem?_cons_succ] at d0 d1 d2 d3 d4
  go_region_held3 (fun w' => w'.cell? ⟨w.heap.size, 0, none⟩ = some (.int .i64 kind) ∧ w'.cell? ⟨w.heap.size, 1, none⟩ = some (.string label) ∧ w'.cell? ⟨w.heap.size, 2, none⟩ = some (.slice a len cap) ∧ w'.cell? ⟨w.heap.size, 3, none⟩ = some (.int .i64 lo') ∧ w'.cell? ⟨w.heap.size, 4, none⟩ = some (.int .i64 hi') ∧ w'.cell? ⟨w.heap.size + 1, 0, none⟩ = some (.int .i64 kind2) ∧ w'.cell? ⟨w.heap.size + 1, 1, none⟩ = some (.string label2) ∧ w'.cell? ⟨w.heap.size + 1, 2, none⟩ = some (.slice a2 len2 cap2) ∧ w'.cell? ⟨w.heap.size + 1, 3, none⟩ = some (.int .i64 lo2) ∧ w'.cell? ⟨w.heap.size + 1, 4, none⟩ = some (.int .i64 hi2)) (first | exact ⟨c0, c1, c2, c3, c4, d0, d1, d2, d3, d4⟩ | go_keep) (first | (go_at_call 999; fail))
  · obtain ⟨W3, hW3⟩ : ∃ W, W = ((W1.alloc (.cells #[.int .i64 kind, .string label, .slice a len cap, .int .i64 lo', .int .i64 hi'] 25)).alloc (.cells #[.int .i64 kind2, .string label2, .slice a2 len2 cap2, .int .i64 lo2, .int .i64 hi2] 25)).drew := ⟨_, rfl⟩
    have b3 : Below W1.heap.size W1 W3 := by rw [hW3]; exact ((below1 W1 _).alloc (by simp) _).drew
    have HB3 : Hid (Below w.heap.size w W3) := below_step HB1.out b3
    have HG3 : Hid (W3.heap[w.heap.size]? = some (.cells #[.int .i64 kind, .string label, .slice a len cap, .int .i64 lo', .int .i64 hi'] 25)) := (b3.block _ (lt_of_heap HG1.out)).trans HG1.out
    have HOL : Hid (OwP w.heap.size W3 (.slice (some ⟨W1.heap.size, 0, none⟩) 1 1) 1 fun _ => ⟨kind, label, a, len, cap, lo', hi'⟩) := by
      have := (OwP.one W1 w.heap.size ⟨kind, label, a, len, cap, lo', hi'⟩ HB1.out.size).below (((below1 (W1.alloc (.cells #[.int .i64 kind, .string label, .slice a len cap, .int .i64 lo', .int .i64 hi'] 25)) (.cells #[.int .i64 kind2, .string label2, .slice a2 len2 cap2, .int .i64 lo2, .int .i64 hi2] 25))).drew)
      show OwP _ _ _ _ _
      rw [hW3]
      simpa using this
    have HOR : Hid (OwP w.heap.size W3 (.slice (some ⟨W1.heap.size + 1, 0, none⟩) 1 1) 1 fun _ => ⟨kind2, label2, a2, len2, cap2, lo2, hi2⟩) := by
      have := (OwP.one (W1.alloc (.cells #[.int .i64 kind, .string label, .slice a len cap, .int .i64 lo', .int .i64 hi'] 25)) w.heap.size ⟨kind2, label2, a2, len2, cap2, lo2, hi2⟩ (Nat.le_trans HB1.out.size (below1 W1 _).size)).below (below_refl _).drew
      show OwP _ _ _ _ _
      rw [hW3]
      simpa using this
    have HNE : Hid (∀ g, (Value.slice (some ⟨W1.heap.size, 0, none⟩) 1 1).ownBlock = some g → (Value.slice (some ⟨W1.heap.size + 1, 0, none⟩) 1 1).ownBlock ≠ some g) := by
      intro g h1 h2
      have h1 : W1.heap.size = g := Option.some.inj h1
      have h2 : W1.heap.size + 1 = g := Option.some.inj h2
      omega
    rw [← hW3]
    clear hW3 b3 c0 c1 c2 c3 c4 d0 d1 d2 d3 d4
    have HIX : Hid (IsP (fun b => F b ∧ b < w.heap.size) W3 ⟨kind, label, a, len, cap, lo', hi'⟩ t) := HX.out.bel HB3.out
    have HIY : Hid (IsP (fun b => F b ∧ b < w.heap.size) W3 ⟨kind2, label2, a2, len2, cap2, lo2, hi2⟩ u) := HY.out.bel HB3.out
    have c0 := cell_of_row _ _ 0 _ _ _ HG3.out
    have c1 := cell_of_row _ _ 1 _ _ _ HG3.out
    have c2 := cell_of_row _ _ 2 _ _ _ HG3.out
    have c3 := cell_of_row _ _ 3 _ _ _ HG3.out
    have c4 := cell_of_row _ _ 4 _ _ _ HG3.out
    simp only [List.getElem?_toArray, List.getElem?_cons_zero, List.getElem?_cons_succ] at c0 c1 c2 c3 c4
    go_wp2_with (go_at_call 20; fail)
    refine (deep_any t _ W3 ⟨kind, label, a, len, cap, lo', hi'⟩ HIX.out).mono ?_
    rintro e w4 ⟨rfl, b⟩
    have hd := HD.out
    generalize ((min (deep t) 41 : Nat) : Int) = dp at hd ⊢
    have hdd : decide (40 < dp) = false := by simp; omega
    have HB4 : Hid (Below w.heap.size w w4) := below_step HB3.out b
    have HL4 : Hid (OwP w.heap.size w4 (.slice (some ⟨W1.heap.size, 0, none⟩) 1 1) 1 fun _ => ⟨kind, label, a, len, cap, lo', hi'⟩) := HOL.out.below b
    have HR4 : Hid (OwP w.heap.size w4 (.slice (some ⟨W1.heap.size + 1, 0, none⟩) 1 1) 1 fun _ => ⟨kind2, label2, a2, len2, cap2, lo2, hi2⟩) := HOR.out.below b
    have HX4 : Hid (IsP (fun b => F b ∧ b < w.heap.size) w4 ⟨kind, label, a, len, cap, lo', hi'⟩ t) := HIX.out.bel b
    have HY4 : Hid (IsP (fun b => F b ∧ b < w.heap.size) w4 ⟨kind2, label2, a2, len2, cap2, lo2, hi2⟩ u) := HIY.out.bel b
    clear b HB3 HOL HOR HIX HIY HG3 c0 c1 c2 c3 c4 HB1 HG1 HH1 HX HY HD
    have hmm : ∀ (t : TypeId) (w : World), (Instr.makeMap t none).run Tryz.prog w = .ok (.map (some w.heap.size)) (w.alloc (.map #[] 0)) := fun t w => run_makeMap t w
    go_wp2
    clear hmm hdd
    obtain ⟨W5, hW5⟩ : ∃ W, W = w4.alloc (.map #[] 0) := ⟨_, rfl⟩
    have b5 : Below w4.heap.size w4 W5 := by rw [hW5]; exact below1 w4 _
    have HB5 : Hid (Below w.heap.size w W5) := below_step HB4.out b5
    have HS5 : Hid (SameR w.heap.size (fun b => F b ∧ b < w.heap.size) r (.slice (some ⟨W1.heap.size, 0, none⟩) 1 1) (.slice (some ⟨W1.heap.size + 1, 0, none⟩) 1 1) W5 (nd t)) :=
      ⟨_, _, 1, 1, 1, _, _, [t], [u], rfl, rfl, HL4.out.below b5, HR4.out.below b5, HNE.out, one_trs (HX4.out.bel b5), one_trs (HY4.out.bel b5), rfl, rfl, by rw [HR.out, sames, sames, Bool.and_true], by rw [nds, nds]; rfl⟩
    rw [← hW5]
    clear hW5 b5 HB4 HL4 HR4 HX4 HY4 HNE
    obtain ⟨mu, hmu⟩ : ∃ mu : Value → Value → World → Nat, ∀ v5 v6 wr, (∃ N, SameR w.heap.size (fun b => F b ∧ b < w.heap.size) r v5 v6 wr N) → SameR w.heap.size (fun b => F b ∧ b < w.heap.size) r v5 v6 wr (mu v5 v6 wr) ∧ ∀ M, SameR w.heap.size (fun b => F b ∧ b < w.heap.size) r v5 v6 wr M → mu v5 v6 wr ≤ M := ⟨fun v5 v6 wr => Classical.epsilon fun N => SameR w.heap.size (fun b => F b ∧ b < w.heap.size) r v5 v6 wr N ∧ ∀ M, SameR w.heap.size (fun b => F b ∧ b < w.heap.size) r v5 v6 wr M → N ≤ M, fun v5 v6 wr h => ep_spec _ h⟩
    have HMU : Hid (∀ v5 v6 wr, (∃ N, SameR w.heap.size (fun b => F b ∧ b < w.heap.size) r v5 v6 wr N) → SameR w.heap.size (fun b => F b ∧ b < w.heap.size) r v5 v6 wr (mu v5 v6 wr) ∧ ∀ M, SameR w.heap.size (fun b => F b ∧ b < w.heap.size) r v5 v6 wr M → mu v5 v6 wr ≤ M) := hmu
    clear hmu
    go_loopw [5, 6] (fun v5 v6 wr => Hid (Below w.heap.size w wr) ∧ ∃ N, N ≤ 3839 ∧ SameR w.heap.size (fun b => F b ∧ b < w.heap.size) r v5 v6 wr N) (fun v5 v6 wr => mu v5 v6 wr)
    case atStart => exact ⟨HB5.out, nd t, HN.out, HS5.out⟩
    case round =>
      obtain ⟨HB, N, hN, hS⟩ := hrel
      rename World => wr
      obtain ⟨hs, hmin⟩ := HMU.out _ _ _ ⟨N, hS⟩
      obtain ⟨aL, aR, n, cL, cR, VL, VR, Lt, Rt, rfl, rfl, hol, hor, hne, htl, htr, hll, hlr, hsm, hnd⟩ := hs
      have HBND : Hid (nds Lt ≤ 3839) := by show _ ≤ _; rw [hnd]; exact Nat.le_trans (hmin N hS) hN
      have HND : Hid (nds Lt = mu (.slice aL n cL) (.slice aR n cR) wr) := hnd
      clear hN hS hmin hnd HB5 HS5
      cases n with
      | zero =>
        obtain rfl : Lt = [] := List.eq_nil_of_length_eq_zero hll
        obtain rfl : Rt = [] := List.eq_nil_of_length_eq_zero hlr
        rw [sames] at hsm
        clear hol hor hne htl htr hll hlr
        go_wp2
        go_ret
        exact ⟨by subst hsm; rfl, HB.out⟩
      | succ i =>
        obtain ⟨L, tl, rfl, hl⟩ := snoc_of hll
        obtain ⟨R, tr, rfl, hl2⟩ := snoc_of hlr
        obtain ⟨a1, c1, e1, pl⟩ := hol.row
        injection e1 with e1 e2 e3
        subst e1 e3
        obtain ⟨a1, c1, e1, pr⟩ := hor.row
        injection e1 with e1 e2 e3
        subst e1 e3
        have hcl := pl.2.1
        have hcr := pr.2.1
        have hkl := pl.1
        have hkr := pr.1
        obtain ⟨bL, oL, rfl, hbL, hcL⟩ := pl.2.2.resolve_left (by omega)
        obtain ⟨bR, oR, rfl, hbR, hcR⟩ := pr.2.2.resolve_left (by omega)
        have hPL := hcL i (by omega)
        have hPR := hcR i (by omega)
        have hIL : IsP (fun b => F b ∧ b < w.heap.size) wr (VL i) tl := by
          have := htl i (by simp; omega)
          rwa [show (L ++ [tl])[i]'(by simp; omega) = tl by rw [List.getElem_append_right (by omega)]; simp [hl]] at this
        have hIR : IsP (fun b => F b ∧ b < w.heap.size) wr (VR i) tr := by
          have := htr i (by simp; omega)
          rwa [show (R ++ [tr])[i]'(by simp; omega) = tr by rw [List.getElem_append_right (by omega)]; simp [hl2]] at this
        have HTL : Hid (Trs (fun b => F b ∧ b < w.heap.size) wr VL L) := fun j hj => by
          have := htl j (by simp; omega)
          rwa [List.getElem_append_left hj] at this
        have HTR : Hid (Trs (fun b => F b ∧ b < w.heap.size) wr VR R) := fun j hj => by
          have := htr j (by simp; omega)
          rwa [List.getElem_append_left hj] at this
        have HOL : Hid (OwP w.heap.size wr (.slice (some ⟨bL, oL, none⟩) i cL) i VL) := hol.head i (by omega)
        have HOR : Hid (OwP w.heap.size wr (.slice (some ⟨bR, oR, none⟩) i cR) i VR) := hor.head i (by omega)
        have HLL : Hid (L.length = i ∧ R.length = i) := ⟨hl, hl2⟩
        have HNE : Hid (bL ≠ bR) := fun h => hne bL hbL (by rw [hbR, h])
        have HBLR : Hid ((Value.slice (some ⟨bL, oL, none⟩) i cL).ownBlock = some bL ∧ (Value.slice (some ⟨bR, oR, none⟩) i cR).ownBlock = some bR) := ⟨hbL, hbR⟩
        obtain ⟨x, hx⟩ : ∃ x, x = VL i := ⟨_, rfl⟩
        obtain ⟨y, hy⟩ : ∃ y, y = VR i := ⟨_, rfl⟩
        rw [← hx] at hPL hIL
        rw [← hy] at hPR hIR
        clear hx hy hcL hcR htl htr hol hor hne hll hlr hbL hbR pl pr
        obtain ⟨k0, k1, k2, k3, k4, k5, k6⟩ := x
        obtain ⟨l0, l1, l2, l3, l4, l5, l6⟩ := y
        obtain ⟨c0, c1, c2, c3, c4⟩ := hPL
        obtain ⟨d0, d1, d2, d3, d4⟩ := hPR
        simp only at c0 c1 c2 c3 c4 d0 d1 d2 d3 d4
        obtain ⟨V, ks, rfl, hks, hpr, hkt⟩ := hIL.inv
        obtain ⟨V2, ks2, rfl, hks2, hpr2, hkt2⟩ := hIR.inv
        have hsq := hsm
        rw [sames_app L R _ _ (by rw [hl, hl2]), sames, sames, Bool.and_true, same_sal (F := F) (F' := F) (w := w) (w' := w) (x := ⟨k0, k1, k2, k3, k4, k5, k6⟩) (y := ⟨l0, l1, l2, l3, l4, l5, l6⟩) (V := V) (V' := V) hks hks2] at hsq
        have HSQ : Hid ((sames L R && (sal ⟨k0, k1, k2, k3, k4, k5, k6⟩ ⟨l0, l1, l2, l3, l4, l5, l6⟩ && sames ks ks2)) = r) := hsq
        have HND2 : Hid (nds L + (1 + nds ks) = mu (.slice (some ⟨bL, oL, none⟩) (i + 1) cL) (.slice (some ⟨bR, oR, none⟩) (i + 1) cR) wr ∧ nds L + (1 + nds ks) ≤ 3839) := by
          have h1 := HND.out
          have h2 := HBND.out
          have h3 : nds (L ++ [PT.mk k0 k1.data.toList ks k5 k6]) = nds L + (1 + nds ks) := by rw [nds_app, nds, nds, nd, Nat.add_zero]
          rw [h3] at h1 h2
          exact ⟨h1, h2⟩
        have HPX : Hid (PRow (fun b => F b ∧ b < w.heap.size) wr k2 k3 k4 V) := hpr
        have HPY : Hid (PRow (fun b => F b ∧ b < w.heap.size) wr l2 l3 l4 V2) := hpr2
        have HKX : Hid (Trs (fun b => F b ∧ b < w.heap.size) wr V ks) := hkt
        have HKY : Hid (Trs (fun b => F b ∧ b < w.heap.size) wr V2 ks2) := hkt2
        have HKL : Hid (ks.length = k3 ∧ ks2.length = l3) := ⟨hks, hks2⟩
        clear hsq hsm hpr hpr2 hkt hkt2 hks hks2 hIL hIR hl hl2 HND HBND
        have HKL2 : Hid (k3 ≤ 9223372036854775807 ∧ l3 ≤ 9223372036854775807) := ⟨Nat.le_trans HPX.out.1 HPX.out.2.1, Nat.le_trans HPY.out.1 HPY.out.2.1⟩
        have j1 : (0 : Int) ≤ (i : Int) := by omega
        have j2 : (i : Int) < ((i : Int) + 1) := by omega
        go_wp2
        go_region_held3 (fun w' => w'.cell? ⟨bL, oL + i * 5, none⟩ = some (.int .i64 k0) ∧ w'.cell? ⟨bL, oL + i * 5 + 1, none⟩ = some (.string k1) ∧ w'.cell? ⟨bL, oL + i * 5 + 2, none⟩ = some (.slice k2 k3 k4) ∧ w'.cell? ⟨bL, oL + i * 5 + 3, none⟩ = some (.int .i64 k5) ∧ w'.cell? ⟨bL, oL + i * 5 + 4, none⟩ = some (.int .i64 k6) ∧ w'.cell? ⟨bR, oR + i * 5, none⟩ = some (.int .i64 l0) ∧ w'.cell? ⟨bR, oR + i * 5 + 1, none⟩ = some (.string l1) ∧ w'.cell? ⟨bR, oR + i * 5 + 2, none⟩ = some (.slice l2 l3 l4) ∧ w'.cell? ⟨bR, oR + i * 5 + 3, none⟩ = some (.int .i64 l5) ∧ w'.cell? ⟨bR, oR + i * 5 + 4, none⟩ = some (.int .i64 l6)) (first | exact ⟨c0, c1, c2, c3, c4, d0, d1, d2, d3, d4⟩ | go_keep) (first | (go_at_call 999; fail))
        · obtain ⟨W7, hW7⟩ : ∃ W, W = ((wr.alloc (.cells #[.int .i64 k0, .string k1, .slice k2 k3 k4, .int .i64 k5, .int .i64 k6] 25)).alloc (.cells #[.int .i64 l0, .string l1, .slice l2 l3 l4, .int .i64 l5, .int .i64 l6] 25)).drew := ⟨_, rfl⟩
          have b7 : Below wr.heap.size wr W7 := by rw [hW7]; exact ((below1 wr _).alloc (by simp) _).drew
          have HGX : Hid (W7.heap[wr.heap.size]? = some (.cells #[.int .i64 k0, .string k1, .slice k2 k3 k4, .int .i64 k5, .int .i64 k6] 25)) := by show W7.heap[_]? = _; rw [hW7]; exact heap_new2 wr _ _
          have HGY : Hid (W7.heap[wr.heap.size + 1]? = some (.cells #[.int .i64 l0, .string l1, .slice l2 l3 l4, .int .i64 l5, .int .i64 l6] 25)) := by
            show W7.heap[_]? = _
            rw [hW7]
            have := heap_new1 (wr.alloc (.cells #[.int .i64 k0, .string k1, .slice k2 k3 k4, .int .i64 k5, .int .i64 k6] 25)) (.cells #[.int .i64 l0, .string l1, .slice l2 l3 l4, .int .i64 l5, .int .i64 l6] 25)
            simpa [World.drew] using this
          rw [← hW7]
          clear hW7 c0 c1 c2 c3 c4 d0 d1 d2 d3 d4
          obtain ⟨gx, hgx⟩ : ∃ g, g = wr.heap.size := ⟨_, rfl⟩
          obtain ⟨gy, hgy⟩ : ∃ g, g = wr.heap.size + 1 := ⟨_, rfl⟩
          rw [← hgx] at HGX
          rw [← hgy] at HGY
          have HQX : Hid (gx = wr.heap.size) := hgx
          have HQY : Hid (gy = wr.heap.size + 1) := hgy
          first | rw [← hgx, ← hgy] | rw [← hgy, ← hgx]
          have HGL : Hid (wr.heap.size ≤ gx ∧ wr.heap.size ≤ gy) := ⟨by rw [hgx]; first | exact Nat.le_refl _ | exact Nat.le_succ _, by rw [hgy]; first | exact Nat.le_refl _ | exact Nat.le_succ _⟩
          clear hgx hgy
          have j3 : (i : Int) ≤ (cL : Int) := by omega
          have j4 : (i : Int) ≤ (cR : Int) := by omega
          have c0 := cell_of_row _ _ 0 _ _ _ HGX.out
          have c1 := cell_of_row _ _ 1 _ _ _ HGX.out
          have c2 := cell_of_row _ _ 2 _ _ _ HGX.out
          have c3 := cell_of_row _ _ 3 _ _ _ HGX.out
          have c4 := cell_of_row _ _ 4 _ _ _ HGX.out
          simp only [List.getElem?_toArray, List.getElem?_cons_zero, List.getElem?_cons_succ] at c0 c1 c2 c3 c4
          have d0 := cell_of_row _ _ 0 _ _ _ HGY.out
          have d1 := cell_of_row _ _ 1 _ _ _ HGY.out
          have d2 := cell_of_row _ _ 2 _ _ _ HGY.out
          have d3 := cell_of_row _ _ 3 _ _ _ HGY.out
          have d4 := cell_of_row _ _ 4 _ _ _ HGY.out
          simp only [List.getElem?_toArray, List.getElem?_cons_zero, List.getElem?_cons_succ] at d0 d1 d2 d3 d4
          go_wp2
          go_quiet (fail)
          go_wp2_with (go_at_call 37; fail)
          refine (alone_any ⟨k0, k1, k2, k3, k4, k5, k6⟩ ⟨l0, l1, l2, l3, l4, l5, l6⟩ _ HKL2.out.1 HKL2.out.2).mono ?_
          rintro e w8 ⟨rfl, b8⟩
          replace b8 : Below W7.heap.size W7 w8 := below_step (below_drewN (below_refl W7) _) b8
          have HB8 : Hid (Below w.heap.size w w8) := below_step HB.out (below_step b7 b8)
          have HWR : Hid (Below wr.heap.size wr w8) := below_step b7 b8
          have HX8 : Hid (w8.heap[gx]? = some (.cells #[.int .i64 k0, .string k1, .slice k2 k3 k4, .int .i64 k5, .int .i64 k6] 25)) := (b8.block _ (lt_of_heap HGX.out)).trans HGX.out
          have HY8 : Hid (w8.heap[gy]? = some (.cells #[.int .i64 l0, .string l1, .slice l2 l3 l4, .int .i64 l5, .int .i64 l6] 25)) := (b8.block _ (lt_of_heap HGY.out)).trans HGY.out
          clear b7 b8 HGX HGY c0 c1 c2 c3 c4 d0 d1 d2 d3 d4 HQX HQY
          obtain ⟨bs, hbs⟩ : ∃ q, q = sal ⟨k0, k1, k2, k3, k4, k5, k6⟩ ⟨l0, l1, l2, l3, l4, l5, l6⟩ := ⟨_, rfl⟩
          have hq := HSQ.out
          rw [← hbs] at hq ⊢
          clear HSQ
          cases bs with
          | false =>
            rw [Bool.false_and, Bool.and_false] at hq
            clear hbs
            replace hq := hq.symm
            subst hq
            go_wp2
            go_ret
            exact ⟨rfl, HB8.out⟩
          | true =>
          have hkl : l3 = k3 := by
            have h := hbs.symm
            unfold sal at h
            simp only [Bool.and_eq_true, decide_eq_true_eq] at h
            exact h.1.2.symm
          subst hkl
          rw [Bool.true_and, ← sames_app L R ks ks2 (by rw [HLL.out.1, HLL.out.2])] at hq
          have HSQ : Hid (sames (L ++ ks) (R ++ ks2) = r) := hq
          clear hq hbs
          have c0 := cell_of_row _ _ 0 _ _ _ HX8.out
          have c1 := cell_of_row _ _ 1 _ _ _ HX8.out
          have c2 := cell_of_row _ _ 2 _ _ _ HX8.out
          have c3 := cell_of_row _ _ 3 _ _ _ HX8.out
          have c4 := cell_of_row _ _ 4 _ _ _ HX8.out
          simp only [List.getElem?_toArray, List.getElem?_cons_zero, List.getElem?_cons_succ] at c0 c1 c2 c3 c4
          have d0 := cell_of_row _ _ 0 _ _ _ HY8.out
          have d1 := cell_of_row _ _ 1 _ _ _ HY8.out
          have d2 := cell_of_row _ _ 2 _ _ _ HY8.out
          have d3 := cell_of_row _ _ 3 _ _ _ HY8.out
          have d4 := cell_of_row _ _ 4 _ _ _ HY8.out
          simp only [List.getElem?_toArray, List.getElem?_cons_zero, List.getElem?_cons_succ] at d0 d1 d2 d3 d4
          go_wp2
          have HC8 : Hid (w8.heap.size < 0 + w8.heap.size + 1) := by show _ < _; omega
          have HOL8 : Hid (OwP w.heap.size w8 (.slice (some ⟨bL, oL, none⟩) i cL) i VL) := HOL.out.below HWR.out
          have HOR8 : Hid (OwP w.heap.size w8 (.slice (some ⟨bR, oR, none⟩) i cR) i VR) := HOR.out.below HWR.out
          have HPX8 : Hid (PRow (fun b => F b ∧ b < w.heap.size) w8 k2 l3 k4 V) := HPX.out.kp0 HWR.out
          have HPY8 : Hid (PRow (fun b => F b ∧ b < w.heap.size) w8 l2 l3 l4 V2) := HPY.out.kp0 HWR.out
          have HBD : Hid (i + l3 ≤ 1000000000) := by
            have h1 := HND2.out.2
            have h2 := nds_len L
            have h3 := nds_len ks
            have h4 := HLL.out.1
            have h5 := HKL.out.1
            show _ ≤ _
            omega
          have m0 : True := trivial
          have HBW : Hid (bL < wr.heap.size ∧ bR < wr.heap.size) := ⟨(HOL.out.lt bL HBLR.out.1).2, (HOR.out.lt bR HBLR.out.2).2⟩
          clear HOL HOR HPX HPY
          go_region_held3 (fun w' => w'.cell? ⟨gx, 2, none⟩ = some (.slice k2 l3 k4) ∧ w'.cell? ⟨gy, 2, none⟩ = some (.slice l2 l3 l4)) (first | exact ⟨c2, d2⟩ | exact ⟨e2, e3⟩ | exact ⟨e4, e5⟩ | go_keep) (first
            | (clear m1; refine step_appP (by rfl) _ _ (by rfl) (by first | exact HOR9.out | exact HOR9.out.below (below_refl _).drew) (by first | exact HB9.out.size | exact HB9.out.drew.size) (F := (fun b => F b ∧ b < w.heap.size)) (by first | exact HPY9.out | exact HPY9.out.kp0 (below_refl _).drew) (i + l3) rfl HBD.out (by rfl) (by rfl) ?_; intro a10 c10 w10 hO10 hG10 hA10; have HK10 : Hid (Kp (fun g => g = bR) w9 w10) := (by first | exact kp_grow hG10 HBLR.out.2 | exact kp_grow_drew hG10 HBLR.out.2); have e4 : w10.cell? ⟨gx, 2, none⟩ = some (.slice k2 l3 k4) := HK10.out.cell e2 (fun h => by have h : gx = bR := h; have h1 := HGL.out.1; have h2 := HBW.out.2; omega); have e5 : w10.cell? ⟨gy, 2, none⟩ = some (.slice l2 l3 l4) := HK10.out.cell e3 (fun h => by have h : gy = bR := h; have h1 := HGL.out.2; have h2 := HBW.out.2; omega); have m2 : True := trivial)
            | (clear m0; refine step_appP (by rfl) _ _ (by rfl) (by first | exact HOL8.out | exact HOL8.out.below (below_refl _).drew) (by first | exact HB8.out.size | exact HB8.out.drew.size) (F := (fun b => F b ∧ b < w.heap.size)) (by first | exact HPX8.out | exact HPX8.out.kp0 (below_refl _).drew) (i + l3) rfl HBD.out (by rfl) (by rfl) ?_; intro a9 c9 w9 hO9 hG9 hA9; have HK9 : Hid (Kp (fun g => g = bL) w8 w9) := (by first | exact kp_grow hG9 HBLR.out.1 | exact kp_grow_drew hG9 HBLR.out.1); have HB9 : Hid (Below w.heap.size w w9) := below9 HB8.out HK9.out (HOL8.out.lt bL HBLR.out.1).1; have HOR9 : Hid (OwP w.heap.size w9 (.slice (some ⟨bR, oR, none⟩) i cR) i VR) := HOR8.out.kp HK9.out (fun g hg h => HNE.out (h.symm.trans (Option.some.inj (hg.symm.trans HBLR.out.2)))); have HPY9 : Hid (PRow (fun b => F b ∧ b < w.heap.size) w9 l2 l3 l4 V2) := HPY8.out.kp HK9.out (fun b hb h => by have h : b = bL := h; have := (HOL8.out.lt bL HBLR.out.1).1; have := hb.2; omega) (fun _ _ h => h); have e2 : w9.cell? ⟨gx, 2, none⟩ = some (.slice k2 l3 k4) := HK9.out.cell c2 (fun h => by have h : gx = bL := h; have h1 := HGL.out.1; have h2 := HBW.out.1; omega); have e3 : w9.cell? ⟨gy, 2, none⟩ = some (.slice l2 l3 l4) := HK9.out.cell d2 (fun h => by have h : gy = bL := h; have h1 := HGL.out.2; have h2 := HBW.out.1; omega); have m1 : True := trivial)
            | (go_at_call 999; fail))
          have HFIN : Hid ((Hid (Below w.heap.size w w10) ∧ ∃ N, N ≤ 3839 ∧ SameR w.heap.size (fun b => F b ∧ b < w.heap.size) r (.slice a9 (i + l3) c9) (.slice a10 (i + l3) c10) w10 N) ∧ mu (.slice a9 (i + l3) c9) (.slice a10 (i + l3) c10) w10 < mu (.slice (some ⟨bL, oL, none⟩) (i + 1) cL) (.slice (some ⟨bR, oR, none⟩) (i + 1) cR) wr) := by
            have hb10 : Below w.heap.size w w10 := below9 HB9.out HK10.out (HOR9.out.lt bR HBLR.out.2).1
            have kW : Kp (fun b => w.heap.size ≤ b) wr w10 := (Kp.of_below (F := fun b => w.heap.size ≤ b) HWR.out).trans ((HK9.out.mono (G := fun b => w.heap.size ≤ b) fun b _ h => by have h : b = bL := h; have := (HOL8.out.lt bL HBLR.out.1).1; show w.heap.size ≤ b; omega).trans (HK10.out.mono (G := fun b => w.heap.size ≤ b) fun b _ h => by have h : b = bR := h; have := (HOR9.out.lt bR HBLR.out.2).1; show w.heap.size ≤ b; omega) fun _ _ h => h) fun _ _ h => h
            have hnl : ∀ g, (Value.slice a9 (i + l3) c9).ownBlock = some g → g ≠ bR ∧ g < w9.heap.size := by
              intro g hg
              have h1 := (hO9.lt g hg).2
              rcases hA9 with h | h
              · rw [h, HBLR.out.1] at hg
                have := Option.some.inj hg
                exact ⟨fun e => HNE.out (this.trans e), h1⟩
              · rw [h] at hg
                have hg : w8.heap.size = g := Option.some.inj hg
                have h2 := HBW.out.2
                have h3 := HWR.out.size
                exact ⟨by omega, h1⟩
            have hne : ∀ g, (Value.slice a9 (i + l3) c9).ownBlock = some g → (Value.slice a10 (i + l3) c10).ownBlock ≠ some g := by
              intro g hg h2
              obtain ⟨h3, h4⟩ := hnl g hg
              rcases hA10 with h | h
              · rw [h, HBLR.out.2] at h2
                exact h3 (Option.some.inj h2).symm
              · rw [h] at h2
                have h2 : w9.heap.size = g := Option.some.inj h2
                omega
            have hs : SameR w.heap.size (fun b => F b ∧ b < w.heap.size) r (.slice a9 (i + l3) c9) (.slice a10 (i + l3) c10) w10 (nds (L ++ ks)) :=
              ⟨a9, a10, i + l3, c9, c10, _, _, L ++ ks, R ++ ks2, rfl, rfl, hO9.kp HK10.out (fun g hg h => (hnl g hg).1 h), hO10, hne,
                (HTL.out.cat HKX.out HLL.out.1).kp kW (fun b hb h => by have h : w.heap.size ≤ b := h; have := hb.2; omega) (fun _ _ h => h),
                (HTR.out.cat HKY.out HLL.out.2).kp kW (fun b hb h => by have h : w.heap.size ≤ b := h; have := hb.2; omega) (fun _ _ h => h),
                by rw [List.length_append, HLL.out.1, HKL.out.1], by rw [List.length_append, HLL.out.2, HKL.out.2], HSQ.out, rfl⟩
            have hnd : nds (L ++ ks) = nds L + nds ks := nds_app L ks
            have hle := (HMU.out _ _ _ ⟨_, hs⟩).2 _ hs
            have h1 := HND2.out.1
            have h2 := HND2.out.2
            exact ⟨⟨hb10, _, by omega, hs⟩, by omega⟩
          clear hO9 hG9 hA9 HK9 hO10 hG10 hA10 HK10 e2 e3 e4 e5 m2 HB9 HOR9 HPY9 HOL8 HOR8 HPX8 HPY8
          go_wp2
          exact HFIN.out
        · obtain ⟨W7, hW7⟩ : ∃ W, W = ((wr.alloc (.cells #[.int .i64 l0, .string l1, .slice l2 l3 l4, .int .i64 l5, .int .i64 l6] 25)).alloc (.cells #[.int .i64 k0, .string k1, .slice k2 k3 k4, .int .i64 k5, .int .i64 k6] 25)).drew := ⟨_, rfl⟩
          have b7 : Below wr.heap.size wr W7 := by rw [hW7]; exact ((below1 wr _).alloc (by simp) _).drew
          have HGY : Hid (W7.heap[wr.heap.size]? = some (.cells #[.int .i64 l0, .string l1, .slice l2 l3 l4, .int .i64 l5, .int .i64 l6] 25)) := by show W7.heap[_]? = _; rw [hW7]; exact heap_new2 wr _ _
          have HGX : Hid (W7.heap[wr.heap.size + 1]? = some (.cells #[.int .i64 k0, .string k1, .slice k2 k3 k4, .int .i64 k5, .int .i64 k6] 25)) := by
            show W7.heap[_]? = _
            rw [hW7]
            have := heap_new1 (wr.alloc (.cells #[.int .i64 l0, .string l1, .slice l2 l3 l4, .int .i64 l5, .int .i64 l6] 25)) (.cells #[.int .i64 k0, .string k1, .slice k2 k3 k4, .int .i64 k5, .int .i64 k6] 25)
            simpa [World.drew] using this
          rw [← hW7]
          clear hW7 c0 c1 c2 c3 c4 d0 d1 d2 d3 d4
          obtain ⟨gx, hgx⟩ : ∃ g, g = wr.heap.size + 1 := ⟨_, rfl⟩
          obtain ⟨gy, hgy⟩ : ∃ g, g = wr.heap.size := ⟨_, rfl⟩
          rw [← hgx] at HGX
          rw [← hgy] at HGY
          have HQX : Hid (gx = wr.heap.size + 1) := hgx
          have HQY : Hid (gy = wr.heap.size) := hgy
          first | rw [← hgx, ← hgy] | rw [← hgy, ← hgx]
          have HGL : Hid (wr.heap.size ≤ gx ∧ wr.heap.size ≤ gy) := ⟨by rw [hgx]; first | exact Nat.le_refl _ | exact Nat.le_succ _, by rw [hgy]; first | exact Nat.le_refl _ | exact Nat.le_succ _⟩
          clear hgx hgy
          have j3 : (i : Int) ≤ (cL : Int) := by omega
          have j4 : (i : Int) ≤ (cR : Int) := by omega
          have c0 := cell_of_row _ _ 0 _ _ _ HGX.out
          have c1 := cell_of_row _ _ 1 _ _ _ HGX.out
          have c2 := cell_of_row _ _ 2 _ _ _ HGX.out
          have c3 := cell_of_row _ _ 3 _ _ _ HGX.out
          have c4 := cell_of_row _ _ 4 _ _ _ HGX.out
          simp only [List.getElem?_toArray, List.getElem?_cons_zero, List.getElem?_cons_succ] at c0 c1 c2 c3 c4
          have d0 := cell_of_row _ _ 0 _ _ _ HGY.out
          have d1 := cell_of_row _ _ 1 _ _ _ HGY.out
          have d2 := cell_of_row _ _ 2 _ _ _ HGY.out
          have d3 := cell_of_row _ _ 3 _ _ _ HGY.out
          have d4 := cell_of_row _ _ 4 _ _ _ HGY.out
          simp only [List.getElem?_toArray, List.getElem?_cons_zero, List.getElem?_cons_succ] at d0 d1 d2 d3 d4
          go_wp2
          go_quiet (fail)
          go_wp2_with (go_at_call 37; fail)
          refine (alone_any ⟨k0, k1, k2, k3, k4, k5, k6⟩ ⟨l0, l1, l2, l3, l4, l5, l6⟩ _ HKL2.out.1 HKL2.out.2).mono ?_
          rintro e w8 ⟨rfl, b8⟩
          replace b8 : Below W7.heap.size W7 w8 := below_step (below_drewN (below_refl W7) _) b8
          have HB8 : Hid (Below w.heap.size w w8) := below_step HB.out (below_step b7 b8)
          have HWR : Hid (Below wr.heap.size wr w8) := below_step b7 b8
          have HX8 : Hid (w8.heap[gx]? = some (.cells #[.int .i64 k0, .string k1, .slice k2 k3 k4, .int .i64 k5, .int .i64 k6] 25)) := (b8.block _ (lt_of_heap HGX.out)).trans HGX.out
          have HY8 : Hid (w8.heap[gy]? = some (.cells #[.int .i64 l0, .string l1, .slice l2 l3 l4, .int .i64 l5, .int .i64 l6] 25)) := (b8.block _ (lt_of_heap HGY.out)).trans HGY.out
          clear b7 b8 HGX HGY c0 c1 c2 c3 c4 d0 d1 d2 d3 d4 HQX HQY
          obtain ⟨bs, hbs⟩ : ∃ q, q = sal ⟨k0, k1, k2, k3, k4, k5, k6⟩ ⟨l0, l1, l2, l3, l4, l5, l6⟩ := ⟨_, rfl⟩
          have hq := HSQ.out
          rw [← hbs] at hq ⊢
          clear HSQ
          cases bs with
          | false =>
            rw [Bool.false_and, Bool.and_false] at hq
            clear hbs
            replace hq := hq.symm
            subst hq
            go_wp2
            go_ret
            exact ⟨rfl, HB8.out⟩
          | true =>
          have hkl : l3 = k3 := by
            have h := hbs.symm
            unfold sal at h
            simp only [Bool.and_eq_true, decide_eq_true_eq] at h
            exact h.1.2.symm
          subst hkl
          rw [Bool.true_and, ← sames_app L R ks ks2 (by rw [HLL.out.1, HLL.out.2])] at hq
          have HSQ : Hid (sames (L ++ ks) (R ++ ks2) = r) := hq
          clear hq hbs
          have c0 := cell_of_row _ _ 0 _ _ _ HX8.out
          have c1 := cell_of_row _ _ 1 _ _ _ HX8.out
          have c2 := cell_of_row _ _ 2 _ _ _ HX8.out
          have c3 := cell_of_row _ _ 3 _ _ _ HX8.out
          have c4 := cell_of_row _ _ 4 _ _ _ HX8.out
          simp only [List.getElem?_toArray, List.getElem?_cons_zero, List.getElem?_cons_succ] at c0 c1 c2 c3 c4
          have d0 := cell_of_row _ _ 0 _ _ _ HY8.out
          have d1 := cell_of_row _ _ 1 _ _ _ HY8.out
          have d2 := cell_of_row _ _ 2 _ _ _ HY8.out
          have d3 := cell_of_row _ _ 3 _ _ _ HY8.out
          have d4 := cell_of_row _ _ 4 _ _ _ HY8.out
          simp only [List.getElem?_toArray, List.getElem?_cons_zero, List.getElem?_cons_succ] at d0 d1 d2 d3 d4
          go_wp2
          have HC8 : Hid (w8.heap.size < 0 + w8.heap.size + 1) := by show _ < _; omega
          have HOL8 : Hid (OwP w.heap.size w8 (.slice (some ⟨bL, oL, none⟩) i cL) i VL) := HOL.out.below HWR.out
          have HOR8 : Hid (OwP w.heap.size w8 (.slice (some ⟨bR, oR, none⟩) i cR) i VR) := HOR.out.below HWR.out
          have HPX8 : Hid (PRow (fun b => F b ∧ b < w.heap.size) w8 k2 l3 k4 V) := HPX.out.kp0 HWR.out
          have HPY8 : Hid (PRow (fun b => F b ∧ b < w.heap.size) w8 l2 l3 l4 V2) := HPY.out.kp0 HWR.out
          have HBD : Hid (i + l3 ≤ 1000000000) := by
            have h1 := HND2.out.2
            have h2 := nds_len L
            have h3 := nds_len ks
            have h4 := HLL.out.1
            have h5 := HKL.out.1
            show _ ≤ _
            omega
          have m0 : True := trivial
          have HBW : Hid (bL < wr.heap.size ∧ bR < wr.heap.size) := ⟨(HOL.out.lt bL HBLR.out.1).2, (HOR.out.lt bR HBLR.out.2).2⟩
          clear HOL HOR HPX HPY
          go_region_held3 (fun w' => w'.cell? ⟨gx, 2, none⟩ = some (.slice k2 l3 k4) ∧ w'.cell? ⟨gy, 2, none⟩ = some (.slice l2 l3 l4)) (first | exact ⟨c2, d2⟩ | exact ⟨e2, e3⟩ | exact ⟨e4, e5⟩ | go_keep) (first
            | (clear m1; refine step_appP (by rfl) _ _ (by rfl) (by first | exact HOR9.out | exact HOR9.out.below (below_refl _).drew) (by first | exact HB9.out.size | exact HB9.out.drew.size) (F := (fun b => F b ∧ b < w.heap.size)) (by first | exact HPY9.out | exact HPY9.out.kp0 (below_refl _).drew) (i + l3) rfl HBD.out (by rfl) (by rfl) ?_; intro a10 c10 w10 hO10 hG10 hA10; have HK10 : Hid (Kp (fun g => g = bR) w9 w10) := (by first | exact kp_grow hG10 HBLR.out.2 | exact kp_grow_drew hG10 HBLR.out.2); have e4 : w10.cell? ⟨gx, 2, none⟩ = some (.slice k2 l3 k4) := HK10.out.cell e2 (fun h => by have h : gx = bR := h; have h1 := HGL.out.1; have h2 := HBW.out.2; omega); have e5 : w10.cell? ⟨gy, 2, none⟩ = some (.slice l2 l3 l4) := HK10.out.cell e3 (fun h => by have h : gy = bR := h; have h1 := HGL.out.2; have h2 := HBW.out.2; omega); have m2 : True := trivial)
            | (clear m0; refine step_appP (by rfl) _ _ (by rfl) (by first | exact HOL8.out | exact HOL8.out.below (below_refl _).drew) (by first | exact HB8.out.size | exact HB8.out.drew.size) (F := (fun b => F b ∧ b < w.heap.size)) (by first | exact HPX8.out | exact HPX8.out.kp0 (below_refl _).drew) (i + l3) rfl HBD.out (by rfl) (by rfl) ?_; intro a9 c9 w9 hO9 hG9 hA9; have HK9 : Hid (Kp (fun g => g = bL) w8 w9) := (by first | exact kp_grow hG9 HBLR.out.1 | exact kp_grow_drew hG9 HBLR.out.1); have HB9 : Hid (Below w.heap.size w w9) := below9 HB8.out HK9.out (HOL8.out.lt bL HBLR.out.1).1; have HOR9 : Hid (OwP w.heap.size w9 (.slice (some ⟨bR, oR, none⟩) i cR) i VR) := HOR8.out.kp HK9.out (fun g hg h => HNE.out (h.symm.trans (Option.some.inj (hg.symm.trans HBLR.out.2)))); have HPY9 : Hid (PRow (fun b => F b ∧ b < w.heap.size) w9 l2 l3 l4 V2) := HPY8.out.kp HK9.out (fun b hb h => by have h : b = bL := h; have := (HOL8.out.lt bL HBLR.out.1).1; have := hb.2; omega) (fun _ _ h => h); have e2 : w9.cell? ⟨gx, 2, none⟩ = some (.slice k2 l3 k4) := HK9.out.cell c2 (fun h => by have h : gx = bL := h; have h1 := HGL.out.1; have h2 := HBW.out.1; omega); have e3 : w9.cell? ⟨gy, 2, none⟩ = some (.slice l2 l3 l4) := HK9.out.cell d2 (fun h => by have h : gy = bL := h; have h1 := HGL.out.2; have h2 := HBW.out.1; omega); have m1 : True := trivial)
            | (go_at_call 999; fail))
          have HFIN : Hid ((Hid (Below w.heap.size w w10) ∧ ∃ N, N ≤ 3839 ∧ SameR w.heap.size (fun b => F b ∧ b < w.heap.size) r (.slice a9 (i + l3) c9) (.slice a10 (i + l3) c10) w10 N) ∧ mu (.slice a9 (i + l3) c9) (.slice a10 (i + l3) c10) w10 < mu (.slice (some ⟨bL, oL, none⟩) (i + 1) cL) (.slice (some ⟨bR, oR, none⟩) (i + 1) cR) wr) := by
            have hb10 : Below w.heap.size w w10 := below9 HB9.out HK10.out (HOR9.out.lt bR HBLR.out.2).1
            have kW : Kp (fun b => w.heap.size ≤ b) wr w10 := (Kp.of_below (F := fun b => w.heap.size ≤ b) HWR.out).trans ((HK9.out.mono (G := fun b => w.heap.size ≤ b) fun b _ h => by have h : b = bL := h; have := (HOL8.out.lt bL HBLR.out.1).1; show w.heap.size ≤ b; omega).trans (HK10.out.mono (G := fun b => w.heap.size ≤ b) fun b _ h => by have h : b = bR := h; have := (HOR9.out.lt bR HBLR.out.2).1; show w.heap.size ≤ b; omega) fun _ _ h => h) fun _ _ h => h
            have hnl : ∀ g, (Value.slice a9 (i + l3) c9).ownBlock = some g → g ≠ bR ∧ g < w9.heap.size := by
              intro g hg
              have h1 := (hO9.lt g hg).2
              rcases hA9 with h | h
              · rw [h, HBLR.out.1] at hg
                have := Option.some.inj hg
                exact ⟨fun e => HNE.out (this.trans e), h1⟩
              · rw [h] at hg
                have hg : w8.heap.size = g := Option.some.inj hg
                have h2 := HBW.out.2
                have h3 := HWR.out.size
                exact ⟨by omega, h1⟩
            have hne : ∀ g, (Value.slice a9 (i + l3) c9).ownBlock = some g → (Value.slice a10 (i + l3) c10).ownBlock ≠ some g := by
              intro g hg h2
              obtain ⟨h3, h4⟩ := hnl g hg
              rcases hA10 with h | h
              · rw [h, HBLR.out.2] at h2
                exact h3 (Option.some.inj h2).symm
              · rw [h] at h2
                have h2 : w9.heap.size = g := Option.some.inj h2
                omega
            have hs : SameR w.heap.size (fun b => F b ∧ b < w.heap.size) r (.slice a9 (i + l3) c9) (.slice a10 (i + l3) c10) w10 (nds (L ++ ks)) :=
              ⟨a9, a10, i + l3, c9, c10, _, _, L ++ ks, R ++ ks2, rfl, rfl, hO9.kp HK10.out (fun g hg h => (hnl g hg).1 h), hO10, hne,
                (HTL.out.cat HKX.out HLL.out.1).kp kW (fun b hb h => by have h : w.heap.size ≤ b := h; have := hb.2; omega) (fun _ _ h => h),
                (HTR.out.cat HKY.out HLL.out.2).kp kW (fun b hb h => by have h : w.heap.size ≤ b := h; have := hb.2; omega) (fun _ _ h => h),
                by rw [List.length_append, HLL.out.1, HKL.out.1], by rw [List.length_append, HLL.out.2, HKL.out.2], HSQ.out, rfl⟩
            have hnd : nds (L ++ ks) = nds L + nds ks := nds_app L ks
            have hle := (HMU.out _ _ _ ⟨_, hs⟩).2 _ hs
            have h1 := HND2.out.1
            have h2 := HND2.out.2
            exact ⟨⟨hb10, _, by omega, hs⟩, by omega⟩
          clear hO9 hG9 hA9 HK9 hO10 hG10 hA10 HK10 e2 e3 e4 e5 m2 HB9 HOR9 HPY9 HOL8 HOR8 HPX8 HPY8
          go_wp2
          exact HFIN.out
  · obtain ⟨W3, hW3⟩ : ∃ W, W = ((W1.alloc (.cells #[.int .i64 kind2, .string label2, .slice a2 len2 cap2, .int .i64 lo2, .int .i64 hi2] 25)).alloc (.cells #[.int .i64 kind, .string label, .slice a len cap, .int .i64 lo', .int .i64 hi'] 25)).drew := ⟨_, rfl⟩
    have b3 : Below W1.heap.size W1 W3 := by rw [hW3]; exact ((below1 W1 _).alloc (by simp) _).drew
    have HB3 : Hid (Below w.heap.size w W3) := below_step HB1.out b3
    have HG3 : Hid (W3.heap[w.heap.size]? = some (.cells #[.int .i64 kind, .string label, .slice a len cap, .int .i64 lo', .int .i64 hi'] 25)) := (b3.block _ (lt_of_heap HG1.out)).trans HG1.out
    have HOL : Hid (OwP w.heap.size W3 (.slice (some ⟨W1.heap.size + 1, 0, none⟩) 1 1) 1 fun _ => ⟨kind, label, a, len, cap, lo', hi'⟩) := by
      have := (OwP.one (W1.alloc (.cells #[.int .i64 kind2, .string label2, .slice a2 len2 cap2, .int .i64 lo2, .int .i64 hi2] 25)) w.heap.size ⟨kind, label, a, len, cap, lo', hi'⟩ (Nat.le_trans HB1.out.size (below1 W1 _).size)).below (below_refl _).drew
      show OwP _ _ _ _ _
      rw [hW3]
      simpa using this
    have HOR : Hid (OwP w.heap.size W3 (.slice (some ⟨W1.heap.size, 0, none⟩) 1 1) 1 fun _ => ⟨kind2, label2, a2, len2, cap2, lo2, hi2⟩) := by
      have := (OwP.one W1 w.heap.size ⟨kind2, label2, a2, len2, cap2, lo2, hi2⟩ HB1.out.size).below (((below1 (W1.alloc (.cells #[.int .i64 kind2, .string label2, .slice a2 len2 cap2, .int .i64 lo2, .int .i64 hi2] 25)) (.cells #[.int .i64 kind, .string label, .slice a len cap, .int .i64 lo', .int .i64 hi'] 25))).drew)
      show OwP _ _ _ _ _
      rw [hW3]
      simpa using this
    have HNE : Hid (∀ g, (Value.slice (some ⟨W1.heap.size + 1, 0, none⟩) 1 1).ownBlock = some g → (Value.slice (some ⟨W1.heap.size, 0, none⟩) 1 1).ownBlock ≠ some g) := by
      intro g h1 h2
      have h1 : W1.heap.size + 1 = g := Option.some.inj h1
      have h2 : W1.heap.size = g := Option.some.inj h2
      omega
    rw [← hW3]
    clear hW3 b3 c0 c1 c2 c3 c4 d0 d1 d2 d3 d4
    have HIX : Hid (IsP (fun b => F b ∧ b < w.heap.size) W3 ⟨kind, label, a, len, cap, lo', hi'⟩ t) := HX.out.bel HB3.out
    have HIY : Hid (IsP (fun b => F b ∧ b < w.heap.size) W3 ⟨kind2, label2, a2, len2, cap2, lo2, hi2⟩ u) := HY.out.bel HB3.out
    have c0 := cell_of_row _ _ 0 _ _ _ HG3.out
    have c1 := cell_of_row _ _ 1 _ _ _ HG3.out
    have c2 := cell_of_row _ _ 2 _ _ _ HG3.out
    have c3 := cell_of_row _ _ 3 _ _ _ HG3.out
    have c4 := cell_of_row _ _ 4 _ _ _ HG3.out
    simp only [List.getElem?_toArray, List.getElem?_cons_zero, List.getElem?_cons_succ] at c0 c1 c2 c3 c4
    go_wp2_with (go_at_call 20; fail)
    refine (deep_any t _ W3 ⟨kind, label, a, len, cap, lo', hi'⟩ HIX.out).mono ?_
    rintro e w4 ⟨rfl, b⟩
    have hd := HD.out
    generalize ((min (deep t) 41 : Nat) : Int) = dp at hd ⊢
    have hdd : decide (40 < dp) = false := by simp; omega
    have HB4 : Hid (Below w.heap.size w w4) := below_step HB3.out b
    have HL4 : Hid (OwP w.heap.size w4 (.slice (some ⟨W1.heap.size + 1, 0, none⟩) 1 1) 1 fun _ => ⟨kind, label, a, len, cap, lo', hi'⟩) := HOL.out.below b
    have HR4 : Hid (OwP w.heap.size w4 (.slice (some ⟨W1.heap.size, 0, none⟩) 1 1) 1 fun _ => ⟨kind2, label2, a2, len2, cap2, lo2, hi2⟩) := HOR.out.below b
    have HX4 : Hid (IsP (fun b => F b ∧ b < w.heap.size) w4 ⟨kind, label, a, len, cap, lo', hi'⟩ t) := HIX.out.bel b
    have HY4 : Hid (IsP (fun b => F b ∧ b < w.heap.size) w4 ⟨kind2, label2, a2, len2, cap2, lo2, hi2⟩ u) := HIY.out.bel b
    clear b HB3 HOL HOR HIX HIY HG3 c0 c1 c2 c3 c4 HB1 HG1 HH1 HX HY HD
    have hmm : ∀ (t : TypeId) (w : World), (Instr.makeMap t none).run Tryz.prog w = .ok (.map (some w.heap.size)) (w.alloc (.map #[] 0)) := fun t w => run_makeMap t w
    go_wp2
    clear hmm hdd
    obtain ⟨W5, hW5⟩ : ∃ W, W = w4.alloc (.map #[] 0) := ⟨_, rfl⟩
    have b5 : Below w4.heap.size w4 W5 := by rw [hW5]; exact below1 w4 _
    have HB5 : Hid (Below w.heap.size w W5) := below_step HB4.out b5
    have HS5 : Hid (SameR w.heap.size (fun b => F b ∧ b < w.heap.size) r (.slice (some ⟨W1.heap.size + 1, 0, none⟩) 1 1) (.slice (some ⟨W1.heap.size, 0, none⟩) 1 1) W5 (nd t)) :=
      ⟨_, _, 1, 1, 1, _, _, [t], [u], rfl, rfl, HL4.out.below b5, HR4.out.below b5, HNE.out, one_trs (HX4.out.bel b5), one_trs (HY4.out.bel b5), rfl, rfl, by rw [HR.out, sames, sames, Bool.and_true], by rw [nds, nds]; rfl⟩
    rw [← hW5]
    clear hW5 b5 HB4 HL4 HR4 HX4 HY4 HNE
    obtain ⟨mu, hmu⟩ : ∃ mu : Value → Value → World → Nat, ∀ v5 v6 wr, (∃ N, SameR w.heap.size (fun b => F b ∧ b < w.heap.size) r v5 v6 wr N) → SameR w.heap.size (fun b => F b ∧ b < w.heap.size) r v5 v6 wr (mu v5 v6 wr) ∧ ∀ M, SameR w.heap.size (fun b => F b ∧ b < w.heap.size) r v5 v6 wr M → mu v5 v6 wr ≤ M := ⟨fun v5 v6 wr => Classical.epsilon fun N => SameR w.heap.size (fun b => F b ∧ b < w.heap.size) r v5 v6 wr N ∧ ∀ M, SameR w.heap.size (fun b => F b ∧ b < w.heap.size) r v5 v6 wr M → N ≤ M, fun v5 v6 wr h => ep_spec _ h⟩
    have HMU : Hid (∀ v5 v6 wr, (∃ N, SameR w.heap.size (fun b => F b ∧ b < w.heap.size) r v5 v6 wr N) → SameR w.heap.size (fun b => F b ∧ b < w.heap.size) r v5 v6 wr (mu v5 v6 wr) ∧ ∀ M, SameR w.heap.size (fun b => F b ∧ b < w.heap.size) r v5 v6 wr M → mu v5 v6 wr ≤ M) := hmu
    clear hmu
    go_loopw [5, 6] (fun v5 v6 wr => Hid (Below w.heap.size w wr) ∧ ∃ N, N ≤ 3839 ∧ SameR w.heap.size (fun b => F b ∧ b < w.heap.size) r v5 v6 wr N) (fun v5 v6 wr => mu v5 v6 wr)
    case atStart => exact ⟨HB5.out, nd t, HN.out, HS5.out⟩
    case round =>
      obtain ⟨HB, N, hN, hS⟩ := hrel
      rename World => wr
      obtain ⟨hs, hmin⟩ := HMU.out _ _ _ ⟨N, hS⟩
      obtain ⟨aL, aR, n, cL, cR, VL, VR, Lt, Rt, rfl, rfl, hol, hor, hne, htl, htr, hll, hlr, hsm, hnd⟩ := hs
      have HBND : Hid (nds Lt ≤ 3839) := by show _ ≤ _; rw [hnd]; exact Nat.le_trans (hmin N hS) hN
      have HND : Hid (nds Lt = mu (.slice aL n cL) (.slice aR n cR) wr) := hnd
      clear hN hS hmin hnd HB5 HS5
      cases n with
      | zero =>
        obtain rfl : Lt = [] := List.eq_nil_of_length_eq_zero hll
        obtain rfl : Rt = [] := List.eq_nil_of_length_eq_zero hlr
        rw [sames] at hsm
        clear hol hor hne htl htr hll hlr
        go_wp2
        go_ret
        exact ⟨by subst hsm; rfl, HB.out⟩
      | succ i =>
        obtain ⟨L, tl, rfl, hl⟩ := snoc_of hll
        obtain ⟨R, tr, rfl, hl2⟩ := snoc_of hlr
        obtain ⟨a1, c1, e1, pl⟩ := hol.row
        injection e1 with e1 e2 e3
        subst e1 e3
        obtain ⟨a1, c1, e1, pr⟩ := hor.row
        injection e1 with e1 e2 e3
        subst e1 e3
        have hcl := pl.2.1
        have hcr := pr.2.1
        have hkl := pl.1
        have hkr := pr.1
        obtain ⟨bL, oL, rfl, hbL, hcL⟩ := pl.2.2.resolve_left (by omega)
        obtain ⟨bR, oR, rfl, hbR, hcR⟩ := pr.2.2.resolve_left (by omega)
        have hPL := hcL i (by omega)
        have hPR := hcR i (by omega)
        have hIL : IsP (fun b => F b ∧ b < w.heap.size) wr (VL i) tl := by
          have := htl i (by simp; omega)
          rwa [show (L ++ [tl])[i]'(by simp; omega) = tl by rw [List.getElem_append_right (by omega)]; simp [hl]] at this
        have hIR : IsP (fun b => F b ∧ b < w.heap.size) wr (VR i) tr := by
          have := htr i (by simp; omega)
          rwa [show (R ++ [tr])[i]'(by simp; omega) = tr by rw [List.getElem_append_right (by omega)]; simp [hl2]] at this
        have HTL : Hid (Trs (fun b => F b ∧ b < w.heap.size) wr VL L) := fun j hj => by
          have := htl j (by simp; omega)
          rwa [List.getElem_append_left hj] at this
        have HTR : Hid (Trs (fun b => F b ∧ b < w.heap.size) wr VR R) := fun j hj => by
          have := htr j (by simp; omega)
          rwa [List.getElem_append_left hj] at this
        have HOL : Hid (OwP w.heap.size wr (.slice (some ⟨bL, oL, none⟩) i cL) i VL) := hol.head i (by omega)
        have HOR : Hid (OwP w.heap.size wr (.slice (some ⟨bR, oR, none⟩) i cR) i VR) := hor.head i (by omega)
        have HLL : Hid (L.length = i ∧ R.length = i) := ⟨hl, hl2⟩
        have HNE : Hid (bL ≠ bR) := fun h => hne bL hbL (by rw [hbR, h])
        have HBLR : Hid ((Value.slice (some ⟨bL, oL, none⟩) i cL).ownBlock = some bL ∧ (Value.slice (some ⟨bR, oR, none⟩) i cR).ownBlock = some bR) := ⟨hbL, hbR⟩
        obtain ⟨x, hx⟩ : ∃ x, x = VL i := ⟨_, rfl⟩
        obtain ⟨y, hy⟩ : ∃ y, y = VR i := ⟨_, rfl⟩
        rw [← hx] at hPL hIL
        rw [← hy] at hPR hIR
        clear hx hy hcL hcR htl htr hol hor hne hll hlr hbL hbR pl pr
        obtain ⟨k0, k1, k2, k3, k4, k5, k6⟩ := x
        obtain ⟨l0, l1, l2, l3, l4, l5, l6⟩ := y
        obtain ⟨c0, c1, c2, c3, c4⟩ := hPL
        obtain ⟨d0, d1, d2, d3, d4⟩ := hPR
        simp only at c0 c1 c2 c3 c4 d0 d1 d2 d3 d4
        obtain ⟨V, ks, rfl, hks, hpr, hkt⟩ := hIL.inv
        obtain ⟨V2, ks2, rfl, hks2, hpr2, hkt2⟩ := hIR.inv
        have hsq := hsm
        rw [sames_app L R _ _ (by rw [hl, hl2]), sames, sames, Bool.and_true, same_sal (F := F) (F' := F) (w := w) (w' := w) (x := ⟨k0, k1, k2, k3, k4, k5, k6⟩) (y := ⟨l0, l1, l2, l3, l4, l5, l6⟩) (V := V) (V' := V) hks hks2] at hsq
        have HSQ : Hid ((sames L R && (sal ⟨k0, k1, k2, k3, k4, k5, k6⟩ ⟨l0, l1, l2, l3, l4, l5, l6⟩ && sames ks ks2)) = r) := hsq
        have HND2 : Hid (nds L + (1 + nds ks) = mu (.slice (some ⟨bL, oL, none⟩) (i + 1) cL) (.slice (some ⟨bR, oR, none⟩) (i + 1) cR) wr ∧ nds L + (1 + nds ks) ≤ 3839) := by
          have h1 := HND.out
          have h2 := HBND.out
          have h3 : nds (L ++ [PT.mk k0 k1.data.toList ks k5 k6]) = nds L + (1 + nds ks) := by rw [nds_app, nds, nds, nd, Nat.add_zero]
          rw [h3] at h1 h2
          exact ⟨h1, h2⟩
        have HPX : Hid (PRow (fun b => F b ∧ b < w.heap.size) wr k2 k3 k4 V) := hpr
        have HPY : Hid (PRow (fun b => F b ∧ b < w.heap.size) wr l2 l3 l4 V2) := hpr2
        have HKX : Hid (Trs (fun b => F b ∧ b < w.heap.size) wr V ks) := hkt
        have HKY : Hid (Trs (fun b => F b ∧ b < w.heap.size) wr V2 ks2) := hkt2
        have HKL : Hid (ks.length = k3 ∧ ks2.length = l3) := ⟨hks, hks2⟩
        clear hsq hsm hpr hpr2 hkt hkt2 hks hks2 hIL hIR hl hl2 HND HBND
        have HKL2 : Hid (k3 ≤ 9223372036854775807 ∧ l3 ≤ 9223372036854775807) := ⟨Nat.le_trans HPX.out.1 HPX.out.2.1, Nat.le_trans HPY.out.1 HPY.out.2.1⟩
        have j1 : (0 : Int) ≤ (i : Int) := by omega
        have j2 : (i : Int) < ((i : Int) + 1) := by omega
        go_wp2
        go_region_held3 (fun w' => w'.cell? ⟨bL, oL + i * 5, none⟩ = some (.int .i64 k0) ∧ w'.cell? ⟨bL, oL + i * 5 + 1, none⟩ = some (.string k1) ∧ w'.cell? ⟨bL, oL + i * 5 + 2, none⟩ = some (.slice k2 k3 k4) ∧ w'.cell? ⟨bL, oL + i * 5 + 3, none⟩ = some (.int .i64 k5) ∧ w'.cell? ⟨bL, oL + i * 5 + 4, none⟩ = some (.int .i64 k6) ∧ w'.cell? ⟨bR, oR + i * 5, none⟩ = some (.int .i64 l0) ∧ w'.cell? ⟨bR, oR + i * 5 + 1, none⟩ = some (.string l1) ∧ w'.cell? ⟨bR, oR + i * 5 + 2, none⟩ = some (.slice l2 l3 l4) ∧ w'.cell? ⟨bR, oR + i * 5 + 3, none⟩ = some (.int .i64 l5) ∧ w'.cell? ⟨bR, oR + i * 5 + 4, none⟩ = some (.int .i64 l6)) (first | exact ⟨c0, c1, c2, c3, c4, d0, d1, d2, d3, d4⟩ | go_keep) (first | (go_at_call 999; fail))
        · obtain ⟨W7, hW7⟩ : ∃ W, W = ((wr.alloc (.cells #[.int .i64 k0, .string k1, .slice k2 k3 k4, .int .i64 k5, .int .i64 k6] 25)).alloc (.cells #[.int .i64 l0, .string l1, .slice l2 l3 l4, .int .i64 l5, .int .i64 l6] 25)).drew := ⟨_, rfl⟩
          have b7 : Below wr.heap.size wr W7 := by rw [hW7]; exact ((below1 wr _).alloc (by simp) _).drew
          have HGX : Hid (W7.heap[wr.heap.size]? = some (.cells #[.int .i64 k0, .string k1, .slice k2 k3 k4, .int .i64 k5, .int .i64 k6] 25)) := by show W7.heap[_]? = _; rw [hW7]; exact heap_new2 wr _ _
          have HGY : Hid (W7.heap[wr.heap.size + 1]? = some (.cells #[.int .i64 l0, .string l1, .slice l2 l3 l4, .int .i64 l5, .int .i64 l6] 25)) := by
            show W7.heap[_]? = _
            rw [hW7]
            have := heap_new1 (wr.alloc (.cells #[.int .i64 k0, .string k1, .slice k2 k3 k4, .int .i64 k5, .int .i64 k6] 25)) (.cells #[.int .i64 l0, .string l1, .slice l2 l3 l4, .int .i64 l5, .int .i64 l6] 25)
            simpa [World.drew] using this
          rw [← hW7]
          clear hW7 c0 c1 c2 c3 c4 d0 d1 d2 d3 d4
          obtain ⟨gx, hgx⟩ : ∃ g, g = wr.heap.size := ⟨_, rfl⟩
          obtain ⟨gy, hgy⟩ : ∃ g, g = wr.heap.size + 1 := ⟨_, rfl⟩
          rw [← hgx] at HGX
          rw [← hgy] at HGY
          have HQX : Hid (gx = wr.heap.size) := hgx
          have HQY : Hid (gy = wr.heap.size + 1) := hgy
          first | rw [← hgx, ← hgy] | rw [← hgy, ← hgx]
          have HGL : Hid (wr.heap.size ≤ gx ∧ wr.heap.size ≤ gy) := ⟨by rw [hgx]; first | exact Nat.le_refl _ | exact Nat.le_succ _, by rw [hgy]; first | exact Nat.le_refl _ | exact Nat.le_succ _⟩
          clear hgx hgy
          have j3 : (i : Int) ≤ (cL : Int) := by omega
          have j4 : (i : Int) ≤ (cR : Int) := by omega
          have c0 := cell_of_row _ _ 0 _ _ _ HGX.out
          have c1 := cell_of_row _ _ 1 _ _ _ HGX.out
          have c2 := cell_of_row _ _ 2 _ _ _ HGX.out
          have c3 := cell_of_row _ _ 3 _ _ _ HGX.out
          have c4 := cell_of_row _ _ 4 _ _ _ HGX.out
          simp only [List.getElem?_toArray, List.getElem?_cons_zero, List.getElem?_cons_succ] at c0 c1 c2 c3 c4
          have d0 := cell_of_row _ _ 0 _ _ _ HGY.out
          have d1 := cell_of_row _ _ 1 _ _ _ HGY.out
          have d2 := cell_of_row _ _ 2 _ _ _ HGY.out
          have d3 := cell_of_row _ _ 3 _ _ _ HGY.out
          have d4 := cell_of_row _ _ 4 _ _ _ HGY.out
          simp only [List.getElem?_toArray, List.getElem?_cons_zero, List.getElem?_cons_succ] at d0 d1 d2 d3 d4
          go_wp2
          go_quiet (fail)
          go_wp2_with (go_at_call 37; fail)
          refine (alone_any ⟨k0, k1, k2, k3, k4, k5, k6⟩ ⟨l0, l1, l2, l3, l4, l5, l6⟩ _ HKL2.out.1 HKL2.out.2).mono ?_
          rintro e w8 ⟨rfl, b8⟩
          replace b8 : Below W7.heap.size W7 w8 := below_step (below_drewN (below_refl W7) _) b8
          have HB8 : Hid (Below w.heap.size w w8) := below_step HB.out (below_step b7 b8)
          have HWR : Hid (Below wr.heap.size wr w8) := below_step b7 b8
          have HX8 : Hid (w8.heap[gx]? = some (.cells #[.int .i64 k0, .string k1, .slice k2 k3 k4, .int .i64 k5, .int .i64 k6] 25)) := (b8.block _ (lt_of_heap HGX.out)).trans HGX.out
          have HY8 : Hid (w8.heap[gy]? = some (.cells #[.int .i64 l0, .string l1, .slice l2 l3 l4, .int .i64 l5, .int .i64 l6] 25)) := (b8.block _ (lt_of_heap HGY.out)).trans HGY.out
          clear b7 b8 HGX HGY c0 c1 c2 c3 c4 d0 d1 d2 d3 d4 HQX HQY
          obtain ⟨bs, hbs⟩ : ∃ q, q = sal ⟨k0, k1, k2, k3, k4, k5, k6⟩ ⟨l0, l1, l2, l3, l4, l5, l6⟩ := ⟨_, rfl⟩
          have hq := HSQ.out
          rw [← hbs] at hq ⊢
          clear HSQ
          cases bs with
          | false =>
            rw [Bool.false_and, Bool.and_false] at hq
            clear hbs
            replace hq := hq.symm
            subst hq
            go_wp2
            go_ret
            exact ⟨rfl, HB8.out⟩
          | true =>
          have hkl : l3 = k3 := by
            have h := hbs.symm
            unfold sal at h
            simp only [Bool.and_eq_true, decide_eq_true_eq] at h
            exact h.1.2.symm
          subst hkl
          rw [Bool.true_and, ← sames_app L R ks ks2 (by rw [HLL.out.1, HLL.out.2])] at hq
          have HSQ : Hid (sames (L ++ ks) (R ++ ks2) = r) := hq
          clear hq hbs
          have c0 := cell_of_row _ _ 0 _ _ _ HX8.out
          have c1 := cell_of_row _ _ 1 _ _ _ HX8.out
          have c2 := cell_of_row _ _ 2 _ _ _ HX8.out
          have c3 := cell_of_row _ _ 3 _ _ _ HX8.out
          have c4 := cell_of_row _ _ 4 _ _ _ HX8.out
          simp only [List.getElem?_toArray, List.getElem?_cons_zero, List.getElem?_cons_succ] at c0 c1 c2 c3 c4
          have d0 := cell_of_row _ _ 0 _ _ _ HY8.out
          have d1 := cell_of_row _ _ 1 _ _ _ HY8.out
          have d2 := cell_of_row _ _ 2 _ _ _ HY8.out
          have d3 := cell_of_row _ _ 3 _ _ _ HY8.out
          have d4 := cell_of_row _ _ 4 _ _ _ HY8.out
          simp only [List.getElem?_toArray, List.getElem?_cons_zero, List.getElem?_cons_succ] at d0 d1 d2 d3 d4
          go_wp2
          have HC8 : Hid (w8.heap.size < 0 + w8.heap.size + 1) := by show _ < _; omega
          have HOL8 : Hid (OwP w.heap.size w8 (.slice (some ⟨bL, oL, none⟩) i cL) i VL) := HOL.out.below HWR.out
          have HOR8 : Hid (OwP w.heap.size w8 (.slice (some ⟨bR, oR, none⟩) i cR) i VR) := HOR.out.below HWR.out
          have HPX8 : Hid (PRow (fun b => F b ∧ b < w.heap.size) w8 k2 l3 k4 V) := HPX.out.kp0 HWR.out
          have HPY8 : Hid (PRow (fun b => F b ∧ b < w.heap.size) w8 l2 l3 l4 V2) := HPY.out.kp0 HWR.out
          have HBD : Hid (i + l3 ≤ 1000000000) := by
            have h1 := HND2.out.2
            have h2 := nds_len L
            have h3 := nds_len ks
            have h4 := HLL.out.1
            have h5 := HKL.out.1
            show _ ≤ _
            omega
          have m0 : True := trivial
          have HBW : Hid (bL < wr.heap.size ∧ bR < wr.heap.size) := ⟨(HOL.out.lt bL HBLR.out.1).2, (HOR.out.lt bR HBLR.out.2).2⟩
          clear HOL HOR HPX HPY
          go_region_held3 (fun w' => w'.cell? ⟨gx, 2, none⟩ = some (.slice k2 l3 k4) ∧ w'.cell? ⟨gy, 2, none⟩ = some (.slice l2 l3 l4)) (first | exact ⟨c2, d2⟩ | exact ⟨e2, e3⟩ | exact ⟨e4, e5⟩ | go_keep) (first
            | (clear m1; refine step_appP (by rfl) _ _ (by rfl) (by first | exact HOR9.out | exact HOR9.out.below (below_refl _).drew) (by first | exact HB9.out.size | exact HB9.out.drew.size) (F := (fun b => F b ∧ b < w.heap.size)) (by first | exact HPY9.out | exact HPY9.out.kp0 (below_refl _).drew) (i + l3) rfl HBD.out (by rfl) (by rfl) ?_; intro a10 c10 w10 hO10 hG10 hA10; have HK10 : Hid (Kp (fun g => g = bR) w9 w10) := (by first | exact kp_grow hG10 HBLR.out.2 | exact kp_grow_drew hG10 HBLR.out.2); have e4 : w10.cell? ⟨gx, 2, none⟩ = some (.slice k2 l3 k4) := HK10.out.cell e2 (fun h => by have h : gx = bR := h; have h1 := HGL.out.1; have h2 := HBW.out.2; omega); have e5 : w10.cell? ⟨gy, 2, none⟩ = some (.slice l2 l3 l4) := HK10.out.cell e3 (fun h => by have h : gy = bR := h; have h1 := HGL.out.2; have h2 := HBW.out.2; omega); have m2 : True := trivial)
            | (clear m0; refine step_appP (by rfl) _ _ (by rfl) (by first | exact HOL8.out | exact HOL8.out.below (below_refl _).drew) (by first | exact HB8.out.size | exact HB8.out.drew.size) (F := (fun b => F b ∧ b < w.heap.size)) (by first | exact HPX8.out | exact HPX8.out.kp0 (below_refl _).drew) (i + l3) rfl HBD.out (by rfl) (by rfl) ?_; intro a9 c9 w9 hO9 hG9 hA9; have HK9 : Hid (Kp (fun g => g = bL) w8 w9) := (by first | exact kp_grow hG9 HBLR.out.1 | exact kp_grow_drew hG9 HBLR.out.1); have HB9 : Hid (Below w.heap.size w w9) := below9 HB8.out HK9.out (HOL8.out.lt bL HBLR.out.1).1; have HOR9 : Hid (OwP w.heap.size w9 (.slice (some ⟨bR, oR, none⟩) i cR) i VR) := HOR8.out.kp HK9.out (fun g hg h => HNE.out (h.symm.trans (Option.some.inj (hg.symm.trans HBLR.out.2)))); have HPY9 : Hid (PRow (fun b => F b ∧ b < w.heap.size) w9 l2 l3 l4 V2) := HPY8.out.kp HK9.out (fun b hb h => by have h : b = bL := h; have := (HOL8.out.lt bL HBLR.out.1).1; have := hb.2; omega) (fun _ _ h => h); have e2 : w9.cell? ⟨gx, 2, none⟩ = some (.slice k2 l3 k4) := HK9.out.cell c2 (fun h => by have h : gx = bL := h; have h1 := HGL.out.1; have h2 := HBW.out.1; omega); have e3 : w9.cell? ⟨gy, 2, none⟩ = some (.slice l2 l3 l4) := HK9.out.cell d2 (fun h => by have h : gy = bL := h; have h1 := HGL.out.2; have h2 := HBW.out.1; omega); have m1 : True := trivial)
            | (go_at_call 999; fail))
          have HFIN : Hid ((Hid (Below w.heap.size w w10) ∧ ∃ N, N ≤ 3839 ∧ SameR w.heap.size (fun b => F b ∧ b < w.heap.size) r (.slice a9 (i + l3) c9) (.slice a10 (i + l3) c10) w10 N) ∧ mu (.slice a9 (i + l3) c9) (.slice a10 (i + l3) c10) w10 < mu (.slice (some ⟨bL, oL, none⟩) (i + 1) cL) (.slice (some ⟨bR, oR, none⟩) (i + 1) cR) wr) := by
            have hb10 : Below w.heap.size w w10 := below9 HB9.out HK10.out (HOR9.out.lt bR HBLR.out.2).1
            have kW : Kp (fun b => w.heap.size ≤ b) wr w10 := (Kp.of_below (F := fun b => w.heap.size ≤ b) HWR.out).trans ((HK9.out.mono (G := fun b => w.heap.size ≤ b) fun b _ h => by have h : b = bL := h; have := (HOL8.out.lt bL HBLR.out.1).1; show w.heap.size ≤ b; omega).trans (HK10.out.mono (G := fun b => w.heap.size ≤ b) fun b _ h => by have h : b = bR := h; have := (HOR9.out.lt bR HBLR.out.2).1; show w.heap.size ≤ b; omega) fun _ _ h => h) fun _ _ h => h
            have hnl : ∀ g, (Value.slice a9 (i + l3) c9).ownBlock = some g → g ≠ bR ∧ g < w9.heap.size := by
              intro g hg
              have h1 := (hO9.lt g hg).2
              rcases hA9 with h | h
              · rw [h, HBLR.out.1] at hg
                have := Option.some.inj hg
                exact ⟨fun e => HNE.out (this.trans e), h1⟩
              · rw [h] at hg
                have hg : w8.heap.size = g := Option.some.inj hg
                have h2 := HBW.out.2
                have h3 := HWR.out.size
                exact ⟨by omega, h1⟩
            have hne : ∀ g, (Value.slice a9 (i + l3) c9).ownBlock = some g → (Value.slice a10 (i + l3) c10).ownBlock ≠ some g := by
              intro g hg h2
              obtain ⟨h3, h4⟩ := hnl g hg
              rcases hA10 with h | h
              · rw [h, HBLR.out.2] at h2
                exact h3 (Option.some.inj h2).symm
              · rw [h] at h2
                have h2 : w9.heap.size = g := Option.some.inj h2
                omega
            have hs : SameR w.heap.size (fun b => F b ∧ b < w.heap.size) r (.slice a9 (i + l3) c9) (.slice a10 (i + l3) c10) w10 (nds (L ++ ks)) :=
              ⟨a9, a10, i + l3, c9, c10, _, _, L ++ ks, R ++ ks2, rfl, rfl, hO9.kp HK10.out (fun g hg h => (hnl g hg).1 h), hO10, hne,
                (HTL.out.cat HKX.out HLL.out.1).kp kW (fun b hb h => by have h : w.heap.size ≤ b := h; have := hb.2; omega) (fun _ _ h => h),
                (HTR.out.cat HKY.out HLL.out.2).kp kW (fun b hb h => by have h : w.heap.size ≤ b := h; have := hb.2; omega) (fun _ _ h => h),
                by rw [List.length_append, HLL.out.1, HKL.out.1], by rw [List.length_append, HLL.out.2, HKL.out.2], HSQ.out, rfl⟩
            have hnd : nds (L ++ ks) = nds L + nds ks := nds_app L ks
            have hle := (HMU.out _ _ _ ⟨_, hs⟩).2 _ hs
            have h1 := HND2.out.1
            have h2 := HND2.out.2
            exact ⟨⟨hb10, _, by omega, hs⟩, by omega⟩
          clear hO9 hG9 hA9 HK9 hO10 hG10 hA10 HK10 e2 e3 e4 e5 m2 HB9 HOR9 HPY9 HOL8 HOR8 HPX8 HPY8
          go_wp2
          exact HFIN.out
        · obtain ⟨W7, hW7⟩ : ∃ W, W = ((wr.alloc (.cells #[.int .i64 l0, .string l1, .slice l2 l3 l4, .int .i64 l5, .int .i64 l6] 25)).alloc (.cells #[.int .i64 k0, .string k1, .slice k2 k3 k4, .int .i64 k5, .int .i64 k6] 25)).drew := ⟨_, rfl⟩
          have b7 : Below wr.heap.size wr W7 := by rw [hW7]; exact ((below1 wr _).alloc (by simp) _).drew
          have HGY : Hid (W7.heap[wr.heap.size]? = some (.cells #[.int .i64 l0, .string l1, .slice l2 l3 l4, .int .i64 l5, .int .i64 l6] 25)) := by show W7.heap[_]? = _; rw [hW7]; exact heap_new2 wr _ _
          have HGX : Hid (W7.heap[wr.heap.size + 1]? = some (.cells #[.int .i64 k0, .string k1, .slice k2 k3 k4, .int .i64 k5, .int .i64 k6] 25)) := by
            show W7.heap[_]? = _
            rw [hW7]
            have := heap_new1 (wr.alloc (.cells #[.int .i64 l0, .string l1, .slice l2 l3 l4, .int .i64 l5, .int .i64 l6] 25)) (.cells #[.int .i64 k0, .string k1, .slice k2 k3 k4, .int .i64 k5, .int .i64 k6] 25)
            simpa [World.drew] using this
          rw [← hW7]
          clear hW7 c0 c1 c2 c3 c4 d0 d1 d2 d3 d4
          obtain ⟨gx, hgx⟩ : ∃ g, g = wr.heap.size + 1 := ⟨_, rfl⟩
          obtain ⟨gy, hgy⟩ : ∃ g, g = wr.heap.size := ⟨_, rfl⟩
          rw [← hgx] at HGX
          rw [← hgy] at HGY
          have HQX : Hid (gx = wr.heap.size + 1) := hgx
          have HQY : Hid (gy = wr.heap.size) := hgy
          first | rw [← hgx, ← hgy] | rw [← hgy, ← hgx]
          have HGL : Hid (wr.heap.size ≤ gx ∧ wr.heap.size ≤ gy) := ⟨by rw [hgx]; first | exact Nat.le_refl _ | exact Nat.le_succ _, by rw [hgy]; first | exact Nat.le_refl _ | exact Nat.le_succ _⟩
          clear hgx hgy
          have j3 : (i : Int) ≤ (cL : Int) := by omega
          have j4 : (i : Int) ≤ (cR : Int) := by omega
          have c0 := cell_of_row _ _ 0 _ _ _ HGX.out
          have c1 := cell_of_row _ _ 1 _ _ _ HGX.out
          have c2 := cell_of_row _ _ 2 _ _ _ HGX.out
          have c3 := cell_of_row _ _ 3 _ _ _ HGX.out
          have c4 := cell_of_row _ _ 4 _ _ _ HGX.out
          simp only [List.getElem?_toArray, List.getElem?_cons_zero, List.getElem?_cons_succ] at c0 c1 c2 c3 c4
          have d0 := cell_of_row _ _ 0 _ _ _ HGY.out
          have d1 := cell_of_row _ _ 1 _ _ _ HGY.out
          have d2 := cell_of_row _ _ 2 _ _ _ HGY.out
          have d3 := cell_of_row _ _ 3 _ _ _ HGY.out
          have d4 := cell_of_row _ _ 4 _ _ _ HGY.out
          simp only [List.getElem?_toArray, List.getElem?_cons_zero, List.getElem?_cons_succ] at d0 d1 d2 d3 d4
          go_wp2
          go_quiet (fail)
          go_wp2_with (go_at_call 37; fail)
          refine (alone_any ⟨k0, k1, k2, k3, k4, k5, k6⟩ ⟨l0, l1, l2, l3, l4, l5, l6⟩ _ HKL2.out.1 HKL2.out.2).mono ?_
          rintro e w8 ⟨rfl, b8⟩
          replace b8 : Below W7.heap.size W7 w8 := below_step (below_drewN (below_refl W7) _) b8
          have HB8 : Hid (Below w.heap.size w w8) := below_step HB.out (below_step b7 b8)
          have HWR : Hid (Below wr.heap.size wr w8) := below_step b7 b8
          have HX8 : Hid (w8.heap[gx]? = some (.cells #[.int .i64 k0, .string k1, .slice k2 k3 k4, .int .i64 k5, .int .i64 k6] 25)) := (b8.block _ (lt_of_heap HGX.out)).trans HGX.out
          have HY8 : Hid (w8.heap[gy]? = some (.cells #[.int .i64 l0, .string l1, .slice l2 l3 l4, .int .i64 l5, .int .i64 l6] 25)) := (b8.block _ (lt_of_heap HGY.out)).trans HGY.out
          clear b7 b8 HGX HGY c0 c1 c2 c3 c4 d0 d1 d2 d3 d4 HQX HQY
          obtain ⟨bs, hbs⟩ : ∃ q, q = sal ⟨k0, k1, k2, k3, k4, k5, k6⟩ ⟨l0, l1, l2, l3, l4, l5, l6⟩ := ⟨_, rfl⟩
          have hq := HSQ.out
          rw [← hbs] at hq ⊢
          clear HSQ
          cases bs with
          | false =>
            rw [Bool.false_and, Bool.and_false] at hq
            clear hbs
            replace hq := hq.symm
            subst hq
            go_wp2
            go_ret
            exact ⟨rfl, HB8.out⟩
          | true =>
          have hkl : l3 = k3 := by
            have h := hbs.symm
            unfold sal at h
            simp only [Bool.and_eq_true, decide_eq_true_eq] at h
            exact h.1.2.symm
          subst hkl
          rw [Bool.true_and, ← sames_app L R ks ks2 (by rw [HLL.out.1, HLL.out.2])] at hq
          have HSQ : Hid (sames (L ++ ks) (R ++ ks2) = r) := hq
          clear hq hbs
          have c0 := cell_of_row _ _ 0 _ _ _ HX8.out
          have c1 := cell_of_row _ _ 1 _ _ _ HX8.out
          have c2 := cell_of_row _ _ 2 _ _ _ HX8.out
          have c3 := cell_of_row _ _ 3 _ _ _ HX8.out
          have c4 := cell_of_row _ _ 4 _ _ _ HX8.out
          simp only [List.getElem?_toArray, List.getElem?_cons_zero, List.getElem?_cons_succ] at c0 c1 c2 c3 c4
          have d0 := cell_of_row _ _ 0 _ _ _ HY8.out
          have d1 := cell_of_row _ _ 1 _ _ _ HY8.out
          have d2 := cell_of_row _ _ 2 _ _ _ HY8.out
          have d3 := cell_of_row _ _ 3 _ _ _ HY8.out
          have d4 := cell_of_row _ _ 4 _ _ _ HY8.out
          simp only [List.getElem?_toArray, List.getElem?_cons_zero, List.getElem?_cons_succ] at d0 d1 d2 d3 d4
          go_wp2
          have HC8 : Hid (w8.heap.size < 0 + w8.heap.size + 1) := by show _ < _; omega
          have HOL8 : Hid (OwP w.heap.size w8 (.slice (some ⟨bL, oL, none⟩) i cL) i VL) := HOL.out.below HWR.out
          have HOR8 : Hid (OwP w.heap.size w8 (.slice (some ⟨bR, oR, none⟩) i cR) i VR) := HOR.out.below HWR.out
          have HPX8 : Hid (PRow (fun b => F b ∧ b < w.heap.size) w8 k2 l3 k4 V) := HPX.out.kp0 HWR.out
          have HPY8 : Hid (PRow (fun b => F b ∧ b < w.heap.size) w8 l2 l3 l4 V2) := HPY.out.kp0 HWR.out
          have HBD : Hid (i + l3 ≤ 1000000000) := by
            have h1 := HND2.out.2
            have h2 := nds_len L
            have h3 := nds_len ks
            have h4 := HLL.out.1
            have h5 := HKL.out.1
            show _ ≤ _
            omega
          have m0 : True := trivial
          have HBW : Hid (bL < wr.heap.size ∧ bR < wr.heap.size) := ⟨(HOL.out.lt bL HBLR.out.1).2, (HOR.out.lt bR HBLR.out.2).2⟩
          clear HOL HOR HPX HPY
          go_region_held3 (fun w' => w'.cell? ⟨gx, 2, none⟩ = some (.slice k2 l3 k4) ∧ w'.cell? ⟨gy, 2, none⟩ = some (.slice l2 l3 l4)) (first | exact ⟨c2, d2⟩ | exact ⟨e2, e3⟩ | exact ⟨e4, e5⟩ | go_keep) (first
            | (clear m1; refine step_appP (by rfl) _ _ (by rfl) (by first | exact HOR9.out | exact HOR9.out.below (below_refl _).drew) (by first | exact HB9.out.size | exact HB9.out.drew.size) (F := (fun b => F b ∧ b < w.heap.size)) (by first | exact HPY9.out | exact HPY9.out.kp0 (below_refl _).drew) (i + l3) rfl HBD.out (by rfl) (by rfl) ?_; intro a10 c10 w10 hO10 hG10 hA10; have HK10 : Hid (Kp (fun g => g = bR) w9 w10) := (by first | exact kp_grow hG10 HBLR.out.2 | exact kp_grow_drew hG10 HBLR.out.2); have e4 : w10.cell? ⟨gx, 2, none⟩ = some (.slice k2 l3 k4) := HK10.out.cell e2 (fun h => by have h : gx = bR := h; have h1 := HGL.out.1; have h2 := HBW.out.2; omega); have e5 : w10.cell? ⟨gy, 2, none⟩ = some (.slice l2 l3 l4) := HK10.out.cell e3 (fun h => by have h : gy = bR := h; have h1 := HGL.out.2; have h2 := HBW.out.2; omega); have m2 : True := trivial)
            | (clear m0; refine step_appP (by rfl) _ _ (by rfl) (by first | exact HOL8.out | exact HOL8.out.below (below_refl _).drew) (by first | exact HB8.out.size | exact HB8.out.drew.size) (F := (fun b => F b ∧ b < w.heap.size)) (by first | exact HPX8.out | exact HPX8.out.kp0 (below_refl _).drew) (i + l3) rfl HBD.out (by rfl) (by rfl) ?_; intro a9 c9 w9 hO9 hG9 hA9; have HK9 : Hid (Kp (fun g => g = bL) w8 w9) := (by first | exact kp_grow hG9 HBLR.out.1 | exact kp_grow_drew hG9 HBLR.out.1); have HB9 : Hid (Below w.heap.size w w9) := below9 HB8.out HK9.out (HOL8.out.lt bL HBLR.out.1).1; have HOR9 : Hid (OwP w.heap.size w9 (.slice (some ⟨bR, oR, none⟩) i cR) i VR) := HOR8.out.kp HK9.out (fun g hg h => HNE.out (h.symm.trans (Option.some.inj (hg.symm.trans HBLR.out.2)))); have HPY9 : Hid (PRow (fun b => F b ∧ b < w.heap.size) w9 l2 l3 l4 V2) := HPY8.out.kp HK9.out (fun b hb h => by have h : b = bL := h; have := (HOL8.out.lt bL HBLR.out.1).1; have := hb.2; omega) (fun _ _ h => h); have e2 : w9.cell? ⟨gx, 2, none⟩ = some (.slice k2 l3 k4) := HK9.out.cell c2 (fun h => by have h : gx = bL := h; have h1 := HGL.out.1; have h2 := HBW.out.1; omega); have e3 : w9.cell? ⟨gy, 2, none⟩ = some (.slice l2 l3 l4) := HK9.out.cell d2 (fun h => by have h : gy = bL := h; have h1 := HGL.out.2; have h2 := HBW.out.1; omega); have m1 : True := trivial)
            | (go_at_call 999; fail))
          have HFIN : Hid ((Hid (Below w.heap.size w w10) ∧ ∃ N, N ≤ 3839 ∧ SameR w.heap.size (fun b => F b ∧ b < w.heap.size) r (.slice a9 (i + l3) c9) (.slice a10 (i + l3) c10) w10 N) ∧ mu (.slice a9 (i + l3) c9) (.slice a10 (i + l3) c10) w10 < mu (.slice (some ⟨bL, oL, none⟩) (i + 1) cL) (.slice (some ⟨bR, oR, none⟩) (i + 1) cR) wr) := by
            have hb10 : Below w.heap.size w w10 := below9 HB9.out HK10.out (HOR9.out.lt bR HBLR.out.2).1
            have kW : Kp (fun b => w.heap.size ≤ b) wr w10 := (Kp.of_below (F := fun b => w.heap.size ≤ b) HWR.out).trans ((HK9.out.mono (G := fun b => w.heap.size ≤ b) fun b _ h => by have h : b = bL := h; have := (HOL8.out.lt bL HBLR.out.1).1; show w.heap.size ≤ b; omega).trans (HK10.out.mono (G := fun b => w.heap.size ≤ b) fun b _ h => by have h : b = bR := h; have := (HOR9.out.lt bR HBLR.out.2).1; show w.heap.size ≤ b; omega) fun _ _ h => h) fun _ _ h => h
            have hnl : ∀ g, (Value.slice a9 (i + l3) c9).ownBlock = some g → g ≠ bR ∧ g < w9.heap.size := by
              intro g hg
              have h1 := (hO9.lt g hg).2
              rcases hA9 with h | h
              · rw [h, HBLR.out.1] at hg
                have := Option.some.inj hg
                exact ⟨fun e => HNE.out (this.trans e), h1⟩
              · rw [h] at hg
                have hg : w8.heap.size = g := Option.some.inj hg
                have h2 := HBW.out.2
                have h3 := HWR.out.size
                exact ⟨by omega, h1⟩
            have hne : ∀ g, (Value.slice a9 (i + l3) c9).ownBlock = some g → (Value.slice a10 (i + l3) c10).ownBlock ≠ some g := by
              intro g hg h2
              obtain ⟨h3, h4⟩ := hnl g hg
              rcases hA10 with h | h
              · rw [h, HBLR.out.2] at h2
                exact h3 (Option.some.inj h2).symm
              · rw [h] at h2
                have h2 : w9.heap.size = g := Option.some.inj h2
                omega
            have hs : SameR w.heap.size (fun b => F b ∧ b < w.heap.size) r (.slice a9 (i + l3) c9) (.slice a10 (i + l3) c10) w10 (nds (L ++ ks)) :=
              ⟨a9, a10, i + l3, c9, c10, _, _, L ++ ks, R ++ ks2, rfl, rfl, hO9.kp HK10.out (fun g hg h => (hnl g hg).1 h), hO10, hne,
                (HTL.out.cat HKX.out HLL.out.1).kp kW (fun b hb h => by have h : w.heap.size ≤ b := h; have := hb.2; omega) (fun _ _ h => h),
                (HTR.out.cat HKY.out HLL.out.2).kp kW (fun b hb h => by have h : w.heap.size ≤ b := h; have := hb.2; omega) (fun _ _ h => h),
                by rw [List.length_append, HLL.out.1, HKL.out.1], by rw [List.length_append, HLL.out.2, HKL.out.2], HSQ.out, rfl⟩
            have hnd : nds (L ++ ks) = nds L + nds ks := nds_app L ks
            have hle := (HMU.out _ _ _ ⟨_, hs⟩).2 _ hs
            have h1 := HND2.out.1
            have h2 := HND2.out.2
            exact ⟨⟨hb10, _, by omega, hs⟩, by omega⟩
          clear hO9 hG9 hA9 HK9 hO10 hG10 hA10 HK10 e2 e3 e4 e5 m2 HB9 HOR9 HPY9 HOL8 HOR8 HPX8 HPY8
          go_wp2
          exact HFIN.out
end Go.Proofs.YtbgkfjelgnbfmaaGreatDoor
