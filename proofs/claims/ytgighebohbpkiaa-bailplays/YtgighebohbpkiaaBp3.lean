/- plays: all kids; and every kind. -/
import Derived.Test.YtgighebohbpkiaaBp5
import Derived.Test.YtgighebohbpkiaaBp6
import Derived.Test.YtgighebohbpkiaaBp7
namespace Go.Proofs.Ytgighebohbpkiaa
open Go.RowKit Fo
set_option maxRecDepth 100000
set_option linter.unusedSimpArgs false
set_option linter.unusedVariables false

set_option maxHeartbeats 16000000 in
theorem plays_3 (w0 : World) (pb : Nat) (F : Nat → Prop) (w : World) (x : St) (code n : Int) (na : Option Addr) (len cap : Nat) (V : Nat → NV) (rs : Nat → Run) (ms : Nat → Nat) (hbl : Below w0.heap.size w0 w) (hs : PS w0.heap.size pb F w x) (hr : NRow w0 ⟨3, code, n, na, len, cap⟩ V) (hd : ∀ j, j < len → PlayP w0 pb (V j) (rs j) (3 * ms j)) (hb : ∀ j, j < len → RunB (3 * ms j) (rs j)) (hx : x.notes.length + 3 * sumTo ms len ≤ 99990) (hin : InR x) :
    Calls Try.prog 11 #[(.pointer (some ⟨pb, 0, none⟩)), .agg #[.int .i64 3, .int .i64 code, .int .i64 n, .slice na len cap]] w (PlayR w0.heap.size pb F w (allRun rs 0 len x).1 (allRun rs 0 len x).2) := by
  obtain ⟨W1, hW1⟩ : ∃ W1, W1 = (w.alloc (.cells #[.int .i64 3, .int .i64 code, .int .i64 n, .slice na len cap] 24)).alloc (.cells #[.int .i64 0, .int .i64 0, .int .i64 0] 37) := ⟨_, rfl⟩
  have HB1 : Hid (Below w.heap.size w W1) := by rw [hW1]; exact (below1 w _).alloc (by simp) _
  have HQ1 : Hid (W1.heap[w.heap.size]? = some (.cells #[.int .i64 3, .int .i64 code, .int .i64 n, .slice na len cap] 24)) := by show W1.heap[_]? = _; rw [hW1]; exact heap_new2 w _ _
  have HQ2 : Hid (W1.heap[w.heap.size + 1]? = some (.cells #[.int .i64 0, .int .i64 0, .int .i64 0] 37)) := by
    show W1.heap[_]? = _
    rw [hW1]
    have := heap_new1 (w.alloc (.cells #[.int .i64 3, .int .i64 code, .int .i64 n, .slice na len cap] 24)) (.cells #[.int .i64 0, .int .i64 0, .int .i64 0] 37)
    simpa using this
  have HZ1 : Hid (W1.heap.size = w.heap.size + 2) := by show _ = _; rw [hW1]; simp
  have HS1 : Hid (PS w0.heap.size pb F W1 x) := (ps_st _ pb).below hs HB1.out
  have HBL1 : Hid (Below w0.heap.size w0 W1) := hbl.trans (HB1.out.mono hbl.size)
  have HLT : Hid (∀ b, F b → b < w.heap.size) := (ps_st _ pb).lt hs
  have HLoF : Hid (∀ b, F b → w0.heap.size ≤ b) := by
    obtain ⟨_, _, h⟩ := hs
    exact h.lo
  have HD : Hid (∀ j, j < len → PlayP w0 pb (V j) (rs j) (3 * ms j)) := hd
  have HRB : Hid (∀ j, j < len → RunB (3 * ms j) (rs j)) := hb
  have HR : Hid (NRow w0 ⟨3, code, n, na, len, cap⟩ V) := hr
  have hl1 := hr.1
  have hl2 := hr.2.1
  simp only at hl1 hl2
  obtain ⟨p, hp⟩ : ∃ p, p = allRun rs 0 len x := ⟨_, rfl⟩
  have HPT : Hid (p = allRun rs 0 len x) := hp
  rw [← hp]
  have HX : Hid (x.notes.length + 3 * sumTo ms len ≤ 99990) := hx
  have HIN0 : Hid (InR x) := hin
  have HFn1 : Hid (¬ F w.heap.size) := fun h => by have := HLT.out _ h; omega
  have HFn2 : Hid (¬ F (w.heap.size + 1)) := fun h => by have := HLT.out _ h; omega
  clear hs hr hd hb hbl hp hx hin
  go_enter Try.func11, Try.ntmps11
  go_wp2
  rw [← hW1]
  clear hW1
  go_loopw [5] (fun v5 wr => ∃ (i : Nat) (G : Nat → Prop) (y : St), i ≤ len ∧ v5 = .int .i64 i ∧ Hid (Lft (PS w0.heap.size pb) F W1 y G wr) ∧ Hid (allRun rs i (len - i) y = p) ∧ Hid (y.notes.length ≤ x.notes.length + 3 * sumTo ms i) ∧ Hid (InR y)) (fun v _ => len - (intOf v).toNat)
  case atStart => exact ⟨0, F, x, Nat.zero_le _, rfl, (ps_st _ pb).lft HS1.out (below_refl _), HPT.out.symm, Nat.le_refl _, HIN0.out⟩
  case round =>
    obtain ⟨i, G, y, hi, rfl, HL, HALLP, HBDi, HIN⟩ := hrel
    rename World => wr
    have HBw : Hid (Below w0.heap.size w0 wr) := HBL1.out.trans (HL.out.2.2.below HBL1.out.size fun b hb hF => by have := HLoF.out b hF; omega)
    have hz := HZ1.out
    have hsz := HL.out.2.2.size
    have HP1 : Hid (wr.heap[w.heap.size]? = some (.cells #[.int .i64 3, .int .i64 code, .int .i64 n, .slice na len cap] 24)) := HL.out.2.2.heap HQ1.out HFn1.out
    have HP2 : Hid (wr.heap[w.heap.size + 1]? = some (.cells #[.int .i64 0, .int .i64 0, .int .i64 0] 37)) := HL.out.2.2.heap HQ2.out HFn2.out
    have HN1 : Hid (¬ G w.heap.size) := fun h => (HL.out.2.1 _ h).elim HFn1.out fun q => by omega
    have HN2 : Hid (¬ G (w.heap.size + 1)) := fun h => (HL.out.2.1 _ h).elim HFn2.out fun q => by omega
    have q4 : wr.cell? ⟨w.heap.size, 3, none⟩ = some (.slice na len cap) := by rw [cell_of_row _ _ _ _ _ _ HP1.out]; rfl
    by_cases hlt : i < len
    · obtain ⟨b, off, hab, hc⟩ := (HR.out.below (below_step (below_refl w0) HBw.out)).2.2.resolve_left (by simp only; omega)
      simp only at hab
      subst hab
      obtain ⟨c0, c1, c2, c3⟩ := hc i hlt
      obtain ⟨e1, z, hp1⟩ : ∃ e1 z, rs i y = (e1, z) := ⟨_, _, rfl⟩
      have HPE : Hid (rs i y = (e1, z)) := hp1
      have hrb := HRB.out i hlt y HIN.out
      rw [hp1] at hrb
      have HRBi : Hid (e1 ≠ .nilB ∧ z.notes.length ≤ y.notes.length + 3 * ms i ∧ InR z) := hrb
      have hsum := sumTo_mono ms (show i + 1 ≤ len from hlt)
      simp only [sumTo] at hsum
      have HBD : Hid (y.notes.length + 3 * ms i ≤ 99990) := by have := HBDi.out; have := HX.out; show _ ≤ _; omega
      have hun : allRun rs i (len - i) y = match rs i y with
        | (.ret, y') => allRun rs (i + 1) (len - (i + 1)) y'
        | q => q := by
        obtain ⟨d, hd⟩ : ∃ d, len - i = d + 1 := ⟨len - (i + 1), by omega⟩
        rw [hd, show len - (i + 1) = d by omega]
        rfl
      rw [hp1] at hun
      have HEQ : Hid (allRun rs i (len - i) y = p) := HALLP.out
      have HALL : Hid (e1 ≠ .ret → allRun rs i (len - i) y = (e1, z)) := fun hne => by
        rw [hun]
        cases e1 <;> first | rfl | exact absurd rfl hne
      have HNX : Hid (e1 = .ret → allRun rs (i + 1) (len - (i + 1)) z = p) := fun hr => by
        rw [← HALLP.out, hun, hr]
      have HSZ : Hid (x.notes.length + 3 * sumTo ms (i + 1) = x.notes.length + 3 * (sumTo ms i + ms i)) := rfl
      have j1 : (0 : Int) ≤ (i : Int) := by omega
      have j2 : (i : Int) < (len : Int) := by omega
      clear hc hp1 hrb hun hsum
      obtain ⟨yv, hyv⟩ : ∃ yv, yv = V i := ⟨_, rfl⟩
      rw [← hyv] at c0 c1 c2 c3
      have HYV : Hid (yv = V i) := hyv
      clear hyv
      have HDi : Hid (PlayP w0 pb yv (rs i) (3 * ms i)) := by show PlayP _ _ _ _ _; rw [HYV.out]; exact HD.out i hlt
      obtain ⟨u0, u1, u2, u3, u4, u5⟩ := yv
      simp only at c0 c1 c2 c3
      go_wp2_with (go_at_call 11; fail)
      refine (HDi.out G wr y HBw.out HL.out.1 HBD.out HIN.out).mono ?_
      rintro e w3 ⟨he3, G3, hl⟩
      rw [HPE.out] at he3 hl
      simp only at he3 hl
      have HL3 : Hid (Lft (PS w0.heap.size pb) G wr z G3 w3) := hl
      have HU2 : Hid (w3.heap[w.heap.size + 1]? = some (.cells #[.int .i64 0, .int .i64 0, .int .i64 0] 37)) := hl.2.2.heap HP2.out HN2.out
      have HNR : Hid (¬ G3 (w.heap.size + 1)) := fun h => (hl.2.1 _ h).elim HN2.out fun q => by have := lt_of_heap HP2.out; omega
      clear hl c0 c1 c2 c3 q4
      cases e1 with
      | ret =>
        replace he3 : e = .returned (.agg #[.int .i64 0, .int .i64 0, .int .i64 0]) := he3
        subst he3
        go_wp2
        exact ⟨⟨i + 1, G3, z, by omega, by simp, (HL.out.trans HL3.out).trans ((ps_st _ pb).lft HL3.out.1 (below1 w3 _)), HNX.out (by first | rfl | trivial), by have h1 := HRBi.out.2.1; have h2 := HBDi.out; have h3 := HSZ.out; show z.notes.length ≤ x.notes.length + 3 * sumTo ms (i + 1); omega, HRBi.out.2.2⟩, by simp [intOf]; omega⟩
      | bail c0 a0 =>
        replace he3 : e = .returned (.agg #[.int .i64 1, .int .i64 c0, .int .i64 a0]) := he3
        subst he3
        have HPQ : Hid (p = (.bail c0 a0, z)) := by show p = _; rw [← HEQ.out, HALL.out (fun h => by cases h)]
        have hr9 : (w3.alloc (.cells #[.int .i64 1, .int .i64 c0, .int .i64 a0] 37)).heap[w.heap.size + 1]? = some (.cells #[.int .i64 0, .int .i64 0, .int .i64 0] 37) := ((below1 w3 _).block _ (lt_of_heap HU2.out)).trans HU2.out
        have HLH : Hid (Lft (PS w0.heap.size pb) F w z G3 (w3.alloc (.cells #[.int .i64 1, .int .i64 c0, .int .i64 a0] 37))) := ((HL.out.trans HL3.out).trans ((ps_st _ pb).lft HL3.out.1 (below1 w3 _))).of_below HB1.out
        obtain ⟨s0, s1, s2, s3, s4, s5, s6, s7⟩ := st3 hr9 (.int .i64 1) (.int .i64 c0) (.int .i64 a0)
        have HS6 : Hid (((((w3.alloc (.cells #[.int .i64 1, .int .i64 c0, .int .i64 a0] 37)).setCell ⟨w.heap.size + 1, 0, none⟩ (.int .i64 1)).setCell ⟨w.heap.size + 1, 1, none⟩ (.int .i64 c0)).setCell ⟨w.heap.size + 1, 2, none⟩ (.int .i64 a0)).heap[w.heap.size + 1]? = some (.cells #[.int .i64 1, .int .i64 c0, .int .i64 a0] 37)) := s6
        have HS7 : Hid (Kp (fun b => b = w.heap.size + 1) (w3.alloc (.cells #[.int .i64 1, .int .i64 c0, .int .i64 a0] 37)) ((((w3.alloc (.cells #[.int .i64 1, .int .i64 c0, .int .i64 a0] 37)).setCell ⟨w.heap.size + 1, 0, none⟩ (.int .i64 1)).setCell ⟨w.heap.size + 1, 1, none⟩ (.int .i64 c0)).setCell ⟨w.heap.size + 1, 2, none⟩ (.int .i64 a0))) := s7
        clear s6 s7
        clear hr9
        go_wp2
        generalize ((((w3.alloc (.cells #[.int .i64 1, .int .i64 c0, .int .i64 a0] 37)).setCell ⟨w.heap.size + 1, 0, none⟩ (.int .i64 1)).setCell ⟨w.heap.size + 1, 1, none⟩ (.int .i64 c0)).setCell ⟨w.heap.size + 1, 2, none⟩ (.int .i64 a0)) = W10 at HS6 HS7 ⊢
        have r0 := cell_of_row _ _ 0 _ _ _ HS6.out
        have r1 := cell_of_row _ _ 1 _ _ _ HS6.out
        have r2 := cell_of_row _ _ 2 _ _ _ HS6.out
        simp only [List.getElem?_toArray, List.getElem?_cons_zero, List.getElem?_cons_succ] at r0 r1 r2
        refine bodyPost_ret (v := .agg #[.int .i64 1, .int .i64 c0, .int .i64 a0]) (by simp [results, Try.results11, go_sem, r0, r1, r2]) rfl ?_
        rw [HPQ.out]
        exact ⟨rfl, G3, Lft.box (ps_st _ pb) HLH.out HS7.out (by omega) HNR.out⟩
      | num m =>
        replace he3 : e = .returned (.agg #[.int .i64 2, .int .i64 0, .int .i64 m]) := he3
        subst he3
        have HPQ : Hid (p = (.num m, z)) := by show p = _; rw [← HEQ.out, HALL.out (fun h => by cases h)]
        have hr9 : (w3.alloc (.cells #[.int .i64 2, .int .i64 0, .int .i64 m] 37)).heap[w.heap.size + 1]? = some (.cells #[.int .i64 0, .int .i64 0, .int .i64 0] 37) := ((below1 w3 _).block _ (lt_of_heap HU2.out)).trans HU2.out
        have HLH : Hid (Lft (PS w0.heap.size pb) F w z G3 (w3.alloc (.cells #[.int .i64 2, .int .i64 0, .int .i64 m] 37))) := ((HL.out.trans HL3.out).trans ((ps_st _ pb).lft HL3.out.1 (below1 w3 _))).of_below HB1.out
        obtain ⟨s0, s1, s2, s3, s4, s5, s6, s7⟩ := st3 hr9 (.int .i64 2) (.int .i64 0) (.int .i64 m)
        have HS6 : Hid (((((w3.alloc (.cells #[.int .i64 2, .int .i64 0, .int .i64 m] 37)).setCell ⟨w.heap.size + 1, 0, none⟩ (.int .i64 2)).setCell ⟨w.heap.size + 1, 1, none⟩ (.int .i64 0)).setCell ⟨w.heap.size + 1, 2, none⟩ (.int .i64 m)).heap[w.heap.size + 1]? = some (.cells #[.int .i64 2, .int .i64 0, .int .i64 m] 37)) := s6
        have HS7 : Hid (Kp (fun b => b = w.heap.size + 1) (w3.alloc (.cells #[.int .i64 2, .int .i64 0, .int .i64 m] 37)) ((((w3.alloc (.cells #[.int .i64 2, .int .i64 0, .int .i64 m] 37)).setCell ⟨w.heap.size + 1, 0, none⟩ (.int .i64 2)).setCell ⟨w.heap.size + 1, 1, none⟩ (.int .i64 0)).setCell ⟨w.heap.size + 1, 2, none⟩ (.int .i64 m))) := s7
        clear s6 s7
        clear hr9
        go_wp2
        generalize ((((w3.alloc (.cells #[.int .i64 2, .int .i64 0, .int .i64 m] 37)).setCell ⟨w.heap.size + 1, 0, none⟩ (.int .i64 2)).setCell ⟨w.heap.size + 1, 1, none⟩ (.int .i64 0)).setCell ⟨w.heap.size + 1, 2, none⟩ (.int .i64 m)) = W10 at HS6 HS7 ⊢
        have r0 := cell_of_row _ _ 0 _ _ _ HS6.out
        have r1 := cell_of_row _ _ 1 _ _ _ HS6.out
        have r2 := cell_of_row _ _ 2 _ _ _ HS6.out
        simp only [List.getElem?_toArray, List.getElem?_cons_zero, List.getElem?_cons_succ] at r0 r1 r2
        refine bodyPost_ret (v := .agg #[.int .i64 2, .int .i64 0, .int .i64 m]) (by simp [results, Try.results11, go_sem, r0, r1, r2]) rfl ?_
        rw [HPQ.out]
        exact ⟨rfl, G3, Lft.box (ps_st _ pb) HLH.out HS7.out (by omega) HNR.out⟩
      | nilB => exact absurd rfl HRBi.out.1
    · have hn : i = len := by omega
      subst hn
      have HEND : Hid (p = (.ret, y)) := by
        show p = _
        rw [← HALLP.out, Nat.sub_self]
        rfl
      have hr9 := HP2.out
      have HNR : Hid (¬ G (w.heap.size + 1)) := HN2.out
      have HLH : Hid (Lft (PS w0.heap.size pb) F w y G wr) := HL.out.of_below HB1.out
      obtain ⟨s0, s1, s2, s3, s4, s5, s6, s7⟩ := st3 hr9 (.int .i64 0) (.int .i64 0) (.int .i64 0)
      have HS6 : Hid ((((wr.setCell ⟨w.heap.size + 1, 0, none⟩ (.int .i64 0)).setCell ⟨w.heap.size + 1, 1, none⟩ (.int .i64 0)).setCell ⟨w.heap.size + 1, 2, none⟩ (.int .i64 0)).heap[w.heap.size + 1]? = some (.cells #[.int .i64 0, .int .i64 0, .int .i64 0] 37)) := s6
      have HS7 : Hid (Kp (fun b => b = w.heap.size + 1) wr (((wr.setCell ⟨w.heap.size + 1, 0, none⟩ (.int .i64 0)).setCell ⟨w.heap.size + 1, 1, none⟩ (.int .i64 0)).setCell ⟨w.heap.size + 1, 2, none⟩ (.int .i64 0))) := s7
      clear s6 s7
      clear hr9
      go_wp2
      generalize (((wr.setCell ⟨w.heap.size + 1, 0, none⟩ (.int .i64 0)).setCell ⟨w.heap.size + 1, 1, none⟩ (.int .i64 0)).setCell ⟨w.heap.size + 1, 2, none⟩ (.int .i64 0)) = W10 at HS6 HS7 ⊢
      have r0 := cell_of_row _ _ 0 _ _ _ HS6.out
      have r1 := cell_of_row _ _ 1 _ _ _ HS6.out
      have r2 := cell_of_row _ _ 2 _ _ _ HS6.out
      simp only [List.getElem?_toArray, List.getElem?_cons_zero, List.getElem?_cons_succ] at r0 r1 r2
      refine bodyPost_ret (v := .agg #[.int .i64 0, .int .i64 0, .int .i64 0]) (by simp [results, Try.results11, go_sem, r0, r1, r2]) rfl ?_
      rw [HEND.out]
      exact ⟨rfl, G, Lft.box (ps_st _ pb) HLH.out HS7.out (by omega) HNR.out⟩
theorem plays_zero (w0 : World) (pb : Nat) : PlayP w0 pb NV.zero (fun x => (.ret, x)) 0 := fun F w x hb hs hx hin =>
  plays_no w0.heap.size pb F w x 0 0 0 none 0 0 hb.size (by omega) hin hs (Or.inl (by decide))
theorem kid_plays (w0 : World) (pb : Nat) (V : Nat → NV) (rs : Nat → Run) (ms : Nat → Nat) (len i : Nat) (hd : ∀ j, j < len → PlayP w0 pb (V j) (rs j) (3 * ms j)) :
    PlayP w0 pb (kidNV V len i) (kidRun rs len i) (3 * (if i < len then ms i else 0)) := by
  unfold kidNV kidRun
  by_cases h : i < len
  · rw [if_pos h, if_pos h, if_pos h]; exact hd i h
  · rw [if_neg h, if_neg h, if_neg h]; exact plays_zero w0 pb
theorem plays_step (w0 : World) (pb : Nat) (nv : NV) (V : Nat → NV) (rs : Nat → Run) (ms : Nat → Nat) (hr : NRow w0 nv V) (hd : ∀ j, j < nv.len → PlayP w0 pb (V j) (rs j) (3 * ms j)) (hb : ∀ j, j < nv.len → RunB (3 * ms j) (rs j)) (m : Nat) (hm : m = 3 * (1 + sumTo ms nv.len)) (F : Nat → Prop) (w : World) (x : St) (hbl : Below w0.heap.size w0 w) (hs : PS w0.heap.size pb F w x) (hx : x.notes.length + m ≤ 99990) (hin : InR x) :
    Calls Try.prog 11 #[.pointer (some ⟨pb, 0, none⟩), nv.v] w (PlayR w0.heap.size pb F w (nodeRun nv.kind nv.code nv.n nv.len rs x).1 (nodeRun nv.kind nv.code nv.n nv.len rs x).2) := by
  obtain ⟨kind, code, n, na, len, cap⟩ := nv
  simp only at hd hb hm
  have d0 := kid_plays w0 pb V rs ms len 0 hd
  have d1 := kid_plays w0 pb V rs ms len 1 hd
  have b0 := kid_b (i := 0) hb
  have b1 := kid_b (i := 1) hb
  have hm0 : (if 0 < len then ms 0 else 0) ≤ sumTo ms len := by
    split
    · rename_i q; exact sumTo_one ms q
    · exact Nat.zero_le _
  have hm1 : (if 0 < len then ms 0 else 0) + (if 1 < len then ms 1 else 0) ≤ sumTo ms len := by
    by_cases q : 1 < len
    · rw [if_pos q, if_pos (by omega)]; exact sumTo_two ms q
    · rw [if_neg q]; exact hm0
  have hlo := hbl.size
  unfold nodeRun NV.v
  simp only
  by_cases h1 : kind = 1
  · subst h1; exact plays_1 _ pb F w x code n na len cap hlo (by omega) hin hs
  by_cases h2 : kind = 2
  · subst h2; exact plays_2 _ pb F w x code n na len cap hlo (by omega) hin hs
  by_cases h3 : kind = 3
  · subst h3; exact plays_3 w0 pb F w x code n na len cap V rs ms hbl hs hr hd hb (by omega) hin
  by_cases h4 : kind = 4
  · subst h4; exact plays_4 w0 pb F w x code n na len cap V hbl hs hr _ _ d0 b0 (by omega) hin
  by_cases h5 : kind = 5
  · subst h5; exact plays_5 w0 pb F w x code n na len cap V hbl hs hr _ _ d0 b0 (by omega) hin
  by_cases h6 : kind = 6
  · subst h6; exact plays_6 w0 pb F w x code n na len cap V hbl hs hr _ _ d0 _ _ d1 b0 b1 (by omega) hin
  by_cases h7 : kind = 7
  · subst h7; exact plays_7 w0 pb F w x code n na len cap V hbl hs hr _ _ d0 b0 (by omega) hin
  by_cases h8 : kind = 8
  · subst h8; exact plays_8 _ pb F w x code n na len cap hlo (by omega) hin hs
  by_cases h9 : kind = 9
  · subst h9; exact plays_9 _ pb F w x code n na len cap hlo (by omega) hin hs
  rw [if_neg h1, if_neg h2, if_neg h3, if_neg h4, if_neg h5, if_neg h6, if_neg h7, if_neg h8, if_neg h9]
  exact plays_no _ pb F w x kind code n na len cap hlo (by omega) hin hs (by omega)
theorem plays_all (K : NV → Nat → NV) (w0 : World) (pb : Nat) : ∀ (k : Nat) (nv : NV), Wf K w0 k nv → sz K k nv ≤ 200 → PlayP w0 pb nv (run K k nv) (3 * sz K k nv)
  | 0, nv, _, hz => by simp [sz] at hz
  | k + 1, nv, hw, hz => fun F w x hb hs hx hin => by
    have hs1 : sz K (k + 1) nv = 1 + sumTo (fun j => sz K k (K nv j)) nv.len := rfl
    exact plays_step w0 pb nv (K nv) (fun j => run K k (K nv j)) (fun j => sz K k (K nv j)) hw.1 (fun j hj => plays_all K w0 pb k (K nv j) (hw.2 j hj) (by have h9 : sz K k (K nv j) ≤ sumTo (fun j => sz K k (K nv j)) nv.len := sumTo_one (fun j => sz K k (K nv j)) hj; omega)) (fun j _ => run_b K k (K nv j)) _ rfl F w x hb hs hx hin
end Go.Proofs.Ytgighebohbpkiaa
