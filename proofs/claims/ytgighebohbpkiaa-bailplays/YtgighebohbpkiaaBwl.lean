/- does: all kids, one behind the other; and every kind. -/
import Derived.Test.YtgighebohbpkiaaBwb
namespace Go.Proofs.Ytgighebohbpkiaa
open Go.RowKit Fo
set_option maxRecDepth 100000
set_option linter.unusedSimpArgs false
set_option linter.unusedVariables false

set_option maxHeartbeats 16000000 in
theorem does_3 {M : (Nat → Prop) → World → Value → Int → Prop} (C : BailSays) (D : MeterSays M) (w0 : World) (bw : Nat) (F : Nat → Prop) (w : World) (x : St) (code n : Int) (na : Option Addr) (len cap : Nat) (V : Nat → NV) (rs : Nat → Run) (ms : Nat → Nat) (hbl : Below w0.heap.size w0 w) (hs : WS M w0.heap.size bw F w x) (hr : NRow w0 ⟨3, code, n, na, len, cap⟩ V) (hd : ∀ j, j < len → DoesP M w0 bw (V j) (rs j) (3 * ms j)) (hb : ∀ j, j < len → RunB (3 * ms j) (rs j)) (hx : x.notes.length + 3 * sumTo ms len ≤ 99990) (hin : InR x) :
    Calls Try.prog 14 #[(.pointer (some ⟨bw, 0, none⟩)), .agg #[.int .i64 3, .int .i64 code, .int .i64 n, .slice na len cap]] w (Fins (WS M w0.heap.size bw) F w (allRun rs 0 len x).1 (allRun rs 0 len x).2) := by
  obtain ⟨W1, hW1⟩ : ∃ W1, W1 = (w.alloc (.cells #[.pointer (some ⟨bw, 0, none⟩)] 27)).alloc (.cells #[.int .i64 3, .int .i64 code, .int .i64 n, .slice na len cap] 24) := ⟨_, rfl⟩
  have HB1 : Hid (Below w.heap.size w W1) := by rw [hW1]; exact (below1 w _).alloc (by simp) _
  have HQ0 : Hid (W1.heap[w.heap.size]? = some (.cells #[.pointer (some ⟨bw, 0, none⟩)] 27)) := by show W1.heap[_]? = _; rw [hW1]; exact heap_new2 w _ _
  have HQ1 : Hid (W1.heap[w.heap.size + 1]? = some (.cells #[.int .i64 3, .int .i64 code, .int .i64 n, .slice na len cap] 24)) := by
    show W1.heap[_]? = _
    rw [hW1]
    have := heap_new1 (w.alloc (.cells #[.pointer (some ⟨bw, 0, none⟩)] 27)) (.cells #[.int .i64 3, .int .i64 code, .int .i64 n, .slice na len cap] 24)
    simpa using this
  have HZ1 : Hid (W1.heap.size = w.heap.size + 2) := by show _ = _; rw [hW1]; simp
  
  have HS1 : Hid (WS M w0.heap.size bw F W1 x) := (ws_st D _ bw).below hs HB1.out
  have HBL1 : Hid (Below w0.heap.size w0 W1) := hbl.trans (HB1.out.mono hbl.size)
  have HLT : Hid (∀ b, F b → b < w.heap.size) := (ws_st D _ bw).lt hs
  have HD : Hid (∀ j, j < len → DoesP M w0 bw (V j) (rs j) (3 * ms j)) := hd
  have HRB : Hid (∀ j, j < len → RunB (3 * ms j) (rs j)) := hb
  have HR : Hid (NRow w0 ⟨3, code, n, na, len, cap⟩ V) := hr
  have hl1 := hr.1
  have hl2 := hr.2.1
  simp only at hl1 hl2
  obtain ⟨p, hp⟩ : ∃ p, p = allRun rs 0 len x := ⟨_, rfl⟩
  have HPT : Hid (p = allRun rs 0 len x) := hp
  rw [← hp]
  have HX : Hid (x.notes.length + 3 * sumTo ms len ≤ 99990) := hx
  have HIN0 : Hid (InR x) := hin
  clear hs hr hd hb hbl hp hx hin
  go_enter Try.func14, Try.ntmps14
  go_wp2
  rw [← hW1]
  clear hW1
  go_loopw [4] (fun v4 wr => ∃ (i : Nat) (G : Nat → Prop) (y : St), i ≤ len ∧ v4 = .int .i64 i ∧ Hid (Lft (WS M w0.heap.size bw) F W1 y G wr) ∧ Hid (allRun rs i (len - i) y = p) ∧ Hid (y.notes.length ≤ x.notes.length + 3 * sumTo ms i) ∧ Hid (InR y)) (fun v _ => len - (intOf v).toNat)
  case atStart => exact ⟨0, F, x, Nat.zero_le _, rfl, (ws_st D _ bw).lft HS1.out (below_refl _), HPT.out.symm, Nat.le_refl _, HIN0.out⟩
  case round =>
    obtain ⟨i, G, y, hi, rfl, HL, HALLP, HBDi, HIN⟩ := hrel
    rename World => wr
    have HS : Hid (WS M w0.heap.size bw G wr y) := HL.out.1
    have HLo : Hid (∀ b, G b → w0.heap.size ≤ b) := by
      obtain ⟨_, _, _, _, h⟩ := HL.out.1
      exact h.lo
    have HLoF : Hid (∀ b, F b → w0.heap.size ≤ b) := by
      obtain ⟨_, _, _, _, h⟩ := HS1.out
      exact h.lo
    have HBw : Hid (Below w0.heap.size w0 wr) := HBL1.out.trans (HL.out.2.2.below HBL1.out.size fun b hb hF => by have := HLoF.out b hF; omega)
    have hz := HZ1.out
    have HFn1 : Hid (¬ F w.heap.size) := fun h => by have := HLT.out _ h; omega
    have HFn2 : Hid (¬ F (w.heap.size + 1)) := fun h => by have := HLT.out _ h; omega
    have HP0 : Hid (wr.heap[w.heap.size]? = some (.cells #[.pointer (some ⟨bw, 0, none⟩)] 27)) := HL.out.2.2.heap HQ0.out HFn1.out
    have HP1 : Hid (wr.heap[w.heap.size + 1]? = some (.cells #[.int .i64 3, .int .i64 code, .int .i64 n, .slice na len cap] 24)) := HL.out.2.2.heap HQ1.out HFn2.out
    have HN1 : Hid (¬ G w.heap.size) := fun h => (HL.out.2.1 _ h).elim HFn1.out fun q => by omega
    have HN2 : Hid (¬ G (w.heap.size + 1)) := fun h => (HL.out.2.1 _ h).elim HFn2.out fun q => by omega
    have q4 : wr.cell? ⟨w.heap.size + 1, 3, none⟩ = some (.slice na len cap) := by rw [cell_of_row _ _ _ _ _ _ HP1.out]; rfl
    by_cases hlt : i < len
    · obtain ⟨b, off, hab, hc⟩ := (HR.out.below (below_step (below_refl w0) HBw.out)).2.2.resolve_left (by simp only; omega)
      simp only at hab
      subst hab
      obtain ⟨c0, c1, c2, c3⟩ := hc i hlt
      have HNb : Hid (¬ G b) := fun h => by
        obtain ⟨b', off', hab', hc'⟩ := HR.out.2.2.resolve_left (by simp only; omega)
        simp only at hab'
        obtain ⟨rfl, rfl⟩ : b = b' ∧ off = off' := by simpa using hab'
        have h1 := World.block_lt_of_cell? w0 _ (hc' i hlt).1
        have h2 := HLo.out _ h
        simp only at h1
        omega
      obtain ⟨e1, z, hp1⟩ : ∃ e1 z, rs i y = (e1, z) := ⟨_, _, rfl⟩
      have HPE : Hid (rs i y = (e1, z)) := hp1
      have hrb := HRB.out i hlt y HIN.out
      rw [hp1] at hrb
      have HRBi : Hid (e1 ≠ .nilB ∧ z.notes.length ≤ y.notes.length + 3 * ms i ∧ InR z) := hrb
      have hsum := sumTo_mono ms (show i + 1 ≤ len from hlt)
      simp only [sumTo] at hsum
      have HBD : Hid (y.notes.length + 3 * ms i ≤ 99990) := by have := HBDi.out; have := HX.out; show _ ≤ _; omega
      have hun : allRun rs i (len - i) y = match rs i y with
        | (.ret, y') => allRun rs (i + 1) (len - (i + 1)) y'
        | q => q := by
        obtain ⟨d, hd⟩ : ∃ d, len - i = d + 1 := ⟨len - (i + 1), by omega⟩
        rw [hd, show len - (i + 1) = d by omega]
        rfl
      rw [hp1] at hun
      have HEQ : Hid (allRun rs i (len - i) y = p) := HALLP.out
      have HALL : Hid (e1 ≠ .ret → allRun rs i (len - i) y = (e1, z)) := fun hne => by
        rw [hun]
        cases e1 <;> first | rfl | exact absurd rfl hne
      have HNX : Hid (e1 = .ret → allRun rs (i + 1) (len - (i + 1)) z = p) := fun hr => by
        rw [← HALLP.out, hun, hr]
      have HSZ : Hid (x.notes.length + 3 * sumTo ms (i + 1) = x.notes.length + 3 * (sumTo ms i + ms i)) := rfl
      have j1 : (0 : Int) ≤ (i : Int) := by omega
      have j2 : (i : Int) < (len : Int) := by omega
      clear hc hp1 hrb hun hsum
      obtain ⟨yv, hyv⟩ : ∃ yv, yv = V i := ⟨_, rfl⟩
      rw [← hyv] at c0 c1 c2 c3
      have HYV : Hid (yv = V i) := hyv
      clear hyv
      have HDi : Hid (DoesP M w0 bw yv (rs i) (3 * ms i)) := by show DoesP _ _ _ _ _ _; rw [HYV.out]; exact HD.out i hlt
      obtain ⟨u0, u1, u2, u3, u4, u5⟩ := yv
      simp only at c0 c1 c2 c3
      go_wp2
      refine wp_region_held_drew (S := (fun w' => Kp G wr w')) (by kernel_rfl) ?_ (fun hHeld => ?_)
      · (try dsimp only); exact Kp.of_below (below_refl wr).drew
      refine wpAnyH_take (i := 0) (oi := { dst := some 36, op := Op.load 27 (Operand.tmp 2), type := 27, pos := "law.go:53", after := #[], guard := none }) (v := ?vu103) rfl (by kernel_rfl) (by kernel_rfl) (by kernel_rfl) (fun _ _ _ h => bp_put (P := Try.prog) (fn := Try.f14) _ _ _ h) (Or.inl ⟨by rfl, ?hyu103⟩) (by assumption) ?restu103
      case hyu103 => (intro wz hSw; (try dsimp only at hSw); have q0 := cell_of_row _ _ 0 _ _ _ (hSw.heap HP0.out HN1.out); have q4 := cell_of_row _ _ 3 _ _ _ (hSw.heap HP1.out HN2.out); have k0 := hSw.cell c0 HNb.out; have k1 := hSw.cell c1 HNb.out; have k2 := hSw.cell c2 HNb.out; have k3 := hSw.cell c3 HNb.out; (try simp only [List.getElem?_toArray, List.getElem?_cons_zero, List.getElem?_cons_succ] at q0 q4); go_simp; (try with_reducible rfl))
      try simp only [Act.put, List.setIfInBounds_toArray, List.set_cons_zero, List.set_cons_succ]
      refine wpAnyH_take (i := 1) (oi := { dst := some 37, op := Op.fieldAddr 24 (Operand.tmp 3) 3, type := 0, pos := "law.go:53", after := #[], guard := none }) (v := ?vu104) rfl (by kernel_rfl) (by kernel_rfl) (by kernel_rfl) (fun _ _ _ h => bp_put (P := Try.prog) (fn := Try.f14) _ _ _ h) (Or.inl ⟨by rfl, ?hyu104⟩) (by assumption) ?restu104
      case hyu104 => (intro w hSw; (try dsimp only at hSw); go_simp; (try with_reducible rfl))
      try simp only [Act.put, List.setIfInBounds_toArray, List.set_cons_zero, List.set_cons_succ]
      refine wpAnyH_take (i := 2) (oi := { dst := some 38, op := Op.load 22 (Operand.tmp 37), type := 22, pos := "law.go:53", after := #[{ on := 1, ground := Ground.data }], guard := none }) (v := ?vu105) rfl (by kernel_rfl) (by kernel_rfl) (by kernel_rfl) (fun _ _ _ h => bp_put (P := Try.prog) (fn := Try.f14) _ _ _ h) (Or.inl ⟨by rfl, ?hyu105⟩) (by assumption) ?restu105
      case hyu105 => (intro wz hSw; (try dsimp only at hSw); have q0 := cell_of_row _ _ 0 _ _ _ (hSw.heap HP0.out HN1.out); have q4 := cell_of_row _ _ 3 _ _ _ (hSw.heap HP1.out HN2.out); have k0 := hSw.cell c0 HNb.out; have k1 := hSw.cell c1 HNb.out; have k2 := hSw.cell c2 HNb.out; have k3 := hSw.cell c3 HNb.out; (try simp only [List.getElem?_toArray, List.getElem?_cons_zero, List.getElem?_cons_succ] at q0 q4); go_simp; (try with_reducible rfl))
      try simp only [Act.put, List.setIfInBounds_toArray, List.set_cons_zero, List.set_cons_succ]
      refine wpAnyH_take (i := 3) (oi := { dst := some 39, op := Op.move (Operand.tmp 4), type := 3, pos := "law.go:53", after := #[], guard := none }) (v := ?vu106) rfl (by kernel_rfl) (by kernel_rfl) (by kernel_rfl) (fun _ _ _ h => bp_put (P := Try.prog) (fn := Try.f14) _ _ _ h) (Or.inl ⟨by rfl, ?hyu106⟩) (by assumption) ?restu106
      case hyu106 => (intro w hSw; (try dsimp only at hSw); go_simp; (try with_reducible rfl))
      try simp only [Act.put, List.setIfInBounds_toArray, List.set_cons_zero, List.set_cons_succ]
      refine wpAnyH_take (i := 4) (oi := { dst := some 40, op := Op.indexAddr 22 (Operand.tmp 38) (Operand.tmp 39), type := 0, pos := "law.go:53", after := #[{ on := 2, ground := Ground.data }, { on := 3, ground := Ground.data }], guard := none }) (v := ?vu107) rfl (by kernel_rfl) (by kernel_rfl) (by kernel_rfl) (fun _ _ _ h => bp_put (P := Try.prog) (fn := Try.f14) _ _ _ h) (Or.inl ⟨by rfl, ?hyu107⟩) (by assumption) ?restu107
      case hyu107 => (intro w hSw; (try dsimp only at hSw); go_simp; (try with_reducible rfl))
      try simp only [Act.put, List.setIfInBounds_toArray, List.set_cons_zero, List.set_cons_succ]
      refine wpAnyH_take (i := 5) (oi := { dst := some 41, op := Op.load 24 (Operand.tmp 40), type := 24, pos := "law.go:53", after := #[{ on := 4, ground := Ground.data }], guard := none }) (v := ?vu108) rfl (by kernel_rfl) (by kernel_rfl) (by kernel_rfl) (fun _ _ _ h => bp_put (P := Try.prog) (fn := Try.f14) _ _ _ h) (Or.inl ⟨by rfl, ?hyu108⟩) (by assumption) ?restu108
      case hyu108 => (intro wz hSw; (try dsimp only at hSw); have q0 := cell_of_row _ _ 0 _ _ _ (hSw.heap HP0.out HN1.out); have q4 := cell_of_row _ _ 3 _ _ _ (hSw.heap HP1.out HN2.out); have k0 := hSw.cell c0 HNb.out; have k1 := hSw.cell c1 HNb.out; have k2 := hSw.cell c2 HNb.out; have k3 := hSw.cell c3 HNb.out; (try simp only [List.getElem?_toArray, List.getElem?_cons_zero, List.getElem?_cons_succ] at q0 q4); go_simp; (try with_reducible rfl))
      try simp only [Act.put, List.setIfInBounds_toArray, List.set_cons_zero, List.set_cons_succ]
      refine wpAnyH_ready (rs := [6]) (by kernel_rfl) (by simp) ?_
      refine AllReadyH.cons (o := { dst := some 42, op := Op.call { callee := Callee.value (Operand.func 14), args := #[Operand.tmp 36, Operand.tmp 41], argTypes := #[27, 24] }, type := 0, pos := "law.go:53", after := #[{ on := 0, ground := Ground.data }, { on := 5, ground := Ground.data }], guard := none }) rfl (fun K hK => ?_) AllReadyH.nil
      go_simp
      go_at_call 14
      refine (HDi.out G wr.drew y (HBw.out.drew) ((ws_st D _ bw).drew HS.out) (by have := HBD.out; omega) HIN.out).mono ?_
      rintro e w3 hfin
      rw [HPE.out] at hfin
      have HFin : Hid (Fins (WS M w0.heap.size bw) G wr e1 z e w3) := hfin.of_below (below_refl wr).drew
      obtain ⟨G3, hl, he⟩ := HFin.out
      have HK3 : Hid (Kp G wr w3) := hl.2.2
      have HL3 : Hid (Lft (WS M w0.heap.size bw) G wr z G3 w3) := hl
      rcases he with ⟨hr, rfl⟩ | ⟨v, old, rfl, ho, hv⟩
      case inr =>
        refine ⟨rfl, ?_⟩
        have h1 : e1 ≠ .ret := fun e => by subst e; exact hv
        rw [← HEQ.out, HALL.out h1]
        exact (Fins.trans HL.out HFin.out).of_below HB1.out
      have HRT : Hid (e1 = .ret) := hr
      clear hl hr
      refine hK.out _ _ ?_ (fun hHeldB => ?_)
      · (try dsimp only); exact HK3.out
      clear hK K hHeld
      have hHeld := hHeldB
      clear hHeldB
      try simp only [Act.put, List.setIfInBounds_toArray, List.set_cons_zero, List.set_cons_succ]
      refine wpAnyH_done (by kernel_rfl) ?_ _
      go_wp2
      exact ⟨⟨i + 1, G3, z, by omega, by simp, HL.out.trans HL3.out, HNX.out HRT.out, by have h1 := HRBi.out.2.1; have h2 := HBDi.out; have h3 := HSZ.out; show z.notes.length ≤ x.notes.length + 3 * sumTo ms (i + 1); omega, HRBi.out.2.2⟩, by simp [intOf]; omega⟩
    · have hn : i = len := by omega
      subst hn
      have HEND : Hid (p = (.ret, y)) := by
        show p = _
        rw [← HALLP.out, Nat.sub_self]
        rfl
      go_wp2
      go_end0
      rw [HEND.out]
      exact ⟨G, HL.out.of_below HB1.out, Or.inl ⟨rfl, rfl⟩⟩
theorem does_zero {M : (Nat → Prop) → World → Value → Int → Prop} (C : BailSays) (D : MeterSays M) (w0 : World) (bw : Nat) : DoesP M w0 bw NV.zero (fun x => (.ret, x)) 0 := fun F w x hb hs hx hin =>
  does_no C D w0.heap.size bw F w x 0 0 0 none 0 0 hb.size (by omega) hs (Or.inl (by decide))
theorem kid_does {M : (Nat → Prop) → World → Value → Int → Prop} (C : BailSays) (D : MeterSays M) (w0 : World) (bw : Nat) (V : Nat → NV) (rs : Nat → Run) (ms : Nat → Nat) (len i : Nat) (hd : ∀ j, j < len → DoesP M w0 bw (V j) (rs j) (3 * ms j)) :
    DoesP M w0 bw (kidNV V len i) (kidRun rs len i) (3 * (if i < len then ms i else 0)) := by
  unfold kidNV kidRun
  by_cases h : i < len
  · rw [if_pos h, if_pos h, if_pos h]; exact hd i h
  · rw [if_neg h, if_neg h, if_neg h]; exact does_zero C D w0 bw
theorem does_step {M : (Nat → Prop) → World → Value → Int → Prop} (C : BailSays) (D : MeterSays M) (w0 : World) (bw : Nat) (nv : NV) (V : Nat → NV) (rs : Nat → Run) (ms : Nat → Nat) (hr : NRow w0 nv V) (hd : ∀ j, j < nv.len → DoesP M w0 bw (V j) (rs j) (3 * ms j)) (hb : ∀ j, j < nv.len → RunB (3 * ms j) (rs j)) (m : Nat) (hm : m = 3 * (1 + sumTo ms nv.len)) (F : Nat → Prop) (w : World) (x : St) (hbl : Below w0.heap.size w0 w) (hs : WS M w0.heap.size bw F w x) (hx : x.notes.length + m ≤ 99990) (hin : InR x) :
    Calls Try.prog 14 #[.pointer (some ⟨bw, 0, none⟩), nv.v] w (Fins (WS M w0.heap.size bw) F w (nodeRun nv.kind nv.code nv.n nv.len rs x).1 (nodeRun nv.kind nv.code nv.n nv.len rs x).2) := by
  obtain ⟨kind, code, n, na, len, cap⟩ := nv
  simp only at hd hb hm
  have d0 := kid_does C D w0 bw V rs ms len 0 hd
  have d1 := kid_does C D w0 bw V rs ms len 1 hd
  have b0 := kid_b (i := 0) hb
  have hm0 : (if 0 < len then ms 0 else 0) ≤ sumTo ms len := by
    split
    · rename_i q; exact sumTo_one ms q
    · exact Nat.zero_le _
  have hm1 : (if 0 < len then ms 0 else 0) + (if 1 < len then ms 1 else 0) ≤ sumTo ms len := by
    by_cases q : 1 < len
    · rw [if_pos q, if_pos (by omega)]; exact sumTo_two ms q
    · rw [if_neg q]; exact hm0
  have hlo := hbl.size
  unfold nodeRun NV.v
  simp only
  by_cases h1 : kind = 1
  · subst h1; exact does_1 C D _ bw F w x code n na len cap hlo (by omega) hs
  by_cases h2 : kind = 2
  · subst h2; exact does_2 C D _ bw F w x code n na len cap hlo (by omega) hs
  by_cases h3 : kind = 3
  · subst h3; exact does_3 C D w0 bw F w x code n na len cap V rs ms hbl hs hr hd hb (by omega) hin
  by_cases h4 : kind = 4
  · subst h4; exact does_4 C D w0 bw F w x code n na len cap V hbl hs hr _ _ d0 b0 (by omega) hin
  by_cases h5 : kind = 5
  · subst h5; exact does_5 C D w0 bw F w x code n na len cap V hbl hs hr _ _ d0 b0 (by omega) hin
  by_cases h6 : kind = 6
  · subst h6; exact does_6 C D w0 bw F w x code n na len cap V hbl hs hr _ _ d0 _ _ d1 b0 (by omega) hin
  by_cases h7 : kind = 7
  · subst h7; exact does_7 C D w0 bw F w x code n na len cap V hbl hs hr _ _ d0 b0 (by omega) hin
  by_cases h8 : kind = 8
  · subst h8; exact does_8 C D _ bw F w x code n na len cap hlo (by omega) hs
  by_cases h9 : kind = 9
  · subst h9; exact does_9 C D _ bw F w x code n na len cap hlo (by omega) hs
  rw [if_neg h1, if_neg h2, if_neg h3, if_neg h4, if_neg h5, if_neg h6, if_neg h7, if_neg h8, if_neg h9]
  exact does_no C D _ bw F w x kind code n na len cap hlo (by omega) hs (by omega)
theorem does_all {M : (Nat → Prop) → World → Value → Int → Prop} (C : BailSays) (D : MeterSays M) (K : NV → Nat → NV) (w0 : World) (bw : Nat) : ∀ (k : Nat) (nv : NV), Wf K w0 k nv → sz K k nv ≤ 200 → DoesP M w0 bw nv (run K k nv) (3 * sz K k nv)
  | 0, nv, _, hz => by simp [sz] at hz
  | k + 1, nv, hw, hz => fun F w x hb hs hx hin => by
    have hs1 : sz K (k + 1) nv = 1 + sumTo (fun j => sz K k (K nv j)) nv.len := rfl
    exact does_step C D w0 bw nv (K nv) (fun j => run K k (K nv j)) (fun j => sz K k (K nv j)) hw.1 (fun j hj => does_all C D K w0 bw k (K nv j) (hw.2 j hj) (by have h9 : sz K k (K nv j) ≤ sumTo (fun j => sz K k (K nv j)) nv.len := sumTo_one (fun j => sz K k (K nv j)) hj; omega)) (fun j _ => run_b K k (K nv j)) _ rfl F w x hb hs hx hin
end Go.Proofs.Ytgighebohbpkiaa
