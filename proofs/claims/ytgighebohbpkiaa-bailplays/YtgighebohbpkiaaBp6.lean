/- plays: After. -/
import Derived.Test.YtgighebohbpkiaaBpj
namespace Go.Proofs.Ytgighebohbpkiaa
open Go.RowKit Fo
set_option maxRecDepth 100000
set_option linter.unusedSimpArgs false
set_option linter.unusedVariables false

theorem enV_form (e : En) : ∃ p q s : Int, enV e = .agg #[.int .i64 p, .int .i64 q, .int .i64 s] := by
  cases e <;> exact ⟨_, _, _, rfl⟩
set_option maxHeartbeats 16000000 in
theorem plays_6 (w0 : World) (pb : Nat) (F : Nat → Prop) (w : World) (x : St) (code n : Int) (na : Option Addr) (len cap : Nat) (V : Nat → NV) (hbl : Below w0.heap.size w0 w) (hs : PS w0.heap.size pb F w x) (hr : NRow w0 ⟨6, code, n, na, len, cap⟩ V) (r0 : Run) (m0 : Nat) (hd0 : PlayP w0 pb (kidNV V len 0) r0 m0) (r1 : Run) (m1 : Nat) (hd1 : PlayP w0 pb (kidNV V len 1) r1 m1) (hb0 : RunB m0 r0) (hb1 : RunB m1 r1) (hx : x.notes.length + m0 + m1 ≤ 99990) (hin : InR x) :
    Calls Try.prog 11 #[(.pointer (some ⟨pb, 0, none⟩)), .agg #[.int .i64 6, .int .i64 code, .int .i64 n, .slice na len cap]] w (PlayR w0.heap.size pb F w (both r0 r1 x).1 (both r0 r1 x).2) := by
  obtain ⟨W1, hW1⟩ : ∃ W1, W1 = (w.alloc (.cells #[.int .i64 6, .int .i64 code, .int .i64 n, .slice na len cap] 24)).alloc (.cells #[.int .i64 0, .int .i64 0, .int .i64 0] 37) := ⟨_, rfl⟩
  have HB1 : Hid (Below w.heap.size w W1) := by rw [hW1]; exact (below1 w _).alloc (by simp) _
  have HQ1 : Hid (W1.heap[w.heap.size]? = some (.cells #[.int .i64 6, .int .i64 code, .int .i64 n, .slice na len cap] 24)) := by show W1.heap[_]? = _; rw [hW1]; exact heap_new2 w _ _
  have HQ2 : Hid (W1.heap[w.heap.size + 1]? = some (.cells #[.int .i64 0, .int .i64 0, .int .i64 0] 37)) := by
    show W1.heap[_]? = _
    rw [hW1]
    have := heap_new1 (w.alloc (.cells #[.int .i64 6, .int .i64 code, .int .i64 n, .slice na len cap] 24)) (.cells #[.int .i64 0, .int .i64 0, .int .i64 0] 37)
    simpa using this
  have HZ1 : Hid (W1.heap.size = w.heap.size + 2) := by show _ = _; rw [hW1]; simp
  have HS1 : Hid (PS w0.heap.size pb F W1 x) := (ps_st _ pb).below hs HB1.out
  have hlo : w0.heap.size ≤ w.heap.size := hbl.size
  have HLO1 : Hid (w.heap.size ≤ W1.heap.size) := HB1.out.size
  have HLT : Hid (∀ b, F b → b < w.heap.size) := (ps_st _ pb).lt hs
  have HLo : Hid (∀ b, F b → w0.heap.size ≤ b) := by
    obtain ⟨_, _, h⟩ := hs
    exact h.lo
  have hbl1 : Below w0.heap.size w0 W1 := hbl.trans (HB1.out.mono hbl.size)
  have HBL1 : Hid (Below w0.heap.size w0 W1) := hbl1
  have HR1 : Hid (NRow W1 ⟨6, code, n, na, len, cap⟩ V) := hr.below (below_step (below_refl w0) hbl1)
  have HR0 : Hid (NRow w0 ⟨6, code, n, na, len, cap⟩ V) := hr
  have HN1 : Hid (¬ F w.heap.size) := fun h => by have := HLT.out _ h; omega
  have HN2 : Hid (¬ F (w.heap.size + 1)) := fun h => by have := HLT.out _ h; omega
  obtain ⟨e0, y0, hp⟩ : ∃ e0 y0, r0 x = (e0, y0) := ⟨_, _, rfl⟩
  have HPR : Hid (r0 x = (e0, y0)) := hp
  obtain ⟨hnil, hbd, hin0⟩ := hb0 x hin
  rw [hp] at hnil hbd hin0
  simp only at hnil hbd hin0
  have HNIL : Hid (e0 ≠ .nilB) := hnil
  have HBD : Hid (y0.notes.length ≤ x.notes.length + m0) := hbd
  have HIN0 : Hid (InR y0) := hin0
  have HX0 : Hid (x.notes.length + m0 + m1 ≤ 99990) := hx
  obtain ⟨kv0, hkv0⟩ : ∃ kv0, (kidNV V len 0).v = kv0 := ⟨_, rfl⟩
  have HKV0 : Hid ((kidNV V len 0).v = kv0) := hkv0
  have HD0 : Hid (∀ (F : Nat → Prop) (w : World) (x : St), Below w0.heap.size w0 w → PS w0.heap.size pb F w x → x.notes.length + m0 ≤ 99990 → InR x → Calls Try.prog 11 #[(.pointer (some ⟨pb, 0, none⟩)), kv0] w (PlayR w0.heap.size pb F w (r0 x).1 (r0 x).2)) := fun F w x h1 h2 h3 h4 => by rw [← hkv0]; exact hd0 F w x h1 h2 h3 h4
  obtain ⟨kv1, hkv1⟩ : ∃ kv1, (kidNV V len 1).v = kv1 := ⟨_, rfl⟩
  have HKV1 : Hid ((kidNV V len 1).v = kv1) := hkv1
  have HD1 : Hid (∀ (F : Nat → Prop) (w : World) (x : St), Below w0.heap.size w0 w → PS w0.heap.size pb F w x → x.notes.length + m1 ≤ 99990 → InR x → Calls Try.prog 11 #[(.pointer (some ⟨pb, 0, none⟩)), kv1] w (PlayR w0.heap.size pb F w (r1 x).1 (r1 x).2)) := fun F w x h1 h2 h3 h4 => by rw [← hkv1]; exact hd1 F w x h1 h2 h3 h4
  clear hs hr hbl hbl1 hp hb0 hnil hbd hin0 hd0 hkv0 hd1 hkv1
  obtain ⟨e1, z, hp1⟩ : ∃ e1 z, r1 y0 = (e1, z) := ⟨_, _, rfl⟩
  have HPR1 : Hid (r1 y0 = (e1, z)) := hp1
  have HBO : Hid (both r0 r1 x = (e0.behind e1, z)) := by show both r0 r1 x = _; unfold both; rw [HPR.out]; simp only; rw [HPR1.out]
  have HRB1 : Hid ((r1 y0).1 ≠ .nilB) := (hb1 y0 HIN0.out).1
  clear hp1 hb1
  go_enter Try.func11, Try.ntmps11
  go_wp2_with (go_at_call 39; fail)
  rw [← hW1]
  clear hW1
  refine (kid_any W1 _ V 0 HR1.out (by decide)).mono ?_
  rintro e w2 ⟨he2, b2⟩
  replace he2 : e = .returned kv0 := he2.trans (congrArg Ending.returned ((kidNV_v V len 0).trans HKV0.out))
  subst he2
  have HB2 : Hid (Below W1.heap.size W1 w2) := b2
  clear b2
  go_wp2_with (go_at_call 11; fail)
  refine (HD0.out F w2 x (HBL1.out.trans (HB2.out.mono HBL1.out.size)) ((ps_st _ pb).below HS1.out HB2.out) (by omega) hin).mono ?_
  rintro e w3 ⟨he3, G, hl⟩
  rw [HPR.out] at he3 hl
  simp only at he3 hl
  have HL3 : Hid (Lft (PS w0.heap.size pb) F W1 y0 G w3) := hl.of_below HB2.out
  have HS3 : Hid (PS w0.heap.size pb G w3 y0) := hl.1
  have HT1 : Hid (w3.heap[w.heap.size]? = some (.cells #[.int .i64 6, .int .i64 code, .int .i64 n, .slice na len cap] 24)) := HL3.out.2.2.heap HQ1.out HN1.out
  have HT2 : Hid (w3.heap[w.heap.size + 1]? = some (.cells #[.int .i64 0, .int .i64 0, .int .i64 0] 37)) := HL3.out.2.2.heap HQ2.out HN2.out
  have hz := HZ1.out
  have HG1 : Hid (¬ G w.heap.size) := fun h => (HL3.out.2.1 _ h).elim HN1.out fun q => by omega
  have HG2 : Hid (¬ G (w.heap.size + 1)) := fun h => (HL3.out.2.1 _ h).elim HN2.out fun q => by omega
  have hsz3 : W1.heap.size ≤ w3.heap.size := HL3.out.2.2.size
  clear hl
  obtain ⟨p, q, s, hpqs⟩ := enV_form e0
  have HPQS : Hid (enV e0 = .agg #[.int .i64 p, .int .i64 q, .int .i64 s]) := hpqs
  rw [hpqs] at he3
  clear hpqs
  subst he3
  have HTA1 : Hid ((w3.alloc (.cells #[.int .i64 p, .int .i64 q, .int .i64 s] 37)).heap[w.heap.size]? = some (.cells #[.int .i64 6, .int .i64 code, .int .i64 n, .slice na len cap] 24)) := ((below1 w3 _).block _ (lt_of_heap HT1.out)).trans HT1.out
  have HTA2 : Hid ((w3.alloc (.cells #[.int .i64 p, .int .i64 q, .int .i64 s] 37)).heap[w.heap.size + 1]? = some (.cells #[.int .i64 0, .int .i64 0, .int .i64 0] 37)) := ((below1 w3 _).block _ (lt_of_heap HT2.out)).trans HT2.out
  have HEb : Hid ((w3.alloc (.cells #[.int .i64 p, .int .i64 q, .int .i64 s] 37)).heap[w3.heap.size]? = some (.cells #[.int .i64 p, .int .i64 q, .int .i64 s] 37)) := heap_new1 w3 _
  have HLA : Hid (Lft (PS w0.heap.size pb) F W1 y0 G (w3.alloc (.cells #[.int .i64 p, .int .i64 q, .int .i64 s] 37))) := HL3.out.trans ((ps_st _ pb).lft HS3.out (below1 w3 _))
  have HBA : Hid (Below w0.heap.size w0 (w3.alloc (.cells #[.int .i64 p, .int .i64 q, .int .i64 s] 37))) := HBL1.out.trans (HLA.out.2.2.below HBL1.out.size fun b hb hF => by have := HLo.out b hF; omega)
  have HGe : Hid (¬ G w3.heap.size) := fun h => by have := (ps_st _ pb).lt HS3.out _ h; omega
  have qn0 : (w3.alloc (.cells #[.int .i64 p, .int .i64 q, .int .i64 s] 37)).cell? ⟨w.heap.size, 0, none⟩ = some (.int .i64 6) := by rw [cell_of_row _ _ _ _ _ _ HTA1.out]; rfl
  have qn1 : (w3.alloc (.cells #[.int .i64 p, .int .i64 q, .int .i64 s] 37)).cell? ⟨w.heap.size, 1, none⟩ = some (.int .i64 code) := by rw [cell_of_row _ _ _ _ _ _ HTA1.out]; rfl
  have qn2 : (w3.alloc (.cells #[.int .i64 p, .int .i64 q, .int .i64 s] 37)).cell? ⟨w.heap.size, 2, none⟩ = some (.int .i64 n) := by rw [cell_of_row _ _ _ _ _ _ HTA1.out]; rfl
  have qn3 : (w3.alloc (.cells #[.int .i64 p, .int .i64 q, .int .i64 s] 37)).cell? ⟨w.heap.size, 3, none⟩ = some (.slice na len cap) := by rw [cell_of_row _ _ _ _ _ _ HTA1.out]; rfl
  go_wp2_with (go_at_call 39; fail)
  refine (kid_any (w3.alloc (.cells #[.int .i64 p, .int .i64 q, .int .i64 s] 37)) _ V 1 (HR0.out.below (below_step (below_refl w0) HBA.out)) (by decide)).mono ?_
  rintro e w5 ⟨he5, b5⟩
  replace he5 : e = .returned kv1 := he5.trans (congrArg Ending.returned ((kidNV_v V len 1).trans HKV1.out))
  subst he5
  have HB5 : Hid (Below (w3.alloc (.cells #[.int .i64 p, .int .i64 q, .int .i64 s] 37)).heap.size (w3.alloc (.cells #[.int .i64 p, .int .i64 q, .int .i64 s] 37)) w5) := b5
  clear b5 qn0 qn1 qn2 qn3
  go_wp2_with (go_at_call 11; fail)
  refine (HD1.out G w5 y0 (HBA.out.trans (HB5.out.mono HBA.out.size)) ((ps_st _ pb).below HLA.out.1 HB5.out) (by have := HBD.out; have := HX0.out; omega) HIN0.out).mono ?_
  rintro e w6 ⟨he6, G6, hl⟩
  rw [HPR1.out] at he6 hl
  simp only at he6 hl
  have HL6 : Hid (Lft (PS w0.heap.size pb) F W1 z G6 w6) := HLA.out.trans (hl.of_below HB5.out)
  have HLG6 : Hid (Lft (PS w0.heap.size pb) G (w3.alloc (.cells #[.int .i64 p, .int .i64 q, .int .i64 s] 37)) z G6 w6) := hl.of_below HB5.out
  have HU2 : Hid (w6.heap[w.heap.size + 1]? = some (.cells #[.int .i64 0, .int .i64 0, .int .i64 0] 37)) := HLG6.out.2.2.heap HTA2.out HG2.out
  have HUe : Hid (w6.heap[w3.heap.size]? = some (.cells #[.int .i64 p, .int .i64 q, .int .i64 s] 37)) := HLG6.out.2.2.heap HEb.out HGe.out
  have HNR : Hid (¬ G6 (w.heap.size + 1)) := fun h => (HL6.out.2.1 _ h).elim HN2.out fun q => by omega
  have HNIL1 : Hid (e1 ≠ .nilB) := by have := HRB1.out; rw [HPR1.out] at this; exact this
  clear hl hx hin
  cases e1 with
  | ret =>
    replace he6 : e = .returned (.agg #[.int .i64 0, .int .i64 0, .int .i64 0]) := he6
    subst he6
    have HBO2 : Hid (both r0 r1 x = (e0, z)) := HBO.out.trans (by simp [En.behind])
    obtain ⟨wF, hwF⟩ : ∃ wF, wF = w6.alloc (.cells #[.int .i64 0, .int .i64 0, .int .i64 0] 37) := ⟨_, rfl⟩
    have hbF : Below w6.heap.size w6 wF := by rw [hwF]; exact below1 w6 _
    have hr9 : (w6.alloc (.cells #[.int .i64 0, .int .i64 0, .int .i64 0] 37)).heap[w.heap.size + 1]? = some (.cells #[.int .i64 0, .int .i64 0, .int .i64 0] 37) := ((below1 w6 _).block _ (lt_of_heap HU2.out)).trans HU2.out
    have qe0 : (w6.alloc (.cells #[.int .i64 0, .int .i64 0, .int .i64 0] 37)).cell? ⟨w3.heap.size, 0, none⟩ = some (.int .i64 p) := by rw [cell_of_row _ _ _ _ _ _ (((below1 w6 (.cells #[.int .i64 0, .int .i64 0, .int .i64 0] 37)).block _ (lt_of_heap HUe.out)).trans HUe.out)]; rfl
    have qe1 : (w6.alloc (.cells #[.int .i64 0, .int .i64 0, .int .i64 0] 37)).cell? ⟨w3.heap.size, 1, none⟩ = some (.int .i64 q) := by rw [cell_of_row _ _ _ _ _ _ (((below1 w6 (.cells #[.int .i64 0, .int .i64 0, .int .i64 0] 37)).block _ (lt_of_heap HUe.out)).trans HUe.out)]; rfl
    have qe2 : (w6.alloc (.cells #[.int .i64 0, .int .i64 0, .int .i64 0] 37)).cell? ⟨w3.heap.size, 2, none⟩ = some (.int .i64 s) := by rw [cell_of_row _ _ _ _ _ _ (((below1 w6 (.cells #[.int .i64 0, .int .i64 0, .int .i64 0] 37)).block _ (lt_of_heap HUe.out)).trans HUe.out)]; rfl
    have HLH : Hid (Lft (PS w0.heap.size pb) F w z G6 (w6.alloc (.cells #[.int .i64 0, .int .i64 0, .int .i64 0] 37))) := (HL6.out.trans ((ps_st _ pb).lft HL6.out.1 (below1 w6 _))).of_below HB1.out
    clear hwF hbF
    obtain ⟨s0, s1, s2, s3, s4, s5, s6, s7⟩ := st3 hr9 (.int .i64 p) (.int .i64 q) (.int .i64 s)
    have HS6 : Hid (((((w6.alloc (.cells #[.int .i64 0, .int .i64 0, .int .i64 0] 37)).setCell ⟨w.heap.size + 1, 0, none⟩ (.int .i64 p)).setCell ⟨w.heap.size + 1, 1, none⟩ (.int .i64 q)).setCell ⟨w.heap.size + 1, 2, none⟩ (.int .i64 s)).heap[w.heap.size + 1]? = some (.cells #[.int .i64 p, .int .i64 q, .int .i64 s] 37)) := s6
    have HS7 : Hid (Kp (fun b => b = w.heap.size + 1) (w6.alloc (.cells #[.int .i64 0, .int .i64 0, .int .i64 0] 37)) ((((w6.alloc (.cells #[.int .i64 0, .int .i64 0, .int .i64 0] 37)).setCell ⟨w.heap.size + 1, 0, none⟩ (.int .i64 p)).setCell ⟨w.heap.size + 1, 1, none⟩ (.int .i64 q)).setCell ⟨w.heap.size + 1, 2, none⟩ (.int .i64 s))) := s7
    clear s6 s7
    clear hr9
    go_wp2
    generalize ((((w6.alloc (.cells #[.int .i64 0, .int .i64 0, .int .i64 0] 37)).setCell ⟨w.heap.size + 1, 0, none⟩ (.int .i64 p)).setCell ⟨w.heap.size + 1, 1, none⟩ (.int .i64 q)).setCell ⟨w.heap.size + 1, 2, none⟩ (.int .i64 s)) = W10 at HS6 HS7 ⊢
    have r0 := cell_of_row _ _ 0 _ _ _ HS6.out
    have r1 := cell_of_row _ _ 1 _ _ _ HS6.out
    have r2 := cell_of_row _ _ 2 _ _ _ HS6.out
    simp only [List.getElem?_toArray, List.getElem?_cons_zero, List.getElem?_cons_succ] at r0 r1 r2
    refine bodyPost_ret (v := .agg #[.int .i64 p, .int .i64 q, .int .i64 s]) (by simp [results, Try.results11, go_sem, r0, r1, r2]) rfl ?_
    rw [HBO2.out]
    exact ⟨(by rw [HPQS.out]), G6, Lft.box (ps_st _ pb) HLH.out HS7.out (by omega) HNR.out⟩
  | bail c1 a1 =>
    replace he6 : e = .returned (.agg #[.int .i64 1, .int .i64 c1, .int .i64 a1]) := he6
    subst he6
    have HBO2 : Hid (both r0 r1 x = (.bail c1 a1, z)) := HBO.out.trans (by simp [En.behind])
    obtain ⟨wF, hwF⟩ : ∃ wF, wF = w6.alloc (.cells #[.int .i64 1, .int .i64 c1, .int .i64 a1] 37) := ⟨_, rfl⟩
    have hbF : Below w6.heap.size w6 wF := by rw [hwF]; exact below1 w6 _
    have hr9 : (w6.alloc (.cells #[.int .i64 1, .int .i64 c1, .int .i64 a1] 37)).heap[w.heap.size + 1]? = some (.cells #[.int .i64 0, .int .i64 0, .int .i64 0] 37) := ((below1 w6 _).block _ (lt_of_heap HU2.out)).trans HU2.out
    have qe0 : (w6.alloc (.cells #[.int .i64 1, .int .i64 c1, .int .i64 a1] 37)).cell? ⟨w3.heap.size, 0, none⟩ = some (.int .i64 p) := by rw [cell_of_row _ _ _ _ _ _ (((below1 w6 (.cells #[.int .i64 1, .int .i64 c1, .int .i64 a1] 37)).block _ (lt_of_heap HUe.out)).trans HUe.out)]; rfl
    have qe1 : (w6.alloc (.cells #[.int .i64 1, .int .i64 c1, .int .i64 a1] 37)).cell? ⟨w3.heap.size, 1, none⟩ = some (.int .i64 q) := by rw [cell_of_row _ _ _ _ _ _ (((below1 w6 (.cells #[.int .i64 1, .int .i64 c1, .int .i64 a1] 37)).block _ (lt_of_heap HUe.out)).trans HUe.out)]; rfl
    have qe2 : (w6.alloc (.cells #[.int .i64 1, .int .i64 c1, .int .i64 a1] 37)).cell? ⟨w3.heap.size, 2, none⟩ = some (.int .i64 s) := by rw [cell_of_row _ _ _ _ _ _ (((below1 w6 (.cells #[.int .i64 1, .int .i64 c1, .int .i64 a1] 37)).block _ (lt_of_heap HUe.out)).trans HUe.out)]; rfl
    have HLH : Hid (Lft (PS w0.heap.size pb) F w z G6 (w6.alloc (.cells #[.int .i64 1, .int .i64 c1, .int .i64 a1] 37))) := (HL6.out.trans ((ps_st _ pb).lft HL6.out.1 (below1 w6 _))).of_below HB1.out
    clear hwF hbF
    obtain ⟨s0, s1, s2, s3, s4, s5, s6, s7⟩ := st3 hr9 (.int .i64 1) (.int .i64 c1) (.int .i64 a1)
    have HS6 : Hid (((((w6.alloc (.cells #[.int .i64 1, .int .i64 c1, .int .i64 a1] 37)).setCell ⟨w.heap.size + 1, 0, none⟩ (.int .i64 1)).setCell ⟨w.heap.size + 1, 1, none⟩ (.int .i64 c1)).setCell ⟨w.heap.size + 1, 2, none⟩ (.int .i64 a1)).heap[w.heap.size + 1]? = some (.cells #[.int .i64 1, .int .i64 c1, .int .i64 a1] 37)) := s6
    have HS7 : Hid (Kp (fun b => b = w.heap.size + 1) (w6.alloc (.cells #[.int .i64 1, .int .i64 c1, .int .i64 a1] 37)) ((((w6.alloc (.cells #[.int .i64 1, .int .i64 c1, .int .i64 a1] 37)).setCell ⟨w.heap.size + 1, 0, none⟩ (.int .i64 1)).setCell ⟨w.heap.size + 1, 1, none⟩ (.int .i64 c1)).setCell ⟨w.heap.size + 1, 2, none⟩ (.int .i64 a1))) := s7
    clear s6 s7
    clear hr9
    go_wp2
    generalize ((((w6.alloc (.cells #[.int .i64 1, .int .i64 c1, .int .i64 a1] 37)).setCell ⟨w.heap.size + 1, 0, none⟩ (.int .i64 1)).setCell ⟨w.heap.size + 1, 1, none⟩ (.int .i64 c1)).setCell ⟨w.heap.size + 1, 2, none⟩ (.int .i64 a1)) = W10 at HS6 HS7 ⊢
    have r0 := cell_of_row _ _ 0 _ _ _ HS6.out
    have r1 := cell_of_row _ _ 1 _ _ _ HS6.out
    have r2 := cell_of_row _ _ 2 _ _ _ HS6.out
    simp only [List.getElem?_toArray, List.getElem?_cons_zero, List.getElem?_cons_succ] at r0 r1 r2
    refine bodyPost_ret (v := .agg #[.int .i64 1, .int .i64 c1, .int .i64 a1]) (by simp [results, Try.results11, go_sem, r0, r1, r2]) rfl ?_
    rw [HBO2.out]
    exact ⟨rfl, G6, Lft.box (ps_st _ pb) HLH.out HS7.out (by omega) HNR.out⟩
  | num m =>
    replace he6 : e = .returned (.agg #[.int .i64 2, .int .i64 0, .int .i64 m]) := he6
    subst he6
    have HBO2 : Hid (both r0 r1 x = (.num m, z)) := HBO.out.trans (by simp [En.behind])
    obtain ⟨wF, hwF⟩ : ∃ wF, wF = w6.alloc (.cells #[.int .i64 2, .int .i64 0, .int .i64 m] 37) := ⟨_, rfl⟩
    have hbF : Below w6.heap.size w6 wF := by rw [hwF]; exact below1 w6 _
    have hr9 : (w6.alloc (.cells #[.int .i64 2, .int .i64 0, .int .i64 m] 37)).heap[w.heap.size + 1]? = some (.cells #[.int .i64 0, .int .i64 0, .int .i64 0] 37) := ((below1 w6 _).block _ (lt_of_heap HU2.out)).trans HU2.out
    have qe0 : (w6.alloc (.cells #[.int .i64 2, .int .i64 0, .int .i64 m] 37)).cell? ⟨w3.heap.size, 0, none⟩ = some (.int .i64 p) := by rw [cell_of_row _ _ _ _ _ _ (((below1 w6 (.cells #[.int .i64 2, .int .i64 0, .int .i64 m] 37)).block _ (lt_of_heap HUe.out)).trans HUe.out)]; rfl
    have qe1 : (w6.alloc (.cells #[.int .i64 2, .int .i64 0, .int .i64 m] 37)).cell? ⟨w3.heap.size, 1, none⟩ = some (.int .i64 q) := by rw [cell_of_row _ _ _ _ _ _ (((below1 w6 (.cells #[.int .i64 2, .int .i64 0, .int .i64 m] 37)).block _ (lt_of_heap HUe.out)).trans HUe.out)]; rfl
    have qe2 : (w6.alloc (.cells #[.int .i64 2, .int .i64 0, .int .i64 m] 37)).cell? ⟨w3.heap.size, 2, none⟩ = some (.int .i64 s) := by rw [cell_of_row _ _ _ _ _ _ (((below1 w6 (.cells #[.int .i64 2, .int .i64 0, .int .i64 m] 37)).block _ (lt_of_heap HUe.out)).trans HUe.out)]; rfl
    have HLH : Hid (Lft (PS w0.heap.size pb) F w z G6 (w6.alloc (.cells #[.int .i64 2, .int .i64 0, .int .i64 m] 37))) := (HL6.out.trans ((ps_st _ pb).lft HL6.out.1 (below1 w6 _))).of_below HB1.out
    clear hwF hbF
    obtain ⟨s0, s1, s2, s3, s4, s5, s6, s7⟩ := st3 hr9 (.int .i64 2) (.int .i64 0) (.int .i64 m)
    have HS6 : Hid (((((w6.alloc (.cells #[.int .i64 2, .int .i64 0, .int .i64 m] 37)).setCell ⟨w.heap.size + 1, 0, none⟩ (.int .i64 2)).setCell ⟨w.heap.size + 1, 1, none⟩ (.int .i64 0)).setCell ⟨w.heap.size + 1, 2, none⟩ (.int .i64 m)).heap[w.heap.size + 1]? = some (.cells #[.int .i64 2, .int .i64 0, .int .i64 m] 37)) := s6
    have HS7 : Hid (Kp (fun b => b = w.heap.size + 1) (w6.alloc (.cells #[.int .i64 2, .int .i64 0, .int .i64 m] 37)) ((((w6.alloc (.cells #[.int .i64 2, .int .i64 0, .int .i64 m] 37)).setCell ⟨w.heap.size + 1, 0, none⟩ (.int .i64 2)).setCell ⟨w.heap.size + 1, 1, none⟩ (.int .i64 0)).setCell ⟨w.heap.size + 1, 2, none⟩ (.int .i64 m))) := s7
    clear s6 s7
    clear hr9
    go_wp2
    generalize ((((w6.alloc (.cells #[.int .i64 2, .int .i64 0, .int .i64 m] 37)).setCell ⟨w.heap.size + 1, 0, none⟩ (.int .i64 2)).setCell ⟨w.heap.size + 1, 1, none⟩ (.int .i64 0)).setCell ⟨w.heap.size + 1, 2, none⟩ (.int .i64 m)) = W10 at HS6 HS7 ⊢
    have r0 := cell_of_row _ _ 0 _ _ _ HS6.out
    have r1 := cell_of_row _ _ 1 _ _ _ HS6.out
    have r2 := cell_of_row _ _ 2 _ _ _ HS6.out
    simp only [List.getElem?_toArray, List.getElem?_cons_zero, List.getElem?_cons_succ] at r0 r1 r2
    refine bodyPost_ret (v := .agg #[.int .i64 2, .int .i64 0, .int .i64 m]) (by simp [results, Try.results11, go_sem, r0, r1, r2]) rfl ?_
    rw [HBO2.out]
    exact ⟨rfl, G6, Lft.box (ps_st _ pb) HLH.out HS7.out (by omega) HNR.out⟩
  | nilB => exact absurd rfl HNIL1.out
end Go.Proofs.Ytgighebohbpkiaa
