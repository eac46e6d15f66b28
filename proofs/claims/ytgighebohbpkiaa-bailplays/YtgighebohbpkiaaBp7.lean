/- plays: Safe. -/
import Derived.Test.YtgighebohbpkiaaBpj
namespace Go.Proofs.Ytgighebohbpkiaa
open Go.RowKit Fo
set_option maxRecDepth 100000
set_option linter.unusedSimpArgs false
set_option linter.unusedVariables false

set_option maxHeartbeats 16000000 in
theorem plays_7 (w0 : World) (pb : Nat) (F : Nat → Prop) (w : World) (x : St) (code n : Int) (na : Option Addr) (len cap : Nat) (V : Nat → NV) (hbl : Below w0.heap.size w0 w) (hs : PS w0.heap.size pb F w x) (hr : NRow w0 ⟨7, code, n, na, len, cap⟩ V) (r0 : Run) (m0 : Nat) (hd0 : PlayP w0 pb (kidNV V len 0) r0 m0) (hb0 : RunB m0 r0) (hx : x.notes.length + m0 ≤ 99990) (hin : InR x) :
    Calls Try.prog 11 #[(.pointer (some ⟨pb, 0, none⟩)), .agg #[.int .i64 7, .int .i64 code, .int .i64 n, .slice na len cap]] w (PlayR w0.heap.size pb F w (noteS (r0 x)).1 (noteS (r0 x)).2) := by
  obtain ⟨W1, hW1⟩ : ∃ W1, W1 = (w.alloc (.cells #[.int .i64 7, .int .i64 code, .int .i64 n, .slice na len cap] 24)).alloc (.cells #[.int .i64 0, .int .i64 0, .int .i64 0] 37) := ⟨_, rfl⟩
  have HB1 : Hid (Below w.heap.size w W1) := by rw [hW1]; exact (below1 w _).alloc (by simp) _
  have HQ1 : Hid (W1.heap[w.heap.size]? = some (.cells #[.int .i64 7, .int .i64 code, .int .i64 n, .slice na len cap] 24)) := by show W1.heap[_]? = _; rw [hW1]; exact heap_new2 w _ _
  have HQ2 : Hid (W1.heap[w.heap.size + 1]? = some (.cells #[.int .i64 0, .int .i64 0, .int .i64 0] 37)) := by
    show W1.heap[_]? = _
    rw [hW1]
    have := heap_new1 (w.alloc (.cells #[.int .i64 7, .int .i64 code, .int .i64 n, .slice na len cap] 24)) (.cells #[.int .i64 0, .int .i64 0, .int .i64 0] 37)
    simpa using this
  have HZ1 : Hid (W1.heap.size = w.heap.size + 2) := by show _ = _; rw [hW1]; simp
  have HS1 : Hid (PS w0.heap.size pb F W1 x) := (ps_st _ pb).below hs HB1.out
  have hlo : w0.heap.size ≤ w.heap.size := hbl.size
  have HLO1 : Hid (w.heap.size ≤ W1.heap.size) := HB1.out.size
  have HLT : Hid (∀ b, F b → b < w.heap.size) := (ps_st _ pb).lt hs
  have HLo : Hid (∀ b, F b → w0.heap.size ≤ b) := by
    obtain ⟨_, _, h⟩ := hs
    exact h.lo
  have hbl1 : Below w0.heap.size w0 W1 := hbl.trans (HB1.out.mono hbl.size)
  have HBL1 : Hid (Below w0.heap.size w0 W1) := hbl1
  have HR1 : Hid (NRow W1 ⟨7, code, n, na, len, cap⟩ V) := hr.below (below_step (below_refl w0) hbl1)
  have HR0 : Hid (NRow w0 ⟨7, code, n, na, len, cap⟩ V) := hr
  have HN1 : Hid (¬ F w.heap.size) := fun h => by have := HLT.out _ h; omega
  have HN2 : Hid (¬ F (w.heap.size + 1)) := fun h => by have := HLT.out _ h; omega
  obtain ⟨e0, y0, hp⟩ : ∃ e0 y0, r0 x = (e0, y0) := ⟨_, _, rfl⟩
  have HPR : Hid (r0 x = (e0, y0)) := hp
  obtain ⟨hnil, hbd, hin0⟩ := hb0 x hin
  rw [hp] at hnil hbd hin0
  simp only at hnil hbd hin0
  have HNIL : Hid (e0 ≠ .nilB) := hnil
  have HBD : Hid (y0.notes.length ≤ x.notes.length + m0) := hbd
  have HIN0 : Hid (InR y0) := hin0
  have HX0 : Hid (x.notes.length + m0 ≤ 99990) := hx
  obtain ⟨kv0, hkv0⟩ : ∃ kv0, (kidNV V len 0).v = kv0 := ⟨_, rfl⟩
  have HKV0 : Hid ((kidNV V len 0).v = kv0) := hkv0
  have HD0 : Hid (∀ (F : Nat → Prop) (w : World) (x : St), Below w0.heap.size w0 w → PS w0.heap.size pb F w x → x.notes.length + m0 ≤ 99990 → InR x → Calls Try.prog 11 #[(.pointer (some ⟨pb, 0, none⟩)), kv0] w (PlayR w0.heap.size pb F w (r0 x).1 (r0 x).2)) := fun F w x h1 h2 h3 h4 => by rw [← hkv0]; exact hd0 F w x h1 h2 h3 h4
  clear hs hr hbl hbl1 hp hb0 hnil hbd hin0 hd0 hkv0
  go_enter Try.func11, Try.ntmps11
  go_wp2_with (go_at_call 39; fail)
  rw [← hW1]
  clear hW1
  refine (kid_any W1 _ V 0 HR1.out (by decide)).mono ?_
  rintro e w2 ⟨he2, b2⟩
  replace he2 : e = .returned kv0 := he2.trans (congrArg Ending.returned ((kidNV_v V len 0).trans HKV0.out))
  subst he2
  have HB2 : Hid (Below W1.heap.size W1 w2) := b2
  clear b2
  go_wp2_with (go_at_call 11; fail)
  refine (HD0.out F w2 x (HBL1.out.trans (HB2.out.mono HBL1.out.size)) ((ps_st _ pb).below HS1.out HB2.out) (by omega) hin).mono ?_
  rintro e w3 ⟨he3, G, hl⟩
  rw [HPR.out] at he3 hl
  simp only at he3 hl
  have HL3 : Hid (Lft (PS w0.heap.size pb) F W1 y0 G w3) := hl.of_below HB2.out
  have HS3 : Hid (PS w0.heap.size pb G w3 y0) := hl.1
  have HT1 : Hid (w3.heap[w.heap.size]? = some (.cells #[.int .i64 7, .int .i64 code, .int .i64 n, .slice na len cap] 24)) := HL3.out.2.2.heap HQ1.out HN1.out
  have HT2 : Hid (w3.heap[w.heap.size + 1]? = some (.cells #[.int .i64 0, .int .i64 0, .int .i64 0] 37)) := HL3.out.2.2.heap HQ2.out HN2.out
  have hz := HZ1.out
  have HG1 : Hid (¬ G w.heap.size) := fun h => (HL3.out.2.1 _ h).elim HN1.out fun q => by omega
  have HG2 : Hid (¬ G (w.heap.size + 1)) := fun h => (HL3.out.2.1 _ h).elim HN2.out fun q => by omega
  have hsz3 : W1.heap.size ≤ w3.heap.size := HL3.out.2.2.size
  clear hl
  cases e0 with
  | ret =>
    replace he3 : e = .returned (.agg #[.int .i64 0, .int .i64 0, .int .i64 0]) := he3
    subst he3
    obtain ⟨wA, hwA⟩ : ∃ wA, wA = w3.alloc (.cells #[.int .i64 0, .int .i64 0, .int .i64 0] 37) := ⟨_, rfl⟩
    have hbA : Below w3.heap.size w3 wA := by rw [hwA]; exact below1 w3 _
    have HEb : Hid (wA.heap[w3.heap.size]? = some (.cells #[.int .i64 0, .int .i64 0, .int .i64 0] 37)) := by show wA.heap[_]? = _; rw [hwA]; exact heap_new1 w3 _
    have HLA : Hid (Lft (PS w0.heap.size pb) F W1 y0 G wA) := HL3.out.trans ((ps_st _ pb).lft HS3.out hbA)
    have HTA1 : Hid (wA.heap[w.heap.size]? = some (.cells #[.int .i64 7, .int .i64 code, .int .i64 n, .slice na len cap] 24)) := (hbA.block _ (lt_of_heap HT1.out)).trans HT1.out
    have HTA2 : Hid (wA.heap[w.heap.size + 1]? = some (.cells #[.int .i64 0, .int .i64 0, .int .i64 0] 37)) := (hbA.block _ (lt_of_heap HT2.out)).trans HT2.out
    have HLO : Hid (w.heap.size ≤ wA.heap.size) := Nat.le_trans HLO1.out (Nat.le_trans hsz3 hbA.size)
    obtain ⟨av, ac, hX⟩ := HLA.out.1
    have HX : Hid (PX w0.heap.size pb G wA y0 av ac) := hX
    have hx2 : y0.notes.length ≤ 99990 := by have := HBD.out; have := HX0.out; omega
    clear hX hbA
    rw [hwA] at HX HTA2 HLA HLO
    have cA : (w3.alloc (.cells #[.int .i64 0, .int .i64 0, .int .i64 0] 37)).cell? ⟨pb, 0, none⟩ = some (.slice av y0.notes.length ac) := by rw [cell_of_row _ _ _ _ _ _ HX.out.hb]; rfl
    have cB : ((w3.alloc (.cells #[.int .i64 0, .int .i64 0, .int .i64 0] 37)).alloc (.cells #[.int .i64 (-1)] 3)).cell? ⟨pb, 0, none⟩ = some (.slice av y0.notes.length ac) := by rw [World.cell?_alloc_some _ _ _ (by rw [cA]; rfl)]; exact cA
    have hrow0 : Rd ((w3.alloc (.cells #[.int .i64 0, .int .i64 0, .int .i64 0] 37)).alloc (.cells #[.int .i64 (-1)] 3)) (some ⟨(w3.alloc (.cells #[.int .i64 0, .int .i64 0, .int .i64 0] 37)).heap.size, 0, none⟩) 1 1 (ivs (gt [(-1)])) := row_rd (heap_new1 (w3.alloc (.cells #[.int .i64 0, .int .i64 0, .int .i64 0] 37)) (.cells #[.int .i64 (-1)] 3)) (by decide) (fun j hj => by match j, hj with | 0, _ => rfl)
    rw [show (w3.alloc (.cells #[.int .i64 0, .int .i64 0, .int .i64 0] 37)).heap.size = w3.heap.size + 1 by simp] at hrow0
    have HROW : Hid (Rd ((w3.alloc (.cells #[.int .i64 0, .int .i64 0, .int .i64 0] 37)).alloc (.cells #[.int .i64 (-1)] 3)) (some ⟨w3.heap.size + 1, 0, none⟩) 1 1 (ivs (gt [(-1)]))) := hrow0

    clear hwA hx hin hrow0
    go_wp2_with (
        at_builtin
        refine wpList_app_at eInt rfl _ _ rfl (HX.out.ow.alloc _) (Nat.zero_le _) HROW.out (by decide) (ivs_one _ _) (y0.notes.length + 1) rfl (by omega) (ivs (gt (y0.notes ++ [(-1)]))) (fun j _ => catV_gt y0.notes [(-1)] j) rfl rfl ?_
        intro a7 c7 w7 hO7 hG7 hA7
        have hKr : Kp (fun b => (Value.slice av y0.notes.length ac).ownBlock = some b) (w3.alloc (.cells #[.int .i64 0, .int .i64 0, .int .i64 0] 37)) w7 := (Kp.of_below (F := (fun b => (Value.slice av y0.notes.length ac).ownBlock = some b)) (below1 (w3.alloc (.cells #[.int .i64 0, .int .i64 0, .int .i64 0] 37)) (.cells #[.int .i64 (-1)] 3))).trans (Kp.of_grown (F := (fun b => (Value.slice av y0.notes.length ac).ownBlock = some b)) hG7 (fun k hk => hk)) (fun _ _ h => h)
        obtain ⟨k7, hput⟩ := ps_put (N := (y0.notes.length + 1)) (l := [(-1)]) (Nat.le_trans hlo HLO.out) HX.out rfl hO7 hKr (by simp) hA7
        have HL : Hid (∃ G9, Lft (PS w0.heap.size pb) G (w3.alloc (.cells #[.int .i64 0, .int .i64 0, .int .i64 0] 37)) (y0.note [(-1)]) G9 (w7.setCell ⟨pb, 0, none⟩ (.slice a7 (y0.notes.length + 1) c7))) := hput
        have f7 : w7.cell? ⟨pb, 0, none⟩ = some (.slice av y0.notes.length ac) := (by rw [cell_of_row _ _ _ _ _ _ k7]; rfl)
        have z7 : w7.frozen? ⟨pb, 0, none⟩ = false := (by simp [World.frozen?, k7])
        have hnr7 := kf_noP HX.out HTA2.out (by decide) (by decide)
        have hr9 : (w7.setCell ⟨pb, 0, none⟩ (.slice a7 (y0.notes.length + 1) c7)).heap[w.heap.size + 1]? = some (.cells #[.int .i64 0, .int .i64 0, .int .i64 0] 37) := (Below.heap_setCell w7 _ _ _ (fun e => hnr7 (Or.inr e))).trans (hKr.heap HTA2.out fun e => hnr7 (Or.inl e))
        obtain ⟨s0, s1, s2, s3, s4, s5, s6, s7⟩ := st3 hr9 (.int .i64 0) (.int .i64 0) (.int .i64 0)
        have HS6 : Hid (((((w7.setCell ⟨pb, 0, none⟩ (.slice a7 (y0.notes.length + 1) c7)).setCell ⟨w.heap.size + 1, 0, none⟩ (.int .i64 0)).setCell ⟨w.heap.size + 1, 1, none⟩ (.int .i64 0)).setCell ⟨w.heap.size + 1, 2, none⟩ (.int .i64 0)).heap[w.heap.size + 1]? = some (.cells #[.int .i64 0, .int .i64 0, .int .i64 0] 37)) := s6
        have HS7 : Hid (Kp (fun b => b = w.heap.size + 1) (w7.setCell ⟨pb, 0, none⟩ (.slice a7 (y0.notes.length + 1) c7)) ((((w7.setCell ⟨pb, 0, none⟩ (.slice a7 (y0.notes.length + 1) c7)).setCell ⟨w.heap.size + 1, 0, none⟩ (.int .i64 0)).setCell ⟨w.heap.size + 1, 1, none⟩ (.int .i64 0)).setCell ⟨w.heap.size + 1, 2, none⟩ (.int .i64 0))) := s7
        clear s6 s7
        clear hO7 hG7 hA7 hKr hput k7 hnr7 hr9)
    obtain ⟨H, hL⟩ := HL.out
    have HNR : Hid (¬ H (w.heap.size + 1)) := fun h => (hL.2.1 _ h).elim HG2.out fun q => by have h1 := lt_of_heap HTA2.out; omega
    have HLH : Hid (Lft (PS w0.heap.size pb) F w (y0.note [(-1)]) H (w7.setCell ⟨pb, 0, none⟩ (.slice a7 (y0.notes.length + 1) c7))) := (HLA.out.trans hL).of_below HB1.out
    clear hL
    generalize ((((w7.setCell ⟨pb, 0, none⟩ (.slice a7 (y0.notes.length + 1) c7)).setCell ⟨w.heap.size + 1, 0, none⟩ (.int .i64 0)).setCell ⟨w.heap.size + 1, 1, none⟩ (.int .i64 0)).setCell ⟨w.heap.size + 1, 2, none⟩ (.int .i64 0)) = W10 at HS6 HS7 ⊢
    have r0 := cell_of_row _ _ 0 _ _ _ HS6.out
    have r1 := cell_of_row _ _ 1 _ _ _ HS6.out
    have r2 := cell_of_row _ _ 2 _ _ _ HS6.out
    simp only [List.getElem?_toArray, List.getElem?_cons_zero, List.getElem?_cons_succ] at r0 r1 r2
    refine bodyPost_ret (v := .agg #[.int .i64 0, .int .i64 0, .int .i64 0]) (by simp [results, Try.results11, go_sem, r0, r1, r2]) rfl ?_
    rw [HPR.out]
    exact ⟨rfl, H, Lft.box (ps_st _ pb) HLH.out HS7.out (by omega) HNR.out⟩
  | bail c0 a0 =>
    replace he3 : e = .returned (.agg #[.int .i64 1, .int .i64 c0, .int .i64 a0]) := he3
    subst he3
    obtain ⟨wA, hwA⟩ : ∃ wA, wA = w3.alloc (.cells #[.int .i64 1, .int .i64 c0, .int .i64 a0] 37) := ⟨_, rfl⟩
    have hbA : Below w3.heap.size w3 wA := by rw [hwA]; exact below1 w3 _
    have HEb : Hid (wA.heap[w3.heap.size]? = some (.cells #[.int .i64 1, .int .i64 c0, .int .i64 a0] 37)) := by show wA.heap[_]? = _; rw [hwA]; exact heap_new1 w3 _
    have HLA : Hid (Lft (PS w0.heap.size pb) F W1 y0 G wA) := HL3.out.trans ((ps_st _ pb).lft HS3.out hbA)
    have HTA1 : Hid (wA.heap[w.heap.size]? = some (.cells #[.int .i64 7, .int .i64 code, .int .i64 n, .slice na len cap] 24)) := (hbA.block _ (lt_of_heap HT1.out)).trans HT1.out
    have HTA2 : Hid (wA.heap[w.heap.size + 1]? = some (.cells #[.int .i64 0, .int .i64 0, .int .i64 0] 37)) := (hbA.block _ (lt_of_heap HT2.out)).trans HT2.out
    have HLO : Hid (w.heap.size ≤ wA.heap.size) := Nat.le_trans HLO1.out (Nat.le_trans hsz3 hbA.size)
    obtain ⟨av, ac, hX⟩ := HLA.out.1
    have HX : Hid (PX w0.heap.size pb G wA y0 av ac) := hX
    have hx2 : y0.notes.length ≤ 99990 := by have := HBD.out; have := HX0.out; omega
    clear hX hbA
    go_wp2
    rw [← hwA]
    clear hwA hx hin
    have HK0 : Hid (Kp (fun b => (Value.slice av y0.notes.length ac).ownBlock = some b ∨ b = pb) wA wA.drew) := Kp.of_below (below_refl wA).drew
    have HK1 : Hid (Kp (fun b => (Value.slice av y0.notes.length ac).ownBlock = some b ∨ b = pb) wA (wA.alloc (.cells #[.int .i64 (-2), .int .i64 c0, .int .i64 a0] 3)).drew) := Kp.of_below ((below1 wA _).drew)
    have cN0 : wA.drew.cell? ⟨pb, 0, none⟩ = some (.slice av y0.notes.length ac) := by show wA.cell? _ = _; rw [cell_of_row _ _ _ _ _ _ HX.out.hb]; rfl
    have cN1 : (wA.alloc (.cells #[.int .i64 (-2), .int .i64 c0, .int .i64 a0] 3)).cell? ⟨pb, 0, none⟩ = some (.slice av y0.notes.length ac) := by rw [World.cell?_alloc_some wA _ _ (by show (World.cell? wA.drew _).isSome = true; rw [cN0]; rfl)]; exact cN0
    have cN2 : (wA.alloc (.cells #[.int .i64 (-2), .int .i64 c0, .int .i64 a0] 3)).drew.cell? ⟨pb, 0, none⟩ = some (.slice av y0.notes.length ac) := cN1
    have HN0 : Hid (¬ (fun b => (Value.slice av y0.notes.length ac).ownBlock = some b ∨ b = pb) _) := kf_noP HX.out HEb.out (by decide) (by decide)
    refine wp_region_held_drew (S := (fun w' => Kp (fun b => (Value.slice av y0.notes.length ac).ownBlock = some b ∨ b = pb) wA w')) (by kernel_rfl) ?_ (fun hHeld => ?_)
    · (try dsimp only); first | exact HK0.out | exact HK1.out | exact HK7.out | exact HK8.out
    refine wpAnyH_take (i := 0) (oi := { dst := some 145, op := Op.move (Operand.tmp 0), type := 33, pos := "law.go:143", after := #[], guard := none }) (v := ?vu152) rfl (by kernel_rfl) (by kernel_rfl) (by kernel_rfl) (fun _ _ _ h => h) (Or.inl ⟨by rfl, ?hyu152⟩) (by assumption) ?restu152
    case hyu152 => (intro w hSw; (try dsimp only at hSw); go_simp; (try with_reducible rfl))
    try simp only [Act.put, List.setIfInBounds_toArray, List.set_cons_zero, List.set_cons_succ]
    refine wpAnyH_take (i := 1) (oi := { dst := some 146, op := Op.move (Operand.tmp 0), type := 33, pos := "law.go:143", after := #[], guard := none }) (v := ?vu153) rfl (by kernel_rfl) (by kernel_rfl) (by kernel_rfl) (fun _ _ _ h => h) (Or.inl ⟨by rfl, ?hyu153⟩) (by assumption) ?restu153
    case hyu153 => (intro w hSw; (try dsimp only at hSw); go_simp; (try with_reducible rfl))
    try simp only [Act.put, List.setIfInBounds_toArray, List.set_cons_zero, List.set_cons_succ]
    refine wpAnyH_take (i := 2) (oi := { dst := some 147, op := Op.nilCheck (Operand.tmp 146), type := 0, pos := "law.go:143", after := #[{ on := 1, ground := Ground.data }], guard := none }) (v := ?vu154) rfl (by kernel_rfl) (by kernel_rfl) (by kernel_rfl) (fun _ _ _ h => h) (Or.inl ⟨by rfl, ?hyu154⟩) (by assumption) ?restu154
    case hyu154 => (intro w hSw; (try dsimp only at hSw); go_simp; (try with_reducible rfl))
    try simp only [Act.put, List.setIfInBounds_toArray, List.set_cons_zero, List.set_cons_succ]
    refine wpAnyH_take (i := 3) (oi := { dst := some 148, op := Op.fieldAddr 35 (Operand.tmp 147) 0, type := 0, pos := "law.go:143", after := #[{ on := 2, ground := Ground.data }], guard := none }) (v := ?vu155) rfl (by kernel_rfl) (by kernel_rfl) (by kernel_rfl) (fun _ _ _ h => h) (Or.inl ⟨by rfl, ?hyu155⟩) (by assumption) ?restu155
    case hyu155 => (intro w hSw; (try dsimp only at hSw); go_simp; (try with_reducible rfl))
    try simp only [Act.put, List.setIfInBounds_toArray, List.set_cons_zero, List.set_cons_succ]
    refine wpAnyH_take (i := 5) (oi := { dst := some 150, op := Op.fieldAddr 37 (Operand.tmp 11) 1, type := 0, pos := "law.go:143", after := #[], guard := none }) (v := ?vu156) rfl (by kernel_rfl) (by kernel_rfl) (by kernel_rfl) (fun _ _ _ h => h) (Or.inl ⟨by rfl, ?hyu156⟩) (by assumption) ?restu156
    case hyu156 => (intro w hSw; (try dsimp only at hSw); go_simp; (try with_reducible rfl))
    try simp only [Act.put, List.setIfInBounds_toArray, List.set_cons_zero, List.set_cons_succ]
    refine wpAnyH_take (i := 6) (oi := { dst := some 151, op := Op.load 3 (Operand.tmp 150), type := 3, pos := "law.go:143", after := #[{ on := 5, ground := Ground.data }], guard := none }) (v := ?vu157) rfl (by kernel_rfl) (by kernel_rfl) (by kernel_rfl) (fun _ _ _ h => h) (Or.inl ⟨by rfl, ?hyu157⟩) (by assumption) ?restu157
    case hyu157 => (intro wz hSw; (try dsimp only at hSw); have q0_1 := cell_of_row _ _ 1 _ _ _ (hSw.heap HEb.out HN0.out); (try simp only [List.getElem?_toArray, List.getElem?_cons_zero, List.getElem?_cons_succ] at q0_1); have q0_2 := cell_of_row _ _ 2 _ _ _ (hSw.heap HEb.out HN0.out); (try simp only [List.getElem?_toArray, List.getElem?_cons_zero, List.getElem?_cons_succ] at q0_2); go_simp; (try with_reducible rfl))
    try simp only [Act.put, List.setIfInBounds_toArray, List.set_cons_zero, List.set_cons_succ]
    refine wpAnyH_take (i := 7) (oi := { dst := some 152, op := Op.fieldAddr 37 (Operand.tmp 11) 2, type := 0, pos := "law.go:143", after := #[], guard := none }) (v := ?vu158) rfl (by kernel_rfl) (by kernel_rfl) (by kernel_rfl) (fun _ _ _ h => h) (Or.inl ⟨by rfl, ?hyu158⟩) (by assumption) ?restu158
    case hyu158 => (intro w hSw; (try dsimp only at hSw); go_simp; (try with_reducible rfl))
    try simp only [Act.put, List.setIfInBounds_toArray, List.set_cons_zero, List.set_cons_succ]
    refine wpAnyH_take (i := 8) (oi := { dst := some 153, op := Op.load 3 (Operand.tmp 152), type := 3, pos := "law.go:143", after := #[{ on := 7, ground := Ground.data }], guard := none }) (v := ?vu159) rfl (by kernel_rfl) (by kernel_rfl) (by kernel_rfl) (fun _ _ _ h => h) (Or.inl ⟨by rfl, ?hyu159⟩) (by assumption) ?restu159
    case hyu159 => (intro wz hSw; (try dsimp only at hSw); have q0_1 := cell_of_row _ _ 1 _ _ _ (hSw.heap HEb.out HN0.out); (try simp only [List.getElem?_toArray, List.getElem?_cons_zero, List.getElem?_cons_succ] at q0_1); have q0_2 := cell_of_row _ _ 2 _ _ _ (hSw.heap HEb.out HN0.out); (try simp only [List.getElem?_toArray, List.getElem?_cons_zero, List.getElem?_cons_succ] at q0_2); go_simp; (try with_reducible rfl))
    try simp only [Act.put, List.setIfInBounds_toArray, List.set_cons_zero, List.set_cons_succ]
    refine wpAnyH_ready (rs := [4, 9]) (by kernel_rfl) (by simp) ?_
    refine AllReadyH.cons (o := { dst := some 149, op := Op.load 30 (Operand.tmp 148), type := 30, pos := "law.go:143", after := #[{ on := 3, ground := Ground.data }], guard := none }) rfl (fun K hK => ?_) ?_
    · skip
      go_simp
      refine hK.out _ _ ?_ (fun hHeldB => ?_)
      · (try dsimp only); first | exact HK0.out | exact HK1.out | exact HK7.out | exact HK8.out
      clear hK K hHeld
      have hHeld := hHeldB
      clear hHeldB
      try simp only [Act.put, List.setIfInBounds_toArray, List.set_cons_zero, List.set_cons_succ]
      refine wpAnyH_ready (rs := [9]) (by kernel_rfl) (by simp) ?_
      refine AllReadyH.cons (o := { dst := some 154, op := Op.buildSlice 30 3 #[(0, Operand.const (Value.int IntKind.i64 (-2))), (1, Operand.tmp 151), (2, Operand.tmp 153)], type := 30, pos := "law.go:143", after := #[{ on := 6, ground := Ground.data }, { on := 8, ground := Ground.data }], guard := none }) rfl (fun K hK => ?_) AllReadyH.nil
      go_simp
      refine hK.out _ _ ?_ (fun hHeldB => ?_)
      · (try dsimp only); first | exact HK0.out | exact HK1.out | exact HK7.out | exact HK8.out
      clear hK K hHeld
      have hHeld := hHeldB
      clear hHeldB
      try simp only [Act.put, List.setIfInBounds_toArray, List.set_cons_zero, List.set_cons_succ]
      refine wpAnyH_ready (rs := [10]) (by kernel_rfl) (by simp) ?_
      refine AllReadyH.cons (o := { dst := some 155, op := Op.call { callee := Callee.builtin Builtin.append, args := #[Operand.tmp 149, Operand.tmp 154], argTypes := #[30, 30] }, type := 30, pos := "law.go:143", after := #[{ on := 4, ground := Ground.data }, { on := 9, ground := Ground.data }], guard := none }) rfl (fun K hK => ?_) AllReadyH.nil
      refine step_app_at eInt rfl _ _ rfl ((HX.out.ow.alloc _).drew) (Nat.zero_le _) (row_rd (V := ivs (gt [(-2), c0, a0])) (heap_new1 wA (.cells #[.int .i64 (-2), .int .i64 c0, .int .i64 a0] 3)) (by decide) (fun j hj => by match j, hj with | 0, _ => rfl | 1, _ => rfl | 2, _ => rfl)) (by decide) (ivs_one _ _) (y0.notes.length + 3) rfl (by omega) (ivs (gt (y0.notes ++ [(-2), c0, a0]))) (fun j _ => catV_gt y0.notes [(-2), c0, a0] j) rfl rfl ?_
      intro a7 c7 w7 hO7 hG7 hA7
      have hKr : Kp (fun b => (Value.slice av y0.notes.length ac).ownBlock = some b) wA w7 := (Kp.of_below (F := fun b => (Value.slice av y0.notes.length ac).ownBlock = some b) ((below1 wA (.cells #[.int .i64 (-2), .int .i64 c0, .int .i64 a0] 3)).drew)).trans (Kp.of_grown (F := fun b => (Value.slice av y0.notes.length ac).ownBlock = some b) hG7 (fun k hk => hk)) (fun _ _ h => h)
      obtain ⟨k7, hput⟩ := ps_put (N := (y0.notes.length + 3)) (l := [(-2), c0, a0]) (Nat.le_trans hlo HLO.out) HX.out rfl hO7 hKr (by simp) hA7
      have HL : Hid (∃ G9, Lft (PS w0.heap.size pb) G wA (y0.note [(-2), c0, a0]) G9 (w7.setCell ⟨pb, 0, none⟩ (.slice a7 (y0.notes.length + 3) c7))) := hput
      have f7 : w7.cell? ⟨pb, 0, none⟩ = some (.slice av y0.notes.length ac) := by rw [cell_of_row _ _ _ _ _ _ k7]; rfl
      have z7 : w7.frozen? ⟨pb, 0, none⟩ = false := by simp [World.frozen?, k7]
      have HK7 : Hid (Kp (fun b => (Value.slice av y0.notes.length ac).ownBlock = some b ∨ b = pb) wA w7) := hKr.mono fun _ _ h => Or.inl h
      have HK8 : Hid (Kp (fun b => (Value.slice av y0.notes.length ac).ownBlock = some b ∨ b = pb) wA (w7.setCell ⟨pb, 0, none⟩ (.slice a7 (y0.notes.length + 3) c7))) := HK7.out.set (p := ⟨pb, 0, none⟩) (Or.inl (Or.inr rfl)) _
      clear hO7 hG7 hA7 hKr hput k7
      refine hK.out _ _ ?_ (fun hHeldB => ?_)
      · (try dsimp only); first | exact HK0.out | exact HK1.out | exact HK7.out | exact HK8.out
      clear hK K hHeld
      have hHeld := hHeldB
      clear hHeldB
      try simp only [Act.put, List.setIfInBounds_toArray, List.set_cons_zero, List.set_cons_succ]
      refine wpAnyH_take (i := 11) (oi := { dst := some 156, op := Op.nilCheck (Operand.tmp 145), type := 0, pos := "law.go:143", after := #[{ on := 0, ground := Ground.data }, { on := 0, ground := Ground.phase }, { on := 1, ground := Ground.phase }, { on := 2, ground := Ground.phase }, { on := 3, ground := Ground.phase }, { on := 4, ground := Ground.phase }, { on := 5, ground := Ground.phase }, { on := 6, ground := Ground.phase }, { on := 7, ground := Ground.phase }, { on := 8, ground := Ground.phase }, { on := 9, ground := Ground.phase }, { on := 10, ground := Ground.phase }], guard := none }) (v := ?vu160) rfl (by kernel_rfl) (by kernel_rfl) (by kernel_rfl) (fun _ _ _ h => h) (Or.inl ⟨by rfl, ?hyu160⟩) (by assumption) ?restu160
      case hyu160 => (intro w hSw; (try dsimp only at hSw); go_simp; (try with_reducible rfl))
      try simp only [Act.put, List.setIfInBounds_toArray, List.set_cons_zero, List.set_cons_succ]
      refine wpAnyH_take (i := 12) (oi := { dst := some 157, op := Op.fieldAddr 35 (Operand.tmp 156) 0, type := 0, pos := "law.go:143", after := #[{ on := 11, ground := Ground.data }, { on := 0, ground := Ground.phase }, { on := 1, ground := Ground.phase }, { on := 2, ground := Ground.phase }, { on := 3, ground := Ground.phase }, { on := 4, ground := Ground.phase }, { on := 5, ground := Ground.phase }, { on := 6, ground := Ground.phase }, { on := 7, ground := Ground.phase }, { on := 8, ground := Ground.phase }, { on := 9, ground := Ground.phase }, { on := 10, ground := Ground.phase }], guard := none }) (v := ?vu161) rfl (by kernel_rfl) (by kernel_rfl) (by kernel_rfl) (fun _ _ _ h => h) (Or.inl ⟨by rfl, ?hyu161⟩) (by assumption) ?restu161
      case hyu161 => (intro w hSw; (try dsimp only at hSw); go_simp; (try with_reducible rfl))
      try simp only [Act.put, List.setIfInBounds_toArray, List.set_cons_zero, List.set_cons_succ]
      refine wpAnyH_ready (rs := [13]) (by kernel_rfl) (by simp) ?_
      refine AllReadyH.cons (o := { dst := none, op := Op.store 30 (Operand.tmp 157) (Operand.tmp 155), type := 0, pos := "law.go:143", after := #[{ on := 12, ground := Ground.data }, { on := 10, ground := Ground.data }, { on := 10, ground := Ground.chain }, { on := 0, ground := Ground.phase }, { on := 1, ground := Ground.phase }, { on := 2, ground := Ground.phase }, { on := 3, ground := Ground.phase }, { on := 4, ground := Ground.phase }, { on := 5, ground := Ground.phase }, { on := 6, ground := Ground.phase }, { on := 7, ground := Ground.phase }, { on := 8, ground := Ground.phase }, { on := 9, ground := Ground.phase }, { on := 10, ground := Ground.phase }], guard := none }) rfl (fun K hK => ?_) AllReadyH.nil
      go_simp
      refine hK.out _ _ ?_ (fun hHeldB => ?_)
      · (try dsimp only); first | exact HK0.out | exact HK1.out | exact HK7.out | exact HK8.out
      clear hK K hHeld
      have hHeld := hHeldB
      clear hHeldB
      try simp only [Act.put, List.setIfInBounds_toArray, List.set_cons_zero, List.set_cons_succ]
      refine wpAnyH_done (by kernel_rfl) ?_ _
      obtain ⟨H, hL⟩ := HL.out
      have hr9 := HK8.out.heap HTA2.out (kf_noP HX.out HTA2.out (by decide) (by decide))
      have HNR : Hid (¬ H (w.heap.size + 1)) := fun h => (hL.2.1 _ h).elim HG2.out fun q => by have h1 := lt_of_heap HTA2.out; omega
      have HLH : Hid (Lft (PS w0.heap.size pb) F w (y0.note [(-2), c0, a0]) H (w7.setCell ⟨pb, 0, none⟩ (.slice a7 (y0.notes.length + 3) c7))) := (HLA.out.trans hL).of_below HB1.out
      clear hL
      generalize w7.setCell ⟨pb, 0, none⟩ (.slice a7 (y0.notes.length + 3) c7) = W9 at hr9 HLH ⊢
      obtain ⟨s0, s1, s2, s3, s4, s5, s6, s7⟩ := st3 hr9 (.int .i64 0) (.int .i64 0) (.int .i64 0)
      have HS6 : Hid ((((W9.setCell ⟨w.heap.size + 1, 0, none⟩ (.int .i64 0)).setCell ⟨w.heap.size + 1, 1, none⟩ (.int .i64 0)).setCell ⟨w.heap.size + 1, 2, none⟩ (.int .i64 0)).heap[w.heap.size + 1]? = some (.cells #[.int .i64 0, .int .i64 0, .int .i64 0] 37)) := s6
      have HS7 : Hid (Kp (fun b => b = w.heap.size + 1) W9 (((W9.setCell ⟨w.heap.size + 1, 0, none⟩ (.int .i64 0)).setCell ⟨w.heap.size + 1, 1, none⟩ (.int .i64 0)).setCell ⟨w.heap.size + 1, 2, none⟩ (.int .i64 0))) := s7
      clear s6 s7
      go_wp2
      generalize (((W9.setCell ⟨w.heap.size + 1, 0, none⟩ (.int .i64 0)).setCell ⟨w.heap.size + 1, 1, none⟩ (.int .i64 0)).setCell ⟨w.heap.size + 1, 2, none⟩ (.int .i64 0)) = W10 at HS6 HS7 ⊢
      have r0 := cell_of_row _ _ 0 _ _ _ HS6.out
      have r1 := cell_of_row _ _ 1 _ _ _ HS6.out
      have r2 := cell_of_row _ _ 2 _ _ _ HS6.out
      simp only [List.getElem?_toArray, List.getElem?_cons_zero, List.getElem?_cons_succ] at r0 r1 r2
      refine bodyPost_ret (v := .agg #[.int .i64 0, .int .i64 0, .int .i64 0]) (by simp [results, Try.results11, go_sem, r0, r1, r2]) rfl ?_
      rw [HPR.out]
      exact ⟨rfl, H, Lft.box (ps_st _ pb) HLH.out HS7.out (by omega) HNR.out⟩
    refine AllReadyH.cons (o := { dst := some 154, op := Op.buildSlice 30 3 #[(0, Operand.const (Value.int IntKind.i64 (-2))), (1, Operand.tmp 151), (2, Operand.tmp 153)], type := 30, pos := "law.go:143", after := #[{ on := 6, ground := Ground.data }, { on := 8, ground := Ground.data }], guard := none }) rfl (fun K hK => ?_) AllReadyH.nil
    go_simp
    refine hK.out _ _ ?_ (fun hHeldB => ?_)
    · (try dsimp only); first | exact HK0.out | exact HK1.out | exact HK7.out | exact HK8.out
    clear hK K hHeld
    have hHeld := hHeldB
    clear hHeldB
    try simp only [Act.put, List.setIfInBounds_toArray, List.set_cons_zero, List.set_cons_succ]
    refine wpAnyH_ready (rs := [4]) (by kernel_rfl) (by simp) ?_
    refine AllReadyH.cons (o := { dst := some 149, op := Op.load 30 (Operand.tmp 148), type := 30, pos := "law.go:143", after := #[{ on := 3, ground := Ground.data }], guard := none }) rfl (fun K hK => ?_) AllReadyH.nil
    go_simp
    refine hK.out _ _ ?_ (fun hHeldB => ?_)
    · (try dsimp only); first | exact HK0.out | exact HK1.out | exact HK7.out | exact HK8.out
    clear hK K hHeld
    have hHeld := hHeldB
    clear hHeldB
    try simp only [Act.put, List.setIfInBounds_toArray, List.set_cons_zero, List.set_cons_succ]
    refine wpAnyH_ready (rs := [10]) (by kernel_rfl) (by simp) ?_
    refine AllReadyH.cons (o := { dst := some 155, op := Op.call { callee := Callee.builtin Builtin.append, args := #[Operand.tmp 149, Operand.tmp 154], argTypes := #[30, 30] }, type := 30, pos := "law.go:143", after := #[{ on := 4, ground := Ground.data }, { on := 9, ground := Ground.data }], guard := none }) rfl (fun K hK => ?_) AllReadyH.nil
    refine step_app_at eInt rfl _ _ rfl ((HX.out.ow.alloc _).drew) (Nat.zero_le _) (row_rd (V := ivs (gt [(-2), c0, a0])) (heap_new1 wA (.cells #[.int .i64 (-2), .int .i64 c0, .int .i64 a0] 3)) (by decide) (fun j hj => by match j, hj with | 0, _ => rfl | 1, _ => rfl | 2, _ => rfl)) (by decide) (ivs_one _ _) (y0.notes.length + 3) rfl (by omega) (ivs (gt (y0.notes ++ [(-2), c0, a0]))) (fun j _ => catV_gt y0.notes [(-2), c0, a0] j) rfl rfl ?_
    intro a7 c7 w7 hO7 hG7 hA7
    have hKr : Kp (fun b => (Value.slice av y0.notes.length ac).ownBlock = some b) wA w7 := (Kp.of_below (F := fun b => (Value.slice av y0.notes.length ac).ownBlock = some b) ((below1 wA (.cells #[.int .i64 (-2), .int .i64 c0, .int .i64 a0] 3)).drew)).trans (Kp.of_grown (F := fun b => (Value.slice av y0.notes.length ac).ownBlock = some b) hG7 (fun k hk => hk)) (fun _ _ h => h)
    obtain ⟨k7, hput⟩ := ps_put (N := (y0.notes.length + 3)) (l := [(-2), c0, a0]) (Nat.le_trans hlo HLO.out) HX.out rfl hO7 hKr (by simp) hA7
    have HL : Hid (∃ G9, Lft (PS w0.heap.size pb) G wA (y0.note [(-2), c0, a0]) G9 (w7.setCell ⟨pb, 0, none⟩ (.slice a7 (y0.notes.length + 3) c7))) := hput
    have f7 : w7.cell? ⟨pb, 0, none⟩ = some (.slice av y0.notes.length ac) := by rw [cell_of_row _ _ _ _ _ _ k7]; rfl
    have z7 : w7.frozen? ⟨pb, 0, none⟩ = false := by simp [World.frozen?, k7]
    have HK7 : Hid (Kp (fun b => (Value.slice av y0.notes.length ac).ownBlock = some b ∨ b = pb) wA w7) := hKr.mono fun _ _ h => Or.inl h
    have HK8 : Hid (Kp (fun b => (Value.slice av y0.notes.length ac).ownBlock = some b ∨ b = pb) wA (w7.setCell ⟨pb, 0, none⟩ (.slice a7 (y0.notes.length + 3) c7))) := HK7.out.set (p := ⟨pb, 0, none⟩) (Or.inl (Or.inr rfl)) _
    clear hO7 hG7 hA7 hKr hput k7
    refine hK.out _ _ ?_ (fun hHeldB => ?_)
    · (try dsimp only); first | exact HK0.out | exact HK1.out | exact HK7.out | exact HK8.out
    clear hK K hHeld
    have hHeld := hHeldB
    clear hHeldB
    try simp only [Act.put, List.setIfInBounds_toArray, List.set_cons_zero, List.set_cons_succ]
    refine wpAnyH_take (i := 11) (oi := { dst := some 156, op := Op.nilCheck (Operand.tmp 145), type := 0, pos := "law.go:143", after := #[{ on := 0, ground := Ground.data }, { on := 0, ground := Ground.phase }, { on := 1, ground := Ground.phase }, { on := 2, ground := Ground.phase }, { on := 3, ground := Ground.phase }, { on := 4, ground := Ground.phase }, { on := 5, ground := Ground.phase }, { on := 6, ground := Ground.phase }, { on := 7, ground := Ground.phase }, { on := 8, ground := Ground.phase }, { on := 9, ground := Ground.phase }, { on := 10, ground := Ground.phase }], guard := none }) (v := ?vu162) rfl (by kernel_rfl) (by kernel_rfl) (by kernel_rfl) (fun _ _ _ h => h) (Or.inl ⟨by rfl, ?hyu162⟩) (by assumption) ?restu162
    case hyu162 => (intro w hSw; (try dsimp only at hSw); go_simp; (try with_reducible rfl))
    try simp only [Act.put, List.setIfInBounds_toArray, List.set_cons_zero, List.set_cons_succ]
    refine wpAnyH_take (i := 12) (oi := { dst := some 157, op := Op.fieldAddr 35 (Operand.tmp 156) 0, type := 0, pos := "law.go:143", after := #[{ on := 11, ground := Ground.data }, { on := 0, ground := Ground.phase }, { on := 1, ground := Ground.phase }, { on := 2, ground := Ground.phase }, { on := 3, ground := Ground.phase }, { on := 4, ground := Ground.phase }, { on := 5, ground := Ground.phase }, { on := 6, ground := Ground.phase }, { on := 7, ground := Ground.phase }, { on := 8, ground := Ground.phase }, { on := 9, ground := Ground.phase }, { on := 10, ground := Ground.phase }], guard := none }) (v := ?vu163) rfl (by kernel_rfl) (by kernel_rfl) (by kernel_rfl) (fun _ _ _ h => h) (Or.inl ⟨by rfl, ?hyu163⟩) (by assumption) ?restu163
    case hyu163 => (intro w hSw; (try dsimp only at hSw); go_simp; (try with_reducible rfl))
    try simp only [Act.put, List.setIfInBounds_toArray, List.set_cons_zero, List.set_cons_succ]
    refine wpAnyH_ready (rs := [13]) (by kernel_rfl) (by simp) ?_
    refine AllReadyH.cons (o := { dst := none, op := Op.store 30 (Operand.tmp 157) (Operand.tmp 155), type := 0, pos := "law.go:143", after := #[{ on := 12, ground := Ground.data }, { on := 10, ground := Ground.data }, { on := 10, ground := Ground.chain }, { on := 0, ground := Ground.phase }, { on := 1, ground := Ground.phase }, { on := 2, ground := Ground.phase }, { on := 3, ground := Ground.phase }, { on := 4, ground := Ground.phase }, { on := 5, ground := Ground.phase }, { on := 6, ground := Ground.phase }, { on := 7, ground := Ground.phase }, { on := 8, ground := Ground.phase }, { on := 9, ground := Ground.phase }, { on := 10, ground := Ground.phase }], guard := none }) rfl (fun K hK => ?_) AllReadyH.nil
    go_simp
    refine hK.out _ _ ?_ (fun hHeldB => ?_)
    · (try dsimp only); first | exact HK0.out | exact HK1.out | exact HK7.out | exact HK8.out
    clear hK K hHeld
    have hHeld := hHeldB
    clear hHeldB
    try simp only [Act.put, List.setIfInBounds_toArray, List.set_cons_zero, List.set_cons_succ]
    refine wpAnyH_done (by kernel_rfl) ?_ _
    obtain ⟨H, hL⟩ := HL.out
    have hr9 := HK8.out.heap HTA2.out (kf_noP HX.out HTA2.out (by decide) (by decide))
    have HNR : Hid (¬ H (w.heap.size + 1)) := fun h => (hL.2.1 _ h).elim HG2.out fun q => by have h1 := lt_of_heap HTA2.out; omega
    have HLH : Hid (Lft (PS w0.heap.size pb) F w (y0.note [(-2), c0, a0]) H (w7.setCell ⟨pb, 0, none⟩ (.slice a7 (y0.notes.length + 3) c7))) := (HLA.out.trans hL).of_below HB1.out
    clear hL
    generalize w7.setCell ⟨pb, 0, none⟩ (.slice a7 (y0.notes.length + 3) c7) = W9 at hr9 HLH ⊢
    obtain ⟨s0, s1, s2, s3, s4, s5, s6, s7⟩ := st3 hr9 (.int .i64 0) (.int .i64 0) (.int .i64 0)
    have HS6 : Hid ((((W9.setCell ⟨w.heap.size + 1, 0, none⟩ (.int .i64 0)).setCell ⟨w.heap.size + 1, 1, none⟩ (.int .i64 0)).setCell ⟨w.heap.size + 1, 2, none⟩ (.int .i64 0)).heap[w.heap.size + 1]? = some (.cells #[.int .i64 0, .int .i64 0, .int .i64 0] 37)) := s6
    have HS7 : Hid (Kp (fun b => b = w.heap.size + 1) W9 (((W9.setCell ⟨w.heap.size + 1, 0, none⟩ (.int .i64 0)).setCell ⟨w.heap.size + 1, 1, none⟩ (.int .i64 0)).setCell ⟨w.heap.size + 1, 2, none⟩ (.int .i64 0))) := s7
    clear s6 s7
    go_wp2
    generalize (((W9.setCell ⟨w.heap.size + 1, 0, none⟩ (.int .i64 0)).setCell ⟨w.heap.size + 1, 1, none⟩ (.int .i64 0)).setCell ⟨w.heap.size + 1, 2, none⟩ (.int .i64 0)) = W10 at HS6 HS7 ⊢
    have r0 := cell_of_row _ _ 0 _ _ _ HS6.out
    have r1 := cell_of_row _ _ 1 _ _ _ HS6.out
    have r2 := cell_of_row _ _ 2 _ _ _ HS6.out
    simp only [List.getElem?_toArray, List.getElem?_cons_zero, List.getElem?_cons_succ] at r0 r1 r2
    refine bodyPost_ret (v := .agg #[.int .i64 0, .int .i64 0, .int .i64 0]) (by simp [results, Try.results11, go_sem, r0, r1, r2]) rfl ?_
    rw [HPR.out]
    exact ⟨rfl, H, Lft.box (ps_st _ pb) HLH.out HS7.out (by omega) HNR.out⟩
  | num m =>
    replace he3 : e = .returned (.agg #[.int .i64 2, .int .i64 0, .int .i64 m]) := he3
    subst he3
    obtain ⟨wA, hwA⟩ : ∃ wA, wA = w3.alloc (.cells #[.int .i64 2, .int .i64 0, .int .i64 m] 37) := ⟨_, rfl⟩
    have hbA : Below w3.heap.size w3 wA := by rw [hwA]; exact below1 w3 _
    have HEb : Hid (wA.heap[w3.heap.size]? = some (.cells #[.int .i64 2, .int .i64 0, .int .i64 m] 37)) := by show wA.heap[_]? = _; rw [hwA]; exact heap_new1 w3 _
    have HLA : Hid (Lft (PS w0.heap.size pb) F W1 y0 G wA) := HL3.out.trans ((ps_st _ pb).lft HS3.out hbA)
    have HTA1 : Hid (wA.heap[w.heap.size]? = some (.cells #[.int .i64 7, .int .i64 code, .int .i64 n, .slice na len cap] 24)) := (hbA.block _ (lt_of_heap HT1.out)).trans HT1.out
    have HTA2 : Hid (wA.heap[w.heap.size + 1]? = some (.cells #[.int .i64 0, .int .i64 0, .int .i64 0] 37)) := (hbA.block _ (lt_of_heap HT2.out)).trans HT2.out
    have HLO : Hid (w.heap.size ≤ wA.heap.size) := Nat.le_trans HLO1.out (Nat.le_trans hsz3 hbA.size)
    obtain ⟨av, ac, hX⟩ := HLA.out.1
    have HX : Hid (PX w0.heap.size pb G wA y0 av ac) := hX
    have hx2 : y0.notes.length ≤ 99990 := by have := HBD.out; have := HX0.out; omega
    clear hX hbA
    go_wp2
    rw [← hwA]
    clear hwA hx hin
    have HK0 : Hid (Kp (fun b => (Value.slice av y0.notes.length ac).ownBlock = some b ∨ b = pb) wA wA.drew) := Kp.of_below (below_refl wA).drew
    have HK1 : Hid (Kp (fun b => (Value.slice av y0.notes.length ac).ownBlock = some b ∨ b = pb) wA (wA.alloc (.cells #[.int .i64 (-3), .int .i64 m] 3)).drew) := Kp.of_below ((below1 wA _).drew)
    have cN0 : wA.drew.cell? ⟨pb, 0, none⟩ = some (.slice av y0.notes.length ac) := by show wA.cell? _ = _; rw [cell_of_row _ _ _ _ _ _ HX.out.hb]; rfl
    have cN1 : (wA.alloc (.cells #[.int .i64 (-3), .int .i64 m] 3)).cell? ⟨pb, 0, none⟩ = some (.slice av y0.notes.length ac) := by rw [World.cell?_alloc_some wA _ _ (by show (World.cell? wA.drew _).isSome = true; rw [cN0]; rfl)]; exact cN0
    have cN2 : (wA.alloc (.cells #[.int .i64 (-3), .int .i64 m] 3)).drew.cell? ⟨pb, 0, none⟩ = some (.slice av y0.notes.length ac) := cN1
    have HN0 : Hid (¬ (fun b => (Value.slice av y0.notes.length ac).ownBlock = some b ∨ b = pb) _) := kf_noP HX.out HEb.out (by decide) (by decide)
    refine wp_region_held_drew (S := (fun w' => Kp (fun b => (Value.slice av y0.notes.length ac).ownBlock = some b ∨ b = pb) wA w')) (by kernel_rfl) ?_ (fun hHeld => ?_)
    · (try dsimp only); first | exact HK0.out | exact HK1.out | exact HK7.out | exact HK8.out
    refine wpAnyH_take (i := 0) (oi := { dst := some 160, op := Op.move (Operand.tmp 0), type := 33, pos := "law.go:145", after := #[], guard := none }) (v := ?vu164) rfl (by kernel_rfl) (by kernel_rfl) (by kernel_rfl) (fun _ _ _ h => h) (Or.inl ⟨by rfl, ?hyu164⟩) (by assumption) ?restu164
    case hyu164 => (intro w hSw; (try dsimp only at hSw); go_simp; (try with_reducible rfl))
    try simp only [Act.put, List.setIfInBounds_toArray, List.set_cons_zero, List.set_cons_succ]
    refine wpAnyH_take (i := 1) (oi := { dst := some 161, op := Op.move (Operand.tmp 0), type := 33, pos := "law.go:145", after := #[], guard := none }) (v := ?vu165) rfl (by kernel_rfl) (by kernel_rfl) (by kernel_rfl) (fun _ _ _ h => h) (Or.inl ⟨by rfl, ?hyu165⟩) (by assumption) ?restu165
    case hyu165 => (intro w hSw; (try dsimp only at hSw); go_simp; (try with_reducible rfl))
    try simp only [Act.put, List.setIfInBounds_toArray, List.set_cons_zero, List.set_cons_succ]
    refine wpAnyH_take (i := 2) (oi := { dst := some 162, op := Op.nilCheck (Operand.tmp 161), type := 0, pos := "law.go:145", after := #[{ on := 1, ground := Ground.data }], guard := none }) (v := ?vu166) rfl (by kernel_rfl) (by kernel_rfl) (by kernel_rfl) (fun _ _ _ h => h) (Or.inl ⟨by rfl, ?hyu166⟩) (by assumption) ?restu166
    case hyu166 => (intro w hSw; (try dsimp only at hSw); go_simp; (try with_reducible rfl))
    try simp only [Act.put, List.setIfInBounds_toArray, List.set_cons_zero, List.set_cons_succ]
    refine wpAnyH_take (i := 3) (oi := { dst := some 163, op := Op.fieldAddr 35 (Operand.tmp 162) 0, type := 0, pos := "law.go:145", after := #[{ on := 2, ground := Ground.data }], guard := none }) (v := ?vu167) rfl (by kernel_rfl) (by kernel_rfl) (by kernel_rfl) (fun _ _ _ h => h) (Or.inl ⟨by rfl, ?hyu167⟩) (by assumption) ?restu167
    case hyu167 => (intro w hSw; (try dsimp only at hSw); go_simp; (try with_reducible rfl))
    try simp only [Act.put, List.setIfInBounds_toArray, List.set_cons_zero, List.set_cons_succ]
    refine wpAnyH_take (i := 5) (oi := { dst := some 165, op := Op.fieldAddr 37 (Operand.tmp 11) 2, type := 0, pos := "law.go:145", after := #[], guard := none }) (v := ?vu168) rfl (by kernel_rfl) (by kernel_rfl) (by kernel_rfl) (fun _ _ _ h => h) (Or.inl ⟨by rfl, ?hyu168⟩) (by assumption) ?restu168
    case hyu168 => (intro w hSw; (try dsimp only at hSw); go_simp; (try with_reducible rfl))
    try simp only [Act.put, List.setIfInBounds_toArray, List.set_cons_zero, List.set_cons_succ]
    refine wpAnyH_take (i := 6) (oi := { dst := some 166, op := Op.load 3 (Operand.tmp 165), type := 3, pos := "law.go:145", after := #[{ on := 5, ground := Ground.data }], guard := none }) (v := ?vu169) rfl (by kernel_rfl) (by kernel_rfl) (by kernel_rfl) (fun _ _ _ h => h) (Or.inl ⟨by rfl, ?hyu169⟩) (by assumption) ?restu169
    case hyu169 => (intro wz hSw; (try dsimp only at hSw); have q0_2 := cell_of_row _ _ 2 _ _ _ (hSw.heap HEb.out HN0.out); (try simp only [List.getElem?_toArray, List.getElem?_cons_zero, List.getElem?_cons_succ] at q0_2); go_simp; (try with_reducible rfl))
    try simp only [Act.put, List.setIfInBounds_toArray, List.set_cons_zero, List.set_cons_succ]
    refine wpAnyH_ready (rs := [4, 7]) (by kernel_rfl) (by simp) ?_
    refine AllReadyH.cons (o := { dst := some 164, op := Op.load 30 (Operand.tmp 163), type := 30, pos := "law.go:145", after := #[{ on := 3, ground := Ground.data }], guard := none }) rfl (fun K hK => ?_) ?_
    · skip
      go_simp
      refine hK.out _ _ ?_ (fun hHeldB => ?_)
      · (try dsimp only); first | exact HK0.out | exact HK1.out | exact HK7.out | exact HK8.out
      clear hK K hHeld
      have hHeld := hHeldB
      clear hHeldB
      try simp only [Act.put, List.setIfInBounds_toArray, List.set_cons_zero, List.set_cons_succ]
      refine wpAnyH_ready (rs := [7]) (by kernel_rfl) (by simp) ?_
      refine AllReadyH.cons (o := { dst := some 167, op := Op.buildSlice 30 2 #[(0, Operand.const (Value.int IntKind.i64 (-3))), (1, Operand.tmp 166)], type := 30, pos := "law.go:145", after := #[{ on := 6, ground := Ground.data }], guard := none }) rfl (fun K hK => ?_) AllReadyH.nil
      go_simp
      refine hK.out _ _ ?_ (fun hHeldB => ?_)
      · (try dsimp only); first | exact HK0.out | exact HK1.out | exact HK7.out | exact HK8.out
      clear hK K hHeld
      have hHeld := hHeldB
      clear hHeldB
      try simp only [Act.put, List.setIfInBounds_toArray, List.set_cons_zero, List.set_cons_succ]
      refine wpAnyH_ready (rs := [8]) (by kernel_rfl) (by simp) ?_
      refine AllReadyH.cons (o := { dst := some 168, op := Op.call { callee := Callee.builtin Builtin.append, args := #[Operand.tmp 164, Operand.tmp 167], argTypes := #[30, 30] }, type := 30, pos := "law.go:145", after := #[{ on := 4, ground := Ground.data }, { on := 7, ground := Ground.data }], guard := none }) rfl (fun K hK => ?_) AllReadyH.nil
      refine step_app_at eInt rfl _ _ rfl ((HX.out.ow.alloc _).drew) (Nat.zero_le _) (row_rd (V := ivs (gt [(-3), m])) (heap_new1 wA (.cells #[.int .i64 (-3), .int .i64 m] 3)) (by decide) (fun j hj => by match j, hj with | 0, _ => rfl | 1, _ => rfl)) (by decide) (ivs_one _ _) (y0.notes.length + 2) rfl (by omega) (ivs (gt (y0.notes ++ [(-3), m]))) (fun j _ => catV_gt y0.notes [(-3), m] j) rfl rfl ?_
      intro a7 c7 w7 hO7 hG7 hA7
      have hKr : Kp (fun b => (Value.slice av y0.notes.length ac).ownBlock = some b) wA w7 := (Kp.of_below (F := fun b => (Value.slice av y0.notes.length ac).ownBlock = some b) ((below1 wA (.cells #[.int .i64 (-3), .int .i64 m] 3)).drew)).trans (Kp.of_grown (F := fun b => (Value.slice av y0.notes.length ac).ownBlock = some b) hG7 (fun k hk => hk)) (fun _ _ h => h)
      obtain ⟨k7, hput⟩ := ps_put (N := (y0.notes.length + 2)) (l := [(-3), m]) (Nat.le_trans hlo HLO.out) HX.out rfl hO7 hKr (by simp) hA7
      have HL : Hid (∃ G9, Lft (PS w0.heap.size pb) G wA (y0.note [(-3), m]) G9 (w7.setCell ⟨pb, 0, none⟩ (.slice a7 (y0.notes.length + 2) c7))) := hput
      have f7 : w7.cell? ⟨pb, 0, none⟩ = some (.slice av y0.notes.length ac) := by rw [cell_of_row _ _ _ _ _ _ k7]; rfl
      have z7 : w7.frozen? ⟨pb, 0, none⟩ = false := by simp [World.frozen?, k7]
      have HK7 : Hid (Kp (fun b => (Value.slice av y0.notes.length ac).ownBlock = some b ∨ b = pb) wA w7) := hKr.mono fun _ _ h => Or.inl h
      have HK8 : Hid (Kp (fun b => (Value.slice av y0.notes.length ac).ownBlock = some b ∨ b = pb) wA (w7.setCell ⟨pb, 0, none⟩ (.slice a7 (y0.notes.length + 2) c7))) := HK7.out.set (p := ⟨pb, 0, none⟩) (Or.inl (Or.inr rfl)) _
      clear hO7 hG7 hA7 hKr hput k7
      refine hK.out _ _ ?_ (fun hHeldB => ?_)
      · (try dsimp only); first | exact HK0.out | exact HK1.out | exact HK7.out | exact HK8.out
      clear hK K hHeld
      have hHeld := hHeldB
      clear hHeldB
      try simp only [Act.put, List.setIfInBounds_toArray, List.set_cons_zero, List.set_cons_succ]
      refine wpAnyH_take (i := 9) (oi := { dst := some 169, op := Op.nilCheck (Operand.tmp 160), type := 0, pos := "law.go:145", after := #[{ on := 0, ground := Ground.data }, { on := 0, ground := Ground.phase }, { on := 1, ground := Ground.phase }, { on := 2, ground := Ground.phase }, { on := 3, ground := Ground.phase }, { on := 4, ground := Ground.phase }, { on := 5, ground := Ground.phase }, { on := 6, ground := Ground.phase }, { on := 7, ground := Ground.phase }, { on := 8, ground := Ground.phase }], guard := none }) (v := ?vu170) rfl (by kernel_rfl) (by kernel_rfl) (by kernel_rfl) (fun _ _ _ h => h) (Or.inl ⟨by rfl, ?hyu170⟩) (by assumption) ?restu170
      case hyu170 => (intro w hSw; (try dsimp only at hSw); go_simp; (try with_reducible rfl))
      try simp only [Act.put, List.setIfInBounds_toArray, List.set_cons_zero, List.set_cons_succ]
      refine wpAnyH_take (i := 10) (oi := { dst := some 170, op := Op.fieldAddr 35 (Operand.tmp 169) 0, type := 0, pos := "law.go:145", after := #[{ on := 9, ground := Ground.data }, { on := 0, ground := Ground.phase }, { on := 1, ground := Ground.phase }, { on := 2, ground := Ground.phase }, { on := 3, ground := Ground.phase }, { on := 4, ground := Ground.phase }, { on := 5, ground := Ground.phase }, { on := 6, ground := Ground.phase }, { on := 7, ground := Ground.phase }, { on := 8, ground := Ground.phase }], guard := none }) (v := ?vu171) rfl (by kernel_rfl) (by kernel_rfl) (by kernel_rfl) (fun _ _ _ h => h) (Or.inl ⟨by rfl, ?hyu171⟩) (by assumption) ?restu171
      case hyu171 => (intro w hSw; (try dsimp only at hSw); go_simp; (try with_reducible rfl))
      try simp only [Act.put, List.setIfInBounds_toArray, List.set_cons_zero, List.set_cons_succ]
      refine wpAnyH_ready (rs := [11]) (by kernel_rfl) (by simp) ?_
      refine AllReadyH.cons (o := { dst := none, op := Op.store 30 (Operand.tmp 170) (Operand.tmp 168), type := 0, pos := "law.go:145", after := #[{ on := 10, ground := Ground.data }, { on := 8, ground := Ground.data }, { on := 8, ground := Ground.chain }, { on := 0, ground := Ground.phase }, { on := 1, ground := Ground.phase }, { on := 2, ground := Ground.phase }, { on := 3, ground := Ground.phase }, { on := 4, ground := Ground.phase }, { on := 5, ground := Ground.phase }, { on := 6, ground := Ground.phase }, { on := 7, ground := Ground.phase }, { on := 8, ground := Ground.phase }], guard := none }) rfl (fun K hK => ?_) AllReadyH.nil
      go_simp
      refine hK.out _ _ ?_ (fun hHeldB => ?_)
      · (try dsimp only); first | exact HK0.out | exact HK1.out | exact HK7.out | exact HK8.out
      clear hK K hHeld
      have hHeld := hHeldB
      clear hHeldB
      try simp only [Act.put, List.setIfInBounds_toArray, List.set_cons_zero, List.set_cons_succ]
      refine wpAnyH_done (by kernel_rfl) ?_ _
      obtain ⟨H, hL⟩ := HL.out
      have hr9 := HK8.out.heap HTA2.out (kf_noP HX.out HTA2.out (by decide) (by decide))
      have HNR : Hid (¬ H (w.heap.size + 1)) := fun h => (hL.2.1 _ h).elim HG2.out fun q => by have h1 := lt_of_heap HTA2.out; omega
      have HLH : Hid (Lft (PS w0.heap.size pb) F w (y0.note [(-3), m]) H (w7.setCell ⟨pb, 0, none⟩ (.slice a7 (y0.notes.length + 2) c7))) := (HLA.out.trans hL).of_below HB1.out
      clear hL
      generalize w7.setCell ⟨pb, 0, none⟩ (.slice a7 (y0.notes.length + 2) c7) = W9 at hr9 HLH ⊢
      obtain ⟨s0, s1, s2, s3, s4, s5, s6, s7⟩ := st3 hr9 (.int .i64 0) (.int .i64 0) (.int .i64 0)
      have HS6 : Hid ((((W9.setCell ⟨w.heap.size + 1, 0, none⟩ (.int .i64 0)).setCell ⟨w.heap.size + 1, 1, none⟩ (.int .i64 0)).setCell ⟨w.heap.size + 1, 2, none⟩ (.int .i64 0)).heap[w.heap.size + 1]? = some (.cells #[.int .i64 0, .int .i64 0, .int .i64 0] 37)) := s6
      have HS7 : Hid (Kp (fun b => b = w.heap.size + 1) W9 (((W9.setCell ⟨w.heap.size + 1, 0, none⟩ (.int .i64 0)).setCell ⟨w.heap.size + 1, 1, none⟩ (.int .i64 0)).setCell ⟨w.heap.size + 1, 2, none⟩ (.int .i64 0))) := s7
      clear s6 s7
      go_wp2
      generalize (((W9.setCell ⟨w.heap.size + 1, 0, none⟩ (.int .i64 0)).setCell ⟨w.heap.size + 1, 1, none⟩ (.int .i64 0)).setCell ⟨w.heap.size + 1, 2, none⟩ (.int .i64 0)) = W10 at HS6 HS7 ⊢
      have r0 := cell_of_row _ _ 0 _ _ _ HS6.out
      have r1 := cell_of_row _ _ 1 _ _ _ HS6.out
      have r2 := cell_of_row _ _ 2 _ _ _ HS6.out
      simp only [List.getElem?_toArray, List.getElem?_cons_zero, List.getElem?_cons_succ] at r0 r1 r2
      refine bodyPost_ret (v := .agg #[.int .i64 0, .int .i64 0, .int .i64 0]) (by simp [results, Try.results11, go_sem, r0, r1, r2]) rfl ?_
      rw [HPR.out]
      exact ⟨rfl, H, Lft.box (ps_st _ pb) HLH.out HS7.out (by omega) HNR.out⟩
    refine AllReadyH.cons (o := { dst := some 167, op := Op.buildSlice 30 2 #[(0, Operand.const (Value.int IntKind.i64 (-3))), (1, Operand.tmp 166)], type := 30, pos := "law.go:145", after := #[{ on := 6, ground := Ground.data }], guard := none }) rfl (fun K hK => ?_) AllReadyH.nil
    go_simp
    refine hK.out _ _ ?_ (fun hHeldB => ?_)
    · (try dsimp only); first | exact HK0.out | exact HK1.out | exact HK7.out | exact HK8.out
    clear hK K hHeld
    have hHeld := hHeldB
    clear hHeldB
    try simp only [Act.put, List.setIfInBounds_toArray, List.set_cons_zero, List.set_cons_succ]
    refine wpAnyH_ready (rs := [4]) (by kernel_rfl) (by simp) ?_
    refine AllReadyH.cons (o := { dst := some 164, op := Op.load 30 (Operand.tmp 163), type := 30, pos := "law.go:145", after := #[{ on := 3, ground := Ground.data }], guard := none }) rfl (fun K hK => ?_) AllReadyH.nil
    go_simp
    refine hK.out _ _ ?_ (fun hHeldB => ?_)
    · (try dsimp only); first | exact HK0.out | exact HK1.out | exact HK7.out | exact HK8.out
    clear hK K hHeld
    have hHeld := hHeldB
    clear hHeldB
    try simp only [Act.put, List.setIfInBounds_toArray, List.set_cons_zero, List.set_cons_succ]
    refine wpAnyH_ready (rs := [8]) (by kernel_rfl) (by simp) ?_
    refine AllReadyH.cons (o := { dst := some 168, op := Op.call { callee := Callee.builtin Builtin.append, args := #[Operand.tmp 164, Operand.tmp 167], argTypes := #[30, 30] }, type := 30, pos := "law.go:145", after := #[{ on := 4, ground := Ground.data }, { on := 7, ground := Ground.data }], guard := none }) rfl (fun K hK => ?_) AllReadyH.nil
    refine step_app_at eInt rfl _ _ rfl ((HX.out.ow.alloc _).drew) (Nat.zero_le _) (row_rd (V := ivs (gt [(-3), m])) (heap_new1 wA (.cells #[.int .i64 (-3), .int .i64 m] 3)) (by decide) (fun j hj => by match j, hj with | 0, _ => rfl | 1, _ => rfl)) (by decide) (ivs_one _ _) (y0.notes.length + 2) rfl (by omega) (ivs (gt (y0.notes ++ [(-3), m]))) (fun j _ => catV_gt y0.notes [(-3), m] j) rfl rfl ?_
    intro a7 c7 w7 hO7 hG7 hA7
    have hKr : Kp (fun b => (Value.slice av y0.notes.length ac).ownBlock = some b) wA w7 := (Kp.of_below (F := fun b => (Value.slice av y0.notes.length ac).ownBlock = some b) ((below1 wA (.cells #[.int .i64 (-3), .int .i64 m] 3)).drew)).trans (Kp.of_grown (F := fun b => (Value.slice av y0.notes.length ac).ownBlock = some b) hG7 (fun k hk => hk)) (fun _ _ h => h)
    obtain ⟨k7, hput⟩ := ps_put (N := (y0.notes.length + 2)) (l := [(-3), m]) (Nat.le_trans hlo HLO.out) HX.out rfl hO7 hKr (by simp) hA7
    have HL : Hid (∃ G9, Lft (PS w0.heap.size pb) G wA (y0.note [(-3), m]) G9 (w7.setCell ⟨pb, 0, none⟩ (.slice a7 (y0.notes.length + 2) c7))) := hput
    have f7 : w7.cell? ⟨pb, 0, none⟩ = some (.slice av y0.notes.length ac) := by rw [cell_of_row _ _ _ _ _ _ k7]; rfl
    have z7 : w7.frozen? ⟨pb, 0, none⟩ = false := by simp [World.frozen?, k7]
    have HK7 : Hid (Kp (fun b => (Value.slice av y0.notes.length ac).ownBlock = some b ∨ b = pb) wA w7) := hKr.mono fun _ _ h => Or.inl h
    have HK8 : Hid (Kp (fun b => (Value.slice av y0.notes.length ac).ownBlock = some b ∨ b = pb) wA (w7.setCell ⟨pb, 0, none⟩ (.slice a7 (y0.notes.length + 2) c7))) := HK7.out.set (p := ⟨pb, 0, none⟩) (Or.inl (Or.inr rfl)) _
    clear hO7 hG7 hA7 hKr hput k7
    refine hK.out _ _ ?_ (fun hHeldB => ?_)
    · (try dsimp only); first | exact HK0.out | exact HK1.out | exact HK7.out | exact HK8.out
    clear hK K hHeld
    have hHeld := hHeldB
    clear hHeldB
    try simp only [Act.put, List.setIfInBounds_toArray, List.set_cons_zero, List.set_cons_succ]
    refine wpAnyH_take (i := 9) (oi := { dst := some 169, op := Op.nilCheck (Operand.tmp 160), type := 0, pos := "law.go:145", after := #[{ on := 0, ground := Ground.data }, { on := 0, ground := Ground.phase }, { on := 1, ground := Ground.phase }, { on := 2, ground := Ground.phase }, { on := 3, ground := Ground.phase }, { on := 4, ground := Ground.phase }, { on := 5, ground := Ground.phase }, { on := 6, ground := Ground.phase }, { on := 7, ground := Ground.phase }, { on := 8, ground := Ground.phase }], guard := none }) (v := ?vu172) rfl (by kernel_rfl) (by kernel_rfl) (by kernel_rfl) (fun _ _ _ h => h) (Or.inl ⟨by rfl, ?hyu172⟩) (by assumption) ?restu172
    case hyu172 => (intro w hSw; (try dsimp only at hSw); go_simp; (try with_reducible rfl))
    try simp only [Act.put, List.setIfInBounds_toArray, List.set_cons_zero, List.set_cons_succ]
    refine wpAnyH_take (i := 10) (oi := { dst := some 170, op := Op.fieldAddr 35 (Operand.tmp 169) 0, type := 0, pos := "law.go:145", after := #[{ on := 9, ground := Ground.data }, { on := 0, ground := Ground.phase }, { on := 1, ground := Ground.phase }, { on := 2, ground := Ground.phase }, { on := 3, ground := Ground.phase }, { on := 4, ground := Ground.phase }, { on := 5, ground := Ground.phase }, { on := 6, ground := Ground.phase }, { on := 7, ground := Ground.phase }, { on := 8, ground := Ground.phase }], guard := none }) (v := ?vu173) rfl (by kernel_rfl) (by kernel_rfl) (by kernel_rfl) (fun _ _ _ h => h) (Or.inl ⟨by rfl, ?hyu173⟩) (by assumption) ?restu173
    case hyu173 => (intro w hSw; (try dsimp only at hSw); go_simp; (try with_reducible rfl))
    try simp only [Act.put, List.setIfInBounds_toArray, List.set_cons_zero, List.set_cons_succ]
    refine wpAnyH_ready (rs := [11]) (by kernel_rfl) (by simp) ?_
    refine AllReadyH.cons (o := { dst := none, op := Op.store 30 (Operand.tmp 170) (Operand.tmp 168), type := 0, pos := "law.go:145", after := #[{ on := 10, ground := Ground.data }, { on := 8, ground := Ground.data }, { on := 8, ground := Ground.chain }, { on := 0, ground := Ground.phase }, { on := 1, ground := Ground.phase }, { on := 2, ground := Ground.phase }, { on := 3, ground := Ground.phase }, { on := 4, ground := Ground.phase }, { on := 5, ground := Ground.phase }, { on := 6, ground := Ground.phase }, { on := 7, ground := Ground.phase }, { on := 8, ground := Ground.phase }], guard := none }) rfl (fun K hK => ?_) AllReadyH.nil
    go_simp
    refine hK.out _ _ ?_ (fun hHeldB => ?_)
    · (try dsimp only); first | exact HK0.out | exact HK1.out | exact HK7.out | exact HK8.out
    clear hK K hHeld
    have hHeld := hHeldB
    clear hHeldB
    try simp only [Act.put, List.setIfInBounds_toArray, List.set_cons_zero, List.set_cons_succ]
    refine wpAnyH_done (by kernel_rfl) ?_ _
    obtain ⟨H, hL⟩ := HL.out
    have hr9 := HK8.out.heap HTA2.out (kf_noP HX.out HTA2.out (by decide) (by decide))
    have HNR : Hid (¬ H (w.heap.size + 1)) := fun h => (hL.2.1 _ h).elim HG2.out fun q => by have h1 := lt_of_heap HTA2.out; omega
    have HLH : Hid (Lft (PS w0.heap.size pb) F w (y0.note [(-3), m]) H (w7.setCell ⟨pb, 0, none⟩ (.slice a7 (y0.notes.length + 2) c7))) := (HLA.out.trans hL).of_below HB1.out
    clear hL
    generalize w7.setCell ⟨pb, 0, none⟩ (.slice a7 (y0.notes.length + 2) c7) = W9 at hr9 HLH ⊢
    obtain ⟨s0, s1, s2, s3, s4, s5, s6, s7⟩ := st3 hr9 (.int .i64 0) (.int .i64 0) (.int .i64 0)
    have HS6 : Hid ((((W9.setCell ⟨w.heap.size + 1, 0, none⟩ (.int .i64 0)).setCell ⟨w.heap.size + 1, 1, none⟩ (.int .i64 0)).setCell ⟨w.heap.size + 1, 2, none⟩ (.int .i64 0)).heap[w.heap.size + 1]? = some (.cells #[.int .i64 0, .int .i64 0, .int .i64 0] 37)) := s6
    have HS7 : Hid (Kp (fun b => b = w.heap.size + 1) W9 (((W9.setCell ⟨w.heap.size + 1, 0, none⟩ (.int .i64 0)).setCell ⟨w.heap.size + 1, 1, none⟩ (.int .i64 0)).setCell ⟨w.heap.size + 1, 2, none⟩ (.int .i64 0))) := s7
    clear s6 s7
    go_wp2
    generalize (((W9.setCell ⟨w.heap.size + 1, 0, none⟩ (.int .i64 0)).setCell ⟨w.heap.size + 1, 1, none⟩ (.int .i64 0)).setCell ⟨w.heap.size + 1, 2, none⟩ (.int .i64 0)) = W10 at HS6 HS7 ⊢
    have r0 := cell_of_row _ _ 0 _ _ _ HS6.out
    have r1 := cell_of_row _ _ 1 _ _ _ HS6.out
    have r2 := cell_of_row _ _ 2 _ _ _ HS6.out
    simp only [List.getElem?_toArray, List.getElem?_cons_zero, List.getElem?_cons_succ] at r0 r1 r2
    refine bodyPost_ret (v := .agg #[.int .i64 0, .int .i64 0, .int .i64 0]) (by simp [results, Try.results11, go_sem, r0, r1, r2]) rfl ?_
    rw [HPR.out]
    exact ⟨rfl, H, Lft.box (ps_st _ pb) HLH.out HS7.out (by omega) HNR.out⟩
  | nilB => exact absurd rfl HNIL.out
end Go.Proofs.Ytgighebohbpkiaa
