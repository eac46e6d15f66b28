/- does: kinds that call kids. -/
import Derived.Test.YtgighebohbpkiaaBwa
namespace Go.Proofs.Ytgighebohbpkiaa
open Go.RowKit Fo
set_option maxRecDepth 100000
set_option linter.unusedSimpArgs false
set_option linter.unusedVariables false

namespace Fo
def kidNV (V : Nat → NV) (len i : Nat) : NV := if i < len then V i else NV.zero
theorem kidNV_v (V : Nat → NV) (len i : Nat) : (if i < len then (V i).v else NV.zero.v) = (kidNV V len i).v := by unfold kidNV; split <;> rfl
end Fo
set_option maxHeartbeats 16000000 in
theorem does_4 {M : (Nat → Prop) → World → Value → Int → Prop} (C : BailSays) (D : MeterSays M) (w0 : World) (bw : Nat) (F : Nat → Prop) (w : World) (x : St) (code n : Int) (na : Option Addr) (len cap : Nat) (V : Nat → NV) (hbl : Below w0.heap.size w0 w) (hs : WS M w0.heap.size bw F w x) (hr : NRow w0 ⟨4, code, n, na, len, cap⟩ V) (r0 : Run) (m0 : Nat) (hd0 : DoesP M w0 bw (kidNV V len 0) r0 m0) (hb0 : RunB m0 r0) (hx : x.notes.length + m0 ≤ 99990) (hin : InR x) :
    Calls Try.prog 14 #[(.pointer (some ⟨bw, 0, none⟩)), .agg #[.int .i64 4, .int .i64 code, .int .i64 n, .slice na len cap]] w (Fins (WS M w0.heap.size bw) F w (noteC (r0 x)).1 (noteC (r0 x)).2) := by
  obtain ⟨W1, hW1⟩ : ∃ W1, W1 = (w.alloc (.cells #[.pointer (some ⟨bw, 0, none⟩)] 27)).alloc (.cells #[.int .i64 4, .int .i64 code, .int .i64 n, .slice na len cap] 24) := ⟨_, rfl⟩
  have HB1 : Hid (Below w.heap.size w W1) := by rw [hW1]; exact (below1 w _).alloc (by simp) _
  have HQ0 : Hid (W1.heap[w.heap.size]? = some (.cells #[.pointer (some ⟨bw, 0, none⟩)] 27)) := by show W1.heap[_]? = _; rw [hW1]; exact heap_new2 w _ _
  have HQ1 : Hid (W1.heap[w.heap.size + 1]? = some (.cells #[.int .i64 4, .int .i64 code, .int .i64 n, .slice na len cap] 24)) := by
    show W1.heap[_]? = _
    rw [hW1]
    have := heap_new1 (w.alloc (.cells #[.pointer (some ⟨bw, 0, none⟩)] 27)) (.cells #[.int .i64 4, .int .i64 code, .int .i64 n, .slice na len cap] 24)
    simpa using this
  have HZ1 : Hid (W1.heap.size = w.heap.size + 2) := by show _ = _; rw [hW1]; simp
  
  have HS1 : Hid (WS M w0.heap.size bw F W1 x) := (ws_st D _ bw).below hs HB1.out
  have hlo : w0.heap.size ≤ w.heap.size := hbl.size
  have HLO1 : Hid (w.heap.size ≤ W1.heap.size) := HB1.out.size
  have HLT : Hid (∀ b, F b → b < w.heap.size) := (ws_st D _ bw).lt hs
  have hbl1 : Below w0.heap.size w0 W1 := hbl.trans (HB1.out.mono hbl.size)
  have HBL1 : Hid (Below w0.heap.size w0 W1) := hbl1
  have hrow0 := hr
  have HR1 : Hid (NRow W1 ⟨4, code, n, na, len, cap⟩ V) := hr.below (below_step (below_refl w0) hbl1)
  have n1 : ¬ F w.heap.size := fun h => by have := HLT.out _ h; omega
  have n2 : ¬ F (w.heap.size + 1) := fun h => by have := HLT.out _ h; omega
  have HN1 : Hid (¬ F w.heap.size) := n1
  have HN2 : Hid (¬ F (w.heap.size + 1)) := n2
  have hmf : ∀ (fn : Fn) (first cap : Array Value) (w : World), (Instr.makeFunc fn first cap).run Try.prog w = .ok (.func fn first cap) w := fun _ _ _ _ => rfl
  have q2 : W1.cell? ⟨w.heap.size + 1, 1, none⟩ = some (.int .i64 code) := by rw [cell_of_row _ _ _ _ _ _ HQ1.out]; rfl
  have HD0 : Hid (DoesP M w0 bw (kidNV V len 0) r0 m0) := hd0
  obtain ⟨e0, y0, hp⟩ : ∃ e0 y0, r0 x = (e0, y0) := ⟨_, _, rfl⟩
  have HPR : Hid (r0 x = (e0, y0)) := hp
  obtain ⟨hnil, hbd, hin0⟩ := hb0 x hin
  rw [hp] at hnil hbd hin0
  simp only at hnil hbd hin0
  have HNIL : Hid (e0 ≠ .nilB) := hnil
  have HBD : Hid (y0.notes.length ≤ x.notes.length + m0) := hbd
  have HIN0 : Hid (InR y0) := hin0
  clear hs hr hbl hbl1 hp hb0 hnil hbd hin0 n1 n2 hd0
  go_enter Try.func14, Try.ntmps14
  go_wp2_with (go_at_call 22; fail)
  rw [← hW1]
  clear hW1
  refine (C.catches (ws_st D _ bw) F W1 x y0 _ _ e0 (fnv_cl2 _) HS1.out (fun w1 hb hs => cl2_plays D w0.heap.size bw _ _ F w1 x y0 e0 _ code n na len cap V ((hb.block _ (lt_of_heap HQ0.out)).trans HQ0.out) ((hb.block _ (lt_of_heap HQ1.out)).trans HQ1.out) HN1.out HN2.out (HR1.out.below hb) hs _ (kidNV_v V len 0) fun w2 hb2 hs2 => by have := HD0.out F w2 x (HBL1.out.trans ((hb.trans (hb2.mono hb.size)).mono HBL1.out.size)) hs2 (by omega) hin; rwa [HPR.out] at this)).mono ?_
  rintro e w2 ⟨G, hl, he⟩
  have HL2 : Hid (Lft (WS M w0.heap.size bw) F W1 y0 G w2) := hl
  have HGT : Hid (∀ b, G b → F b ∨ W1.heap.size ≤ b) := hl.2.1
  have HP0 : Hid (w2.heap[w.heap.size]? = some (.cells #[.pointer (some ⟨bw, 0, none⟩)] 27)) := hl.2.2.heap HQ0.out HN1.out
  have HS2 : Hid (WS M w0.heap.size bw G w2 y0) := hl.1
  have HLO : Hid (w.heap.size ≤ w2.heap.size) := Nat.le_trans HLO1.out hl.2.2.size
  have hx2 : y0.notes.length ≤ 99990 := by have := HBD.out; omega
  clear hl hx hin
  show _
  cases e0 with
  | ret =>
    change e = _ at he
    subst he
    go_wp2
    obtain ⟨av, ac, p, FM, hX⟩ := HS2.out
    have HX : Hid (WX M w0.heap.size bw G w2 y0 av ac p FM) := hX
    clear hX
    have HK0 : Hid (Kp (fun b => (Value.slice av y0.notes.length ac).ownBlock = some b ∨ b = bw) w2 w2.drew) := Kp.of_below (below_refl w2).drew
    have HK1 : Hid (Kp (fun b => (Value.slice av y0.notes.length ac).ownBlock = some b ∨ b = bw) w2 (w2.alloc (.cells #[.int .i64 0, .int .i64 0] 3)).drew) := Kp.of_below ((below1 w2 _).drew)
    have cN0 : w2.drew.cell? ⟨bw, 0, none⟩ = some (.slice av y0.notes.length ac) := by show w2.cell? _ = _; rw [cell_of_row _ _ _ _ _ _ HX.out.hb]; rfl
    have cN1 : (w2.alloc (.cells #[.int .i64 0, .int .i64 0] 3)).cell? ⟨bw, 0, none⟩ = some (.slice av y0.notes.length ac) := by rw [World.cell?_alloc_some w2 _ _ (by show (World.cell? w2.drew _).isSome = true; rw [cN0]; rfl)]; exact cN0
    have cN2 : (w2.alloc (.cells #[.int .i64 0, .int .i64 0] 3)).drew.cell? ⟨bw, 0, none⟩ = some (.slice av y0.notes.length ac) := cN1
    have HN0 : Hid (¬ (fun b => (Value.slice av y0.notes.length ac).ownBlock = some b ∨ b = bw) _) := kf_no HX.out HP0.out (by decide) (by decide)
    refine wp_region_held_drew (S := (fun w' => Kp (fun b => (Value.slice av y0.notes.length ac).ownBlock = some b ∨ b = bw) w2 w')) (by kernel_rfl) ?_ (fun hHeld => ?_)
    · (try dsimp only); first | exact HK0.out | exact HK1.out | exact HK7.out | exact HK8.out
    refine wpAnyH_take (i := 0) (oi := { dst := some 50, op := Op.load 27 (Operand.tmp 2), type := 27, pos := "law.go:57", after := #[], guard := none }) (v := ?vu32) rfl (by kernel_rfl) (by kernel_rfl) (by kernel_rfl) (fun _ _ _ h => bp_put (P := Try.prog) (fn := Try.f14) _ _ _ h) (Or.inl ⟨by rfl, ?hyu32⟩) (by assumption) ?restu32
    case hyu32 => (intro wz hSw; (try dsimp only at hSw); have q0_0 := cell_of_row _ _ 0 _ _ _ (hSw.heap HP0.out HN0.out); (try simp only [List.getElem?_toArray, List.getElem?_cons_zero, List.getElem?_cons_succ] at q0_0); go_simp; (try with_reducible rfl))
    try simp only [Act.put, List.setIfInBounds_toArray, List.set_cons_zero, List.set_cons_succ]
    refine wpAnyH_take (i := 1) (oi := { dst := some 51, op := Op.load 27 (Operand.tmp 2), type := 27, pos := "law.go:57", after := #[], guard := none }) (v := ?vu33) rfl (by kernel_rfl) (by kernel_rfl) (by kernel_rfl) (fun _ _ _ h => bp_put (P := Try.prog) (fn := Try.f14) _ _ _ h) (Or.inl ⟨by rfl, ?hyu33⟩) (by assumption) ?restu33
    case hyu33 => (intro wz hSw; (try dsimp only at hSw); have q0_0 := cell_of_row _ _ 0 _ _ _ (hSw.heap HP0.out HN0.out); (try simp only [List.getElem?_toArray, List.getElem?_cons_zero, List.getElem?_cons_succ] at q0_0); go_simp; (try with_reducible rfl))
    try simp only [Act.put, List.setIfInBounds_toArray, List.set_cons_zero, List.set_cons_succ]
    refine wpAnyH_take (i := 2) (oi := { dst := some 52, op := Op.nilCheck (Operand.tmp 51), type := 0, pos := "law.go:57", after := #[{ on := 1, ground := Ground.data }], guard := none }) (v := ?vu34) rfl (by kernel_rfl) (by kernel_rfl) (by kernel_rfl) (fun _ _ _ h => bp_put (P := Try.prog) (fn := Try.f14) _ _ _ h) (Or.inl ⟨by rfl, ?hyu34⟩) (by assumption) ?restu34
    case hyu34 => (intro w hSw; (try dsimp only at hSw); go_simp; (try with_reducible rfl))
    try simp only [Act.put, List.setIfInBounds_toArray, List.set_cons_zero, List.set_cons_succ]
    refine wpAnyH_take (i := 3) (oi := { dst := some 53, op := Op.fieldAddr 32 (Operand.tmp 52) 0, type := 0, pos := "law.go:57", after := #[{ on := 2, ground := Ground.data }], guard := none }) (v := ?vu35) rfl (by kernel_rfl) (by kernel_rfl) (by kernel_rfl) (fun _ _ _ h => bp_put (P := Try.prog) (fn := Try.f14) _ _ _ h) (Or.inl ⟨by rfl, ?hyu35⟩) (by assumption) ?restu35
    case hyu35 => (intro w hSw; (try dsimp only at hSw); go_simp; (try with_reducible rfl))
    try simp only [Act.put, List.setIfInBounds_toArray, List.set_cons_zero, List.set_cons_succ]
    refine wpAnyH_take (i := 5) (oi := { dst := some 55, op := Op.move (Operand.tmp 5), type := 47, pos := "law.go:57", after := #[], guard := none }) (v := ?vu36) rfl (by kernel_rfl) (by kernel_rfl) (by kernel_rfl) (fun _ _ _ h => bp_put (P := Try.prog) (fn := Try.f14) _ _ _ h) (Or.inl ⟨by rfl, ?hyu36⟩) (by assumption) ?restu36
    case hyu36 => (intro w hSw; (try dsimp only at hSw); go_simp; (try with_reducible rfl))
    try simp only [Act.put, List.setIfInBounds_toArray, List.set_cons_zero, List.set_cons_succ]
    refine wpAnyH_take (i := 6) (oi := { dst := some 56, op := Op.move (Operand.tmp 6), type := 3, pos := "law.go:57", after := #[], guard := none }) (v := ?vu37) rfl (by kernel_rfl) (by kernel_rfl) (by kernel_rfl) (fun _ _ _ h => bp_put (P := Try.prog) (fn := Try.f14) _ _ _ h) (Or.inl ⟨by rfl, ?hyu37⟩) (by assumption) ?restu37
    case hyu37 => (intro w hSw; (try dsimp only at hSw); go_simp; (try with_reducible rfl))
    try simp only [Act.put, List.setIfInBounds_toArray, List.set_cons_zero, List.set_cons_succ]
    refine wpAnyH_ready (rs := [4, 7]) (by kernel_rfl) (by simp) ?_
    refine AllReadyH.cons (o := { dst := some 54, op := Op.load 30 (Operand.tmp 53), type := 30, pos := "law.go:57", after := #[{ on := 3, ground := Ground.data }], guard := none }) rfl (fun K hK => ?_) ?_
    · skip
      go_simp
      refine hK.out _ _ ?_ (fun hHeldB => ?_)
      · (try dsimp only); first | exact HK0.out | exact HK1.out | exact HK7.out | exact HK8.out
      clear hK K hHeld
      have hHeld := hHeldB
      clear hHeldB
      try simp only [Act.put, List.setIfInBounds_toArray, List.set_cons_zero, List.set_cons_succ]
      refine wpAnyH_ready (rs := [7]) (by kernel_rfl) (by simp) ?_
      refine AllReadyH.cons (o := { dst := some 57, op := Op.buildSlice 30 2 #[(0, Operand.tmp 55), (1, Operand.tmp 56)], type := 30, pos := "law.go:57", after := #[{ on := 5, ground := Ground.data }, { on := 6, ground := Ground.data }], guard := none }) rfl (fun K hK => ?_) AllReadyH.nil
      go_simp
      refine hK.out _ _ ?_ (fun hHeldB => ?_)
      · (try dsimp only); first | exact HK0.out | exact HK1.out | exact HK7.out | exact HK8.out
      clear hK K hHeld
      have hHeld := hHeldB
      clear hHeldB
      try simp only [Act.put, List.setIfInBounds_toArray, List.set_cons_zero, List.set_cons_succ]
      refine wpAnyH_ready (rs := [8]) (by kernel_rfl) (by simp) ?_
      refine AllReadyH.cons (o := { dst := some 58, op := Op.call { callee := Callee.builtin Builtin.append, args := #[Operand.tmp 54, Operand.tmp 57], argTypes := #[30, 30] }, type := 30, pos := "law.go:57", after := #[{ on := 4, ground := Ground.data }, { on := 7, ground := Ground.data }], guard := none }) rfl (fun K hK => ?_) AllReadyH.nil
      refine step_app_at eInt rfl _ _ rfl ((HX.out.ow.alloc _).drew) (Nat.zero_le _) (row_rd (V := ivs (gt [0, 0])) (heap_new1 w2 (.cells #[.int .i64 0, .int .i64 0] 3)) (by decide) (fun j hj => by match j, hj with | 0, _ => rfl | 1, _ => rfl)) (by decide) (ivs_one _ _) (y0.notes.length + 2) rfl (by omega) (ivs (gt (y0.notes ++ [0, 0]))) (fun j _ => catV_gt y0.notes [0, 0] j) rfl rfl ?_
      intro a7 c7 w7 hO7 hG7 hA7
      have hKr : Kp (fun b => (Value.slice av y0.notes.length ac).ownBlock = some b) w2 w7 := (Kp.of_below (F := fun b => (Value.slice av y0.notes.length ac).ownBlock = some b) ((below1 w2 (.cells #[.int .i64 0, .int .i64 0] 3)).drew)).trans (Kp.of_grown (F := fun b => (Value.slice av y0.notes.length ac).ownBlock = some b) hG7 (fun k hk => hk)) (fun _ _ h => h)
      obtain ⟨k7, hput⟩ := ws_put (N := (y0.notes.length + 2)) (l := [0, 0]) D (Nat.le_trans hlo HLO.out) HX.out rfl hO7 hKr (by simp) hA7
      have HL : Hid (∃ G9, Lft (WS M w0.heap.size bw) G w2 (y0.note [0, 0]) G9 (w7.setCell ⟨bw, 0, none⟩ (.slice a7 (y0.notes.length + 2) c7))) := hput
      have f7 : w7.cell? ⟨bw, 0, none⟩ = some (.slice av y0.notes.length ac) := by rw [cell_of_row _ _ _ _ _ _ k7]; rfl
      have z7 : w7.frozen? ⟨bw, 0, none⟩ = false := by simp [World.frozen?, k7]
      have HK7 : Hid (Kp (fun b => (Value.slice av y0.notes.length ac).ownBlock = some b ∨ b = bw) w2 w7) := hKr.mono fun _ _ h => Or.inl h
      have HK8 : Hid (Kp (fun b => (Value.slice av y0.notes.length ac).ownBlock = some b ∨ b = bw) w2 (w7.setCell ⟨bw, 0, none⟩ (.slice a7 (y0.notes.length + 2) c7))) := HK7.out.set (p := ⟨bw, 0, none⟩) (Or.inl (Or.inr rfl)) _
      clear hO7 hG7 hA7 hKr hput k7
      refine hK.out _ _ ?_ (fun hHeldB => ?_)
      · (try dsimp only); first | exact HK0.out | exact HK1.out | exact HK7.out | exact HK8.out
      clear hK K hHeld
      have hHeld := hHeldB
      clear hHeldB
      try simp only [Act.put, List.setIfInBounds_toArray, List.set_cons_zero, List.set_cons_succ]
      refine wpAnyH_take (i := 9) (oi := { dst := some 59, op := Op.nilCheck (Operand.tmp 50), type := 0, pos := "law.go:57", after := #[{ on := 0, ground := Ground.data }, { on := 0, ground := Ground.phase }, { on := 1, ground := Ground.phase }, { on := 2, ground := Ground.phase }, { on := 3, ground := Ground.phase }, { on := 4, ground := Ground.phase }, { on := 5, ground := Ground.phase }, { on := 6, ground := Ground.phase }, { on := 7, ground := Ground.phase }, { on := 8, ground := Ground.phase }], guard := none }) (v := ?vu38) rfl (by kernel_rfl) (by kernel_rfl) (by kernel_rfl) (fun _ _ _ h => bp_put (P := Try.prog) (fn := Try.f14) _ _ _ h) (Or.inl ⟨by rfl, ?hyu38⟩) (by assumption) ?restu38
      case hyu38 => (intro w hSw; (try dsimp only at hSw); go_simp; (try with_reducible rfl))
      try simp only [Act.put, List.setIfInBounds_toArray, List.set_cons_zero, List.set_cons_succ]
      refine wpAnyH_take (i := 10) (oi := { dst := some 60, op := Op.fieldAddr 32 (Operand.tmp 59) 0, type := 0, pos := "law.go:57", after := #[{ on := 9, ground := Ground.data }, { on := 0, ground := Ground.phase }, { on := 1, ground := Ground.phase }, { on := 2, ground := Ground.phase }, { on := 3, ground := Ground.phase }, { on := 4, ground := Ground.phase }, { on := 5, ground := Ground.phase }, { on := 6, ground := Ground.phase }, { on := 7, ground := Ground.phase }, { on := 8, ground := Ground.phase }], guard := none }) (v := ?vu39) rfl (by kernel_rfl) (by kernel_rfl) (by kernel_rfl) (fun _ _ _ h => bp_put (P := Try.prog) (fn := Try.f14) _ _ _ h) (Or.inl ⟨by rfl, ?hyu39⟩) (by assumption) ?restu39
      case hyu39 => (intro w hSw; (try dsimp only at hSw); go_simp; (try with_reducible rfl))
      try simp only [Act.put, List.setIfInBounds_toArray, List.set_cons_zero, List.set_cons_succ]
      refine wpAnyH_ready (rs := [11]) (by kernel_rfl) (by simp) ?_
      refine AllReadyH.cons (o := { dst := none, op := Op.store 30 (Operand.tmp 60) (Operand.tmp 58), type := 0, pos := "law.go:57", after := #[{ on := 10, ground := Ground.data }, { on := 8, ground := Ground.data }, { on := 8, ground := Ground.chain }, { on := 0, ground := Ground.phase }, { on := 1, ground := Ground.phase }, { on := 2, ground := Ground.phase }, { on := 3, ground := Ground.phase }, { on := 4, ground := Ground.phase }, { on := 5, ground := Ground.phase }, { on := 6, ground := Ground.phase }, { on := 7, ground := Ground.phase }, { on := 8, ground := Ground.phase }], guard := none }) rfl (fun K hK => ?_) AllReadyH.nil
      go_simp
      refine hK.out _ _ ?_ (fun hHeldB => ?_)
      · (try dsimp only); first | exact HK0.out | exact HK1.out | exact HK7.out | exact HK8.out
      clear hK K hHeld
      have hHeld := hHeldB
      clear hHeldB
      try simp only [Act.put, List.setIfInBounds_toArray, List.set_cons_zero, List.set_cons_succ]
      refine wpAnyH_done (by kernel_rfl) ?_ _
      go_wp2
      go_end0
      rw [HPR.out]
      obtain ⟨H, hL⟩ := HL.out
      exact ⟨H, (HL2.out.trans hL).of_below HB1.out, Or.inl ⟨rfl, rfl⟩⟩
    refine AllReadyH.cons (o := { dst := some 57, op := Op.buildSlice 30 2 #[(0, Operand.tmp 55), (1, Operand.tmp 56)], type := 30, pos := "law.go:57", after := #[{ on := 5, ground := Ground.data }, { on := 6, ground := Ground.data }], guard := none }) rfl (fun K hK => ?_) AllReadyH.nil
    go_simp
    refine hK.out _ _ ?_ (fun hHeldB => ?_)
    · (try dsimp only); first | exact HK0.out | exact HK1.out | exact HK7.out | exact HK8.out
    clear hK K hHeld
    have hHeld := hHeldB
    clear hHeldB
    try simp only [Act.put, List.setIfInBounds_toArray, List.set_cons_zero, List.set_cons_succ]
    refine wpAnyH_ready (rs := [4]) (by kernel_rfl) (by simp) ?_
    refine AllReadyH.cons (o := { dst := some 54, op := Op.load 30 (Operand.tmp 53), type := 30, pos := "law.go:57", after := #[{ on := 3, ground := Ground.data }], guard := none }) rfl (fun K hK => ?_) AllReadyH.nil
    go_simp
    refine hK.out _ _ ?_ (fun hHeldB => ?_)
    · (try dsimp only); first | exact HK0.out | exact HK1.out | exact HK7.out | exact HK8.out
    clear hK K hHeld
    have hHeld := hHeldB
    clear hHeldB
    try simp only [Act.put, List.setIfInBounds_toArray, List.set_cons_zero, List.set_cons_succ]
    refine wpAnyH_ready (rs := [8]) (by kernel_rfl) (by simp) ?_
    refine AllReadyH.cons (o := { dst := some 58, op := Op.call { callee := Callee.builtin Builtin.append, args := #[Operand.tmp 54, Operand.tmp 57], argTypes := #[30, 30] }, type := 30, pos := "law.go:57", after := #[{ on := 4, ground := Ground.data }, { on := 7, ground := Ground.data }], guard := none }) rfl (fun K hK => ?_) AllReadyH.nil
    refine step_app_at eInt rfl _ _ rfl ((HX.out.ow.alloc _).drew) (Nat.zero_le _) (row_rd (V := ivs (gt [0, 0])) (heap_new1 w2 (.cells #[.int .i64 0, .int .i64 0] 3)) (by decide) (fun j hj => by match j, hj with | 0, _ => rfl | 1, _ => rfl)) (by decide) (ivs_one _ _) (y0.notes.length + 2) rfl (by omega) (ivs (gt (y0.notes ++ [0, 0]))) (fun j _ => catV_gt y0.notes [0, 0] j) rfl rfl ?_
    intro a7 c7 w7 hO7 hG7 hA7
    have hKr : Kp (fun b => (Value.slice av y0.notes.length ac).ownBlock = some b) w2 w7 := (Kp.of_below (F := fun b => (Value.slice av y0.notes.length ac).ownBlock = some b) ((below1 w2 (.cells #[.int .i64 0, .int .i64 0] 3)).drew)).trans (Kp.of_grown (F := fun b => (Value.slice av y0.notes.length ac).ownBlock = some b) hG7 (fun k hk => hk)) (fun _ _ h => h)
    obtain ⟨k7, hput⟩ := ws_put (N := (y0.notes.length + 2)) (l := [0, 0]) D (Nat.le_trans hlo HLO.out) HX.out rfl hO7 hKr (by simp) hA7
    have HL : Hid (∃ G9, Lft (WS M w0.heap.size bw) G w2 (y0.note [0, 0]) G9 (w7.setCell ⟨bw, 0, none⟩ (.slice a7 (y0.notes.length + 2) c7))) := hput
    have f7 : w7.cell? ⟨bw, 0, none⟩ = some (.slice av y0.notes.length ac) := by rw [cell_of_row _ _ _ _ _ _ k7]; rfl
    have z7 : w7.frozen? ⟨bw, 0, none⟩ = false := by simp [World.frozen?, k7]
    have HK7 : Hid (Kp (fun b => (Value.slice av y0.notes.length ac).ownBlock = some b ∨ b = bw) w2 w7) := hKr.mono fun _ _ h => Or.inl h
    have HK8 : Hid (Kp (fun b => (Value.slice av y0.notes.length ac).ownBlock = some b ∨ b = bw) w2 (w7.setCell ⟨bw, 0, none⟩ (.slice a7 (y0.notes.length + 2) c7))) := HK7.out.set (p := ⟨bw, 0, none⟩) (Or.inl (Or.inr rfl)) _
    clear hO7 hG7 hA7 hKr hput k7
    refine hK.out _ _ ?_ (fun hHeldB => ?_)
    · (try dsimp only); first | exact HK0.out | exact HK1.out | exact HK7.out | exact HK8.out
    clear hK K hHeld
    have hHeld := hHeldB
    clear hHeldB
    try simp only [Act.put, List.setIfInBounds_toArray, List.set_cons_zero, List.set_cons_succ]
    refine wpAnyH_take (i := 9) (oi := { dst := some 59, op := Op.nilCheck (Operand.tmp 50), type := 0, pos := "law.go:57", after := #[{ on := 0, ground := Ground.data }, { on := 0, ground := Ground.phase }, { on := 1, ground := Ground.phase }, { on := 2, ground := Ground.phase }, { on := 3, ground := Ground.phase }, { on := 4, ground := Ground.phase }, { on := 5, ground := Ground.phase }, { on := 6, ground := Ground.phase }, { on := 7, ground := Ground.phase }, { on := 8, ground := Ground.phase }], guard := none }) (v := ?vu40) rfl (by kernel_rfl) (by kernel_rfl) (by kernel_rfl) (fun _ _ _ h => bp_put (P := Try.prog) (fn := Try.f14) _ _ _ h) (Or.inl ⟨by rfl, ?hyu40⟩) (by assumption) ?restu40
    case hyu40 => (intro w hSw; (try dsimp only at hSw); go_simp; (try with_reducible rfl))
    try simp only [Act.put, List.setIfInBounds_toArray, List.set_cons_zero, List.set_cons_succ]
    refine wpAnyH_take (i := 10) (oi := { dst := some 60, op := Op.fieldAddr 32 (Operand.tmp 59) 0, type := 0, pos := "law.go:57", after := #[{ on := 9, ground := Ground.data }, { on := 0, ground := Ground.phase }, { on := 1, ground := Ground.phase }, { on := 2, ground := Ground.phase }, { on := 3, ground := Ground.phase }, { on := 4, ground := Ground.phase }, { on := 5, ground := Ground.phase }, { on := 6, ground := Ground.phase }, { on := 7, ground := Ground.phase }, { on := 8, ground := Ground.phase }], guard := none }) (v := ?vu41) rfl (by kernel_rfl) (by kernel_rfl) (by kernel_rfl) (fun _ _ _ h => bp_put (P := Try.prog) (fn := Try.f14) _ _ _ h) (Or.inl ⟨by rfl, ?hyu41⟩) (by assumption) ?restu41
    case hyu41 => (intro w hSw; (try dsimp only at hSw); go_simp; (try with_reducible rfl))
    try simp only [Act.put, List.setIfInBounds_toArray, List.set_cons_zero, List.set_cons_succ]
    refine wpAnyH_ready (rs := [11]) (by kernel_rfl) (by simp) ?_
    refine AllReadyH.cons (o := { dst := none, op := Op.store 30 (Operand.tmp 60) (Operand.tmp 58), type := 0, pos := "law.go:57", after := #[{ on := 10, ground := Ground.data }, { on := 8, ground := Ground.data }, { on := 8, ground := Ground.chain }, { on := 0, ground := Ground.phase }, { on := 1, ground := Ground.phase }, { on := 2, ground := Ground.phase }, { on := 3, ground := Ground.phase }, { on := 4, ground := Ground.phase }, { on := 5, ground := Ground.phase }, { on := 6, ground := Ground.phase }, { on := 7, ground := Ground.phase }, { on := 8, ground := Ground.phase }], guard := none }) rfl (fun K hK => ?_) AllReadyH.nil
    go_simp
    refine hK.out _ _ ?_ (fun hHeldB => ?_)
    · (try dsimp only); first | exact HK0.out | exact HK1.out | exact HK7.out | exact HK8.out
    clear hK K hHeld
    have hHeld := hHeldB
    clear hHeldB
    try simp only [Act.put, List.setIfInBounds_toArray, List.set_cons_zero, List.set_cons_succ]
    refine wpAnyH_done (by kernel_rfl) ?_ _
    go_wp2
    go_end0
    rw [HPR.out]
    obtain ⟨H, hL⟩ := HL.out
    exact ⟨H, (HL2.out.trans hL).of_below HB1.out, Or.inl ⟨rfl, rfl⟩⟩
  | bail c0 a0 =>
    change e = _ at he
    subst he
    go_wp2
    obtain ⟨av, ac, p, FM, hX⟩ := HS2.out
    have HX : Hid (WX M w0.heap.size bw G w2 y0 av ac p FM) := hX
    clear hX
    have HK0 : Hid (Kp (fun b => (Value.slice av y0.notes.length ac).ownBlock = some b ∨ b = bw) w2 w2.drew) := Kp.of_below (below_refl w2).drew
    have HK1 : Hid (Kp (fun b => (Value.slice av y0.notes.length ac).ownBlock = some b ∨ b = bw) w2 (w2.alloc (.cells #[.int .i64 c0, .int .i64 a0] 3)).drew) := Kp.of_below ((below1 w2 _).drew)
    have cN0 : w2.drew.cell? ⟨bw, 0, none⟩ = some (.slice av y0.notes.length ac) := by show w2.cell? _ = _; rw [cell_of_row _ _ _ _ _ _ HX.out.hb]; rfl
    have cN1 : (w2.alloc (.cells #[.int .i64 c0, .int .i64 a0] 3)).cell? ⟨bw, 0, none⟩ = some (.slice av y0.notes.length ac) := by rw [World.cell?_alloc_some w2 _ _ (by show (World.cell? w2.drew _).isSome = true; rw [cN0]; rfl)]; exact cN0
    have cN2 : (w2.alloc (.cells #[.int .i64 c0, .int .i64 a0] 3)).drew.cell? ⟨bw, 0, none⟩ = some (.slice av y0.notes.length ac) := cN1
    have HN0 : Hid (¬ (fun b => (Value.slice av y0.notes.length ac).ownBlock = some b ∨ b = bw) _) := kf_no HX.out HP0.out (by decide) (by decide)
    refine wp_region_held_drew (S := (fun w' => Kp (fun b => (Value.slice av y0.notes.length ac).ownBlock = some b ∨ b = bw) w2 w')) (by kernel_rfl) ?_ (fun hHeld => ?_)
    · (try dsimp only); first | exact HK0.out | exact HK1.out | exact HK7.out | exact HK8.out
    refine wpAnyH_take (i := 0) (oi := { dst := some 50, op := Op.load 27 (Operand.tmp 2), type := 27, pos := "law.go:57", after := #[], guard := none }) (v := ?vu42) rfl (by kernel_rfl) (by kernel_rfl) (by kernel_rfl) (fun _ _ _ h => bp_put (P := Try.prog) (fn := Try.f14) _ _ _ h) (Or.inl ⟨by rfl, ?hyu42⟩) (by assumption) ?restu42
    case hyu42 => (intro wz hSw; (try dsimp only at hSw); have q0_0 := cell_of_row _ _ 0 _ _ _ (hSw.heap HP0.out HN0.out); (try simp only [List.getElem?_toArray, List.getElem?_cons_zero, List.getElem?_cons_succ] at q0_0); go_simp; (try with_reducible rfl))
    try simp only [Act.put, List.setIfInBounds_toArray, List.set_cons_zero, List.set_cons_succ]
    refine wpAnyH_take (i := 1) (oi := { dst := some 51, op := Op.load 27 (Operand.tmp 2), type := 27, pos := "law.go:57", after := #[], guard := none }) (v := ?vu43) rfl (by kernel_rfl) (by kernel_rfl) (by kernel_rfl) (fun _ _ _ h => bp_put (P := Try.prog) (fn := Try.f14) _ _ _ h) (Or.inl ⟨by rfl, ?hyu43⟩) (by assumption) ?restu43
    case hyu43 => (intro wz hSw; (try dsimp only at hSw); have q0_0 := cell_of_row _ _ 0 _ _ _ (hSw.heap HP0.out HN0.out); (try simp only [List.getElem?_toArray, List.getElem?_cons_zero, List.getElem?_cons_succ] at q0_0); go_simp; (try with_reducible rfl))
    try simp only [Act.put, List.setIfInBounds_toArray, List.set_cons_zero, List.set_cons_succ]
    refine wpAnyH_take (i := 2) (oi := { dst := some 52, op := Op.nilCheck (Operand.tmp 51), type := 0, pos := "law.go:57", after := #[{ on := 1, ground := Ground.data }], guard := none }) (v := ?vu44) rfl (by kernel_rfl) (by kernel_rfl) (by kernel_rfl) (fun _ _ _ h => bp_put (P := Try.prog) (fn := Try.f14) _ _ _ h) (Or.inl ⟨by rfl, ?hyu44⟩) (by assumption) ?restu44
    case hyu44 => (intro w hSw; (try dsimp only at hSw); go_simp; (try with_reducible rfl))
    try simp only [Act.put, List.setIfInBounds_toArray, List.set_cons_zero, List.set_cons_succ]
    refine wpAnyH_take (i := 3) (oi := { dst := some 53, op := Op.fieldAddr 32 (Operand.tmp 52) 0, type := 0, pos := "law.go:57", after := #[{ on := 2, ground := Ground.data }], guard := none }) (v := ?vu45) rfl (by kernel_rfl) (by kernel_rfl) (by kernel_rfl) (fun _ _ _ h => bp_put (P := Try.prog) (fn := Try.f14) _ _ _ h) (Or.inl ⟨by rfl, ?hyu45⟩) (by assumption) ?restu45
    case hyu45 => (intro w hSw; (try dsimp only at hSw); go_simp; (try with_reducible rfl))
    try simp only [Act.put, List.setIfInBounds_toArray, List.set_cons_zero, List.set_cons_succ]
    refine wpAnyH_take (i := 5) (oi := { dst := some 55, op := Op.move (Operand.tmp 5), type := 47, pos := "law.go:57", after := #[], guard := none }) (v := ?vu46) rfl (by kernel_rfl) (by kernel_rfl) (by kernel_rfl) (fun _ _ _ h => bp_put (P := Try.prog) (fn := Try.f14) _ _ _ h) (Or.inl ⟨by rfl, ?hyu46⟩) (by assumption) ?restu46
    case hyu46 => (intro w hSw; (try dsimp only at hSw); go_simp; (try with_reducible rfl))
    try simp only [Act.put, List.setIfInBounds_toArray, List.set_cons_zero, List.set_cons_succ]
    refine wpAnyH_take (i := 6) (oi := { dst := some 56, op := Op.move (Operand.tmp 6), type := 3, pos := "law.go:57", after := #[], guard := none }) (v := ?vu47) rfl (by kernel_rfl) (by kernel_rfl) (by kernel_rfl) (fun _ _ _ h => bp_put (P := Try.prog) (fn := Try.f14) _ _ _ h) (Or.inl ⟨by rfl, ?hyu47⟩) (by assumption) ?restu47
    case hyu47 => (intro w hSw; (try dsimp only at hSw); go_simp; (try with_reducible rfl))
    try simp only [Act.put, List.setIfInBounds_toArray, List.set_cons_zero, List.set_cons_succ]
    refine wpAnyH_ready (rs := [4, 7]) (by kernel_rfl) (by simp) ?_
    refine AllReadyH.cons (o := { dst := some 54, op := Op.load 30 (Operand.tmp 53), type := 30, pos := "law.go:57", after := #[{ on := 3, ground := Ground.data }], guard := none }) rfl (fun K hK => ?_) ?_
    · skip
      go_simp
      refine hK.out _ _ ?_ (fun hHeldB => ?_)
      · (try dsimp only); first | exact HK0.out | exact HK1.out | exact HK7.out | exact HK8.out
      clear hK K hHeld
      have hHeld := hHeldB
      clear hHeldB
      try simp only [Act.put, List.setIfInBounds_toArray, List.set_cons_zero, List.set_cons_succ]
      refine wpAnyH_ready (rs := [7]) (by kernel_rfl) (by simp) ?_
      refine AllReadyH.cons (o := { dst := some 57, op := Op.buildSlice 30 2 #[(0, Operand.tmp 55), (1, Operand.tmp 56)], type := 30, pos := "law.go:57", after := #[{ on := 5, ground := Ground.data }, { on := 6, ground := Ground.data }], guard := none }) rfl (fun K hK => ?_) AllReadyH.nil
      go_simp
      refine hK.out _ _ ?_ (fun hHeldB => ?_)
      · (try dsimp only); first | exact HK0.out | exact HK1.out | exact HK7.out | exact HK8.out
      clear hK K hHeld
      have hHeld := hHeldB
      clear hHeldB
      try simp only [Act.put, List.setIfInBounds_toArray, List.set_cons_zero, List.set_cons_succ]
      refine wpAnyH_ready (rs := [8]) (by kernel_rfl) (by simp) ?_
      refine AllReadyH.cons (o := { dst := some 58, op := Op.call { callee := Callee.builtin Builtin.append, args := #[Operand.tmp 54, Operand.tmp 57], argTypes := #[30, 30] }, type := 30, pos := "law.go:57", after := #[{ on := 4, ground := Ground.data }, { on := 7, ground := Ground.data }], guard := none }) rfl (fun K hK => ?_) AllReadyH.nil
      refine step_app_at eInt rfl _ _ rfl ((HX.out.ow.alloc _).drew) (Nat.zero_le _) (row_rd (V := ivs (gt [c0, a0])) (heap_new1 w2 (.cells #[.int .i64 c0, .int .i64 a0] 3)) (by decide) (fun j hj => by match j, hj with | 0, _ => rfl | 1, _ => rfl)) (by decide) (ivs_one _ _) (y0.notes.length + 2) rfl (by omega) (ivs (gt (y0.notes ++ [c0, a0]))) (fun j _ => catV_gt y0.notes [c0, a0] j) rfl rfl ?_
      intro a7 c7 w7 hO7 hG7 hA7
      have hKr : Kp (fun b => (Value.slice av y0.notes.length ac).ownBlock = some b) w2 w7 := (Kp.of_below (F := fun b => (Value.slice av y0.notes.length ac).ownBlock = some b) ((below1 w2 (.cells #[.int .i64 c0, .int .i64 a0] 3)).drew)).trans (Kp.of_grown (F := fun b => (Value.slice av y0.notes.length ac).ownBlock = some b) hG7 (fun k hk => hk)) (fun _ _ h => h)
      obtain ⟨k7, hput⟩ := ws_put (N := (y0.notes.length + 2)) (l := [c0, a0]) D (Nat.le_trans hlo HLO.out) HX.out rfl hO7 hKr (by simp) hA7
      have HL : Hid (∃ G9, Lft (WS M w0.heap.size bw) G w2 (y0.note [c0, a0]) G9 (w7.setCell ⟨bw, 0, none⟩ (.slice a7 (y0.notes.length + 2) c7))) := hput
      have f7 : w7.cell? ⟨bw, 0, none⟩ = some (.slice av y0.notes.length ac) := by rw [cell_of_row _ _ _ _ _ _ k7]; rfl
      have z7 : w7.frozen? ⟨bw, 0, none⟩ = false := by simp [World.frozen?, k7]
      have HK7 : Hid (Kp (fun b => (Value.slice av y0.notes.length ac).ownBlock = some b ∨ b = bw) w2 w7) := hKr.mono fun _ _ h => Or.inl h
      have HK8 : Hid (Kp (fun b => (Value.slice av y0.notes.length ac).ownBlock = some b ∨ b = bw) w2 (w7.setCell ⟨bw, 0, none⟩ (.slice a7 (y0.notes.length + 2) c7))) := HK7.out.set (p := ⟨bw, 0, none⟩) (Or.inl (Or.inr rfl)) _
      clear hO7 hG7 hA7 hKr hput k7
      refine hK.out _ _ ?_ (fun hHeldB => ?_)
      · (try dsimp only); first | exact HK0.out | exact HK1.out | exact HK7.out | exact HK8.out
      clear hK K hHeld
      have hHeld := hHeldB
      clear hHeldB
      try simp only [Act.put, List.setIfInBounds_toArray, List.set_cons_zero, List.set_cons_succ]
      refine wpAnyH_take (i := 9) (oi := { dst := some 59, op := Op.nilCheck (Operand.tmp 50), type := 0, pos := "law.go:57", after := #[{ on := 0, ground := Ground.data }, { on := 0, ground := Ground.phase }, { on := 1, ground := Ground.phase }, { on := 2, ground := Ground.phase }, { on := 3, ground := Ground.phase }, { on := 4, ground := Ground.phase }, { on := 5, ground := Ground.phase }, { on := 6, ground := Ground.phase }, { on := 7, ground := Ground.phase }, { on := 8, ground := Ground.phase }], guard := none }) (v := ?vu48) rfl (by kernel_rfl) (by kernel_rfl) (by kernel_rfl) (fun _ _ _ h => bp_put (P := Try.prog) (fn := Try.f14) _ _ _ h) (Or.inl ⟨by rfl, ?hyu48⟩) (by assumption) ?restu48
      case hyu48 => (intro w hSw; (try dsimp only at hSw); go_simp; (try with_reducible rfl))
      try simp only [Act.put, List.setIfInBounds_toArray, List.set_cons_zero, List.set_cons_succ]
      refine wpAnyH_take (i := 10) (oi := { dst := some 60, op := Op.fieldAddr 32 (Operand.tmp 59) 0, type := 0, pos := "law.go:57", after := #[{ on := 9, ground := Ground.data }, { on := 0, ground := Ground.phase }, { on := 1, ground := Ground.phase }, { on := 2, ground := Ground.phase }, { on := 3, ground := Ground.phase }, { on := 4, ground := Ground.phase }, { on := 5, ground := Ground.phase }, { on := 6, ground := Ground.phase }, { on := 7, ground := Ground.phase }, { on := 8, ground := Ground.phase }], guard := none }) (v := ?vu49) rfl (by kernel_rfl) (by kernel_rfl) (by kernel_rfl) (fun _ _ _ h => bp_put (P := Try.prog) (fn := Try.f14) _ _ _ h) (Or.inl ⟨by rfl, ?hyu49⟩) (by assumption) ?restu49
      case hyu49 => (intro w hSw; (try dsimp only at hSw); go_simp; (try with_reducible rfl))
      try simp only [Act.put, List.setIfInBounds_toArray, List.set_cons_zero, List.set_cons_succ]
      refine wpAnyH_ready (rs := [11]) (by kernel_rfl) (by simp) ?_
      refine AllReadyH.cons (o := { dst := none, op := Op.store 30 (Operand.tmp 60) (Operand.tmp 58), type := 0, pos := "law.go:57", after := #[{ on := 10, ground := Ground.data }, { on := 8, ground := Ground.data }, { on := 8, ground := Ground.chain }, { on := 0, ground := Ground.phase }, { on := 1, ground := Ground.phase }, { on := 2, ground := Ground.phase }, { on := 3, ground := Ground.phase }, { on := 4, ground := Ground.phase }, { on := 5, ground := Ground.phase }, { on := 6, ground := Ground.phase }, { on := 7, ground := Ground.phase }, { on := 8, ground := Ground.phase }], guard := none }) rfl (fun K hK => ?_) AllReadyH.nil
      go_simp
      refine hK.out _ _ ?_ (fun hHeldB => ?_)
      · (try dsimp only); first | exact HK0.out | exact HK1.out | exact HK7.out | exact HK8.out
      clear hK K hHeld
      have hHeld := hHeldB
      clear hHeldB
      try simp only [Act.put, List.setIfInBounds_toArray, List.set_cons_zero, List.set_cons_succ]
      refine wpAnyH_done (by kernel_rfl) ?_ _
      go_wp2
      go_end0
      rw [HPR.out]
      obtain ⟨H, hL⟩ := HL.out
      exact ⟨H, (HL2.out.trans hL).of_below HB1.out, Or.inl ⟨rfl, rfl⟩⟩
    refine AllReadyH.cons (o := { dst := some 57, op := Op.buildSlice 30 2 #[(0, Operand.tmp 55), (1, Operand.tmp 56)], type := 30, pos := "law.go:57", after := #[{ on := 5, ground := Ground.data }, { on := 6, ground := Ground.data }], guard := none }) rfl (fun K hK => ?_) AllReadyH.nil
    go_simp
    refine hK.out _ _ ?_ (fun hHeldB => ?_)
    · (try dsimp only); first | exact HK0.out | exact HK1.out | exact HK7.out | exact HK8.out
    clear hK K hHeld
    have hHeld := hHeldB
    clear hHeldB
    try simp only [Act.put, List.setIfInBounds_toArray, List.set_cons_zero, List.set_cons_succ]
    refine wpAnyH_ready (rs := [4]) (by kernel_rfl) (by simp) ?_
    refine AllReadyH.cons (o := { dst := some 54, op := Op.load 30 (Operand.tmp 53), type := 30, pos := "law.go:57", after := #[{ on := 3, ground := Ground.data }], guard := none }) rfl (fun K hK => ?_) AllReadyH.nil
    go_simp
    refine hK.out _ _ ?_ (fun hHeldB => ?_)
    · (try dsimp only); first | exact HK0.out | exact HK1.out | exact HK7.out | exact HK8.out
    clear hK K hHeld
    have hHeld := hHeldB
    clear hHeldB
    try simp only [Act.put, List.setIfInBounds_toArray, List.set_cons_zero, List.set_cons_succ]
    refine wpAnyH_ready (rs := [8]) (by kernel_rfl) (by simp) ?_
    refine AllReadyH.cons (o := { dst := some 58, op := Op.call { callee := Callee.builtin Builtin.append, args := #[Operand.tmp 54, Operand.tmp 57], argTypes := #[30, 30] }, type := 30, pos := "law.go:57", after := #[{ on := 4, ground := Ground.data }, { on := 7, ground := Ground.data }], guard := none }) rfl (fun K hK => ?_) AllReadyH.nil
    refine step_app_at eInt rfl _ _ rfl ((HX.out.ow.alloc _).drew) (Nat.zero_le _) (row_rd (V := ivs (gt [c0, a0])) (heap_new1 w2 (.cells #[.int .i64 c0, .int .i64 a0] 3)) (by decide) (fun j hj => by match j, hj with | 0, _ => rfl | 1, _ => rfl)) (by decide) (ivs_one _ _) (y0.notes.length + 2) rfl (by omega) (ivs (gt (y0.notes ++ [c0, a0]))) (fun j _ => catV_gt y0.notes [c0, a0] j) rfl rfl ?_
    intro a7 c7 w7 hO7 hG7 hA7
    have hKr : Kp (fun b => (Value.slice av y0.notes.length ac).ownBlock = some b) w2 w7 := (Kp.of_below (F := fun b => (Value.slice av y0.notes.length ac).ownBlock = some b) ((below1 w2 (.cells #[.int .i64 c0, .int .i64 a0] 3)).drew)).trans (Kp.of_grown (F := fun b => (Value.slice av y0.notes.length ac).ownBlock = some b) hG7 (fun k hk => hk)) (fun _ _ h => h)
    obtain ⟨k7, hput⟩ := ws_put (N := (y0.notes.length + 2)) (l := [c0, a0]) D (Nat.le_trans hlo HLO.out) HX.out rfl hO7 hKr (by simp) hA7
    have HL : Hid (∃ G9, Lft (WS M w0.heap.size bw) G w2 (y0.note [c0, a0]) G9 (w7.setCell ⟨bw, 0, none⟩ (.slice a7 (y0.notes.length + 2) c7))) := hput
    have f7 : w7.cell? ⟨bw, 0, none⟩ = some (.slice av y0.notes.length ac) := by rw [cell_of_row _ _ _ _ _ _ k7]; rfl
    have z7 : w7.frozen? ⟨bw, 0, none⟩ = false := by simp [World.frozen?, k7]
    have HK7 : Hid (Kp (fun b => (Value.slice av y0.notes.length ac).ownBlock = some b ∨ b = bw) w2 w7) := hKr.mono fun _ _ h => Or.inl h
    have HK8 : Hid (Kp (fun b => (Value.slice av y0.notes.length ac).ownBlock = some b ∨ b = bw) w2 (w7.setCell ⟨bw, 0, none⟩ (.slice a7 (y0.notes.length + 2) c7))) := HK7.out.set (p := ⟨bw, 0, none⟩) (Or.inl (Or.inr rfl)) _
    clear hO7 hG7 hA7 hKr hput k7
    refine hK.out _ _ ?_ (fun hHeldB => ?_)
    · (try dsimp only); first | exact HK0.out | exact HK1.out | exact HK7.out | exact HK8.out
    clear hK K hHeld
    have hHeld := hHeldB
    clear hHeldB
    try simp only [Act.put, List.setIfInBounds_toArray, List.set_cons_zero, List.set_cons_succ]
    refine wpAnyH_take (i := 9) (oi := { dst := some 59, op := Op.nilCheck (Operand.tmp 50), type := 0, pos := "law.go:57", after := #[{ on := 0, ground := Ground.data }, { on := 0, ground := Ground.phase }, { on := 1, ground := Ground.phase }, { on := 2, ground := Ground.phase }, { on := 3, ground := Ground.phase }, { on := 4, ground := Ground.phase }, { on := 5, ground := Ground.phase }, { on := 6, ground := Ground.phase }, { on := 7, ground := Ground.phase }, { on := 8, ground := Ground.phase }], guard := none }) (v := ?vu50) rfl (by kernel_rfl) (by kernel_rfl) (by kernel_rfl) (fun _ _ _ h => bp_put (P := Try.prog) (fn := Try.f14) _ _ _ h) (Or.inl ⟨by rfl, ?hyu50⟩) (by assumption) ?restu50
    case hyu50 => (intro w hSw; (try dsimp only at hSw); go_simp; (try with_reducible rfl))
    try simp only [Act.put, List.setIfInBounds_toArray, List.set_cons_zero, List.set_cons_succ]
    refine wpAnyH_take (i := 10) (oi := { dst := some 60, op := Op.fieldAddr 32 (Operand.tmp 59) 0, type := 0, pos := "law.go:57", after := #[{ on := 9, ground := Ground.data }, { on := 0, ground := Ground.phase }, { on := 1, ground := Ground.phase }, { on := 2, ground := Ground.phase }, { on := 3, ground := Ground.phase }, { on := 4, ground := Ground.phase }, { on := 5, ground := Ground.phase }, { on := 6, ground := Ground.phase }, { on := 7, ground := Ground.phase }, { on := 8, ground := Ground.phase }], guard := none }) (v := ?vu51) rfl (by kernel_rfl) (by kernel_rfl) (by kernel_rfl) (fun _ _ _ h => bp_put (P := Try.prog) (fn := Try.f14) _ _ _ h) (Or.inl ⟨by rfl, ?hyu51⟩) (by assumption) ?restu51
    case hyu51 => (intro w hSw; (try dsimp only at hSw); go_simp; (try with_reducible rfl))
    try simp only [Act.put, List.setIfInBounds_toArray, List.set_cons_zero, List.set_cons_succ]
    refine wpAnyH_ready (rs := [11]) (by kernel_rfl) (by simp) ?_
    refine AllReadyH.cons (o := { dst := none, op := Op.store 30 (Operand.tmp 60) (Operand.tmp 58), type := 0, pos := "law.go:57", after := #[{ on := 10, ground := Ground.data }, { on := 8, ground := Ground.data }, { on := 8, ground := Ground.chain }, { on := 0, ground := Ground.phase }, { on := 1, ground := Ground.phase }, { on := 2, ground := Ground.phase }, { on := 3, ground := Ground.phase }, { on := 4, ground := Ground.phase }, { on := 5, ground := Ground.phase }, { on := 6, ground := Ground.phase }, { on := 7, ground := Ground.phase }, { on := 8, ground := Ground.phase }], guard := none }) rfl (fun K hK => ?_) AllReadyH.nil
    go_simp
    refine hK.out _ _ ?_ (fun hHeldB => ?_)
    · (try dsimp only); first | exact HK0.out | exact HK1.out | exact HK7.out | exact HK8.out
    clear hK K hHeld
    have hHeld := hHeldB
    clear hHeldB
    try simp only [Act.put, List.setIfInBounds_toArray, List.set_cons_zero, List.set_cons_succ]
    refine wpAnyH_done (by kernel_rfl) ?_ _
    go_wp2
    go_end0
    rw [HPR.out]
    obtain ⟨H, hL⟩ := HL.out
    exact ⟨H, (HL2.out.trans hL).of_below HB1.out, Or.inl ⟨rfl, rfl⟩⟩
  | num m =>
    change EnIn W1.heap.size G w2 (.num m) e at he
    rcases id he with ⟨h, -⟩ | ⟨v, old, rfl, -⟩
    · cases h
    have HE : Hid (EnIn W1.heap.size G w2 (.num m) (.panicked ({ v := v, recovered := false } :: old))) := he
    clear he
    go_wp2
    refine ⟨rfl, ?_⟩
    rw [HPR.out]
    exact ⟨G, HL2.out.of_below HB1.out, HE.out.lower HLO1.out⟩
  | nilB => exact absurd rfl HNIL.out
set_option maxHeartbeats 16000000 in
theorem does_5 {M : (Nat → Prop) → World → Value → Int → Prop} (C : BailSays) (D : MeterSays M) (w0 : World) (bw : Nat) (F : Nat → Prop) (w : World) (x : St) (code n : Int) (na : Option Addr) (len cap : Nat) (V : Nat → NV) (hbl : Below w0.heap.size w0 w) (hs : WS M w0.heap.size bw F w x) (hr : NRow w0 ⟨5, code, n, na, len, cap⟩ V) (r0 : Run) (m0 : Nat) (hd0 : DoesP M w0 bw (kidNV V len 0) r0 m0) (hb0 : RunB m0 r0) (hx : x.notes.length + m0 ≤ 99990) (hin : InR x) :
    Calls Try.prog 14 #[(.pointer (some ⟨bw, 0, none⟩)), .agg #[.int .i64 5, .int .i64 code, .int .i64 n, .slice na len cap]] w (Fins (WS M w0.heap.size bw) F w (noteO code (r0 x)).1 (noteO code (r0 x)).2) := by
  obtain ⟨W1, hW1⟩ : ∃ W1, W1 = (w.alloc (.cells #[.pointer (some ⟨bw, 0, none⟩)] 27)).alloc (.cells #[.int .i64 5, .int .i64 code, .int .i64 n, .slice na len cap] 24) := ⟨_, rfl⟩
  have HB1 : Hid (Below w.heap.size w W1) := by rw [hW1]; exact (below1 w _).alloc (by simp) _
  have HQ0 : Hid (W1.heap[w.heap.size]? = some (.cells #[.pointer (some ⟨bw, 0, none⟩)] 27)) := by show W1.heap[_]? = _; rw [hW1]; exact heap_new2 w _ _
  have HQ1 : Hid (W1.heap[w.heap.size + 1]? = some (.cells #[.int .i64 5, .int .i64 code, .int .i64 n, .slice na len cap] 24)) := by
    show W1.heap[_]? = _
    rw [hW1]
    have := heap_new1 (w.alloc (.cells #[.pointer (some ⟨bw, 0, none⟩)] 27)) (.cells #[.int .i64 5, .int .i64 code, .int .i64 n, .slice na len cap] 24)
    simpa using this
  have HZ1 : Hid (W1.heap.size = w.heap.size + 2) := by show _ = _; rw [hW1]; simp
  
  have HS1 : Hid (WS M w0.heap.size bw F W1 x) := (ws_st D _ bw).below hs HB1.out
  have hlo : w0.heap.size ≤ w.heap.size := hbl.size
  have HLO1 : Hid (w.heap.size ≤ W1.heap.size) := HB1.out.size
  have HLT : Hid (∀ b, F b → b < w.heap.size) := (ws_st D _ bw).lt hs
  have hbl1 : Below w0.heap.size w0 W1 := hbl.trans (HB1.out.mono hbl.size)
  have HBL1 : Hid (Below w0.heap.size w0 W1) := hbl1
  have hrow0 := hr
  have HR1 : Hid (NRow W1 ⟨5, code, n, na, len, cap⟩ V) := hr.below (below_step (below_refl w0) hbl1)
  have n1 : ¬ F w.heap.size := fun h => by have := HLT.out _ h; omega
  have n2 : ¬ F (w.heap.size + 1) := fun h => by have := HLT.out _ h; omega
  have HN1 : Hid (¬ F w.heap.size) := n1
  have HN2 : Hid (¬ F (w.heap.size + 1)) := n2
  have hmf : ∀ (fn : Fn) (first cap : Array Value) (w : World), (Instr.makeFunc fn first cap).run Try.prog w = .ok (.func fn first cap) w := fun _ _ _ _ => rfl
  have q2 : W1.cell? ⟨w.heap.size + 1, 1, none⟩ = some (.int .i64 code) := by rw [cell_of_row _ _ _ _ _ _ HQ1.out]; rfl
  have HD0 : Hid (DoesP M w0 bw (kidNV V len 0) r0 m0) := hd0
  obtain ⟨e0, y0, hp⟩ : ∃ e0 y0, r0 x = (e0, y0) := ⟨_, _, rfl⟩
  have HPR : Hid (r0 x = (e0, y0)) := hp
  obtain ⟨hnil, hbd, hin0⟩ := hb0 x hin
  rw [hp] at hnil hbd hin0
  simp only at hnil hbd hin0
  have HNIL : Hid (e0 ≠ .nilB) := hnil
  have HBD : Hid (y0.notes.length ≤ x.notes.length + m0) := hbd
  have HIN0 : Hid (InR y0) := hin0
  clear hs hr hbl hbl1 hp hb0 hnil hbd hin0 n1 n2 hd0
  go_enter Try.func14, Try.ntmps14
  go_wp2_with (go_at_call 24; fail)
  rw [← hW1]
  clear hW1
  refine (C.only (ws_st D _ bw) F W1 x y0 code _ _ e0 (fnv_cl3 _) HS1.out (fun w1 hb hs => cl3_plays D w0.heap.size bw _ _ F w1 x y0 e0 _ code n na len cap V ((hb.block _ (lt_of_heap HQ0.out)).trans HQ0.out) ((hb.block _ (lt_of_heap HQ1.out)).trans HQ1.out) HN1.out HN2.out (HR1.out.below hb) hs _ (kidNV_v V len 0) fun w2 hb2 hs2 => by have := HD0.out F w2 x (HBL1.out.trans ((hb.trans (hb2.mono hb.size)).mono HBL1.out.size)) hs2 (by omega) hin; rwa [HPR.out] at this)).mono ?_
  rintro e w2 ⟨G, hl, he⟩
  have HL2 : Hid (Lft (WS M w0.heap.size bw) F W1 y0 G w2) := hl
  have HGT : Hid (∀ b, G b → F b ∨ W1.heap.size ≤ b) := hl.2.1
  have HP0 : Hid (w2.heap[w.heap.size]? = some (.cells #[.pointer (some ⟨bw, 0, none⟩)] 27)) := hl.2.2.heap HQ0.out HN1.out
  have HS2 : Hid (WS M w0.heap.size bw G w2 y0) := hl.1
  have HLO : Hid (w.heap.size ≤ w2.heap.size) := Nat.le_trans HLO1.out hl.2.2.size
  have hx2 : y0.notes.length ≤ 99990 := by have := HBD.out; omega
  clear hl hx hin
  cases e0 with
  | ret =>
    obtain rfl : e = .returned (.bool false) := by
      rcases he with ⟨-, h⟩ | ⟨a, h, -⟩ | ⟨h, -, -⟩
      · exact h
      · cases h
      · exact absurd rfl h
    clear he
    go_wp2
    obtain ⟨av, ac, p, FM, hX⟩ := HS2.out
    have HX : Hid (WX M w0.heap.size bw G w2 y0 av ac p FM) := hX
    clear hX
    have HK0 : Hid (Kp (fun b => (Value.slice av y0.notes.length ac).ownBlock = some b ∨ b = bw) w2 w2.drew) := Kp.of_below (below_refl w2).drew
    have HK1 : Hid (Kp (fun b => (Value.slice av y0.notes.length ac).ownBlock = some b ∨ b = bw) w2 (w2.alloc (.cells #[.int .i64 0] 3)).drew) := Kp.of_below ((below1 w2 _).drew)
    have cN0 : w2.drew.cell? ⟨bw, 0, none⟩ = some (.slice av y0.notes.length ac) := by show w2.cell? _ = _; rw [cell_of_row _ _ _ _ _ _ HX.out.hb]; rfl
    have cN1 : (w2.alloc (.cells #[.int .i64 0] 3)).cell? ⟨bw, 0, none⟩ = some (.slice av y0.notes.length ac) := by rw [World.cell?_alloc_some w2 _ _ (by show (World.cell? w2.drew _).isSome = true; rw [cN0]; rfl)]; exact cN0
    have cN2 : (w2.alloc (.cells #[.int .i64 0] 3)).drew.cell? ⟨bw, 0, none⟩ = some (.slice av y0.notes.length ac) := cN1
    have HN0 : Hid (¬ (fun b => (Value.slice av y0.notes.length ac).ownBlock = some b ∨ b = bw) _) := kf_no HX.out HP0.out (by decide) (by decide)
    refine wp_region_held_drew (S := (fun w' => Kp (fun b => (Value.slice av y0.notes.length ac).ownBlock = some b ∨ b = bw) w2 w')) (by kernel_rfl) ?_ (fun hHeld => ?_)
    · (try dsimp only); first | exact HK0.out | exact HK1.out | exact HK7.out | exact HK8.out
    refine wpAnyH_take (i := 0) (oi := { dst := some 67, op := Op.load 27 (Operand.tmp 2), type := 27, pos := "law.go:63", after := #[], guard := none }) (v := ?vu52) rfl (by kernel_rfl) (by kernel_rfl) (by kernel_rfl) (fun _ _ _ h => bp_put (P := Try.prog) (fn := Try.f14) _ _ _ h) (Or.inl ⟨by rfl, ?hyu52⟩) (by assumption) ?restu52
    case hyu52 => (intro wz hSw; (try dsimp only at hSw); have q0_0 := cell_of_row _ _ 0 _ _ _ (hSw.heap HP0.out HN0.out); (try simp only [List.getElem?_toArray, List.getElem?_cons_zero, List.getElem?_cons_succ] at q0_0); go_simp; (try with_reducible rfl))
    try simp only [Act.put, List.setIfInBounds_toArray, List.set_cons_zero, List.set_cons_succ]
    refine wpAnyH_take (i := 1) (oi := { dst := some 68, op := Op.load 27 (Operand.tmp 2), type := 27, pos := "law.go:63", after := #[], guard := none }) (v := ?vu53) rfl (by kernel_rfl) (by kernel_rfl) (by kernel_rfl) (fun _ _ _ h => bp_put (P := Try.prog) (fn := Try.f14) _ _ _ h) (Or.inl ⟨by rfl, ?hyu53⟩) (by assumption) ?restu53
    case hyu53 => (intro wz hSw; (try dsimp only at hSw); have q0_0 := cell_of_row _ _ 0 _ _ _ (hSw.heap HP0.out HN0.out); (try simp only [List.getElem?_toArray, List.getElem?_cons_zero, List.getElem?_cons_succ] at q0_0); go_simp; (try with_reducible rfl))
    try simp only [Act.put, List.setIfInBounds_toArray, List.set_cons_zero, List.set_cons_succ]
    refine wpAnyH_take (i := 2) (oi := { dst := some 69, op := Op.nilCheck (Operand.tmp 68), type := 0, pos := "law.go:63", after := #[{ on := 1, ground := Ground.data }], guard := none }) (v := ?vu54) rfl (by kernel_rfl) (by kernel_rfl) (by kernel_rfl) (fun _ _ _ h => bp_put (P := Try.prog) (fn := Try.f14) _ _ _ h) (Or.inl ⟨by rfl, ?hyu54⟩) (by assumption) ?restu54
    case hyu54 => (intro w hSw; (try dsimp only at hSw); go_simp; (try with_reducible rfl))
    try simp only [Act.put, List.setIfInBounds_toArray, List.set_cons_zero, List.set_cons_succ]
    refine wpAnyH_take (i := 3) (oi := { dst := some 70, op := Op.fieldAddr 32 (Operand.tmp 69) 0, type := 0, pos := "law.go:63", after := #[{ on := 2, ground := Ground.data }], guard := none }) (v := ?vu55) rfl (by kernel_rfl) (by kernel_rfl) (by kernel_rfl) (fun _ _ _ h => bp_put (P := Try.prog) (fn := Try.f14) _ _ _ h) (Or.inl ⟨by rfl, ?hyu55⟩) (by assumption) ?restu55
    case hyu55 => (intro w hSw; (try dsimp only at hSw); go_simp; (try with_reducible rfl))
    try simp only [Act.put, List.setIfInBounds_toArray, List.set_cons_zero, List.set_cons_succ]
    refine wpAnyH_take (i := 5) (oi := { dst := some 72, op := Op.move (Operand.tmp 7), type := 3, pos := "law.go:63", after := #[], guard := none }) (v := ?vu56) rfl (by kernel_rfl) (by kernel_rfl) (by kernel_rfl) (fun _ _ _ h => bp_put (P := Try.prog) (fn := Try.f14) _ _ _ h) (Or.inl ⟨by rfl, ?hyu56⟩) (by assumption) ?restu56
    case hyu56 => (intro w hSw; (try dsimp only at hSw); go_simp; (try with_reducible rfl))
    try simp only [Act.put, List.setIfInBounds_toArray, List.set_cons_zero, List.set_cons_succ]
    refine wpAnyH_ready (rs := [4, 6]) (by kernel_rfl) (by simp) ?_
    refine AllReadyH.cons (o := { dst := some 71, op := Op.load 30 (Operand.tmp 70), type := 30, pos := "law.go:63", after := #[{ on := 3, ground := Ground.data }], guard := none }) rfl (fun K hK => ?_) ?_
    · skip
      go_simp
      refine hK.out _ _ ?_ (fun hHeldB => ?_)
      · (try dsimp only); first | exact HK0.out | exact HK1.out | exact HK7.out | exact HK8.out
      clear hK K hHeld
      have hHeld := hHeldB
      clear hHeldB
      try simp only [Act.put, List.setIfInBounds_toArray, List.set_cons_zero, List.set_cons_succ]
      refine wpAnyH_ready (rs := [6]) (by kernel_rfl) (by simp) ?_
      refine AllReadyH.cons (o := { dst := some 73, op := Op.buildSlice 30 1 #[(0, Operand.tmp 72)], type := 30, pos := "law.go:63", after := #[{ on := 5, ground := Ground.data }], guard := none }) rfl (fun K hK => ?_) AllReadyH.nil
      go_simp
      refine hK.out _ _ ?_ (fun hHeldB => ?_)
      · (try dsimp only); first | exact HK0.out | exact HK1.out | exact HK7.out | exact HK8.out
      clear hK K hHeld
      have hHeld := hHeldB
      clear hHeldB
      try simp only [Act.put, List.setIfInBounds_toArray, List.set_cons_zero, List.set_cons_succ]
      refine wpAnyH_ready (rs := [7]) (by kernel_rfl) (by simp) ?_
      refine AllReadyH.cons (o := { dst := some 74, op := Op.call { callee := Callee.builtin Builtin.append, args := #[Operand.tmp 71, Operand.tmp 73], argTypes := #[30, 30] }, type := 30, pos := "law.go:63", after := #[{ on := 4, ground := Ground.data }, { on := 6, ground := Ground.data }], guard := none }) rfl (fun K hK => ?_) AllReadyH.nil
      refine step_app_at eInt rfl _ _ rfl ((HX.out.ow.alloc _).drew) (Nat.zero_le _) (row_rd (V := ivs (gt [0])) (heap_new1 w2 (.cells #[.int .i64 0] 3)) (by decide) (fun j hj => by match j, hj with | 0, _ => rfl)) (by decide) (ivs_one _ _) (y0.notes.length + 1) rfl (by omega) (ivs (gt (y0.notes ++ [0]))) (fun j _ => catV_gt y0.notes [0] j) rfl rfl ?_
      intro a7 c7 w7 hO7 hG7 hA7
      have hKr : Kp (fun b => (Value.slice av y0.notes.length ac).ownBlock = some b) w2 w7 := (Kp.of_below (F := fun b => (Value.slice av y0.notes.length ac).ownBlock = some b) ((below1 w2 (.cells #[.int .i64 0] 3)).drew)).trans (Kp.of_grown (F := fun b => (Value.slice av y0.notes.length ac).ownBlock = some b) hG7 (fun k hk => hk)) (fun _ _ h => h)
      obtain ⟨k7, hput⟩ := ws_put (N := (y0.notes.length + 1)) (l := [0]) D (Nat.le_trans hlo HLO.out) HX.out rfl hO7 hKr (by simp) hA7
      have HL : Hid (∃ G9, Lft (WS M w0.heap.size bw) G w2 (y0.note [0]) G9 (w7.setCell ⟨bw, 0, none⟩ (.slice a7 (y0.notes.length + 1) c7))) := hput
      have f7 : w7.cell? ⟨bw, 0, none⟩ = some (.slice av y0.notes.length ac) := by rw [cell_of_row _ _ _ _ _ _ k7]; rfl
      have z7 : w7.frozen? ⟨bw, 0, none⟩ = false := by simp [World.frozen?, k7]
      have HK7 : Hid (Kp (fun b => (Value.slice av y0.notes.length ac).ownBlock = some b ∨ b = bw) w2 w7) := hKr.mono fun _ _ h => Or.inl h
      have HK8 : Hid (Kp (fun b => (Value.slice av y0.notes.length ac).ownBlock = some b ∨ b = bw) w2 (w7.setCell ⟨bw, 0, none⟩ (.slice a7 (y0.notes.length + 1) c7))) := HK7.out.set (p := ⟨bw, 0, none⟩) (Or.inl (Or.inr rfl)) _
      clear hO7 hG7 hA7 hKr hput k7
      refine hK.out _ _ ?_ (fun hHeldB => ?_)
      · (try dsimp only); first | exact HK0.out | exact HK1.out | exact HK7.out | exact HK8.out
      clear hK K hHeld
      have hHeld := hHeldB
      clear hHeldB
      try simp only [Act.put, List.setIfInBounds_toArray, List.set_cons_zero, List.set_cons_succ]
      refine wpAnyH_take (i := 8) (oi := { dst := some 75, op := Op.nilCheck (Operand.tmp 67), type := 0, pos := "law.go:63", after := #[{ on := 0, ground := Ground.data }, { on := 0, ground := Ground.phase }, { on := 1, ground := Ground.phase }, { on := 2, ground := Ground.phase }, { on := 3, ground := Ground.phase }, { on := 4, ground := Ground.phase }, { on := 5, ground := Ground.phase }, { on := 6, ground := Ground.phase }, { on := 7, ground := Ground.phase }], guard := none }) (v := ?vu57) rfl (by kernel_rfl) (by kernel_rfl) (by kernel_rfl) (fun _ _ _ h => bp_put (P := Try.prog) (fn := Try.f14) _ _ _ h) (Or.inl ⟨by rfl, ?hyu57⟩) (by assumption) ?restu57
      case hyu57 => (intro w hSw; (try dsimp only at hSw); go_simp; (try with_reducible rfl))
      try simp only [Act.put, List.setIfInBounds_toArray, List.set_cons_zero, List.set_cons_succ]
      refine wpAnyH_take (i := 9) (oi := { dst := some 76, op := Op.fieldAddr 32 (Operand.tmp 75) 0, type := 0, pos := "law.go:63", after := #[{ on := 8, ground := Ground.data }, { on := 0, ground := Ground.phase }, { on := 1, ground := Ground.phase }, { on := 2, ground := Ground.phase }, { on := 3, ground := Ground.phase }, { on := 4, ground := Ground.phase }, { on := 5, ground := Ground.phase }, { on := 6, ground := Ground.phase }, { on := 7, ground := Ground.phase }], guard := none }) (v := ?vu58) rfl (by kernel_rfl) (by kernel_rfl) (by kernel_rfl) (fun _ _ _ h => bp_put (P := Try.prog) (fn := Try.f14) _ _ _ h) (Or.inl ⟨by rfl, ?hyu58⟩) (by assumption) ?restu58
      case hyu58 => (intro w hSw; (try dsimp only at hSw); go_simp; (try with_reducible rfl))
      try simp only [Act.put, List.setIfInBounds_toArray, List.set_cons_zero, List.set_cons_succ]
      refine wpAnyH_ready (rs := [10]) (by kernel_rfl) (by simp) ?_
      refine AllReadyH.cons (o := { dst := none, op := Op.store 30 (Operand.tmp 76) (Operand.tmp 74), type := 0, pos := "law.go:63", after := #[{ on := 9, ground := Ground.data }, { on := 7, ground := Ground.data }, { on := 7, ground := Ground.chain }, { on := 0, ground := Ground.phase }, { on := 1, ground := Ground.phase }, { on := 2, ground := Ground.phase }, { on := 3, ground := Ground.phase }, { on := 4, ground := Ground.phase }, { on := 5, ground := Ground.phase }, { on := 6, ground := Ground.phase }, { on := 7, ground := Ground.phase }], guard := none }) rfl (fun K hK => ?_) AllReadyH.nil
      go_simp
      refine hK.out _ _ ?_ (fun hHeldB => ?_)
      · (try dsimp only); first | exact HK0.out | exact HK1.out | exact HK7.out | exact HK8.out
      clear hK K hHeld
      have hHeld := hHeldB
      clear hHeldB
      try simp only [Act.put, List.setIfInBounds_toArray, List.set_cons_zero, List.set_cons_succ]
      refine wpAnyH_done (by kernel_rfl) ?_ _
      go_wp2
      go_end0
      rw [HPR.out]
      obtain ⟨H, hL⟩ := HL.out
      exact ⟨H, (HL2.out.trans hL).of_below HB1.out, Or.inl ⟨rfl, rfl⟩⟩
    refine AllReadyH.cons (o := { dst := some 73, op := Op.buildSlice 30 1 #[(0, Operand.tmp 72)], type := 30, pos := "law.go:63", after := #[{ on := 5, ground := Ground.data }], guard := none }) rfl (fun K hK => ?_) AllReadyH.nil
    go_simp
    refine hK.out _ _ ?_ (fun hHeldB => ?_)
    · (try dsimp only); first | exact HK0.out | exact HK1.out | exact HK7.out | exact HK8.out
    clear hK K hHeld
    have hHeld := hHeldB
    clear hHeldB
    try simp only [Act.put, List.setIfInBounds_toArray, List.set_cons_zero, List.set_cons_succ]
    refine wpAnyH_ready (rs := [4]) (by kernel_rfl) (by simp) ?_
    refine AllReadyH.cons (o := { dst := some 71, op := Op.load 30 (Operand.tmp 70), type := 30, pos := "law.go:63", after := #[{ on := 3, ground := Ground.data }], guard := none }) rfl (fun K hK => ?_) AllReadyH.nil
    go_simp
    refine hK.out _ _ ?_ (fun hHeldB => ?_)
    · (try dsimp only); first | exact HK0.out | exact HK1.out | exact HK7.out | exact HK8.out
    clear hK K hHeld
    have hHeld := hHeldB
    clear hHeldB
    try simp only [Act.put, List.setIfInBounds_toArray, List.set_cons_zero, List.set_cons_succ]
    refine wpAnyH_ready (rs := [7]) (by kernel_rfl) (by simp) ?_
    refine AllReadyH.cons (o := { dst := some 74, op := Op.call { callee := Callee.builtin Builtin.append, args := #[Operand.tmp 71, Operand.tmp 73], argTypes := #[30, 30] }, type := 30, pos := "law.go:63", after := #[{ on := 4, ground := Ground.data }, { on := 6, ground := Ground.data }], guard := none }) rfl (fun K hK => ?_) AllReadyH.nil
    refine step_app_at eInt rfl _ _ rfl ((HX.out.ow.alloc _).drew) (Nat.zero_le _) (row_rd (V := ivs (gt [0])) (heap_new1 w2 (.cells #[.int .i64 0] 3)) (by decide) (fun j hj => by match j, hj with | 0, _ => rfl)) (by decide) (ivs_one _ _) (y0.notes.length + 1) rfl (by omega) (ivs (gt (y0.notes ++ [0]))) (fun j _ => catV_gt y0.notes [0] j) rfl rfl ?_
    intro a7 c7 w7 hO7 hG7 hA7
    have hKr : Kp (fun b => (Value.slice av y0.notes.length ac).ownBlock = some b) w2 w7 := (Kp.of_below (F := fun b => (Value.slice av y0.notes.length ac).ownBlock = some b) ((below1 w2 (.cells #[.int .i64 0] 3)).drew)).trans (Kp.of_grown (F := fun b => (Value.slice av y0.notes.length ac).ownBlock = some b) hG7 (fun k hk => hk)) (fun _ _ h => h)
    obtain ⟨k7, hput⟩ := ws_put (N := (y0.notes.length + 1)) (l := [0]) D (Nat.le_trans hlo HLO.out) HX.out rfl hO7 hKr (by simp) hA7
    have HL : Hid (∃ G9, Lft (WS M w0.heap.size bw) G w2 (y0.note [0]) G9 (w7.setCell ⟨bw, 0, none⟩ (.slice a7 (y0.notes.length + 1) c7))) := hput
    have f7 : w7.cell? ⟨bw, 0, none⟩ = some (.slice av y0.notes.length ac) := by rw [cell_of_row _ _ _ _ _ _ k7]; rfl
    have z7 : w7.frozen? ⟨bw, 0, none⟩ = false := by simp [World.frozen?, k7]
    have HK7 : Hid (Kp (fun b => (Value.slice av y0.notes.length ac).ownBlock = some b ∨ b = bw) w2 w7) := hKr.mono fun _ _ h => Or.inl h
    have HK8 : Hid (Kp (fun b => (Value.slice av y0.notes.length ac).ownBlock = some b ∨ b = bw) w2 (w7.setCell ⟨bw, 0, none⟩ (.slice a7 (y0.notes.length + 1) c7))) := HK7.out.set (p := ⟨bw, 0, none⟩) (Or.inl (Or.inr rfl)) _
    clear hO7 hG7 hA7 hKr hput k7
    refine hK.out _ _ ?_ (fun hHeldB => ?_)
    · (try dsimp only); first | exact HK0.out | exact HK1.out | exact HK7.out | exact HK8.out
    clear hK K hHeld
    have hHeld := hHeldB
    clear hHeldB
    try simp only [Act.put, List.setIfInBounds_toArray, List.set_cons_zero, List.set_cons_succ]
    refine wpAnyH_take (i := 8) (oi := { dst := some 75, op := Op.nilCheck (Operand.tmp 67), type := 0, pos := "law.go:63", after := #[{ on := 0, ground := Ground.data }, { on := 0, ground := Ground.phase }, { on := 1, ground := Ground.phase }, { on := 2, ground := Ground.phase }, { on := 3, ground := Ground.phase }, { on := 4, ground := Ground.phase }, { on := 5, ground := Ground.phase }, { on := 6, ground := Ground.phase }, { on := 7, ground := Ground.phase }], guard := none }) (v := ?vu59) rfl (by kernel_rfl) (by kernel_rfl) (by kernel_rfl) (fun _ _ _ h => bp_put (P := Try.prog) (fn := Try.f14) _ _ _ h) (Or.inl ⟨by rfl, ?hyu59⟩) (by assumption) ?restu59
    case hyu59 => (intro w hSw; (try dsimp only at hSw); go_simp; (try with_reducible rfl))
    try simp only [Act.put, List.setIfInBounds_toArray, List.set_cons_zero, List.set_cons_succ]
    refine wpAnyH_take (i := 9) (oi := { dst := some 76, op := Op.fieldAddr 32 (Operand.tmp 75) 0, type := 0, pos := "law.go:63", after := #[{ on := 8, ground := Ground.data }, { on := 0, ground := Ground.phase }, { on := 1, ground := Ground.phase }, { on := 2, ground := Ground.phase }, { on := 3, ground := Ground.phase }, { on := 4, ground := Ground.phase }, { on := 5, ground := Ground.phase }, { on := 6, ground := Ground.phase }, { on := 7, ground := Ground.phase }], guard := none }) (v := ?vu60) rfl (by kernel_rfl) (by kernel_rfl) (by kernel_rfl) (fun _ _ _ h => bp_put (P := Try.prog) (fn := Try.f14) _ _ _ h) (Or.inl ⟨by rfl, ?hyu60⟩) (by assumption) ?restu60
    case hyu60 => (intro w hSw; (try dsimp only at hSw); go_simp; (try with_reducible rfl))
    try simp only [Act.put, List.setIfInBounds_toArray, List.set_cons_zero, List.set_cons_succ]
    refine wpAnyH_ready (rs := [10]) (by kernel_rfl) (by simp) ?_
    refine AllReadyH.cons (o := { dst := none, op := Op.store 30 (Operand.tmp 76) (Operand.tmp 74), type := 0, pos := "law.go:63", after := #[{ on := 9, ground := Ground.data }, { on := 7, ground := Ground.data }, { on := 7, ground := Ground.chain }, { on := 0, ground := Ground.phase }, { on := 1, ground := Ground.phase }, { on := 2, ground := Ground.phase }, { on := 3, ground := Ground.phase }, { on := 4, ground := Ground.phase }, { on := 5, ground := Ground.phase }, { on := 6, ground := Ground.phase }, { on := 7, ground := Ground.phase }], guard := none }) rfl (fun K hK => ?_) AllReadyH.nil
    go_simp
    refine hK.out _ _ ?_ (fun hHeldB => ?_)
    · (try dsimp only); first | exact HK0.out | exact HK1.out | exact HK7.out | exact HK8.out
    clear hK K hHeld
    have hHeld := hHeldB
    clear hHeldB
    try simp only [Act.put, List.setIfInBounds_toArray, List.set_cons_zero, List.set_cons_succ]
    refine wpAnyH_done (by kernel_rfl) ?_ _
    go_wp2
    go_end0
    rw [HPR.out]
    obtain ⟨H, hL⟩ := HL.out
    exact ⟨H, (HL2.out.trans hL).of_below HB1.out, Or.inl ⟨rfl, rfl⟩⟩
  | bail c0 a0 =>
    by_cases hc : c0 = code
    · subst hc
      obtain rfl : e = .returned (.bool true) := by
        rcases he with ⟨h, -⟩ | ⟨a, h, h2⟩ | ⟨-, h, -⟩
        · cases h
        · exact h2
        · exact absurd rfl (h a0)
      have HCO : Hid (noteO c0 (.bail c0 a0, y0) = (.ret, y0.note [1])) := by show noteO _ _ = _; unfold noteO; simp
      clear he
      go_wp2
      obtain ⟨av, ac, p, FM, hX⟩ := HS2.out
      have HX : Hid (WX M w0.heap.size bw G w2 y0 av ac p FM) := hX
      clear hX
      have HK0 : Hid (Kp (fun b => (Value.slice av y0.notes.length ac).ownBlock = some b ∨ b = bw) w2 w2.drew) := Kp.of_below (below_refl w2).drew
      have HK1 : Hid (Kp (fun b => (Value.slice av y0.notes.length ac).ownBlock = some b ∨ b = bw) w2 (w2.alloc (.cells #[.int .i64 1] 3)).drew) := Kp.of_below ((below1 w2 _).drew)
      have cN0 : w2.drew.cell? ⟨bw, 0, none⟩ = some (.slice av y0.notes.length ac) := by show w2.cell? _ = _; rw [cell_of_row _ _ _ _ _ _ HX.out.hb]; rfl
      have cN1 : (w2.alloc (.cells #[.int .i64 1] 3)).cell? ⟨bw, 0, none⟩ = some (.slice av y0.notes.length ac) := by rw [World.cell?_alloc_some w2 _ _ (by show (World.cell? w2.drew _).isSome = true; rw [cN0]; rfl)]; exact cN0
      have cN2 : (w2.alloc (.cells #[.int .i64 1] 3)).drew.cell? ⟨bw, 0, none⟩ = some (.slice av y0.notes.length ac) := cN1
      have HN0 : Hid (¬ (fun b => (Value.slice av y0.notes.length ac).ownBlock = some b ∨ b = bw) _) := kf_no HX.out HP0.out (by decide) (by decide)
      refine wp_region_held_drew (S := (fun w' => Kp (fun b => (Value.slice av y0.notes.length ac).ownBlock = some b ∨ b = bw) w2 w')) (by kernel_rfl) ?_ (fun hHeld => ?_)
      · (try dsimp only); first | exact HK0.out | exact HK1.out | exact HK7.out | exact HK8.out
      refine wpAnyH_take (i := 0) (oi := { dst := some 67, op := Op.load 27 (Operand.tmp 2), type := 27, pos := "law.go:63", after := #[], guard := none }) (v := ?vu61) rfl (by kernel_rfl) (by kernel_rfl) (by kernel_rfl) (fun _ _ _ h => bp_put (P := Try.prog) (fn := Try.f14) _ _ _ h) (Or.inl ⟨by rfl, ?hyu61⟩) (by assumption) ?restu61
      case hyu61 => (intro wz hSw; (try dsimp only at hSw); have q0_0 := cell_of_row _ _ 0 _ _ _ (hSw.heap HP0.out HN0.out); (try simp only [List.getElem?_toArray, List.getElem?_cons_zero, List.getElem?_cons_succ] at q0_0); go_simp; (try with_reducible rfl))
      try simp only [Act.put, List.setIfInBounds_toArray, List.set_cons_zero, List.set_cons_succ]
      refine wpAnyH_take (i := 1) (oi := { dst := some 68, op := Op.load 27 (Operand.tmp 2), type := 27, pos := "law.go:63", after := #[], guard := none }) (v := ?vu62) rfl (by kernel_rfl) (by kernel_rfl) (by kernel_rfl) (fun _ _ _ h => bp_put (P := Try.prog) (fn := Try.f14) _ _ _ h) (Or.inl ⟨by rfl, ?hyu62⟩) (by assumption) ?restu62
      case hyu62 => (intro wz hSw; (try dsimp only at hSw); have q0_0 := cell_of_row _ _ 0 _ _ _ (hSw.heap HP0.out HN0.out); (try simp only [List.getElem?_toArray, List.getElem?_cons_zero, List.getElem?_cons_succ] at q0_0); go_simp; (try with_reducible rfl))
      try simp only [Act.put, List.setIfInBounds_toArray, List.set_cons_zero, List.set_cons_succ]
      refine wpAnyH_take (i := 2) (oi := { dst := some 69, op := Op.nilCheck (Operand.tmp 68), type := 0, pos := "law.go:63", after := #[{ on := 1, ground := Ground.data }], guard := none }) (v := ?vu63) rfl (by kernel_rfl) (by kernel_rfl) (by kernel_rfl) (fun _ _ _ h => bp_put (P := Try.prog) (fn := Try.f14) _ _ _ h) (Or.inl ⟨by rfl, ?hyu63⟩) (by assumption) ?restu63
      case hyu63 => (intro w hSw; (try dsimp only at hSw); go_simp; (try with_reducible rfl))
      try simp only [Act.put, List.setIfInBounds_toArray, List.set_cons_zero, List.set_cons_succ]
      refine wpAnyH_take (i := 3) (oi := { dst := some 70, op := Op.fieldAddr 32 (Operand.tmp 69) 0, type := 0, pos := "law.go:63", after := #[{ on := 2, ground := Ground.data }], guard := none }) (v := ?vu64) rfl (by kernel_rfl) (by kernel_rfl) (by kernel_rfl) (fun _ _ _ h => bp_put (P := Try.prog) (fn := Try.f14) _ _ _ h) (Or.inl ⟨by rfl, ?hyu64⟩) (by assumption) ?restu64
      case hyu64 => (intro w hSw; (try dsimp only at hSw); go_simp; (try with_reducible rfl))
      try simp only [Act.put, List.setIfInBounds_toArray, List.set_cons_zero, List.set_cons_succ]
      refine wpAnyH_take (i := 5) (oi := { dst := some 72, op := Op.move (Operand.tmp 7), type := 3, pos := "law.go:63", after := #[], guard := none }) (v := ?vu65) rfl (by kernel_rfl) (by kernel_rfl) (by kernel_rfl) (fun _ _ _ h => bp_put (P := Try.prog) (fn := Try.f14) _ _ _ h) (Or.inl ⟨by rfl, ?hyu65⟩) (by assumption) ?restu65
      case hyu65 => (intro w hSw; (try dsimp only at hSw); go_simp; (try with_reducible rfl))
      try simp only [Act.put, List.setIfInBounds_toArray, List.set_cons_zero, List.set_cons_succ]
      refine wpAnyH_ready (rs := [4, 6]) (by kernel_rfl) (by simp) ?_
      refine AllReadyH.cons (o := { dst := some 71, op := Op.load 30 (Operand.tmp 70), type := 30, pos := "law.go:63", after := #[{ on := 3, ground := Ground.data }], guard := none }) rfl (fun K hK => ?_) ?_
      · skip
        go_simp
        refine hK.out _ _ ?_ (fun hHeldB => ?_)
        · (try dsimp only); first | exact HK0.out | exact HK1.out | exact HK7.out | exact HK8.out
        clear hK K hHeld
        have hHeld := hHeldB
        clear hHeldB
        try simp only [Act.put, List.setIfInBounds_toArray, List.set_cons_zero, List.set_cons_succ]
        refine wpAnyH_ready (rs := [6]) (by kernel_rfl) (by simp) ?_
        refine AllReadyH.cons (o := { dst := some 73, op := Op.buildSlice 30 1 #[(0, Operand.tmp 72)], type := 30, pos := "law.go:63", after := #[{ on := 5, ground := Ground.data }], guard := none }) rfl (fun K hK => ?_) AllReadyH.nil
        go_simp
        refine hK.out _ _ ?_ (fun hHeldB => ?_)
        · (try dsimp only); first | exact HK0.out | exact HK1.out | exact HK7.out | exact HK8.out
        clear hK K hHeld
        have hHeld := hHeldB
        clear hHeldB
        try simp only [Act.put, List.setIfInBounds_toArray, List.set_cons_zero, List.set_cons_succ]
        refine wpAnyH_ready (rs := [7]) (by kernel_rfl) (by simp) ?_
        refine AllReadyH.cons (o := { dst := some 74, op := Op.call { callee := Callee.builtin Builtin.append, args := #[Operand.tmp 71, Operand.tmp 73], argTypes := #[30, 30] }, type := 30, pos := "law.go:63", after := #[{ on := 4, ground := Ground.data }, { on := 6, ground := Ground.data }], guard := none }) rfl (fun K hK => ?_) AllReadyH.nil
        refine step_app_at eInt rfl _ _ rfl ((HX.out.ow.alloc _).drew) (Nat.zero_le _) (row_rd (V := ivs (gt [1])) (heap_new1 w2 (.cells #[.int .i64 1] 3)) (by decide) (fun j hj => by match j, hj with | 0, _ => rfl)) (by decide) (ivs_one _ _) (y0.notes.length + 1) rfl (by omega) (ivs (gt (y0.notes ++ [1]))) (fun j _ => catV_gt y0.notes [1] j) rfl rfl ?_
        intro a7 c7 w7 hO7 hG7 hA7
        have hKr : Kp (fun b => (Value.slice av y0.notes.length ac).ownBlock = some b) w2 w7 := (Kp.of_below (F := fun b => (Value.slice av y0.notes.length ac).ownBlock = some b) ((below1 w2 (.cells #[.int .i64 1] 3)).drew)).trans (Kp.of_grown (F := fun b => (Value.slice av y0.notes.length ac).ownBlock = some b) hG7 (fun k hk => hk)) (fun _ _ h => h)
        obtain ⟨k7, hput⟩ := ws_put (N := (y0.notes.length + 1)) (l := [1]) D (Nat.le_trans hlo HLO.out) HX.out rfl hO7 hKr (by simp) hA7
        have HL : Hid (∃ G9, Lft (WS M w0.heap.size bw) G w2 (y0.note [1]) G9 (w7.setCell ⟨bw, 0, none⟩ (.slice a7 (y0.notes.length + 1) c7))) := hput
        have f7 : w7.cell? ⟨bw, 0, none⟩ = some (.slice av y0.notes.length ac) := by rw [cell_of_row _ _ _ _ _ _ k7]; rfl
        have z7 : w7.frozen? ⟨bw, 0, none⟩ = false := by simp [World.frozen?, k7]
        have HK7 : Hid (Kp (fun b => (Value.slice av y0.notes.length ac).ownBlock = some b ∨ b = bw) w2 w7) := hKr.mono fun _ _ h => Or.inl h
        have HK8 : Hid (Kp (fun b => (Value.slice av y0.notes.length ac).ownBlock = some b ∨ b = bw) w2 (w7.setCell ⟨bw, 0, none⟩ (.slice a7 (y0.notes.length + 1) c7))) := HK7.out.set (p := ⟨bw, 0, none⟩) (Or.inl (Or.inr rfl)) _
        clear hO7 hG7 hA7 hKr hput k7
        refine hK.out _ _ ?_ (fun hHeldB => ?_)
        · (try dsimp only); first | exact HK0.out | exact HK1.out | exact HK7.out | exact HK8.out
        clear hK K hHeld
        have hHeld := hHeldB
        clear hHeldB
        try simp only [Act.put, List.setIfInBounds_toArray, List.set_cons_zero, List.set_cons_succ]
        refine wpAnyH_take (i := 8) (oi := { dst := some 75, op := Op.nilCheck (Operand.tmp 67), type := 0, pos := "law.go:63", after := #[{ on := 0, ground := Ground.data }, { on := 0, ground := Ground.phase }, { on := 1, ground := Ground.phase }, { on := 2, ground := Ground.phase }, { on := 3, ground := Ground.phase }, { on := 4, ground := Ground.phase }, { on := 5, ground := Ground.phase }, { on := 6, ground := Ground.phase }, { on := 7, ground := Ground.phase }], guard := none }) (v := ?vu66) rfl (by kernel_rfl) (by kernel_rfl) (by kernel_rfl) (fun _ _ _ h => bp_put (P := Try.prog) (fn := Try.f14) _ _ _ h) (Or.inl ⟨by rfl, ?hyu66⟩) (by assumption) ?restu66
        case hyu66 => (intro w hSw; (try dsimp only at hSw); go_simp; (try with_reducible rfl))
        try simp only [Act.put, List.setIfInBounds_toArray, List.set_cons_zero, List.set_cons_succ]
        refine wpAnyH_take (i := 9) (oi := { dst := some 76, op := Op.fieldAddr 32 (Operand.tmp 75) 0, type := 0, pos := "law.go:63", after := #[{ on := 8, ground := Ground.data }, { on := 0, ground := Ground.phase }, { on := 1, ground := Ground.phase }, { on := 2, ground := Ground.phase }, { on := 3, ground := Ground.phase }, { on := 4, ground := Ground.phase }, { on := 5, ground := Ground.phase }, { on := 6, ground := Ground.phase }, { on := 7, ground := Ground.phase }], guard := none }) (v := ?vu67) rfl (by kernel_rfl) (by kernel_rfl) (by kernel_rfl) (fun _ _ _ h => bp_put (P := Try.prog) (fn := Try.f14) _ _ _ h) (Or.inl ⟨by rfl, ?hyu67⟩) (by assumption) ?restu67
        case hyu67 => (intro w hSw; (try dsimp only at hSw); go_simp; (try with_reducible rfl))
        try simp only [Act.put, List.setIfInBounds_toArray, List.set_cons_zero, List.set_cons_succ]
        refine wpAnyH_ready (rs := [10]) (by kernel_rfl) (by simp) ?_
        refine AllReadyH.cons (o := { dst := none, op := Op.store 30 (Operand.tmp 76) (Operand.tmp 74), type := 0, pos := "law.go:63", after := #[{ on := 9, ground := Ground.data }, { on := 7, ground := Ground.data }, { on := 7, ground := Ground.chain }, { on := 0, ground := Ground.phase }, { on := 1, ground := Ground.phase }, { on := 2, ground := Ground.phase }, { on := 3, ground := Ground.phase }, { on := 4, ground := Ground.phase }, { on := 5, ground := Ground.phase }, { on := 6, ground := Ground.phase }, { on := 7, ground := Ground.phase }], guard := none }) rfl (fun K hK => ?_) AllReadyH.nil
        go_simp
        refine hK.out _ _ ?_ (fun hHeldB => ?_)
        · (try dsimp only); first | exact HK0.out | exact HK1.out | exact HK7.out | exact HK8.out
        clear hK K hHeld
        have hHeld := hHeldB
        clear hHeldB
        try simp only [Act.put, List.setIfInBounds_toArray, List.set_cons_zero, List.set_cons_succ]
        refine wpAnyH_done (by kernel_rfl) ?_ _
        go_wp2
        go_end0
        rw [HPR.out, HCO.out]
        obtain ⟨H, hL⟩ := HL.out
        exact ⟨H, (HL2.out.trans hL).of_below HB1.out, Or.inl ⟨rfl, rfl⟩⟩
      refine AllReadyH.cons (o := { dst := some 73, op := Op.buildSlice 30 1 #[(0, Operand.tmp 72)], type := 30, pos := "law.go:63", after := #[{ on := 5, ground := Ground.data }], guard := none }) rfl (fun K hK => ?_) AllReadyH.nil
      go_simp
      refine hK.out _ _ ?_ (fun hHeldB => ?_)
      · (try dsimp only); first | exact HK0.out | exact HK1.out | exact HK7.out | exact HK8.out
      clear hK K hHeld
      have hHeld := hHeldB
      clear hHeldB
      try simp only [Act.put, List.setIfInBounds_toArray, List.set_cons_zero, List.set_cons_succ]
      refine wpAnyH_ready (rs := [4]) (by kernel_rfl) (by simp) ?_
      refine AllReadyH.cons (o := { dst := some 71, op := Op.load 30 (Operand.tmp 70), type := 30, pos := "law.go:63", after := #[{ on := 3, ground := Ground.data }], guard := none }) rfl (fun K hK => ?_) AllReadyH.nil
      go_simp
      refine hK.out _ _ ?_ (fun hHeldB => ?_)
      · (try dsimp only); first | exact HK0.out | exact HK1.out | exact HK7.out | exact HK8.out
      clear hK K hHeld
      have hHeld := hHeldB
      clear hHeldB
      try simp only [Act.put, List.setIfInBounds_toArray, List.set_cons_zero, List.set_cons_succ]
      refine wpAnyH_ready (rs := [7]) (by kernel_rfl) (by simp) ?_
      refine AllReadyH.cons (o := { dst := some 74, op := Op.call { callee := Callee.builtin Builtin.append, args := #[Operand.tmp 71, Operand.tmp 73], argTypes := #[30, 30] }, type := 30, pos := "law.go:63", after := #[{ on := 4, ground := Ground.data }, { on := 6, ground := Ground.data }], guard := none }) rfl (fun K hK => ?_) AllReadyH.nil
      refine step_app_at eInt rfl _ _ rfl ((HX.out.ow.alloc _).drew) (Nat.zero_le _) (row_rd (V := ivs (gt [1])) (heap_new1 w2 (.cells #[.int .i64 1] 3)) (by decide) (fun j hj => by match j, hj with | 0, _ => rfl)) (by decide) (ivs_one _ _) (y0.notes.length + 1) rfl (by omega) (ivs (gt (y0.notes ++ [1]))) (fun j _ => catV_gt y0.notes [1] j) rfl rfl ?_
      intro a7 c7 w7 hO7 hG7 hA7
      have hKr : Kp (fun b => (Value.slice av y0.notes.length ac).ownBlock = some b) w2 w7 := (Kp.of_below (F := fun b => (Value.slice av y0.notes.length ac).ownBlock = some b) ((below1 w2 (.cells #[.int .i64 1] 3)).drew)).trans (Kp.of_grown (F := fun b => (Value.slice av y0.notes.length ac).ownBlock = some b) hG7 (fun k hk => hk)) (fun _ _ h => h)
      obtain ⟨k7, hput⟩ := ws_put (N := (y0.notes.length + 1)) (l := [1]) D (Nat.le_trans hlo HLO.out) HX.out rfl hO7 hKr (by simp) hA7
      have HL : Hid (∃ G9, Lft (WS M w0.heap.size bw) G w2 (y0.note [1]) G9 (w7.setCell ⟨bw, 0, none⟩ (.slice a7 (y0.notes.length + 1) c7))) := hput
      have f7 : w7.cell? ⟨bw, 0, none⟩ = some (.slice av y0.notes.length ac) := by rw [cell_of_row _ _ _ _ _ _ k7]; rfl
      have z7 : w7.frozen? ⟨bw, 0, none⟩ = false := by simp [World.frozen?, k7]
      have HK7 : Hid (Kp (fun b => (Value.slice av y0.notes.length ac).ownBlock = some b ∨ b = bw) w2 w7) := hKr.mono fun _ _ h => Or.inl h
      have HK8 : Hid (Kp (fun b => (Value.slice av y0.notes.length ac).ownBlock = some b ∨ b = bw) w2 (w7.setCell ⟨bw, 0, none⟩ (.slice a7 (y0.notes.length + 1) c7))) := HK7.out.set (p := ⟨bw, 0, none⟩) (Or.inl (Or.inr rfl)) _
      clear hO7 hG7 hA7 hKr hput k7
      refine hK.out _ _ ?_ (fun hHeldB => ?_)
      · (try dsimp only); first | exact HK0.out | exact HK1.out | exact HK7.out | exact HK8.out
      clear hK K hHeld
      have hHeld := hHeldB
      clear hHeldB
      try simp only [Act.put, List.setIfInBounds_toArray, List.set_cons_zero, List.set_cons_succ]
      refine wpAnyH_take (i := 8) (oi := { dst := some 75, op := Op.nilCheck (Operand.tmp 67), type := 0, pos := "law.go:63", after := #[{ on := 0, ground := Ground.data }, { on := 0, ground := Ground.phase }, { on := 1, ground := Ground.phase }, { on := 2, ground := Ground.phase }, { on := 3, ground := Ground.phase }, { on := 4, ground := Ground.phase }, { on := 5, ground := Ground.phase }, { on := 6, ground := Ground.phase }, { on := 7, ground := Ground.phase }], guard := none }) (v := ?vu68) rfl (by kernel_rfl) (by kernel_rfl) (by kernel_rfl) (fun _ _ _ h => bp_put (P := Try.prog) (fn := Try.f14) _ _ _ h) (Or.inl ⟨by rfl, ?hyu68⟩) (by assumption) ?restu68
      case hyu68 => (intro w hSw; (try dsimp only at hSw); go_simp; (try with_reducible rfl))
      try simp only [Act.put, List.setIfInBounds_toArray, List.set_cons_zero, List.set_cons_succ]
      refine wpAnyH_take (i := 9) (oi := { dst := some 76, op := Op.fieldAddr 32 (Operand.tmp 75) 0, type := 0, pos := "law.go:63", after := #[{ on := 8, ground := Ground.data }, { on := 0, ground := Ground.phase }, { on := 1, ground := Ground.phase }, { on := 2, ground := Ground.phase }, { on := 3, ground := Ground.phase }, { on := 4, ground := Ground.phase }, { on := 5, ground := Ground.phase }, { on := 6, ground := Ground.phase }, { on := 7, ground := Ground.phase }], guard := none }) (v := ?vu69) rfl (by kernel_rfl) (by kernel_rfl) (by kernel_rfl) (fun _ _ _ h => bp_put (P := Try.prog) (fn := Try.f14) _ _ _ h) (Or.inl ⟨by rfl, ?hyu69⟩) (by assumption) ?restu69
      case hyu69 => (intro w hSw; (try dsimp only at hSw); go_simp; (try with_reducible rfl))
      try simp only [Act.put, List.setIfInBounds_toArray, List.set_cons_zero, List.set_cons_succ]
      refine wpAnyH_ready (rs := [10]) (by kernel_rfl) (by simp) ?_
      refine AllReadyH.cons (o := { dst := none, op := Op.store 30 (Operand.tmp 76) (Operand.tmp 74), type := 0, pos := "law.go:63", after := #[{ on := 9, ground := Ground.data }, { on := 7, ground := Ground.data }, { on := 7, ground := Ground.chain }, { on := 0, ground := Ground.phase }, { on := 1, ground := Ground.phase }, { on := 2, ground := Ground.phase }, { on := 3, ground := Ground.phase }, { on := 4, ground := Ground.phase }, { on := 5, ground := Ground.phase }, { on := 6, ground := Ground.phase }, { on := 7, ground := Ground.phase }], guard := none }) rfl (fun K hK => ?_) AllReadyH.nil
      go_simp
      refine hK.out _ _ ?_ (fun hHeldB => ?_)
      · (try dsimp only); first | exact HK0.out | exact HK1.out | exact HK7.out | exact HK8.out
      clear hK K hHeld
      have hHeld := hHeldB
      clear hHeldB
      try simp only [Act.put, List.setIfInBounds_toArray, List.set_cons_zero, List.set_cons_succ]
      refine wpAnyH_done (by kernel_rfl) ?_ _
      go_wp2
      go_end0
      rw [HPR.out, HCO.out]
      obtain ⟨H, hL⟩ := HL.out
      exact ⟨H, (HL2.out.trans hL).of_below HB1.out, Or.inl ⟨rfl, rfl⟩⟩
    · have HCO : Hid (noteO code (.bail c0 a0, y0) = (.bail c0 a0, y0)) := by show noteO _ _ = _; unfold noteO; simp [hc]
      replace he : EnIn W1.heap.size G w2 (.bail c0 a0) e := by
        rcases he with ⟨h, -⟩ | ⟨a, h, -⟩ | ⟨-, -, h⟩
        · cases h
        · injection h with h _; exact absurd h hc
        · exact h
      rcases id he with ⟨h, -⟩ | ⟨v, old, rfl, -⟩
      · cases h
      have HE : Hid (EnIn W1.heap.size G w2 (.bail c0 a0) (.panicked ({ v := v, recovered := false } :: old))) := he
      clear he
      go_wp2
      refine ⟨rfl, ?_⟩
      rw [HPR.out, HCO.out]
      exact ⟨G, HL2.out.of_below HB1.out, HE.out.lower HLO1.out⟩
  | num m =>
    replace he : EnIn W1.heap.size G w2 (.num m) e := by
      rcases he with ⟨h, -⟩ | ⟨a, h, -⟩ | ⟨-, -, h⟩
      · cases h
      · cases h
      · exact h
    rcases id he with ⟨h, -⟩ | ⟨v, old, rfl, -⟩
    · cases h
    have HE : Hid (EnIn W1.heap.size G w2 (.num m) (.panicked ({ v := v, recovered := false } :: old))) := he
    clear he
    go_wp2
    refine ⟨rfl, ?_⟩
    rw [HPR.out]
    exact ⟨G, HL2.out.of_below HB1.out, HE.out.lower HLO1.out⟩
  | nilB => exact absurd rfl HNIL.out
set_option maxHeartbeats 16000000 in
theorem does_7 {M : (Nat → Prop) → World → Value → Int → Prop} (C : BailSays) (D : MeterSays M) (w0 : World) (bw : Nat) (F : Nat → Prop) (w : World) (x : St) (code n : Int) (na : Option Addr) (len cap : Nat) (V : Nat → NV) (hbl : Below w0.heap.size w0 w) (hs : WS M w0.heap.size bw F w x) (hr : NRow w0 ⟨7, code, n, na, len, cap⟩ V) (r0 : Run) (m0 : Nat) (hd0 : DoesP M w0 bw (kidNV V len 0) r0 m0) (hb0 : RunB m0 r0) (hx : x.notes.length + m0 ≤ 99990) (hin : InR x) :
    Calls Try.prog 14 #[(.pointer (some ⟨bw, 0, none⟩)), .agg #[.int .i64 7, .int .i64 code, .int .i64 n, .slice na len cap]] w (Fins (WS M w0.heap.size bw) F w (noteS (r0 x)).1 (noteS (r0 x)).2) := by
  obtain ⟨W1, hW1⟩ : ∃ W1, W1 = (w.alloc (.cells #[.pointer (some ⟨bw, 0, none⟩)] 27)).alloc (.cells #[.int .i64 7, .int .i64 code, .int .i64 n, .slice na len cap] 24) := ⟨_, rfl⟩
  have HB1 : Hid (Below w.heap.size w W1) := by rw [hW1]; exact (below1 w _).alloc (by simp) _
  have HQ0 : Hid (W1.heap[w.heap.size]? = some (.cells #[.pointer (some ⟨bw, 0, none⟩)] 27)) := by show W1.heap[_]? = _; rw [hW1]; exact heap_new2 w _ _
  have HQ1 : Hid (W1.heap[w.heap.size + 1]? = some (.cells #[.int .i64 7, .int .i64 code, .int .i64 n, .slice na len cap] 24)) := by
    show W1.heap[_]? = _
    rw [hW1]
    have := heap_new1 (w.alloc (.cells #[.pointer (some ⟨bw, 0, none⟩)] 27)) (.cells #[.int .i64 7, .int .i64 code, .int .i64 n, .slice na len cap] 24)
    simpa using this
  have HZ1 : Hid (W1.heap.size = w.heap.size + 2) := by show _ = _; rw [hW1]; simp
  
  have HS1 : Hid (WS M w0.heap.size bw F W1 x) := (ws_st D _ bw).below hs HB1.out
  have hlo : w0.heap.size ≤ w.heap.size := hbl.size
  have HLO1 : Hid (w.heap.size ≤ W1.heap.size) := HB1.out.size
  have HLT : Hid (∀ b, F b → b < w.heap.size) := (ws_st D _ bw).lt hs
  have hbl1 : Below w0.heap.size w0 W1 := hbl.trans (HB1.out.mono hbl.size)
  have HBL1 : Hid (Below w0.heap.size w0 W1) := hbl1
  have hrow0 := hr
  have HR1 : Hid (NRow W1 ⟨7, code, n, na, len, cap⟩ V) := hr.below (below_step (below_refl w0) hbl1)
  have n1 : ¬ F w.heap.size := fun h => by have := HLT.out _ h; omega
  have n2 : ¬ F (w.heap.size + 1) := fun h => by have := HLT.out _ h; omega
  have HN1 : Hid (¬ F w.heap.size) := n1
  have HN2 : Hid (¬ F (w.heap.size + 1)) := n2
  have hmf : ∀ (fn : Fn) (first cap : Array Value) (w : World), (Instr.makeFunc fn first cap).run Try.prog w = .ok (.func fn first cap) w := fun _ _ _ _ => rfl
  have q2 : W1.cell? ⟨w.heap.size + 1, 1, none⟩ = some (.int .i64 code) := by rw [cell_of_row _ _ _ _ _ _ HQ1.out]; rfl
  have HD0 : Hid (DoesP M w0 bw (kidNV V len 0) r0 m0) := hd0
  obtain ⟨e0, y0, hp⟩ : ∃ e0 y0, r0 x = (e0, y0) := ⟨_, _, rfl⟩
  have HPR : Hid (r0 x = (e0, y0)) := hp
  obtain ⟨hnil, hbd, hin0⟩ := hb0 x hin
  rw [hp] at hnil hbd hin0
  simp only at hnil hbd hin0
  have HNIL : Hid (e0 ≠ .nilB) := hnil
  have HBD : Hid (y0.notes.length ≤ x.notes.length + m0) := hbd
  have HIN0 : Hid (InR y0) := hin0
  clear hs hr hbl hbl1 hp hb0 hnil hbd hin0 n1 n2 hd0
  go_enter Try.func14, Try.ntmps14
  go_wp2_with (go_at_call 12; fail)
  rw [← hW1]
  clear hW1
  refine (C.safe (ws_st D _ bw) F W1 x y0 _ _ e0 (fnv_cl6 _) HS1.out (fun w1 hb hs => cl6_plays D w0.heap.size bw _ _ F w1 x y0 e0 _ code n na len cap V ((hb.block _ (lt_of_heap HQ0.out)).trans HQ0.out) ((hb.block _ (lt_of_heap HQ1.out)).trans HQ1.out) HN1.out HN2.out (HR1.out.below hb) hs _ (kidNV_v V len 0) fun w2 hb2 hs2 => by have := HD0.out F w2 x (HBL1.out.trans ((hb.trans (hb2.mono hb.size)).mono HBL1.out.size)) hs2 (by omega) hin; rwa [HPR.out] at this)).mono ?_
  rintro e w2 ⟨G, hl, he⟩
  have HL2 : Hid (Lft (WS M w0.heap.size bw) F W1 y0 G w2) := hl
  have HGT : Hid (∀ b, G b → F b ∨ W1.heap.size ≤ b) := hl.2.1
  have HP0 : Hid (w2.heap[w.heap.size]? = some (.cells #[.pointer (some ⟨bw, 0, none⟩)] 27)) := hl.2.2.heap HQ0.out HN1.out
  have HS2 : Hid (WS M w0.heap.size bw G w2 y0) := hl.1
  have HLO : Hid (w.heap.size ≤ w2.heap.size) := Nat.le_trans HLO1.out hl.2.2.size
  have hx2 : y0.notes.length ≤ 99990 := by have := HBD.out; omega
  clear hl hx hin
  cases e0 with
  | ret =>
    obtain rfl : e = .returned (.tuple #[.nilIface, .bool true]) := by
      rcases he with ⟨-, h⟩ | ⟨v, -, h⟩
      · exact h
      · exact h.elim
    clear he
    have ta1 : ∀ w, (Instr.typeAssert .nilIface 20 44 true).run Try.prog w = .ok (.tuple #[.pointer none, .bool false]) w := fun _ => by kernel_rfl
    have ta2 : ∀ w, (Instr.typeAssert .nilIface 20 3 true).run Try.prog w = .ok (.tuple #[.int .i64 0, .bool false]) w := fun _ => by kernel_rfl
    go_wp2
    obtain ⟨av, ac, p, FM, hX⟩ := HS2.out
    have HX : Hid (WX M w0.heap.size bw G w2 y0 av ac p FM) := hX
    clear hX
    have HK0 : Hid (Kp (fun b => (Value.slice av y0.notes.length ac).ownBlock = some b ∨ b = bw) w2 w2.drew) := Kp.of_below (below_refl w2).drew
    have HK1 : Hid (Kp (fun b => (Value.slice av y0.notes.length ac).ownBlock = some b ∨ b = bw) w2 (w2.alloc (.cells #[.int .i64 (-1)] 3)).drew) := Kp.of_below ((below1 w2 _).drew)
    have cN0 : w2.drew.cell? ⟨bw, 0, none⟩ = some (.slice av y0.notes.length ac) := by show w2.cell? _ = _; rw [cell_of_row _ _ _ _ _ _ HX.out.hb]; rfl
    have cN1 : (w2.alloc (.cells #[.int .i64 (-1)] 3)).cell? ⟨bw, 0, none⟩ = some (.slice av y0.notes.length ac) := by rw [World.cell?_alloc_some w2 _ _ (by show (World.cell? w2.drew _).isSome = true; rw [cN0]; rfl)]; exact cN0
    have cN2 : (w2.alloc (.cells #[.int .i64 (-1)] 3)).drew.cell? ⟨bw, 0, none⟩ = some (.slice av y0.notes.length ac) := cN1
    have HN0 : Hid (¬ (fun b => (Value.slice av y0.notes.length ac).ownBlock = some b ∨ b = bw) _) := kf_no HX.out HP0.out (by decide) (by decide)
    refine wp_region_held_drew (S := (fun w' => Kp (fun b => (Value.slice av y0.notes.length ac).ownBlock = some b ∨ b = bw) w2 w')) (by kernel_rfl) ?_ (fun hHeld => ?_)
    · (try dsimp only); first | exact HK0.out | exact HK1.out | exact HK7.out | exact HK8.out
    refine wpAnyH_take (i := 0) (oi := { dst := some 110, op := Op.load 27 (Operand.tmp 2), type := 27, pos := "law.go:72", after := #[], guard := none }) (v := ?vu70) rfl (by kernel_rfl) (by kernel_rfl) (by kernel_rfl) (fun _ _ _ h => bp_put (P := Try.prog) (fn := Try.f14) _ _ _ h) (Or.inl ⟨by rfl, ?hyu70⟩) (by assumption) ?restu70
    case hyu70 => (intro wz hSw; (try dsimp only at hSw); have q0_0 := cell_of_row _ _ 0 _ _ _ (hSw.heap HP0.out HN0.out); (try simp only [List.getElem?_toArray, List.getElem?_cons_zero, List.getElem?_cons_succ] at q0_0); go_simp; (try with_reducible rfl))
    try simp only [Act.put, List.setIfInBounds_toArray, List.set_cons_zero, List.set_cons_succ]
    refine wpAnyH_take (i := 1) (oi := { dst := some 111, op := Op.load 27 (Operand.tmp 2), type := 27, pos := "law.go:72", after := #[], guard := none }) (v := ?vu71) rfl (by kernel_rfl) (by kernel_rfl) (by kernel_rfl) (fun _ _ _ h => bp_put (P := Try.prog) (fn := Try.f14) _ _ _ h) (Or.inl ⟨by rfl, ?hyu71⟩) (by assumption) ?restu71
    case hyu71 => (intro wz hSw; (try dsimp only at hSw); have q0_0 := cell_of_row _ _ 0 _ _ _ (hSw.heap HP0.out HN0.out); (try simp only [List.getElem?_toArray, List.getElem?_cons_zero, List.getElem?_cons_succ] at q0_0); go_simp; (try with_reducible rfl))
    try simp only [Act.put, List.setIfInBounds_toArray, List.set_cons_zero, List.set_cons_succ]
    refine wpAnyH_take (i := 2) (oi := { dst := some 112, op := Op.nilCheck (Operand.tmp 111), type := 0, pos := "law.go:72", after := #[{ on := 1, ground := Ground.data }], guard := none }) (v := ?vu72) rfl (by kernel_rfl) (by kernel_rfl) (by kernel_rfl) (fun _ _ _ h => bp_put (P := Try.prog) (fn := Try.f14) _ _ _ h) (Or.inl ⟨by rfl, ?hyu72⟩) (by assumption) ?restu72
    case hyu72 => (intro w hSw; (try dsimp only at hSw); go_simp; (try with_reducible rfl))
    try simp only [Act.put, List.setIfInBounds_toArray, List.set_cons_zero, List.set_cons_succ]
    refine wpAnyH_take (i := 3) (oi := { dst := some 113, op := Op.fieldAddr 32 (Operand.tmp 112) 0, type := 0, pos := "law.go:72", after := #[{ on := 2, ground := Ground.data }], guard := none }) (v := ?vu73) rfl (by kernel_rfl) (by kernel_rfl) (by kernel_rfl) (fun _ _ _ h => bp_put (P := Try.prog) (fn := Try.f14) _ _ _ h) (Or.inl ⟨by rfl, ?hyu73⟩) (by assumption) ?restu73
    case hyu73 => (intro w hSw; (try dsimp only at hSw); go_simp; (try with_reducible rfl))
    try simp only [Act.put, List.setIfInBounds_toArray, List.set_cons_zero, List.set_cons_succ]
    refine wpAnyH_ready (rs := [4, 5]) (by kernel_rfl) (by simp) ?_
    refine AllReadyH.cons (o := { dst := some 114, op := Op.load 30 (Operand.tmp 113), type := 30, pos := "law.go:72", after := #[{ on := 3, ground := Ground.data }], guard := none }) rfl (fun K hK => ?_) ?_
    · skip
      go_simp
      refine hK.out _ _ ?_ (fun hHeldB => ?_)
      · (try dsimp only); first | exact HK0.out | exact HK1.out | exact HK7.out | exact HK8.out
      clear hK K hHeld
      have hHeld := hHeldB
      clear hHeldB
      try simp only [Act.put, List.setIfInBounds_toArray, List.set_cons_zero, List.set_cons_succ]
      refine wpAnyH_ready (rs := [5]) (by kernel_rfl) (by simp) ?_
      refine AllReadyH.cons (o := { dst := some 115, op := Op.buildSlice 30 1 #[(0, Operand.const (Value.int IntKind.i64 (-1)))], type := 30, pos := "law.go:72", after := #[], guard := none }) rfl (fun K hK => ?_) AllReadyH.nil
      go_simp
      refine hK.out _ _ ?_ (fun hHeldB => ?_)
      · (try dsimp only); first | exact HK0.out | exact HK1.out | exact HK7.out | exact HK8.out
      clear hK K hHeld
      have hHeld := hHeldB
      clear hHeldB
      try simp only [Act.put, List.setIfInBounds_toArray, List.set_cons_zero, List.set_cons_succ]
      refine wpAnyH_ready (rs := [6]) (by kernel_rfl) (by simp) ?_
      refine AllReadyH.cons (o := { dst := some 116, op := Op.call { callee := Callee.builtin Builtin.append, args := #[Operand.tmp 114, Operand.tmp 115], argTypes := #[30, 30] }, type := 30, pos := "law.go:72", after := #[{ on := 4, ground := Ground.data }, { on := 5, ground := Ground.data }], guard := none }) rfl (fun K hK => ?_) AllReadyH.nil
      refine step_app_at eInt rfl _ _ rfl ((HX.out.ow.alloc _).drew) (Nat.zero_le _) (row_rd (V := ivs (gt [(-1)])) (heap_new1 w2 (.cells #[.int .i64 (-1)] 3)) (by decide) (fun j hj => by match j, hj with | 0, _ => rfl)) (by decide) (ivs_one _ _) (y0.notes.length + 1) rfl (by omega) (ivs (gt (y0.notes ++ [(-1)]))) (fun j _ => catV_gt y0.notes [(-1)] j) rfl rfl ?_
      intro a7 c7 w7 hO7 hG7 hA7
      have hKr : Kp (fun b => (Value.slice av y0.notes.length ac).ownBlock = some b) w2 w7 := (Kp.of_below (F := fun b => (Value.slice av y0.notes.length ac).ownBlock = some b) ((below1 w2 (.cells #[.int .i64 (-1)] 3)).drew)).trans (Kp.of_grown (F := fun b => (Value.slice av y0.notes.length ac).ownBlock = some b) hG7 (fun k hk => hk)) (fun _ _ h => h)
      obtain ⟨k7, hput⟩ := ws_put (N := (y0.notes.length + 1)) (l := [(-1)]) D (Nat.le_trans hlo HLO.out) HX.out rfl hO7 hKr (by simp) hA7
      have HL : Hid (∃ G9, Lft (WS M w0.heap.size bw) G w2 (y0.note [(-1)]) G9 (w7.setCell ⟨bw, 0, none⟩ (.slice a7 (y0.notes.length + 1) c7))) := hput
      have f7 : w7.cell? ⟨bw, 0, none⟩ = some (.slice av y0.notes.length ac) := by rw [cell_of_row _ _ _ _ _ _ k7]; rfl
      have z7 : w7.frozen? ⟨bw, 0, none⟩ = false := by simp [World.frozen?, k7]
      have HK7 : Hid (Kp (fun b => (Value.slice av y0.notes.length ac).ownBlock = some b ∨ b = bw) w2 w7) := hKr.mono fun _ _ h => Or.inl h
      have HK8 : Hid (Kp (fun b => (Value.slice av y0.notes.length ac).ownBlock = some b ∨ b = bw) w2 (w7.setCell ⟨bw, 0, none⟩ (.slice a7 (y0.notes.length + 1) c7))) := HK7.out.set (p := ⟨bw, 0, none⟩) (Or.inl (Or.inr rfl)) _
      clear hO7 hG7 hA7 hKr hput k7
      refine hK.out _ _ ?_ (fun hHeldB => ?_)
      · (try dsimp only); first | exact HK0.out | exact HK1.out | exact HK7.out | exact HK8.out
      clear hK K hHeld
      have hHeld := hHeldB
      clear hHeldB
      try simp only [Act.put, List.setIfInBounds_toArray, List.set_cons_zero, List.set_cons_succ]
      refine wpAnyH_take (i := 7) (oi := { dst := some 117, op := Op.nilCheck (Operand.tmp 110), type := 0, pos := "law.go:72", after := #[{ on := 0, ground := Ground.data }, { on := 0, ground := Ground.phase }, { on := 1, ground := Ground.phase }, { on := 2, ground := Ground.phase }, { on := 3, ground := Ground.phase }, { on := 4, ground := Ground.phase }, { on := 5, ground := Ground.phase }, { on := 6, ground := Ground.phase }], guard := none }) (v := ?vu74) rfl (by kernel_rfl) (by kernel_rfl) (by kernel_rfl) (fun _ _ _ h => bp_put (P := Try.prog) (fn := Try.f14) _ _ _ h) (Or.inl ⟨by rfl, ?hyu74⟩) (by assumption) ?restu74
      case hyu74 => (intro w hSw; (try dsimp only at hSw); go_simp; (try with_reducible rfl))
      try simp only [Act.put, List.setIfInBounds_toArray, List.set_cons_zero, List.set_cons_succ]
      refine wpAnyH_take (i := 8) (oi := { dst := some 118, op := Op.fieldAddr 32 (Operand.tmp 117) 0, type := 0, pos := "law.go:72", after := #[{ on := 7, ground := Ground.data }, { on := 0, ground := Ground.phase }, { on := 1, ground := Ground.phase }, { on := 2, ground := Ground.phase }, { on := 3, ground := Ground.phase }, { on := 4, ground := Ground.phase }, { on := 5, ground := Ground.phase }, { on := 6, ground := Ground.phase }], guard := none }) (v := ?vu75) rfl (by kernel_rfl) (by kernel_rfl) (by kernel_rfl) (fun _ _ _ h => bp_put (P := Try.prog) (fn := Try.f14) _ _ _ h) (Or.inl ⟨by rfl, ?hyu75⟩) (by assumption) ?restu75
      case hyu75 => (intro w hSw; (try dsimp only at hSw); go_simp; (try with_reducible rfl))
      try simp only [Act.put, List.setIfInBounds_toArray, List.set_cons_zero, List.set_cons_succ]
      refine wpAnyH_ready (rs := [9]) (by kernel_rfl) (by simp) ?_
      refine AllReadyH.cons (o := { dst := none, op := Op.store 30 (Operand.tmp 118) (Operand.tmp 116), type := 0, pos := "law.go:72", after := #[{ on := 8, ground := Ground.data }, { on := 6, ground := Ground.data }, { on := 6, ground := Ground.chain }, { on := 0, ground := Ground.phase }, { on := 1, ground := Ground.phase }, { on := 2, ground := Ground.phase }, { on := 3, ground := Ground.phase }, { on := 4, ground := Ground.phase }, { on := 5, ground := Ground.phase }, { on := 6, ground := Ground.phase }], guard := none }) rfl (fun K hK => ?_) AllReadyH.nil
      go_simp
      refine hK.out _ _ ?_ (fun hHeldB => ?_)
      · (try dsimp only); first | exact HK0.out | exact HK1.out | exact HK7.out | exact HK8.out
      clear hK K hHeld
      have hHeld := hHeldB
      clear hHeldB
      try simp only [Act.put, List.setIfInBounds_toArray, List.set_cons_zero, List.set_cons_succ]
      refine wpAnyH_done (by kernel_rfl) ?_ _
      go_wp2
      go_end0
      rw [HPR.out]
      obtain ⟨H, hL⟩ := HL.out
      exact ⟨H, (HL2.out.trans hL).of_below HB1.out, Or.inl ⟨rfl, rfl⟩⟩
    refine AllReadyH.cons (o := { dst := some 115, op := Op.buildSlice 30 1 #[(0, Operand.const (Value.int IntKind.i64 (-1)))], type := 30, pos := "law.go:72", after := #[], guard := none }) rfl (fun K hK => ?_) AllReadyH.nil
    go_simp
    refine hK.out _ _ ?_ (fun hHeldB => ?_)
    · (try dsimp only); first | exact HK0.out | exact HK1.out | exact HK7.out | exact HK8.out
    clear hK K hHeld
    have hHeld := hHeldB
    clear hHeldB
    try simp only [Act.put, List.setIfInBounds_toArray, List.set_cons_zero, List.set_cons_succ]
    refine wpAnyH_ready (rs := [4]) (by kernel_rfl) (by simp) ?_
    refine AllReadyH.cons (o := { dst := some 114, op := Op.load 30 (Operand.tmp 113), type := 30, pos := "law.go:72", after := #[{ on := 3, ground := Ground.data }], guard := none }) rfl (fun K hK => ?_) AllReadyH.nil
    go_simp
    refine hK.out _ _ ?_ (fun hHeldB => ?_)
    · (try dsimp only); first | exact HK0.out | exact HK1.out | exact HK7.out | exact HK8.out
    clear hK K hHeld
    have hHeld := hHeldB
    clear hHeldB
    try simp only [Act.put, List.setIfInBounds_toArray, List.set_cons_zero, List.set_cons_succ]
    refine wpAnyH_ready (rs := [6]) (by kernel_rfl) (by simp) ?_
    refine AllReadyH.cons (o := { dst := some 116, op := Op.call { callee := Callee.builtin Builtin.append, args := #[Operand.tmp 114, Operand.tmp 115], argTypes := #[30, 30] }, type := 30, pos := "law.go:72", after := #[{ on := 4, ground := Ground.data }, { on := 5, ground := Ground.data }], guard := none }) rfl (fun K hK => ?_) AllReadyH.nil
    refine step_app_at eInt rfl _ _ rfl ((HX.out.ow.alloc _).drew) (Nat.zero_le _) (row_rd (V := ivs (gt [(-1)])) (heap_new1 w2 (.cells #[.int .i64 (-1)] 3)) (by decide) (fun j hj => by match j, hj with | 0, _ => rfl)) (by decide) (ivs_one _ _) (y0.notes.length + 1) rfl (by omega) (ivs (gt (y0.notes ++ [(-1)]))) (fun j _ => catV_gt y0.notes [(-1)] j) rfl rfl ?_
    intro a7 c7 w7 hO7 hG7 hA7
    have hKr : Kp (fun b => (Value.slice av y0.notes.length ac).ownBlock = some b) w2 w7 := (Kp.of_below (F := fun b => (Value.slice av y0.notes.length ac).ownBlock = some b) ((below1 w2 (.cells #[.int .i64 (-1)] 3)).drew)).trans (Kp.of_grown (F := fun b => (Value.slice av y0.notes.length ac).ownBlock = some b) hG7 (fun k hk => hk)) (fun _ _ h => h)
    obtain ⟨k7, hput⟩ := ws_put (N := (y0.notes.length + 1)) (l := [(-1)]) D (Nat.le_trans hlo HLO.out) HX.out rfl hO7 hKr (by simp) hA7
    have HL : Hid (∃ G9, Lft (WS M w0.heap.size bw) G w2 (y0.note [(-1)]) G9 (w7.setCell ⟨bw, 0, none⟩ (.slice a7 (y0.notes.length + 1) c7))) := hput
    have f7 : w7.cell? ⟨bw, 0, none⟩ = some (.slice av y0.notes.length ac) := by rw [cell_of_row _ _ _ _ _ _ k7]; rfl
    have z7 : w7.frozen? ⟨bw, 0, none⟩ = false := by simp [World.frozen?, k7]
    have HK7 : Hid (Kp (fun b => (Value.slice av y0.notes.length ac).ownBlock = some b ∨ b = bw) w2 w7) := hKr.mono fun _ _ h => Or.inl h
    have HK8 : Hid (Kp (fun b => (Value.slice av y0.notes.length ac).ownBlock = some b ∨ b = bw) w2 (w7.setCell ⟨bw, 0, none⟩ (.slice a7 (y0.notes.length + 1) c7))) := HK7.out.set (p := ⟨bw, 0, none⟩) (Or.inl (Or.inr rfl)) _
    clear hO7 hG7 hA7 hKr hput k7
    refine hK.out _ _ ?_ (fun hHeldB => ?_)
    · (try dsimp only); first | exact HK0.out | exact HK1.out | exact HK7.out | exact HK8.out
    clear hK K hHeld
    have hHeld := hHeldB
    clear hHeldB
    try simp only [Act.put, List.setIfInBounds_toArray, List.set_cons_zero, List.set_cons_succ]
    refine wpAnyH_take (i := 7) (oi := { dst := some 117, op := Op.nilCheck (Operand.tmp 110), type := 0, pos := "law.go:72", after := #[{ on := 0, ground := Ground.data }, { on := 0, ground := Ground.phase }, { on := 1, ground := Ground.phase }, { on := 2, ground := Ground.phase }, { on := 3, ground := Ground.phase }, { on := 4, ground := Ground.phase }, { on := 5, ground := Ground.phase }, { on := 6, ground := Ground.phase }], guard := none }) (v := ?vu76) rfl (by kernel_rfl) (by kernel_rfl) (by kernel_rfl) (fun _ _ _ h => bp_put (P := Try.prog) (fn := Try.f14) _ _ _ h) (Or.inl ⟨by rfl, ?hyu76⟩) (by assumption) ?restu76
    case hyu76 => (intro w hSw; (try dsimp only at hSw); go_simp; (try with_reducible rfl))
    try simp only [Act.put, List.setIfInBounds_toArray, List.set_cons_zero, List.set_cons_succ]
    refine wpAnyH_take (i := 8) (oi := { dst := some 118, op := Op.fieldAddr 32 (Operand.tmp 117) 0, type := 0, pos := "law.go:72", after := #[{ on := 7, ground := Ground.data }, { on := 0, ground := Ground.phase }, { on := 1, ground := Ground.phase }, { on := 2, ground := Ground.phase }, { on := 3, ground := Ground.phase }, { on := 4, ground := Ground.phase }, { on := 5, ground := Ground.phase }, { on := 6, ground := Ground.phase }], guard := none }) (v := ?vu77) rfl (by kernel_rfl) (by kernel_rfl) (by kernel_rfl) (fun _ _ _ h => bp_put (P := Try.prog) (fn := Try.f14) _ _ _ h) (Or.inl ⟨by rfl, ?hyu77⟩) (by assumption) ?restu77
    case hyu77 => (intro w hSw; (try dsimp only at hSw); go_simp; (try with_reducible rfl))
    try simp only [Act.put, List.setIfInBounds_toArray, List.set_cons_zero, List.set_cons_succ]
    refine wpAnyH_ready (rs := [9]) (by kernel_rfl) (by simp) ?_
    refine AllReadyH.cons (o := { dst := none, op := Op.store 30 (Operand.tmp 118) (Operand.tmp 116), type := 0, pos := "law.go:72", after := #[{ on := 8, ground := Ground.data }, { on := 6, ground := Ground.data }, { on := 6, ground := Ground.chain }, { on := 0, ground := Ground.phase }, { on := 1, ground := Ground.phase }, { on := 2, ground := Ground.phase }, { on := 3, ground := Ground.phase }, { on := 4, ground := Ground.phase }, { on := 5, ground := Ground.phase }, { on := 6, ground := Ground.phase }], guard := none }) rfl (fun K hK => ?_) AllReadyH.nil
    go_simp
    refine hK.out _ _ ?_ (fun hHeldB => ?_)
    · (try dsimp only); first | exact HK0.out | exact HK1.out | exact HK7.out | exact HK8.out
    clear hK K hHeld
    have hHeld := hHeldB
    clear hHeldB
    try simp only [Act.put, List.setIfInBounds_toArray, List.set_cons_zero, List.set_cons_succ]
    refine wpAnyH_done (by kernel_rfl) ?_ _
    go_wp2
    go_end0
    rw [HPR.out]
    obtain ⟨H, hL⟩ := HL.out
    exact ⟨H, (HL2.out.trans hL).of_below HB1.out, Or.inl ⟨rfl, rfl⟩⟩
  | bail c0 a0 =>
    obtain ⟨bb, rfl, hbb⟩ : ∃ bb, e = .returned (.tuple #[(.iface 44 (.pointer (some ⟨bb, 0, none⟩))), .bool false]) ∧ w2.heap[bb]? = some (.cells #[.int .i64 c0, .int .i64 a0] 49) := by
      rcases he with ⟨h, -⟩ | ⟨v, h, b, rfl, hb, -, -⟩
      · cases h
      · exact ⟨b, h, hb⟩
    have HBb : Hid (w2.heap[bb]? = some (.cells #[.int .i64 c0, .int .i64 a0] 49)) := hbb
    clear he hbb
    have ta1 : ∀ w, (Instr.typeAssert (.iface 44 (.pointer (some ⟨bb, 0, none⟩))) 20 44 true).run Try.prog w = .ok (.tuple #[.pointer (some ⟨bb, 0, none⟩), .bool true]) w := fun _ => by kernel_rfl
    have ta2 : ∀ w, (Instr.typeAssert (.iface 44 (.pointer (some ⟨bb, 0, none⟩))) 20 3 true).run Try.prog w = .ok (.tuple #[.int .i64 0, .bool false]) w := fun _ => by kernel_rfl
    go_wp2
    obtain ⟨av, ac, p, FM, hX⟩ := HS2.out
    have HX : Hid (WX M w0.heap.size bw G w2 y0 av ac p FM) := hX
    clear hX
    have HK0 : Hid (Kp (fun b => (Value.slice av y0.notes.length ac).ownBlock = some b ∨ b = bw) w2 w2.drew) := Kp.of_below (below_refl w2).drew
    have HK1 : Hid (Kp (fun b => (Value.slice av y0.notes.length ac).ownBlock = some b ∨ b = bw) w2 (w2.alloc (.cells #[.int .i64 (-2), .int .i64 c0, .int .i64 a0] 3)).drew) := Kp.of_below ((below1 w2 _).drew)
    have cN0 : w2.drew.cell? ⟨bw, 0, none⟩ = some (.slice av y0.notes.length ac) := by show w2.cell? _ = _; rw [cell_of_row _ _ _ _ _ _ HX.out.hb]; rfl
    have cN1 : (w2.alloc (.cells #[.int .i64 (-2), .int .i64 c0, .int .i64 a0] 3)).cell? ⟨bw, 0, none⟩ = some (.slice av y0.notes.length ac) := by rw [World.cell?_alloc_some w2 _ _ (by show (World.cell? w2.drew _).isSome = true; rw [cN0]; rfl)]; exact cN0
    have cN2 : (w2.alloc (.cells #[.int .i64 (-2), .int .i64 c0, .int .i64 a0] 3)).drew.cell? ⟨bw, 0, none⟩ = some (.slice av y0.notes.length ac) := cN1
    have HN0 : Hid (¬ (fun b => (Value.slice av y0.notes.length ac).ownBlock = some b ∨ b = bw) _) := kf_no HX.out HP0.out (by decide) (by decide)
    have HN1 : Hid (¬ (fun b => (Value.slice av y0.notes.length ac).ownBlock = some b ∨ b = bw) _) := kf_no HX.out HBb.out (by decide) (by decide)
    refine wp_region_held_drew (S := (fun w' => Kp (fun b => (Value.slice av y0.notes.length ac).ownBlock = some b ∨ b = bw) w2 w')) (by kernel_rfl) ?_ (fun hHeld => ?_)
    · (try dsimp only); first | exact HK0.out | exact HK1.out | exact HK7.out | exact HK8.out
    refine wpAnyH_take (i := 0) (oi := { dst := some 125, op := Op.load 27 (Operand.tmp 2), type := 27, pos := "law.go:74", after := #[], guard := none }) (v := ?vu78) rfl (by kernel_rfl) (by kernel_rfl) (by kernel_rfl) (fun _ _ _ h => bp_put (P := Try.prog) (fn := Try.f14) _ _ _ h) (Or.inl ⟨by rfl, ?hyu78⟩) (by assumption) ?restu78
    case hyu78 => (intro wz hSw; (try dsimp only at hSw); have q0_0 := cell_of_row _ _ 0 _ _ _ (hSw.heap HP0.out HN0.out); (try simp only [List.getElem?_toArray, List.getElem?_cons_zero, List.getElem?_cons_succ] at q0_0); have q1_0 := cell_of_row _ _ 0 _ _ _ (hSw.heap HBb.out HN1.out); (try simp only [List.getElem?_toArray, List.getElem?_cons_zero, List.getElem?_cons_succ] at q1_0); have q1_1 := cell_of_row _ _ 1 _ _ _ (hSw.heap HBb.out HN1.out); (try simp only [List.getElem?_toArray, List.getElem?_cons_zero, List.getElem?_cons_succ] at q1_1); go_simp; (try with_reducible rfl))
    try simp only [Act.put, List.setIfInBounds_toArray, List.set_cons_zero, List.set_cons_succ]
    refine wpAnyH_take (i := 1) (oi := { dst := some 126, op := Op.load 27 (Operand.tmp 2), type := 27, pos := "law.go:74", after := #[], guard := none }) (v := ?vu79) rfl (by kernel_rfl) (by kernel_rfl) (by kernel_rfl) (fun _ _ _ h => bp_put (P := Try.prog) (fn := Try.f14) _ _ _ h) (Or.inl ⟨by rfl, ?hyu79⟩) (by assumption) ?restu79
    case hyu79 => (intro wz hSw; (try dsimp only at hSw); have q0_0 := cell_of_row _ _ 0 _ _ _ (hSw.heap HP0.out HN0.out); (try simp only [List.getElem?_toArray, List.getElem?_cons_zero, List.getElem?_cons_succ] at q0_0); have q1_0 := cell_of_row _ _ 0 _ _ _ (hSw.heap HBb.out HN1.out); (try simp only [List.getElem?_toArray, List.getElem?_cons_zero, List.getElem?_cons_succ] at q1_0); have q1_1 := cell_of_row _ _ 1 _ _ _ (hSw.heap HBb.out HN1.out); (try simp only [List.getElem?_toArray, List.getElem?_cons_zero, List.getElem?_cons_succ] at q1_1); go_simp; (try with_reducible rfl))
    try simp only [Act.put, List.setIfInBounds_toArray, List.set_cons_zero, List.set_cons_succ]
    refine wpAnyH_take (i := 2) (oi := { dst := some 127, op := Op.nilCheck (Operand.tmp 126), type := 0, pos := "law.go:74", after := #[{ on := 1, ground := Ground.data }], guard := none }) (v := ?vu80) rfl (by kernel_rfl) (by kernel_rfl) (by kernel_rfl) (fun _ _ _ h => bp_put (P := Try.prog) (fn := Try.f14) _ _ _ h) (Or.inl ⟨by rfl, ?hyu80⟩) (by assumption) ?restu80
    case hyu80 => (intro w hSw; (try dsimp only at hSw); go_simp; (try with_reducible rfl))
    try simp only [Act.put, List.setIfInBounds_toArray, List.set_cons_zero, List.set_cons_succ]
    refine wpAnyH_take (i := 3) (oi := { dst := some 128, op := Op.fieldAddr 32 (Operand.tmp 127) 0, type := 0, pos := "law.go:74", after := #[{ on := 2, ground := Ground.data }], guard := none }) (v := ?vu81) rfl (by kernel_rfl) (by kernel_rfl) (by kernel_rfl) (fun _ _ _ h => bp_put (P := Try.prog) (fn := Try.f14) _ _ _ h) (Or.inl ⟨by rfl, ?hyu81⟩) (by assumption) ?restu81
    case hyu81 => (intro w hSw; (try dsimp only at hSw); go_simp; (try with_reducible rfl))
    try simp only [Act.put, List.setIfInBounds_toArray, List.set_cons_zero, List.set_cons_succ]
    refine wpAnyH_take (i := 5) (oi := { dst := some 130, op := Op.move (Operand.tmp 10), type := 44, pos := "law.go:74", after := #[], guard := none }) (v := ?vu82) rfl (by kernel_rfl) (by kernel_rfl) (by kernel_rfl) (fun _ _ _ h => bp_put (P := Try.prog) (fn := Try.f14) _ _ _ h) (Or.inl ⟨by rfl, ?hyu82⟩) (by assumption) ?restu82
    case hyu82 => (intro w hSw; (try dsimp only at hSw); go_simp; (try with_reducible rfl))
    try simp only [Act.put, List.setIfInBounds_toArray, List.set_cons_zero, List.set_cons_succ]
    refine wpAnyH_take (i := 6) (oi := { dst := some 131, op := Op.nilCheck (Operand.tmp 130), type := 0, pos := "law.go:74", after := #[{ on := 5, ground := Ground.data }], guard := none }) (v := ?vu83) rfl (by kernel_rfl) (by kernel_rfl) (by kernel_rfl) (fun _ _ _ h => bp_put (P := Try.prog) (fn := Try.f14) _ _ _ h) (Or.inl ⟨by rfl, ?hyu83⟩) (by assumption) ?restu83
    case hyu83 => (intro w hSw; (try dsimp only at hSw); go_simp; (try with_reducible rfl))
    try simp only [Act.put, List.setIfInBounds_toArray, List.set_cons_zero, List.set_cons_succ]
    refine wpAnyH_take (i := 7) (oi := { dst := some 132, op := Op.fieldAddr 49 (Operand.tmp 131) 0, type := 0, pos := "law.go:74", after := #[{ on := 6, ground := Ground.data }], guard := none }) (v := ?vu84) rfl (by kernel_rfl) (by kernel_rfl) (by kernel_rfl) (fun _ _ _ h => bp_put (P := Try.prog) (fn := Try.f14) _ _ _ h) (Or.inl ⟨by rfl, ?hyu84⟩) (by assumption) ?restu84
    case hyu84 => (intro w hSw; (try dsimp only at hSw); go_simp; (try with_reducible rfl))
    try simp only [Act.put, List.setIfInBounds_toArray, List.set_cons_zero, List.set_cons_succ]
    refine wpAnyH_take (i := 8) (oi := { dst := some 133, op := Op.load 47 (Operand.tmp 132), type := 47, pos := "law.go:74", after := #[{ on := 7, ground := Ground.data }], guard := none }) (v := ?vu85) rfl (by kernel_rfl) (by kernel_rfl) (by kernel_rfl) (fun _ _ _ h => bp_put (P := Try.prog) (fn := Try.f14) _ _ _ h) (Or.inl ⟨by rfl, ?hyu85⟩) (by assumption) ?restu85
    case hyu85 => (intro wz hSw; (try dsimp only at hSw); have q0_0 := cell_of_row _ _ 0 _ _ _ (hSw.heap HP0.out HN0.out); (try simp only [List.getElem?_toArray, List.getElem?_cons_zero, List.getElem?_cons_succ] at q0_0); have q1_0 := cell_of_row _ _ 0 _ _ _ (hSw.heap HBb.out HN1.out); (try simp only [List.getElem?_toArray, List.getElem?_cons_zero, List.getElem?_cons_succ] at q1_0); have q1_1 := cell_of_row _ _ 1 _ _ _ (hSw.heap HBb.out HN1.out); (try simp only [List.getElem?_toArray, List.getElem?_cons_zero, List.getElem?_cons_succ] at q1_1); go_simp; (try with_reducible rfl))
    try simp only [Act.put, List.setIfInBounds_toArray, List.set_cons_zero, List.set_cons_succ]
    refine wpAnyH_take (i := 9) (oi := { dst := some 134, op := Op.move (Operand.tmp 10), type := 44, pos := "law.go:74", after := #[], guard := none }) (v := ?vu86) rfl (by kernel_rfl) (by kernel_rfl) (by kernel_rfl) (fun _ _ _ h => bp_put (P := Try.prog) (fn := Try.f14) _ _ _ h) (Or.inl ⟨by rfl, ?hyu86⟩) (by assumption) ?restu86
    case hyu86 => (intro w hSw; (try dsimp only at hSw); go_simp; (try with_reducible rfl))
    try simp only [Act.put, List.setIfInBounds_toArray, List.set_cons_zero, List.set_cons_succ]
    refine wpAnyH_take (i := 10) (oi := { dst := some 135, op := Op.nilCheck (Operand.tmp 134), type := 0, pos := "law.go:74", after := #[{ on := 9, ground := Ground.data }], guard := none }) (v := ?vu87) rfl (by kernel_rfl) (by kernel_rfl) (by kernel_rfl) (fun _ _ _ h => bp_put (P := Try.prog) (fn := Try.f14) _ _ _ h) (Or.inl ⟨by rfl, ?hyu87⟩) (by assumption) ?restu87
    case hyu87 => (intro w hSw; (try dsimp only at hSw); go_simp; (try with_reducible rfl))
    try simp only [Act.put, List.setIfInBounds_toArray, List.set_cons_zero, List.set_cons_succ]
    refine wpAnyH_take (i := 11) (oi := { dst := some 136, op := Op.fieldAddr 49 (Operand.tmp 135) 1, type := 0, pos := "law.go:74", after := #[{ on := 10, ground := Ground.data }], guard := none }) (v := ?vu88) rfl (by kernel_rfl) (by kernel_rfl) (by kernel_rfl) (fun _ _ _ h => bp_put (P := Try.prog) (fn := Try.f14) _ _ _ h) (Or.inl ⟨by rfl, ?hyu88⟩) (by assumption) ?restu88
    case hyu88 => (intro w hSw; (try dsimp only at hSw); go_simp; (try with_reducible rfl))
    try simp only [Act.put, List.setIfInBounds_toArray, List.set_cons_zero, List.set_cons_succ]
    refine wpAnyH_take (i := 12) (oi := { dst := some 137, op := Op.load 3 (Operand.tmp 136), type := 3, pos := "law.go:74", after := #[{ on := 11, ground := Ground.data }], guard := none }) (v := ?vu89) rfl (by kernel_rfl) (by kernel_rfl) (by kernel_rfl) (fun _ _ _ h => bp_put (P := Try.prog) (fn := Try.f14) _ _ _ h) (Or.inl ⟨by rfl, ?hyu89⟩) (by assumption) ?restu89
    case hyu89 => (intro wz hSw; (try dsimp only at hSw); have q0_0 := cell_of_row _ _ 0 _ _ _ (hSw.heap HP0.out HN0.out); (try simp only [List.getElem?_toArray, List.getElem?_cons_zero, List.getElem?_cons_succ] at q0_0); have q1_0 := cell_of_row _ _ 0 _ _ _ (hSw.heap HBb.out HN1.out); (try simp only [List.getElem?_toArray, List.getElem?_cons_zero, List.getElem?_cons_succ] at q1_0); have q1_1 := cell_of_row _ _ 1 _ _ _ (hSw.heap HBb.out HN1.out); (try simp only [List.getElem?_toArray, List.getElem?_cons_zero, List.getElem?_cons_succ] at q1_1); go_simp; (try with_reducible rfl))
    try simp only [Act.put, List.setIfInBounds_toArray, List.set_cons_zero, List.set_cons_succ]
    refine wpAnyH_ready (rs := [4, 13]) (by kernel_rfl) (by simp) ?_
    refine AllReadyH.cons (o := { dst := some 129, op := Op.load 30 (Operand.tmp 128), type := 30, pos := "law.go:74", after := #[{ on := 3, ground := Ground.data }], guard := none }) rfl (fun K hK => ?_) ?_
    · skip
      go_simp
      refine hK.out _ _ ?_ (fun hHeldB => ?_)
      · (try dsimp only); first | exact HK0.out | exact HK1.out | exact HK7.out | exact HK8.out
      clear hK K hHeld
      have hHeld := hHeldB
      clear hHeldB
      try simp only [Act.put, List.setIfInBounds_toArray, List.set_cons_zero, List.set_cons_succ]
      refine wpAnyH_ready (rs := [13]) (by kernel_rfl) (by simp) ?_
      refine AllReadyH.cons (o := { dst := some 138, op := Op.buildSlice 30 3 #[(0, Operand.const (Value.int IntKind.i64 (-2))), (1, Operand.tmp 133), (2, Operand.tmp 137)], type := 30, pos := "law.go:74", after := #[{ on := 8, ground := Ground.data }, { on := 12, ground := Ground.data }], guard := none }) rfl (fun K hK => ?_) AllReadyH.nil
      go_simp
      refine hK.out _ _ ?_ (fun hHeldB => ?_)
      · (try dsimp only); first | exact HK0.out | exact HK1.out | exact HK7.out | exact HK8.out
      clear hK K hHeld
      have hHeld := hHeldB
      clear hHeldB
      try simp only [Act.put, List.setIfInBounds_toArray, List.set_cons_zero, List.set_cons_succ]
      refine wpAnyH_ready (rs := [14]) (by kernel_rfl) (by simp) ?_
      refine AllReadyH.cons (o := { dst := some 139, op := Op.call { callee := Callee.builtin Builtin.append, args := #[Operand.tmp 129, Operand.tmp 138], argTypes := #[30, 30] }, type := 30, pos := "law.go:74", after := #[{ on := 4, ground := Ground.data }, { on := 13, ground := Ground.data }], guard := none }) rfl (fun K hK => ?_) AllReadyH.nil
      refine step_app_at eInt rfl _ _ rfl ((HX.out.ow.alloc _).drew) (Nat.zero_le _) (row_rd (V := ivs (gt [(-2), c0, a0])) (heap_new1 w2 (.cells #[.int .i64 (-2), .int .i64 c0, .int .i64 a0] 3)) (by decide) (fun j hj => by match j, hj with | 0, _ => rfl | 1, _ => rfl | 2, _ => rfl)) (by decide) (ivs_one _ _) (y0.notes.length + 3) rfl (by omega) (ivs (gt (y0.notes ++ [(-2), c0, a0]))) (fun j _ => catV_gt y0.notes [(-2), c0, a0] j) rfl rfl ?_
      intro a7 c7 w7 hO7 hG7 hA7
      have hKr : Kp (fun b => (Value.slice av y0.notes.length ac).ownBlock = some b) w2 w7 := (Kp.of_below (F := fun b => (Value.slice av y0.notes.length ac).ownBlock = some b) ((below1 w2 (.cells #[.int .i64 (-2), .int .i64 c0, .int .i64 a0] 3)).drew)).trans (Kp.of_grown (F := fun b => (Value.slice av y0.notes.length ac).ownBlock = some b) hG7 (fun k hk => hk)) (fun _ _ h => h)
      obtain ⟨k7, hput⟩ := ws_put (N := (y0.notes.length + 3)) (l := [(-2), c0, a0]) D (Nat.le_trans hlo HLO.out) HX.out rfl hO7 hKr (by simp) hA7
      have HL : Hid (∃ G9, Lft (WS M w0.heap.size bw) G w2 (y0.note [(-2), c0, a0]) G9 (w7.setCell ⟨bw, 0, none⟩ (.slice a7 (y0.notes.length + 3) c7))) := hput
      have f7 : w7.cell? ⟨bw, 0, none⟩ = some (.slice av y0.notes.length ac) := by rw [cell_of_row _ _ _ _ _ _ k7]; rfl
      have z7 : w7.frozen? ⟨bw, 0, none⟩ = false := by simp [World.frozen?, k7]
      have HK7 : Hid (Kp (fun b => (Value.slice av y0.notes.length ac).ownBlock = some b ∨ b = bw) w2 w7) := hKr.mono fun _ _ h => Or.inl h
      have HK8 : Hid (Kp (fun b => (Value.slice av y0.notes.length ac).ownBlock = some b ∨ b = bw) w2 (w7.setCell ⟨bw, 0, none⟩ (.slice a7 (y0.notes.length + 3) c7))) := HK7.out.set (p := ⟨bw, 0, none⟩) (Or.inl (Or.inr rfl)) _
      clear hO7 hG7 hA7 hKr hput k7
      refine hK.out _ _ ?_ (fun hHeldB => ?_)
      · (try dsimp only); first | exact HK0.out | exact HK1.out | exact HK7.out | exact HK8.out
      clear hK K hHeld
      have hHeld := hHeldB
      clear hHeldB
      try simp only [Act.put, List.setIfInBounds_toArray, List.set_cons_zero, List.set_cons_succ]
      refine wpAnyH_take (i := 15) (oi := { dst := some 140, op := Op.nilCheck (Operand.tmp 125), type := 0, pos := "law.go:74", after := #[{ on := 0, ground := Ground.data }, { on := 0, ground := Ground.phase }, { on := 1, ground := Ground.phase }, { on := 2, ground := Ground.phase }, { on := 3, ground := Ground.phase }, { on := 4, ground := Ground.phase }, { on := 5, ground := Ground.phase }, { on := 6, ground := Ground.phase }, { on := 7, ground := Ground.phase }, { on := 8, ground := Ground.phase }, { on := 9, ground := Ground.phase }, { on := 10, ground := Ground.phase }, { on := 11, ground := Ground.phase }, { on := 12, ground := Ground.phase }, { on := 13, ground := Ground.phase }, { on := 14, ground := Ground.phase }], guard := none }) (v := ?vu90) rfl (by kernel_rfl) (by kernel_rfl) (by kernel_rfl) (fun _ _ _ h => bp_put (P := Try.prog) (fn := Try.f14) _ _ _ h) (Or.inl ⟨by rfl, ?hyu90⟩) (by assumption) ?restu90
      case hyu90 => (intro w hSw; (try dsimp only at hSw); go_simp; (try with_reducible rfl))
      try simp only [Act.put, List.setIfInBounds_toArray, List.set_cons_zero, List.set_cons_succ]
      refine wpAnyH_take (i := 16) (oi := { dst := some 141, op := Op.fieldAddr 32 (Operand.tmp 140) 0, type := 0, pos := "law.go:74", after := #[{ on := 15, ground := Ground.data }, { on := 0, ground := Ground.phase }, { on := 1, ground := Ground.phase }, { on := 2, ground := Ground.phase }, { on := 3, ground := Ground.phase }, { on := 4, ground := Ground.phase }, { on := 5, ground := Ground.phase }, { on := 6, ground := Ground.phase }, { on := 7, ground := Ground.phase }, { on := 8, ground := Ground.phase }, { on := 9, ground := Ground.phase }, { on := 10, ground := Ground.phase }, { on := 11, ground := Ground.phase }, { on := 12, ground := Ground.phase }, { on := 13, ground := Ground.phase }, { on := 14, ground := Ground.phase }], guard := none }) (v := ?vu91) rfl (by kernel_rfl) (by kernel_rfl) (by kernel_rfl) (fun _ _ _ h => bp_put (P := Try.prog) (fn := Try.f14) _ _ _ h) (Or.inl ⟨by rfl, ?hyu91⟩) (by assumption) ?restu91
      case hyu91 => (intro w hSw; (try dsimp only at hSw); go_simp; (try with_reducible rfl))
      try simp only [Act.put, List.setIfInBounds_toArray, List.set_cons_zero, List.set_cons_succ]
      refine wpAnyH_ready (rs := [17]) (by kernel_rfl) (by simp) ?_
      refine AllReadyH.cons (o := { dst := none, op := Op.store 30 (Operand.tmp 141) (Operand.tmp 139), type := 0, pos := "law.go:74", after := #[{ on := 16, ground := Ground.data }, { on := 14, ground := Ground.data }, { on := 14, ground := Ground.chain }, { on := 0, ground := Ground.phase }, { on := 1, ground := Ground.phase }, { on := 2, ground := Ground.phase }, { on := 3, ground := Ground.phase }, { on := 4, ground := Ground.phase }, { on := 5, ground := Ground.phase }, { on := 6, ground := Ground.phase }, { on := 7, ground := Ground.phase }, { on := 8, ground := Ground.phase }, { on := 9, ground := Ground.phase }, { on := 10, ground := Ground.phase }, { on := 11, ground := Ground.phase }, { on := 12, ground := Ground.phase }, { on := 13, ground := Ground.phase }, { on := 14, ground := Ground.phase }], guard := none }) rfl (fun K hK => ?_) AllReadyH.nil
      go_simp
      refine hK.out _ _ ?_ (fun hHeldB => ?_)
      · (try dsimp only); first | exact HK0.out | exact HK1.out | exact HK7.out | exact HK8.out
      clear hK K hHeld
      have hHeld := hHeldB
      clear hHeldB
      try simp only [Act.put, List.setIfInBounds_toArray, List.set_cons_zero, List.set_cons_succ]
      refine wpAnyH_done (by kernel_rfl) ?_ _
      go_wp2
      go_end0
      rw [HPR.out]
      obtain ⟨H, hL⟩ := HL.out
      exact ⟨H, (HL2.out.trans hL).of_below HB1.out, Or.inl ⟨rfl, rfl⟩⟩
    refine AllReadyH.cons (o := { dst := some 138, op := Op.buildSlice 30 3 #[(0, Operand.const (Value.int IntKind.i64 (-2))), (1, Operand.tmp 133), (2, Operand.tmp 137)], type := 30, pos := "law.go:74", after := #[{ on := 8, ground := Ground.data }, { on := 12, ground := Ground.data }], guard := none }) rfl (fun K hK => ?_) AllReadyH.nil
    go_simp
    refine hK.out _ _ ?_ (fun hHeldB => ?_)
    · (try dsimp only); first | exact HK0.out | exact HK1.out | exact HK7.out | exact HK8.out
    clear hK K hHeld
    have hHeld := hHeldB
    clear hHeldB
    try simp only [Act.put, List.setIfInBounds_toArray, List.set_cons_zero, List.set_cons_succ]
    refine wpAnyH_ready (rs := [4]) (by kernel_rfl) (by simp) ?_
    refine AllReadyH.cons (o := { dst := some 129, op := Op.load 30 (Operand.tmp 128), type := 30, pos := "law.go:74", after := #[{ on := 3, ground := Ground.data }], guard := none }) rfl (fun K hK => ?_) AllReadyH.nil
    go_simp
    refine hK.out _ _ ?_ (fun hHeldB => ?_)
    · (try dsimp only); first | exact HK0.out | exact HK1.out | exact HK7.out | exact HK8.out
    clear hK K hHeld
    have hHeld := hHeldB
    clear hHeldB
    try simp only [Act.put, List.setIfInBounds_toArray, List.set_cons_zero, List.set_cons_succ]
    refine wpAnyH_ready (rs := [14]) (by kernel_rfl) (by simp) ?_
    refine AllReadyH.cons (o := { dst := some 139, op := Op.call { callee := Callee.builtin Builtin.append, args := #[Operand.tmp 129, Operand.tmp 138], argTypes := #[30, 30] }, type := 30, pos := "law.go:74", after := #[{ on := 4, ground := Ground.data }, { on := 13, ground := Ground.data }], guard := none }) rfl (fun K hK => ?_) AllReadyH.nil
    refine step_app_at eInt rfl _ _ rfl ((HX.out.ow.alloc _).drew) (Nat.zero_le _) (row_rd (V := ivs (gt [(-2), c0, a0])) (heap_new1 w2 (.cells #[.int .i64 (-2), .int .i64 c0, .int .i64 a0] 3)) (by decide) (fun j hj => by match j, hj with | 0, _ => rfl | 1, _ => rfl | 2, _ => rfl)) (by decide) (ivs_one _ _) (y0.notes.length + 3) rfl (by omega) (ivs (gt (y0.notes ++ [(-2), c0, a0]))) (fun j _ => catV_gt y0.notes [(-2), c0, a0] j) rfl rfl ?_
    intro a7 c7 w7 hO7 hG7 hA7
    have hKr : Kp (fun b => (Value.slice av y0.notes.length ac).ownBlock = some b) w2 w7 := (Kp.of_below (F := fun b => (Value.slice av y0.notes.length ac).ownBlock = some b) ((below1 w2 (.cells #[.int .i64 (-2), .int .i64 c0, .int .i64 a0] 3)).drew)).trans (Kp.of_grown (F := fun b => (Value.slice av y0.notes.length ac).ownBlock = some b) hG7 (fun k hk => hk)) (fun _ _ h => h)
    obtain ⟨k7, hput⟩ := ws_put (N := (y0.notes.length + 3)) (l := [(-2), c0, a0]) D (Nat.le_trans hlo HLO.out) HX.out rfl hO7 hKr (by simp) hA7
    have HL : Hid (∃ G9, Lft (WS M w0.heap.size bw) G w2 (y0.note [(-2), c0, a0]) G9 (w7.setCell ⟨bw, 0, none⟩ (.slice a7 (y0.notes.length + 3) c7))) := hput
    have f7 : w7.cell? ⟨bw, 0, none⟩ = some (.slice av y0.notes.length ac) := by rw [cell_of_row _ _ _ _ _ _ k7]; rfl
    have z7 : w7.frozen? ⟨bw, 0, none⟩ = false := by simp [World.frozen?, k7]
    have HK7 : Hid (Kp (fun b => (Value.slice av y0.notes.length ac).ownBlock = some b ∨ b = bw) w2 w7) := hKr.mono fun _ _ h => Or.inl h
    have HK8 : Hid (Kp (fun b => (Value.slice av y0.notes.length ac).ownBlock = some b ∨ b = bw) w2 (w7.setCell ⟨bw, 0, none⟩ (.slice a7 (y0.notes.length + 3) c7))) := HK7.out.set (p := ⟨bw, 0, none⟩) (Or.inl (Or.inr rfl)) _
    clear hO7 hG7 hA7 hKr hput k7
    refine hK.out _ _ ?_ (fun hHeldB => ?_)
    · (try dsimp only); first | exact HK0.out | exact HK1.out | exact HK7.out | exact HK8.out
    clear hK K hHeld
    have hHeld := hHeldB
    clear hHeldB
    try simp only [Act.put, List.setIfInBounds_toArray, List.set_cons_zero, List.set_cons_succ]
    refine wpAnyH_take (i := 15) (oi := { dst := some 140, op := Op.nilCheck (Operand.tmp 125), type := 0, pos := "law.go:74", after := #[{ on := 0, ground := Ground.data }, { on := 0, ground := Ground.phase }, { on := 1, ground := Ground.phase }, { on := 2, ground := Ground.phase }, { on := 3, ground := Ground.phase }, { on := 4, ground := Ground.phase }, { on := 5, ground := Ground.phase }, { on := 6, ground := Ground.phase }, { on := 7, ground := Ground.phase }, { on := 8, ground := Ground.phase }, { on := 9, ground := Ground.phase }, { on := 10, ground := Ground.phase }, { on := 11, ground := Ground.phase }, { on := 12, ground := Ground.phase }, { on := 13, ground := Ground.phase }, { on := 14, ground := Ground.phase }], guard := none }) (v := ?vu92) rfl (by kernel_rfl) (by kernel_rfl) (by kernel_rfl) (fun _ _ _ h => bp_put (P := Try.prog) (fn := Try.f14) _ _ _ h) (Or.inl ⟨by rfl, ?hyu92⟩) (by assumption) ?restu92
    case hyu92 => (intro w hSw; (try dsimp only at hSw); go_simp; (try with_reducible rfl))
    try simp only [Act.put, List.setIfInBounds_toArray, List.set_cons_zero, List.set_cons_succ]
    refine wpAnyH_take (i := 16) (oi := { dst := some 141, op := Op.fieldAddr 32 (Operand.tmp 140) 0, type := 0, pos := "law.go:74", after := #[{ on := 15, ground := Ground.data }, { on := 0, ground := Ground.phase }, { on := 1, ground := Ground.phase }, { on := 2, ground := Ground.phase }, { on := 3, ground := Ground.phase }, { on := 4, ground := Ground.phase }, { on := 5, ground := Ground.phase }, { on := 6, ground := Ground.phase }, { on := 7, ground := Ground.phase }, { on := 8, ground := Ground.phase }, { on := 9, ground := Ground.phase }, { on := 10, ground := Ground.phase }, { on := 11, ground := Ground.phase }, { on := 12, ground := Ground.phase }, { on := 13, ground := Ground.phase }, { on := 14, ground := Ground.phase }], guard := none }) (v := ?vu93) rfl (by kernel_rfl) (by kernel_rfl) (by kernel_rfl) (fun _ _ _ h => bp_put (P := Try.prog) (fn := Try.f14) _ _ _ h) (Or.inl ⟨by rfl, ?hyu93⟩) (by assumption) ?restu93
    case hyu93 => (intro w hSw; (try dsimp only at hSw); go_simp; (try with_reducible rfl))
    try simp only [Act.put, List.setIfInBounds_toArray, List.set_cons_zero, List.set_cons_succ]
    refine wpAnyH_ready (rs := [17]) (by kernel_rfl) (by simp) ?_
    refine AllReadyH.cons (o := { dst := none, op := Op.store 30 (Operand.tmp 141) (Operand.tmp 139), type := 0, pos := "law.go:74", after := #[{ on := 16, ground := Ground.data }, { on := 14, ground := Ground.data }, { on := 14, ground := Ground.chain }, { on := 0, ground := Ground.phase }, { on := 1, ground := Ground.phase }, { on := 2, ground := Ground.phase }, { on := 3, ground := Ground.phase }, { on := 4, ground := Ground.phase }, { on := 5, ground := Ground.phase }, { on := 6, ground := Ground.phase }, { on := 7, ground := Ground.phase }, { on := 8, ground := Ground.phase }, { on := 9, ground := Ground.phase }, { on := 10, ground := Ground.phase }, { on := 11, ground := Ground.phase }, { on := 12, ground := Ground.phase }, { on := 13, ground := Ground.phase }, { on := 14, ground := Ground.phase }], guard := none }) rfl (fun K hK => ?_) AllReadyH.nil
    go_simp
    refine hK.out _ _ ?_ (fun hHeldB => ?_)
    · (try dsimp only); first | exact HK0.out | exact HK1.out | exact HK7.out | exact HK8.out
    clear hK K hHeld
    have hHeld := hHeldB
    clear hHeldB
    try simp only [Act.put, List.setIfInBounds_toArray, List.set_cons_zero, List.set_cons_succ]
    refine wpAnyH_done (by kernel_rfl) ?_ _
    go_wp2
    go_end0
    rw [HPR.out]
    obtain ⟨H, hL⟩ := HL.out
    exact ⟨H, (HL2.out.trans hL).of_below HB1.out, Or.inl ⟨rfl, rfl⟩⟩
  | num m =>
    obtain rfl : e = .returned (.tuple #[.iface 3 (.int .i64 m), .bool false]) := by
      rcases he with ⟨h, -⟩ | ⟨v, h, hv⟩
      · cases h
      · replace hv : v = .iface 3 (.int .i64 m) := hv
        rw [h, hv]
    clear he
    have ta1 : ∀ w, (Instr.typeAssert (.iface 3 (.int .i64 m)) 20 44 true).run Try.prog w = .ok (.tuple #[.pointer none, .bool false]) w := fun _ => by kernel_rfl
    have ta2 : ∀ w, (Instr.typeAssert (.iface 3 (.int .i64 m)) 20 3 true).run Try.prog w = .ok (.tuple #[.int .i64 m, .bool true]) w := fun _ => by kernel_rfl
    go_wp2
    obtain ⟨av, ac, p, FM, hX⟩ := HS2.out
    have HX : Hid (WX M w0.heap.size bw G w2 y0 av ac p FM) := hX
    clear hX
    have HK0 : Hid (Kp (fun b => (Value.slice av y0.notes.length ac).ownBlock = some b ∨ b = bw) w2 w2.drew) := Kp.of_below (below_refl w2).drew
    have HK1 : Hid (Kp (fun b => (Value.slice av y0.notes.length ac).ownBlock = some b ∨ b = bw) w2 (w2.alloc (.cells #[.int .i64 (-3), .int .i64 m] 3)).drew) := Kp.of_below ((below1 w2 _).drew)
    have cN0 : w2.drew.cell? ⟨bw, 0, none⟩ = some (.slice av y0.notes.length ac) := by show w2.cell? _ = _; rw [cell_of_row _ _ _ _ _ _ HX.out.hb]; rfl
    have cN1 : (w2.alloc (.cells #[.int .i64 (-3), .int .i64 m] 3)).cell? ⟨bw, 0, none⟩ = some (.slice av y0.notes.length ac) := by rw [World.cell?_alloc_some w2 _ _ (by show (World.cell? w2.drew _).isSome = true; rw [cN0]; rfl)]; exact cN0
    have cN2 : (w2.alloc (.cells #[.int .i64 (-3), .int .i64 m] 3)).drew.cell? ⟨bw, 0, none⟩ = some (.slice av y0.notes.length ac) := cN1
    have HN0 : Hid (¬ (fun b => (Value.slice av y0.notes.length ac).ownBlock = some b ∨ b = bw) _) := kf_no HX.out HP0.out (by decide) (by decide)
    refine wp_region_held_drew (S := (fun w' => Kp (fun b => (Value.slice av y0.notes.length ac).ownBlock = some b ∨ b = bw) w2 w')) (by kernel_rfl) ?_ (fun hHeld => ?_)
    · (try dsimp only); first | exact HK0.out | exact HK1.out | exact HK7.out | exact HK8.out
    refine wpAnyH_take (i := 0) (oi := { dst := some 144, op := Op.load 27 (Operand.tmp 2), type := 27, pos := "law.go:76", after := #[], guard := none }) (v := ?vu94) rfl (by kernel_rfl) (by kernel_rfl) (by kernel_rfl) (fun _ _ _ h => bp_put (P := Try.prog) (fn := Try.f14) _ _ _ h) (Or.inl ⟨by rfl, ?hyu94⟩) (by assumption) ?restu94
    case hyu94 => (intro wz hSw; (try dsimp only at hSw); have q0_0 := cell_of_row _ _ 0 _ _ _ (hSw.heap HP0.out HN0.out); (try simp only [List.getElem?_toArray, List.getElem?_cons_zero, List.getElem?_cons_succ] at q0_0); go_simp; (try with_reducible rfl))
    try simp only [Act.put, List.setIfInBounds_toArray, List.set_cons_zero, List.set_cons_succ]
    refine wpAnyH_take (i := 1) (oi := { dst := some 145, op := Op.load 27 (Operand.tmp 2), type := 27, pos := "law.go:76", after := #[], guard := none }) (v := ?vu95) rfl (by kernel_rfl) (by kernel_rfl) (by kernel_rfl) (fun _ _ _ h => bp_put (P := Try.prog) (fn := Try.f14) _ _ _ h) (Or.inl ⟨by rfl, ?hyu95⟩) (by assumption) ?restu95
    case hyu95 => (intro wz hSw; (try dsimp only at hSw); have q0_0 := cell_of_row _ _ 0 _ _ _ (hSw.heap HP0.out HN0.out); (try simp only [List.getElem?_toArray, List.getElem?_cons_zero, List.getElem?_cons_succ] at q0_0); go_simp; (try with_reducible rfl))
    try simp only [Act.put, List.setIfInBounds_toArray, List.set_cons_zero, List.set_cons_succ]
    refine wpAnyH_take (i := 2) (oi := { dst := some 146, op := Op.nilCheck (Operand.tmp 145), type := 0, pos := "law.go:76", after := #[{ on := 1, ground := Ground.data }], guard := none }) (v := ?vu96) rfl (by kernel_rfl) (by kernel_rfl) (by kernel_rfl) (fun _ _ _ h => bp_put (P := Try.prog) (fn := Try.f14) _ _ _ h) (Or.inl ⟨by rfl, ?hyu96⟩) (by assumption) ?restu96
    case hyu96 => (intro w hSw; (try dsimp only at hSw); go_simp; (try with_reducible rfl))
    try simp only [Act.put, List.setIfInBounds_toArray, List.set_cons_zero, List.set_cons_succ]
    refine wpAnyH_take (i := 3) (oi := { dst := some 147, op := Op.fieldAddr 32 (Operand.tmp 146) 0, type := 0, pos := "law.go:76", after := #[{ on := 2, ground := Ground.data }], guard := none }) (v := ?vu97) rfl (by kernel_rfl) (by kernel_rfl) (by kernel_rfl) (fun _ _ _ h => bp_put (P := Try.prog) (fn := Try.f14) _ _ _ h) (Or.inl ⟨by rfl, ?hyu97⟩) (by assumption) ?restu97
    case hyu97 => (intro w hSw; (try dsimp only at hSw); go_simp; (try with_reducible rfl))
    try simp only [Act.put, List.setIfInBounds_toArray, List.set_cons_zero, List.set_cons_succ]
    refine wpAnyH_take (i := 5) (oi := { dst := some 149, op := Op.move (Operand.tmp 12), type := 3, pos := "law.go:76", after := #[], guard := none }) (v := ?vu98) rfl (by kernel_rfl) (by kernel_rfl) (by kernel_rfl) (fun _ _ _ h => bp_put (P := Try.prog) (fn := Try.f14) _ _ _ h) (Or.inl ⟨by rfl, ?hyu98⟩) (by assumption) ?restu98
    case hyu98 => (intro w hSw; (try dsimp only at hSw); go_simp; (try with_reducible rfl))
    try simp only [Act.put, List.setIfInBounds_toArray, List.set_cons_zero, List.set_cons_succ]
    refine wpAnyH_ready (rs := [4, 6]) (by kernel_rfl) (by simp) ?_
    refine AllReadyH.cons (o := { dst := some 148, op := Op.load 30 (Operand.tmp 147), type := 30, pos := "law.go:76", after := #[{ on := 3, ground := Ground.data }], guard := none }) rfl (fun K hK => ?_) ?_
    · skip
      go_simp
      refine hK.out _ _ ?_ (fun hHeldB => ?_)
      · (try dsimp only); first | exact HK0.out | exact HK1.out | exact HK7.out | exact HK8.out
      clear hK K hHeld
      have hHeld := hHeldB
      clear hHeldB
      try simp only [Act.put, List.setIfInBounds_toArray, List.set_cons_zero, List.set_cons_succ]
      refine wpAnyH_ready (rs := [6]) (by kernel_rfl) (by simp) ?_
      refine AllReadyH.cons (o := { dst := some 150, op := Op.buildSlice 30 2 #[(0, Operand.const (Value.int IntKind.i64 (-3))), (1, Operand.tmp 149)], type := 30, pos := "law.go:76", after := #[{ on := 5, ground := Ground.data }], guard := none }) rfl (fun K hK => ?_) AllReadyH.nil
      go_simp
      refine hK.out _ _ ?_ (fun hHeldB => ?_)
      · (try dsimp only); first | exact HK0.out | exact HK1.out | exact HK7.out | exact HK8.out
      clear hK K hHeld
      have hHeld := hHeldB
      clear hHeldB
      try simp only [Act.put, List.setIfInBounds_toArray, List.set_cons_zero, List.set_cons_succ]
      refine wpAnyH_ready (rs := [7]) (by kernel_rfl) (by simp) ?_
      refine AllReadyH.cons (o := { dst := some 151, op := Op.call { callee := Callee.builtin Builtin.append, args := #[Operand.tmp 148, Operand.tmp 150], argTypes := #[30, 30] }, type := 30, pos := "law.go:76", after := #[{ on := 4, ground := Ground.data }, { on := 6, ground := Ground.data }], guard := none }) rfl (fun K hK => ?_) AllReadyH.nil
      refine step_app_at eInt rfl _ _ rfl ((HX.out.ow.alloc _).drew) (Nat.zero_le _) (row_rd (V := ivs (gt [(-3), m])) (heap_new1 w2 (.cells #[.int .i64 (-3), .int .i64 m] 3)) (by decide) (fun j hj => by match j, hj with | 0, _ => rfl | 1, _ => rfl)) (by decide) (ivs_one _ _) (y0.notes.length + 2) rfl (by omega) (ivs (gt (y0.notes ++ [(-3), m]))) (fun j _ => catV_gt y0.notes [(-3), m] j) rfl rfl ?_
      intro a7 c7 w7 hO7 hG7 hA7
      have hKr : Kp (fun b => (Value.slice av y0.notes.length ac).ownBlock = some b) w2 w7 := (Kp.of_below (F := fun b => (Value.slice av y0.notes.length ac).ownBlock = some b) ((below1 w2 (.cells #[.int .i64 (-3), .int .i64 m] 3)).drew)).trans (Kp.of_grown (F := fun b => (Value.slice av y0.notes.length ac).ownBlock = some b) hG7 (fun k hk => hk)) (fun _ _ h => h)
      obtain ⟨k7, hput⟩ := ws_put (N := (y0.notes.length + 2)) (l := [(-3), m]) D (Nat.le_trans hlo HLO.out) HX.out rfl hO7 hKr (by simp) hA7
      have HL : Hid (∃ G9, Lft (WS M w0.heap.size bw) G w2 (y0.note [(-3), m]) G9 (w7.setCell ⟨bw, 0, none⟩ (.slice a7 (y0.notes.length + 2) c7))) := hput
      have f7 : w7.cell? ⟨bw, 0, none⟩ = some (.slice av y0.notes.length ac) := by rw [cell_of_row _ _ _ _ _ _ k7]; rfl
      have z7 : w7.frozen? ⟨bw, 0, none⟩ = false := by simp [World.frozen?, k7]
      have HK7 : Hid (Kp (fun b => (Value.slice av y0.notes.length ac).ownBlock = some b ∨ b = bw) w2 w7) := hKr.mono fun _ _ h => Or.inl h
      have HK8 : Hid (Kp (fun b => (Value.slice av y0.notes.length ac).ownBlock = some b ∨ b = bw) w2 (w7.setCell ⟨bw, 0, none⟩ (.slice a7 (y0.notes.length + 2) c7))) := HK7.out.set (p := ⟨bw, 0, none⟩) (Or.inl (Or.inr rfl)) _
      clear hO7 hG7 hA7 hKr hput k7
      refine hK.out _ _ ?_ (fun hHeldB => ?_)
      · (try dsimp only); first | exact HK0.out | exact HK1.out | exact HK7.out | exact HK8.out
      clear hK K hHeld
      have hHeld := hHeldB
      clear hHeldB
      try simp only [Act.put, List.setIfInBounds_toArray, List.set_cons_zero, List.set_cons_succ]
      refine wpAnyH_take (i := 8) (oi := { dst := some 152, op := Op.nilCheck (Operand.tmp 144), type := 0, pos := "law.go:76", after := #[{ on := 0, ground := Ground.data }, { on := 0, ground := Ground.phase }, { on := 1, ground := Ground.phase }, { on := 2, ground := Ground.phase }, { on := 3, ground := Ground.phase }, { on := 4, ground := Ground.phase }, { on := 5, ground := Ground.phase }, { on := 6, ground := Ground.phase }, { on := 7, ground := Ground.phase }], guard := none }) (v := ?vu99) rfl (by kernel_rfl) (by kernel_rfl) (by kernel_rfl) (fun _ _ _ h => bp_put (P := Try.prog) (fn := Try.f14) _ _ _ h) (Or.inl ⟨by rfl, ?hyu99⟩) (by assumption) ?restu99
      case hyu99 => (intro w hSw; (try dsimp only at hSw); go_simp; (try with_reducible rfl))
      try simp only [Act.put, List.setIfInBounds_toArray, List.set_cons_zero, List.set_cons_succ]
      refine wpAnyH_take (i := 9) (oi := { dst := some 153, op := Op.fieldAddr 32 (Operand.tmp 152) 0, type := 0, pos := "law.go:76", after := #[{ on := 8, ground := Ground.data }, { on := 0, ground := Ground.phase }, { on := 1, ground := Ground.phase }, { on := 2, ground := Ground.phase }, { on := 3, ground := Ground.phase }, { on := 4, ground := Ground.phase }, { on := 5, ground := Ground.phase }, { on := 6, ground := Ground.phase }, { on := 7, ground := Ground.phase }], guard := none }) (v := ?vu100) rfl (by kernel_rfl) (by kernel_rfl) (by kernel_rfl) (fun _ _ _ h => bp_put (P := Try.prog) (fn := Try.f14) _ _ _ h) (Or.inl ⟨by rfl, ?hyu100⟩) (by assumption) ?restu100
      case hyu100 => (intro w hSw; (try dsimp only at hSw); go_simp; (try with_reducible rfl))
      try simp only [Act.put, List.setIfInBounds_toArray, List.set_cons_zero, List.set_cons_succ]
      refine wpAnyH_ready (rs := [10]) (by kernel_rfl) (by simp) ?_
      refine AllReadyH.cons (o := { dst := none, op := Op.store 30 (Operand.tmp 153) (Operand.tmp 151), type := 0, pos := "law.go:76", after := #[{ on := 9, ground := Ground.data }, { on := 7, ground := Ground.data }, { on := 7, ground := Ground.chain }, { on := 0, ground := Ground.phase }, { on := 1, ground := Ground.phase }, { on := 2, ground := Ground.phase }, { on := 3, ground := Ground.phase }, { on := 4, ground := Ground.phase }, { on := 5, ground := Ground.phase }, { on := 6, ground := Ground.phase }, { on := 7, ground := Ground.phase }], guard := none }) rfl (fun K hK => ?_) AllReadyH.nil
      go_simp
      refine hK.out _ _ ?_ (fun hHeldB => ?_)
      · (try dsimp only); first | exact HK0.out | exact HK1.out | exact HK7.out | exact HK8.out
      clear hK K hHeld
      have hHeld := hHeldB
      clear hHeldB
      try simp only [Act.put, List.setIfInBounds_toArray, List.set_cons_zero, List.set_cons_succ]
      refine wpAnyH_done (by kernel_rfl) ?_ _
      go_wp2
      go_end0
      rw [HPR.out]
      obtain ⟨H, hL⟩ := HL.out
      exact ⟨H, (HL2.out.trans hL).of_below HB1.out, Or.inl ⟨rfl, rfl⟩⟩
    refine AllReadyH.cons (o := { dst := some 150, op := Op.buildSlice 30 2 #[(0, Operand.const (Value.int IntKind.i64 (-3))), (1, Operand.tmp 149)], type := 30, pos := "law.go:76", after := #[{ on := 5, ground := Ground.data }], guard := none }) rfl (fun K hK => ?_) AllReadyH.nil
    go_simp
    refine hK.out _ _ ?_ (fun hHeldB => ?_)
    · (try dsimp only); first | exact HK0.out | exact HK1.out | exact HK7.out | exact HK8.out
    clear hK K hHeld
    have hHeld := hHeldB
    clear hHeldB
    try simp only [Act.put, List.setIfInBounds_toArray, List.set_cons_zero, List.set_cons_succ]
    refine wpAnyH_ready (rs := [4]) (by kernel_rfl) (by simp) ?_
    refine AllReadyH.cons (o := { dst := some 148, op := Op.load 30 (Operand.tmp 147), type := 30, pos := "law.go:76", after := #[{ on := 3, ground := Ground.data }], guard := none }) rfl (fun K hK => ?_) AllReadyH.nil
    go_simp
    refine hK.out _ _ ?_ (fun hHeldB => ?_)
    · (try dsimp only); first | exact HK0.out | exact HK1.out | exact HK7.out | exact HK8.out
    clear hK K hHeld
    have hHeld := hHeldB
    clear hHeldB
    try simp only [Act.put, List.setIfInBounds_toArray, List.set_cons_zero, List.set_cons_succ]
    refine wpAnyH_ready (rs := [7]) (by kernel_rfl) (by simp) ?_
    refine AllReadyH.cons (o := { dst := some 151, op := Op.call { callee := Callee.builtin Builtin.append, args := #[Operand.tmp 148, Operand.tmp 150], argTypes := #[30, 30] }, type := 30, pos := "law.go:76", after := #[{ on := 4, ground := Ground.data }, { on := 6, ground := Ground.data }], guard := none }) rfl (fun K hK => ?_) AllReadyH.nil
    refine step_app_at eInt rfl _ _ rfl ((HX.out.ow.alloc _).drew) (Nat.zero_le _) (row_rd (V := ivs (gt [(-3), m])) (heap_new1 w2 (.cells #[.int .i64 (-3), .int .i64 m] 3)) (by decide) (fun j hj => by match j, hj with | 0, _ => rfl | 1, _ => rfl)) (by decide) (ivs_one _ _) (y0.notes.length + 2) rfl (by omega) (ivs (gt (y0.notes ++ [(-3), m]))) (fun j _ => catV_gt y0.notes [(-3), m] j) rfl rfl ?_
    intro a7 c7 w7 hO7 hG7 hA7
    have hKr : Kp (fun b => (Value.slice av y0.notes.length ac).ownBlock = some b) w2 w7 := (Kp.of_below (F := fun b => (Value.slice av y0.notes.length ac).ownBlock = some b) ((below1 w2 (.cells #[.int .i64 (-3), .int .i64 m] 3)).drew)).trans (Kp.of_grown (F := fun b => (Value.slice av y0.notes.length ac).ownBlock = some b) hG7 (fun k hk => hk)) (fun _ _ h => h)
    obtain ⟨k7, hput⟩ := ws_put (N := (y0.notes.length + 2)) (l := [(-3), m]) D (Nat.le_trans hlo HLO.out) HX.out rfl hO7 hKr (by simp) hA7
    have HL : Hid (∃ G9, Lft (WS M w0.heap.size bw) G w2 (y0.note [(-3), m]) G9 (w7.setCell ⟨bw, 0, none⟩ (.slice a7 (y0.notes.length + 2) c7))) := hput
    have f7 : w7.cell? ⟨bw, 0, none⟩ = some (.slice av y0.notes.length ac) := by rw [cell_of_row _ _ _ _ _ _ k7]; rfl
    have z7 : w7.frozen? ⟨bw, 0, none⟩ = false := by simp [World.frozen?, k7]
    have HK7 : Hid (Kp (fun b => (Value.slice av y0.notes.length ac).ownBlock = some b ∨ b = bw) w2 w7) := hKr.mono fun _ _ h => Or.inl h
    have HK8 : Hid (Kp (fun b => (Value.slice av y0.notes.length ac).ownBlock = some b ∨ b = bw) w2 (w7.setCell ⟨bw, 0, none⟩ (.slice a7 (y0.notes.length + 2) c7))) := HK7.out.set (p := ⟨bw, 0, none⟩) (Or.inl (Or.inr rfl)) _
    clear hO7 hG7 hA7 hKr hput k7
    refine hK.out _ _ ?_ (fun hHeldB => ?_)
    · (try dsimp only); first | exact HK0.out | exact HK1.out | exact HK7.out | exact HK8.out
    clear hK K hHeld
    have hHeld := hHeldB
    clear hHeldB
    try simp only [Act.put, List.setIfInBounds_toArray, List.set_cons_zero, List.set_cons_succ]
    refine wpAnyH_take (i := 8) (oi := { dst := some 152, op := Op.nilCheck (Operand.tmp 144), type := 0, pos := "law.go:76", after := #[{ on := 0, ground := Ground.data }, { on := 0, ground := Ground.phase }, { on := 1, ground := Ground.phase }, { on := 2, ground := Ground.phase }, { on := 3, ground := Ground.phase }, { on := 4, ground := Ground.phase }, { on := 5, ground := Ground.phase }, { on := 6, ground := Ground.phase }, { on := 7, ground := Ground.phase }], guard := none }) (v := ?vu101) rfl (by kernel_rfl) (by kernel_rfl) (by kernel_rfl) (fun _ _ _ h => bp_put (P := Try.prog) (fn := Try.f14) _ _ _ h) (Or.inl ⟨by rfl, ?hyu101⟩) (by assumption) ?restu101
    case hyu101 => (intro w hSw; (try dsimp only at hSw); go_simp; (try with_reducible rfl))
    try simp only [Act.put, List.setIfInBounds_toArray, List.set_cons_zero, List.set_cons_succ]
    refine wpAnyH_take (i := 9) (oi := { dst := some 153, op := Op.fieldAddr 32 (Operand.tmp 152) 0, type := 0, pos := "law.go:76", after := #[{ on := 8, ground := Ground.data }, { on := 0, ground := Ground.phase }, { on := 1, ground := Ground.phase }, { on := 2, ground := Ground.phase }, { on := 3, ground := Ground.phase }, { on := 4, ground := Ground.phase }, { on := 5, ground := Ground.phase }, { on := 6, ground := Ground.phase }, { on := 7, ground := Ground.phase }], guard := none }) (v := ?vu102) rfl (by kernel_rfl) (by kernel_rfl) (by kernel_rfl) (fun _ _ _ h => bp_put (P := Try.prog) (fn := Try.f14) _ _ _ h) (Or.inl ⟨by rfl, ?hyu102⟩) (by assumption) ?restu102
    case hyu102 => (intro w hSw; (try dsimp only at hSw); go_simp; (try with_reducible rfl))
    try simp only [Act.put, List.setIfInBounds_toArray, List.set_cons_zero, List.set_cons_succ]
    refine wpAnyH_ready (rs := [10]) (by kernel_rfl) (by simp) ?_
    refine AllReadyH.cons (o := { dst := none, op := Op.store 30 (Operand.tmp 153) (Operand.tmp 151), type := 0, pos := "law.go:76", after := #[{ on := 9, ground := Ground.data }, { on := 7, ground := Ground.data }, { on := 7, ground := Ground.chain }, { on := 0, ground := Ground.phase }, { on := 1, ground := Ground.phase }, { on := 2, ground := Ground.phase }, { on := 3, ground := Ground.phase }, { on := 4, ground := Ground.phase }, { on := 5, ground := Ground.phase }, { on := 6, ground := Ground.phase }, { on := 7, ground := Ground.phase }], guard := none }) rfl (fun K hK => ?_) AllReadyH.nil
    go_simp
    refine hK.out _ _ ?_ (fun hHeldB => ?_)
    · (try dsimp only); first | exact HK0.out | exact HK1.out | exact HK7.out | exact HK8.out
    clear hK K hHeld
    have hHeld := hHeldB
    clear hHeldB
    try simp only [Act.put, List.setIfInBounds_toArray, List.set_cons_zero, List.set_cons_succ]
    refine wpAnyH_done (by kernel_rfl) ?_ _
    go_wp2
    go_end0
    rw [HPR.out]
    obtain ⟨H, hL⟩ := HL.out
    exact ⟨H, (HL2.out.trans hL).of_below HB1.out, Or.inl ⟨rfl, rfl⟩⟩
  | nilB => exact absurd rfl HNIL.out
set_option maxHeartbeats 16000000 in
theorem does_6 {M : (Nat → Prop) → World → Value → Int → Prop} (C : BailSays) (D : MeterSays M) (w0 : World) (bw : Nat) (F : Nat → Prop) (w : World) (x : St) (code n : Int) (na : Option Addr) (len cap : Nat) (V : Nat → NV) (hbl : Below w0.heap.size w0 w) (hs : WS M w0.heap.size bw F w x) (hr : NRow w0 ⟨6, code, n, na, len, cap⟩ V) (r0 : Run) (m0 : Nat) (hd0 : DoesP M w0 bw (kidNV V len 0) r0 m0) (r1 : Run) (m1 : Nat) (hd1 : DoesP M w0 bw (kidNV V len 1) r1 m1) (hb0 : RunB m0 r0) (hx : x.notes.length + m0 + m1 ≤ 99990) (hin : InR x) :
    Calls Try.prog 14 #[(.pointer (some ⟨bw, 0, none⟩)), .agg #[.int .i64 6, .int .i64 code, .int .i64 n, .slice na len cap]] w (Fins (WS M w0.heap.size bw) F w (both r0 r1 x).1 (both r0 r1 x).2) := by
  obtain ⟨W1, hW1⟩ : ∃ W1, W1 = (w.alloc (.cells #[.pointer (some ⟨bw, 0, none⟩)] 27)).alloc (.cells #[.int .i64 6, .int .i64 code, .int .i64 n, .slice na len cap] 24) := ⟨_, rfl⟩
  have HB1 : Hid (Below w.heap.size w W1) := by rw [hW1]; exact (below1 w _).alloc (by simp) _
  have HQ0 : Hid (W1.heap[w.heap.size]? = some (.cells #[.pointer (some ⟨bw, 0, none⟩)] 27)) := by show W1.heap[_]? = _; rw [hW1]; exact heap_new2 w _ _
  have HQ1 : Hid (W1.heap[w.heap.size + 1]? = some (.cells #[.int .i64 6, .int .i64 code, .int .i64 n, .slice na len cap] 24)) := by
    show W1.heap[_]? = _
    rw [hW1]
    have := heap_new1 (w.alloc (.cells #[.pointer (some ⟨bw, 0, none⟩)] 27)) (.cells #[.int .i64 6, .int .i64 code, .int .i64 n, .slice na len cap] 24)
    simpa using this
  have HZ1 : Hid (W1.heap.size = w.heap.size + 2) := by show _ = _; rw [hW1]; simp
  
  have HS1 : Hid (WS M w0.heap.size bw F W1 x) := (ws_st D _ bw).below hs HB1.out
  have hlo : w0.heap.size ≤ w.heap.size := hbl.size
  have HLO1 : Hid (w.heap.size ≤ W1.heap.size) := HB1.out.size
  have HLT : Hid (∀ b, F b → b < w.heap.size) := (ws_st D _ bw).lt hs
  have hbl1 : Below w0.heap.size w0 W1 := hbl.trans (HB1.out.mono hbl.size)
  have HBL1 : Hid (Below w0.heap.size w0 W1) := hbl1
  have hrow0 := hr
  have HR1 : Hid (NRow W1 ⟨6, code, n, na, len, cap⟩ V) := hr.below (below_step (below_refl w0) hbl1)
  have n1 : ¬ F w.heap.size := fun h => by have := HLT.out _ h; omega
  have n2 : ¬ F (w.heap.size + 1) := fun h => by have := HLT.out _ h; omega
  have HN1 : Hid (¬ F w.heap.size) := n1
  have HN2 : Hid (¬ F (w.heap.size + 1)) := n2
  have hmf : ∀ (fn : Fn) (first cap : Array Value) (w : World), (Instr.makeFunc fn first cap).run Try.prog w = .ok (.func fn first cap) w := fun _ _ _ _ => rfl
  have q2 : W1.cell? ⟨w.heap.size + 1, 1, none⟩ = some (.int .i64 code) := by rw [cell_of_row _ _ _ _ _ _ HQ1.out]; rfl
  have HD0 : Hid (DoesP M w0 bw (kidNV V len 0) r0 m0) := hd0
  have HD1 : Hid (DoesP M w0 bw (kidNV V len 1) r1 m1) := hd1
  obtain ⟨e0, y0, hp⟩ : ∃ e0 y0, r0 x = (e0, y0) := ⟨_, _, rfl⟩
  have HPR : Hid (r0 x = (e0, y0)) := hp
  obtain ⟨hnil, hbd, hin0⟩ := hb0 x hin
  rw [hp] at hnil hbd hin0
  simp only at hnil hbd hin0
  have HNIL : Hid (e0 ≠ .nilB) := hnil
  have HBD : Hid (y0.notes.length ≤ x.notes.length + m0) := hbd
  have HIN0 : Hid (InR y0) := hin0
  clear hs hr hbl hbl1 hp hb0 hnil hbd hin0 n1 n2 hd0 hd1
  obtain ⟨e1, z, hp1⟩ : ∃ e1 z, r1 y0 = (e1, z) := ⟨_, _, rfl⟩
  have HPR1 : Hid (r1 y0 = (e1, z)) := hp1
  have HLo : Hid (∀ b, F b → w0.heap.size ≤ b) := by
    obtain ⟨_, _, _, _, h⟩ := HS1.out
    exact h.lo
  have HBO : Hid (both r0 r1 x = (e0.behind e1, z)) := by show both r0 r1 x = _; unfold both; rw [HPR.out]; simp only; rw [HPR1.out]
  have HX0 : Hid (x.notes.length + m0 + m1 ≤ 99990) := hx
  clear hp1
  go_enter Try.func14, Try.ntmps14
  go_wp2_with (go_at_call 20; fail)
  rw [← hW1]
  clear hW1
  refine (C.after (ws_st D _ bw) F W1 x y0 z _ _ _ _ e0 e1 (fnv_cl4 _) (fnv_cl5 _) HS1.out (fun w1 hb hs => cl4_plays D w0.heap.size bw _ _ F w1 x y0 e0 _ code n na len cap V ((hb.block _ (lt_of_heap HQ0.out)).trans HQ0.out) ((hb.block _ (lt_of_heap HQ1.out)).trans HQ1.out) HN1.out HN2.out (HR1.out.below hb) hs _ (kidNV_v V len 0) fun w2 hb2 hs2 => by have := HD0.out F w2 x (HBL1.out.trans ((hb.trans (hb2.mono hb.size)).mono HBL1.out.size)) hs2 (by omega) hin; rwa [HPR.out] at this) (fun w1 G hl => by
    have hb1 : Below w0.heap.size w0 w1 := HBL1.out.trans (hl.2.2.below HBL1.out.size fun b hb hF => by have := HLo.out b hF; omega)
    have hg : ∀ b, ¬ F b → b < W1.heap.size → ¬ G b := fun b hF hb hG => (hl.2.1 b hG).elim hF fun q => by omega
    have hz := HZ1.out
    refine cl5_plays D w0.heap.size bw _ _ G w1 y0 z e1 _ code n na len cap V (hl.2.2.heap HQ0.out HN1.out) (hl.2.2.heap HQ1.out HN2.out) (hg _ HN1.out (by omega)) (hg _ HN2.out (by omega)) ?_ hl.1 _ (kidNV_v V len 1) fun w2 hb2 hs2 => ?_
    · exact hrow0.below (hb1.trans (below_refl w1 |>.mono hb1.size) |> below_step (below_refl w0))
    · have := HD1.out G w2 y0 (hb1.trans (hb2.mono hb1.size)) hs2 (by have := HBD.out; have := HX0.out; omega) HIN0.out
      rwa [HPR1.out] at this)).mono ?_
  rintro e w2 ⟨G, hl, he⟩
  have HL2 : Hid (Lft (WS M w0.heap.size bw) F W1 z G w2) := hl
  have HE : Hid (EnIn W1.heap.size G w2 (e0.behind e1) e) := he
  rcases he with ⟨hr, rfl⟩ | ⟨v, old, rfl, -⟩
  · clear hl hr
    go_wp2
    go_end0
    rw [HBO.out]
    exact ⟨G, HL2.out.of_below HB1.out, HE.out.lower HLO1.out⟩
  · clear hl
    go_wp2
    refine ⟨rfl, ?_⟩
    rw [HBO.out]
    exact ⟨G, HL2.out.of_below HB1.out, HE.out.lower HLO1.out⟩
end Go.Proofs.Ytgighebohbpkiaa
