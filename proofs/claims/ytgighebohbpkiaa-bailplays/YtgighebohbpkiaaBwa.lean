/- does: kinds that call no kid. -/
import Derived.Test.YtgighebohbpkiaaBwk
namespace Go.Proofs.Ytgighebohbpkiaa
open Go.RowKit Fo
set_option maxRecDepth 100000
set_option linter.unusedSimpArgs false
set_option linter.unusedVariables false

set_option maxHeartbeats 16000000 in
theorem does_1 {M : (Nat → Prop) → World → Value → Int → Prop} (C : BailSays) (D : MeterSays M) (lo bw : Nat) (F : Nat → Prop) (w : World) (x : St) (code n : Int) (na : Option Addr) (len cap : Nat) (hlo : lo ≤ w.heap.size) (hx : x.notes.length ≤ 100000) (hs : WS M lo bw F w x) :
    Calls Try.prog 14 #[(.pointer (some ⟨bw, 0, none⟩)), .agg #[.int .i64 1, .int .i64 code, .int .i64 n, .slice na len cap]] w (Fins (WS M lo bw) F w (.bail code n) x) := by
  obtain ⟨W1, hW1⟩ : ∃ W1, W1 = (w.alloc (.cells #[.pointer (some ⟨bw, 0, none⟩)] 27)).alloc (.cells #[.int .i64 1, .int .i64 code, .int .i64 n, .slice na len cap] 24) := ⟨_, rfl⟩
  have HB1 : Hid (Below w.heap.size w W1) := by rw [hW1]; exact (below1 w _).alloc (by simp) _
  have HQ0 : Hid (W1.heap[w.heap.size]? = some (.cells #[.pointer (some ⟨bw, 0, none⟩)] 27)) := by show W1.heap[_]? = _; rw [hW1]; exact heap_new2 w _ _
  have HQ1 : Hid (W1.heap[w.heap.size + 1]? = some (.cells #[.int .i64 1, .int .i64 code, .int .i64 n, .slice na len cap] 24)) := by
    show W1.heap[_]? = _
    rw [hW1]
    have := heap_new1 (w.alloc (.cells #[.pointer (some ⟨bw, 0, none⟩)] 27)) (.cells #[.int .i64 1, .int .i64 code, .int .i64 n, .slice na len cap] 24)
    simpa using this
  have HZ1 : Hid (W1.heap.size = w.heap.size + 2) := by show _ = _; rw [hW1]; simp
  
  have HS1 : Hid (WS M lo bw F W1 x) := (ws_st D lo bw).below hs HB1.out
  have HLO : Hid (w.heap.size ≤ W1.heap.size) := HB1.out.size
  have HLT : Hid (∀ b, F b → b < w.heap.size) := (ws_st D lo bw).lt hs
  have q2 : W1.cell? ⟨w.heap.size + 1, 1, none⟩ = some (.int .i64 code) := by rw [cell_of_row _ _ _ _ _ _ HQ1.out]; rfl
  have q3 : W1.cell? ⟨w.heap.size + 1, 2, none⟩ = some (.int .i64 n) := by rw [cell_of_row _ _ _ _ _ _ HQ1.out]; rfl
  clear hs
  go_enter Try.func14, Try.ntmps14
  go_wp2_with (go_at_call 18; fail)
  rw [← hW1]
  clear hW1
  refine (C.out W1 code n).mono ?_
  rintro e w' ⟨hb, he⟩
  have HB : Hid (Below W1.heap.size W1 w') := hb
  rcases id he with ⟨h, -⟩ | ⟨v, old, rfl, -⟩
  · cases h
  have HE : Hid (EnIn W1.heap.size (fun _ => False) w' (.bail code n) (.panicked ({ v := v, recovered := false } :: old))) := he
  clear hb he
  go_wp2
  exact ⟨rfl, F, ((ws_st D lo bw).lft HS1.out HB.out).of_below HB1.out, (HE.out.grow fun b hb => Nat.lt_of_lt_of_le (HLT.out b hb) HLO.out).lower HLO.out⟩
set_option maxHeartbeats 16000000 in
theorem does_2 {M : (Nat → Prop) → World → Value → Int → Prop} (C : BailSays) (D : MeterSays M) (lo bw : Nat) (F : Nat → Prop) (w : World) (x : St) (code n : Int) (na : Option Addr) (len cap : Nat) (hlo : lo ≤ w.heap.size) (hx : x.notes.length ≤ 100000) (hs : WS M lo bw F w x) :
    Calls Try.prog 14 #[(.pointer (some ⟨bw, 0, none⟩)), .agg #[.int .i64 2, .int .i64 code, .int .i64 n, .slice na len cap]] w (Fins (WS M lo bw) F w (.num n) x) := by
  obtain ⟨W1, hW1⟩ : ∃ W1, W1 = (w.alloc (.cells #[.pointer (some ⟨bw, 0, none⟩)] 27)).alloc (.cells #[.int .i64 2, .int .i64 code, .int .i64 n, .slice na len cap] 24) := ⟨_, rfl⟩
  have HB1 : Hid (Below w.heap.size w W1) := by rw [hW1]; exact (below1 w _).alloc (by simp) _
  have HQ0 : Hid (W1.heap[w.heap.size]? = some (.cells #[.pointer (some ⟨bw, 0, none⟩)] 27)) := by show W1.heap[_]? = _; rw [hW1]; exact heap_new2 w _ _
  have HQ1 : Hid (W1.heap[w.heap.size + 1]? = some (.cells #[.int .i64 2, .int .i64 code, .int .i64 n, .slice na len cap] 24)) := by
    show W1.heap[_]? = _
    rw [hW1]
    have := heap_new1 (w.alloc (.cells #[.pointer (some ⟨bw, 0, none⟩)] 27)) (.cells #[.int .i64 2, .int .i64 code, .int .i64 n, .slice na len cap] 24)
    simpa using this
  have HZ1 : Hid (W1.heap.size = w.heap.size + 2) := by show _ = _; rw [hW1]; simp
  
  have HS1 : Hid (WS M lo bw F W1 x) := (ws_st D lo bw).below hs HB1.out
  have HLO : Hid (w.heap.size ≤ W1.heap.size) := HB1.out.size
  have HLT : Hid (∀ b, F b → b < w.heap.size) := (ws_st D lo bw).lt hs
  have q2 : W1.cell? ⟨w.heap.size + 1, 1, none⟩ = some (.int .i64 code) := by rw [cell_of_row _ _ _ _ _ _ HQ1.out]; rfl
  have q3 : W1.cell? ⟨w.heap.size + 1, 2, none⟩ = some (.int .i64 n) := by rw [cell_of_row _ _ _ _ _ _ HQ1.out]; rfl
  clear hs
  have hmf : ∀ (fn : Fn) (first cap : Array Value) (w : World), (Instr.makeFunc fn first cap).run Try.prog w = .ok (.func fn first cap) w := fun _ _ _ _ => rfl
  go_enter Try.func14, Try.ntmps14
  go_wp2_with (go_at_call 42; fail)
  rw [← hW1]
  clear hW1
  have hcl : Calls Try.prog 42 #[.pointer (some ⟨w.heap.size + 1, 0, none⟩)] W1 fun e w' => e = .panicked [{ v := .iface 3 (.int .i64 n), recovered := false }] ∧ w' = W1 := by
    go_enter Try.func42, Try.ntmps42
    go_wp2
    exact ⟨rfl, rfl, rfl⟩
  refine hcl.mono ?_
  rintro e w' ⟨rfl, rfl⟩
  clear hcl
  go_wp2
  exact ⟨rfl, F, ((ws_st D lo bw).lft HS1.out (below_refl _)).of_below HB1.out, Or.inr ⟨_, [], rfl, fun x h => (by cases h), rfl⟩⟩
set_option maxHeartbeats 16000000 in
theorem does_8 {M : (Nat → Prop) → World → Value → Int → Prop} (C : BailSays) (D : MeterSays M) (lo bw : Nat) (F : Nat → Prop) (w : World) (x : St) (code n : Int) (na : Option Addr) (len cap : Nat) (hlo : lo ≤ w.heap.size) (hx : x.notes.length ≤ 100000) (hs : WS M lo bw F w x) :
    Calls Try.prog 14 #[(.pointer (some ⟨bw, 0, none⟩)), .agg #[.int .i64 8, .int .i64 code, .int .i64 n, .slice na len cap]] w (Fins (WS M lo bw) F w .ret (x.note [n])) := by
  obtain ⟨W1, hW1⟩ : ∃ W1, W1 = (w.alloc (.cells #[.pointer (some ⟨bw, 0, none⟩)] 27)).alloc (.cells #[.int .i64 8, .int .i64 code, .int .i64 n, .slice na len cap] 24) := ⟨_, rfl⟩
  have HB1 : Hid (Below w.heap.size w W1) := by rw [hW1]; exact (below1 w _).alloc (by simp) _
  have HQ0 : Hid (W1.heap[w.heap.size]? = some (.cells #[.pointer (some ⟨bw, 0, none⟩)] 27)) := by show W1.heap[_]? = _; rw [hW1]; exact heap_new2 w _ _
  have HQ1 : Hid (W1.heap[w.heap.size + 1]? = some (.cells #[.int .i64 8, .int .i64 code, .int .i64 n, .slice na len cap] 24)) := by
    show W1.heap[_]? = _
    rw [hW1]
    have := heap_new1 (w.alloc (.cells #[.pointer (some ⟨bw, 0, none⟩)] 27)) (.cells #[.int .i64 8, .int .i64 code, .int .i64 n, .slice na len cap] 24)
    simpa using this
  have HZ1 : Hid (W1.heap.size = w.heap.size + 2) := by show _ = _; rw [hW1]; simp
  
  have HS1 : Hid (WS M lo bw F W1 x) := (ws_st D lo bw).below hs HB1.out
  have HLO : Hid (w.heap.size ≤ W1.heap.size) := HB1.out.size
  have HLT : Hid (∀ b, F b → b < w.heap.size) := (ws_st D lo bw).lt hs
  have q2 : W1.cell? ⟨w.heap.size + 1, 1, none⟩ = some (.int .i64 code) := by rw [cell_of_row _ _ _ _ _ _ HQ1.out]; rfl
  have q3 : W1.cell? ⟨w.heap.size + 1, 2, none⟩ = some (.int .i64 n) := by rw [cell_of_row _ _ _ _ _ _ HQ1.out]; rfl
  clear hs
  go_enter Try.func14, Try.ntmps14
  go_wp2
  rw [← hW1]
  clear hW1
  obtain ⟨av, ac, p, FM, hX⟩ := HS1.out
  have HX : Hid (WX M lo bw F W1 x av ac p FM) := hX
  clear hX
  have HK0 : Hid (Kp (fun b => (Value.slice av x.notes.length ac).ownBlock = some b ∨ b = bw) W1 W1.drew) := Kp.of_below (below_refl W1).drew
  have HK1 : Hid (Kp (fun b => (Value.slice av x.notes.length ac).ownBlock = some b ∨ b = bw) W1 (W1.alloc (.cells #[.int .i64 n] 3)).drew) := Kp.of_below ((below1 W1 _).drew)
  have cN0 : W1.drew.cell? ⟨bw, 0, none⟩ = some (.slice av x.notes.length ac) := by show W1.cell? _ = _; rw [cell_of_row _ _ _ _ _ _ HX.out.hb]; rfl
  have cN1 : (W1.alloc (.cells #[.int .i64 n] 3)).cell? ⟨bw, 0, none⟩ = some (.slice av x.notes.length ac) := by rw [World.cell?_alloc_some W1 _ _ (by show (World.cell? W1.drew _).isSome = true; rw [cN0]; rfl)]; exact cN0
  have cN2 : (W1.alloc (.cells #[.int .i64 n] 3)).drew.cell? ⟨bw, 0, none⟩ = some (.slice av x.notes.length ac) := cN1
  have HN0 : Hid (¬ (fun b => (Value.slice av x.notes.length ac).ownBlock = some b ∨ b = bw) _) := kf_no HX.out HQ0.out (by decide) (by decide)
  have HN1 : Hid (¬ (fun b => (Value.slice av x.notes.length ac).ownBlock = some b ∨ b = bw) _) := kf_no HX.out HQ1.out (by decide) (by decide)
  refine wp_region_held_drew (S := (fun w' => Kp (fun b => (Value.slice av x.notes.length ac).ownBlock = some b ∨ b = bw) W1 w')) (by kernel_rfl) ?_ (fun hHeld => ?_)
  · (try dsimp only); first | exact HK0.out | exact HK1.out | exact HK7.out | exact HK8.out
  refine wpAnyH_take (i := 0) (oi := { dst := some 156, op := Op.load 27 (Operand.tmp 2), type := 27, pos := "law.go:81", after := #[], guard := none }) (v := ?vu16) rfl (by kernel_rfl) (by kernel_rfl) (by kernel_rfl) (fun _ _ _ h => bp_put (P := Try.prog) (fn := Try.f14) _ _ _ h) (Or.inl ⟨by rfl, ?hyu16⟩) (by assumption) ?restu16
  case hyu16 => (intro wz hSw; (try dsimp only at hSw); have q0_0 := cell_of_row _ _ 0 _ _ _ (hSw.heap HQ0.out HN0.out); (try simp only [List.getElem?_toArray, List.getElem?_cons_zero, List.getElem?_cons_succ] at q0_0); have q1_2 := cell_of_row _ _ 2 _ _ _ (hSw.heap HQ1.out HN1.out); (try simp only [List.getElem?_toArray, List.getElem?_cons_zero, List.getElem?_cons_succ] at q1_2); go_simp; (try with_reducible rfl))
  try simp only [Act.put, List.setIfInBounds_toArray, List.set_cons_zero, List.set_cons_succ]
  refine wpAnyH_take (i := 1) (oi := { dst := some 157, op := Op.load 27 (Operand.tmp 2), type := 27, pos := "law.go:81", after := #[], guard := none }) (v := ?vu17) rfl (by kernel_rfl) (by kernel_rfl) (by kernel_rfl) (fun _ _ _ h => bp_put (P := Try.prog) (fn := Try.f14) _ _ _ h) (Or.inl ⟨by rfl, ?hyu17⟩) (by assumption) ?restu17
  case hyu17 => (intro wz hSw; (try dsimp only at hSw); have q0_0 := cell_of_row _ _ 0 _ _ _ (hSw.heap HQ0.out HN0.out); (try simp only [List.getElem?_toArray, List.getElem?_cons_zero, List.getElem?_cons_succ] at q0_0); have q1_2 := cell_of_row _ _ 2 _ _ _ (hSw.heap HQ1.out HN1.out); (try simp only [List.getElem?_toArray, List.getElem?_cons_zero, List.getElem?_cons_succ] at q1_2); go_simp; (try with_reducible rfl))
  try simp only [Act.put, List.setIfInBounds_toArray, List.set_cons_zero, List.set_cons_succ]
  refine wpAnyH_take (i := 2) (oi := { dst := some 158, op := Op.nilCheck (Operand.tmp 157), type := 0, pos := "law.go:81", after := #[{ on := 1, ground := Ground.data }], guard := none }) (v := ?vu18) rfl (by kernel_rfl) (by kernel_rfl) (by kernel_rfl) (fun _ _ _ h => bp_put (P := Try.prog) (fn := Try.f14) _ _ _ h) (Or.inl ⟨by rfl, ?hyu18⟩) (by assumption) ?restu18
  case hyu18 => (intro w hSw; (try dsimp only at hSw); go_simp; (try with_reducible rfl))
  try simp only [Act.put, List.setIfInBounds_toArray, List.set_cons_zero, List.set_cons_succ]
  refine wpAnyH_take (i := 3) (oi := { dst := some 159, op := Op.fieldAddr 32 (Operand.tmp 158) 0, type := 0, pos := "law.go:81", after := #[{ on := 2, ground := Ground.data }], guard := none }) (v := ?vu19) rfl (by kernel_rfl) (by kernel_rfl) (by kernel_rfl) (fun _ _ _ h => bp_put (P := Try.prog) (fn := Try.f14) _ _ _ h) (Or.inl ⟨by rfl, ?hyu19⟩) (by assumption) ?restu19
  case hyu19 => (intro w hSw; (try dsimp only at hSw); go_simp; (try with_reducible rfl))
  try simp only [Act.put, List.setIfInBounds_toArray, List.set_cons_zero, List.set_cons_succ]
  refine wpAnyH_take (i := 5) (oi := { dst := some 161, op := Op.fieldAddr 24 (Operand.tmp 3) 2, type := 0, pos := "law.go:81", after := #[], guard := none }) (v := ?vu20) rfl (by kernel_rfl) (by kernel_rfl) (by kernel_rfl) (fun _ _ _ h => bp_put (P := Try.prog) (fn := Try.f14) _ _ _ h) (Or.inl ⟨by rfl, ?hyu20⟩) (by assumption) ?restu20
  case hyu20 => (intro w hSw; (try dsimp only at hSw); go_simp; (try with_reducible rfl))
  try simp only [Act.put, List.setIfInBounds_toArray, List.set_cons_zero, List.set_cons_succ]
  refine wpAnyH_take (i := 6) (oi := { dst := some 162, op := Op.load 3 (Operand.tmp 161), type := 3, pos := "law.go:81", after := #[{ on := 5, ground := Ground.data }], guard := none }) (v := ?vu21) rfl (by kernel_rfl) (by kernel_rfl) (by kernel_rfl) (fun _ _ _ h => bp_put (P := Try.prog) (fn := Try.f14) _ _ _ h) (Or.inl ⟨by rfl, ?hyu21⟩) (by assumption) ?restu21
  case hyu21 => (intro wz hSw; (try dsimp only at hSw); have q0_0 := cell_of_row _ _ 0 _ _ _ (hSw.heap HQ0.out HN0.out); (try simp only [List.getElem?_toArray, List.getElem?_cons_zero, List.getElem?_cons_succ] at q0_0); have q1_2 := cell_of_row _ _ 2 _ _ _ (hSw.heap HQ1.out HN1.out); (try simp only [List.getElem?_toArray, List.getElem?_cons_zero, List.getElem?_cons_succ] at q1_2); go_simp; (try with_reducible rfl))
  try simp only [Act.put, List.setIfInBounds_toArray, List.set_cons_zero, List.set_cons_succ]
  refine wpAnyH_ready (rs := [4, 7]) (by kernel_rfl) (by simp) ?_
  refine AllReadyH.cons (o := { dst := some 160, op := Op.load 30 (Operand.tmp 159), type := 30, pos := "law.go:81", after := #[{ on := 3, ground := Ground.data }], guard := none }) rfl (fun K hK => ?_) ?_
  · skip
    go_simp
    refine hK.out _ _ ?_ (fun hHeldB => ?_)
    · (try dsimp only); first | exact HK0.out | exact HK1.out | exact HK7.out | exact HK8.out
    clear hK K hHeld
    have hHeld := hHeldB
    clear hHeldB
    try simp only [Act.put, List.setIfInBounds_toArray, List.set_cons_zero, List.set_cons_succ]
    refine wpAnyH_ready (rs := [7]) (by kernel_rfl) (by simp) ?_
    refine AllReadyH.cons (o := { dst := some 163, op := Op.buildSlice 30 1 #[(0, Operand.tmp 162)], type := 30, pos := "law.go:81", after := #[{ on := 6, ground := Ground.data }], guard := none }) rfl (fun K hK => ?_) AllReadyH.nil
    go_simp
    refine hK.out _ _ ?_ (fun hHeldB => ?_)
    · (try dsimp only); first | exact HK0.out | exact HK1.out | exact HK7.out | exact HK8.out
    clear hK K hHeld
    have hHeld := hHeldB
    clear hHeldB
    try simp only [Act.put, List.setIfInBounds_toArray, List.set_cons_zero, List.set_cons_succ]
    refine wpAnyH_ready (rs := [8]) (by kernel_rfl) (by simp) ?_
    refine AllReadyH.cons (o := { dst := some 164, op := Op.call { callee := Callee.builtin Builtin.append, args := #[Operand.tmp 160, Operand.tmp 163], argTypes := #[30, 30] }, type := 30, pos := "law.go:81", after := #[{ on := 4, ground := Ground.data }, { on := 7, ground := Ground.data }], guard := none }) rfl (fun K hK => ?_) AllReadyH.nil
    refine step_app_at eInt rfl _ _ rfl ((HX.out.ow.alloc _).drew) (Nat.zero_le _) (row_rd (V := ivs (gt [n])) (heap_new1 W1 (.cells #[.int .i64 n] 3)) (by decide) (fun j hj => by match j, hj with | 0, _ => rfl)) (by decide) (ivs_one _ _) (x.notes.length + 1) rfl (by omega) (ivs (gt (x.notes ++ [n]))) (fun j _ => catV_gt x.notes [n] j) rfl rfl ?_
    intro a7 c7 w7 hO7 hG7 hA7
    have hKr : Kp (fun b => (Value.slice av x.notes.length ac).ownBlock = some b) W1 w7 := (Kp.of_below (F := fun b => (Value.slice av x.notes.length ac).ownBlock = some b) ((below1 W1 (.cells #[.int .i64 n] 3)).drew)).trans (Kp.of_grown (F := fun b => (Value.slice av x.notes.length ac).ownBlock = some b) hG7 (fun k hk => hk)) (fun _ _ h => h)
    obtain ⟨k7, hput⟩ := ws_put (N := (x.notes.length + 1)) (l := [n]) D (Nat.le_trans hlo HLO.out) HX.out rfl hO7 hKr (by simp) hA7
    have HL : Hid (∃ G9, Lft (WS M lo bw) F W1 (x.note [n]) G9 (w7.setCell ⟨bw, 0, none⟩ (.slice a7 (x.notes.length + 1) c7))) := hput
    have f7 : w7.cell? ⟨bw, 0, none⟩ = some (.slice av x.notes.length ac) := by rw [cell_of_row _ _ _ _ _ _ k7]; rfl
    have z7 : w7.frozen? ⟨bw, 0, none⟩ = false := by simp [World.frozen?, k7]
    have HK7 : Hid (Kp (fun b => (Value.slice av x.notes.length ac).ownBlock = some b ∨ b = bw) W1 w7) := hKr.mono fun _ _ h => Or.inl h
    have HK8 : Hid (Kp (fun b => (Value.slice av x.notes.length ac).ownBlock = some b ∨ b = bw) W1 (w7.setCell ⟨bw, 0, none⟩ (.slice a7 (x.notes.length + 1) c7))) := HK7.out.set (p := ⟨bw, 0, none⟩) (Or.inl (Or.inr rfl)) _
    clear hO7 hG7 hA7 hKr hput k7
    refine hK.out _ _ ?_ (fun hHeldB => ?_)
    · (try dsimp only); first | exact HK0.out | exact HK1.out | exact HK7.out | exact HK8.out
    clear hK K hHeld
    have hHeld := hHeldB
    clear hHeldB
    try simp only [Act.put, List.setIfInBounds_toArray, List.set_cons_zero, List.set_cons_succ]
    refine wpAnyH_take (i := 9) (oi := { dst := some 165, op := Op.nilCheck (Operand.tmp 156), type := 0, pos := "law.go:81", after := #[{ on := 0, ground := Ground.data }, { on := 0, ground := Ground.phase }, { on := 1, ground := Ground.phase }, { on := 2, ground := Ground.phase }, { on := 3, ground := Ground.phase }, { on := 4, ground := Ground.phase }, { on := 5, ground := Ground.phase }, { on := 6, ground := Ground.phase }, { on := 7, ground := Ground.phase }, { on := 8, ground := Ground.phase }], guard := none }) (v := ?vu22) rfl (by kernel_rfl) (by kernel_rfl) (by kernel_rfl) (fun _ _ _ h => bp_put (P := Try.prog) (fn := Try.f14) _ _ _ h) (Or.inl ⟨by rfl, ?hyu22⟩) (by assumption) ?restu22
    case hyu22 => (intro w hSw; (try dsimp only at hSw); go_simp; (try with_reducible rfl))
    try simp only [Act.put, List.setIfInBounds_toArray, List.set_cons_zero, List.set_cons_succ]
    refine wpAnyH_take (i := 10) (oi := { dst := some 166, op := Op.fieldAddr 32 (Operand.tmp 165) 0, type := 0, pos := "law.go:81", after := #[{ on := 9, ground := Ground.data }, { on := 0, ground := Ground.phase }, { on := 1, ground := Ground.phase }, { on := 2, ground := Ground.phase }, { on := 3, ground := Ground.phase }, { on := 4, ground := Ground.phase }, { on := 5, ground := Ground.phase }, { on := 6, ground := Ground.phase }, { on := 7, ground := Ground.phase }, { on := 8, ground := Ground.phase }], guard := none }) (v := ?vu23) rfl (by kernel_rfl) (by kernel_rfl) (by kernel_rfl) (fun _ _ _ h => bp_put (P := Try.prog) (fn := Try.f14) _ _ _ h) (Or.inl ⟨by rfl, ?hyu23⟩) (by assumption) ?restu23
    case hyu23 => (intro w hSw; (try dsimp only at hSw); go_simp; (try with_reducible rfl))
    try simp only [Act.put, List.setIfInBounds_toArray, List.set_cons_zero, List.set_cons_succ]
    refine wpAnyH_ready (rs := [11]) (by kernel_rfl) (by simp) ?_
    refine AllReadyH.cons (o := { dst := none, op := Op.store 30 (Operand.tmp 166) (Operand.tmp 164), type := 0, pos := "law.go:81", after := #[{ on := 10, ground := Ground.data }, { on := 8, ground := Ground.data }, { on := 8, ground := Ground.chain }, { on := 0, ground := Ground.phase }, { on := 1, ground := Ground.phase }, { on := 2, ground := Ground.phase }, { on := 3, ground := Ground.phase }, { on := 4, ground := Ground.phase }, { on := 5, ground := Ground.phase }, { on := 6, ground := Ground.phase }, { on := 7, ground := Ground.phase }, { on := 8, ground := Ground.phase }], guard := none }) rfl (fun K hK => ?_) AllReadyH.nil
    go_simp
    refine hK.out _ _ ?_ (fun hHeldB => ?_)
    · (try dsimp only); first | exact HK0.out | exact HK1.out | exact HK7.out | exact HK8.out
    clear hK K hHeld
    have hHeld := hHeldB
    clear hHeldB
    try simp only [Act.put, List.setIfInBounds_toArray, List.set_cons_zero, List.set_cons_succ]
    refine wpAnyH_done (by kernel_rfl) ?_ _
    go_wp2
    go_end0
    obtain ⟨G, hL⟩ := HL.out
    exact ⟨G, hL.of_below HB1.out, Or.inl ⟨rfl, rfl⟩⟩
  refine AllReadyH.cons (o := { dst := some 163, op := Op.buildSlice 30 1 #[(0, Operand.tmp 162)], type := 30, pos := "law.go:81", after := #[{ on := 6, ground := Ground.data }], guard := none }) rfl (fun K hK => ?_) AllReadyH.nil
  go_simp
  refine hK.out _ _ ?_ (fun hHeldB => ?_)
  · (try dsimp only); first | exact HK0.out | exact HK1.out | exact HK7.out | exact HK8.out
  clear hK K hHeld
  have hHeld := hHeldB
  clear hHeldB
  try simp only [Act.put, List.setIfInBounds_toArray, List.set_cons_zero, List.set_cons_succ]
  refine wpAnyH_ready (rs := [4]) (by kernel_rfl) (by simp) ?_
  refine AllReadyH.cons (o := { dst := some 160, op := Op.load 30 (Operand.tmp 159), type := 30, pos := "law.go:81", after := #[{ on := 3, ground := Ground.data }], guard := none }) rfl (fun K hK => ?_) AllReadyH.nil
  go_simp
  refine hK.out _ _ ?_ (fun hHeldB => ?_)
  · (try dsimp only); first | exact HK0.out | exact HK1.out | exact HK7.out | exact HK8.out
  clear hK K hHeld
  have hHeld := hHeldB
  clear hHeldB
  try simp only [Act.put, List.setIfInBounds_toArray, List.set_cons_zero, List.set_cons_succ]
  refine wpAnyH_ready (rs := [8]) (by kernel_rfl) (by simp) ?_
  refine AllReadyH.cons (o := { dst := some 164, op := Op.call { callee := Callee.builtin Builtin.append, args := #[Operand.tmp 160, Operand.tmp 163], argTypes := #[30, 30] }, type := 30, pos := "law.go:81", after := #[{ on := 4, ground := Ground.data }, { on := 7, ground := Ground.data }], guard := none }) rfl (fun K hK => ?_) AllReadyH.nil
  refine step_app_at eInt rfl _ _ rfl ((HX.out.ow.alloc _).drew) (Nat.zero_le _) (row_rd (V := ivs (gt [n])) (heap_new1 W1 (.cells #[.int .i64 n] 3)) (by decide) (fun j hj => by match j, hj with | 0, _ => rfl)) (by decide) (ivs_one _ _) (x.notes.length + 1) rfl (by omega) (ivs (gt (x.notes ++ [n]))) (fun j _ => catV_gt x.notes [n] j) rfl rfl ?_
  intro a7 c7 w7 hO7 hG7 hA7
  have hKr : Kp (fun b => (Value.slice av x.notes.length ac).ownBlock = some b) W1 w7 := (Kp.of_below (F := fun b => (Value.slice av x.notes.length ac).ownBlock = some b) ((below1 W1 (.cells #[.int .i64 n] 3)).drew)).trans (Kp.of_grown (F := fun b => (Value.slice av x.notes.length ac).ownBlock = some b) hG7 (fun k hk => hk)) (fun _ _ h => h)
  obtain ⟨k7, hput⟩ := ws_put (N := (x.notes.length + 1)) (l := [n]) D (Nat.le_trans hlo HLO.out) HX.out rfl hO7 hKr (by simp) hA7
  have HL : Hid (∃ G9, Lft (WS M lo bw) F W1 (x.note [n]) G9 (w7.setCell ⟨bw, 0, none⟩ (.slice a7 (x.notes.length + 1) c7))) := hput
  have f7 : w7.cell? ⟨bw, 0, none⟩ = some (.slice av x.notes.length ac) := by rw [cell_of_row _ _ _ _ _ _ k7]; rfl
  have z7 : w7.frozen? ⟨bw, 0, none⟩ = false := by simp [World.frozen?, k7]
  have HK7 : Hid (Kp (fun b => (Value.slice av x.notes.length ac).ownBlock = some b ∨ b = bw) W1 w7) := hKr.mono fun _ _ h => Or.inl h
  have HK8 : Hid (Kp (fun b => (Value.slice av x.notes.length ac).ownBlock = some b ∨ b = bw) W1 (w7.setCell ⟨bw, 0, none⟩ (.slice a7 (x.notes.length + 1) c7))) := HK7.out.set (p := ⟨bw, 0, none⟩) (Or.inl (Or.inr rfl)) _
  clear hO7 hG7 hA7 hKr hput k7
  refine hK.out _ _ ?_ (fun hHeldB => ?_)
  · (try dsimp only); first | exact HK0.out | exact HK1.out | exact HK7.out | exact HK8.out
  clear hK K hHeld
  have hHeld := hHeldB
  clear hHeldB
  try simp only [Act.put, List.setIfInBounds_toArray, List.set_cons_zero, List.set_cons_succ]
  refine wpAnyH_take (i := 9) (oi := { dst := some 165, op := Op.nilCheck (Operand.tmp 156), type := 0, pos := "law.go:81", after := #[{ on := 0, ground := Ground.data }, { on := 0, ground := Ground.phase }, { on := 1, ground := Ground.phase }, { on := 2, ground := Ground.phase }, { on := 3, ground := Ground.phase }, { on := 4, ground := Ground.phase }, { on := 5, ground := Ground.phase }, { on := 6, ground := Ground.phase }, { on := 7, ground := Ground.phase }, { on := 8, ground := Ground.phase }], guard := none }) (v := ?vu24) rfl (by kernel_rfl) (by kernel_rfl) (by kernel_rfl) (fun _ _ _ h => bp_put (P := Try.prog) (fn := Try.f14) _ _ _ h) (Or.inl ⟨by rfl, ?hyu24⟩) (by assumption) ?restu24
  case hyu24 => (intro w hSw; (try dsimp only at hSw); go_simp; (try with_reducible rfl))
  try simp only [Act.put, List.setIfInBounds_toArray, List.set_cons_zero, List.set_cons_succ]
  refine wpAnyH_take (i := 10) (oi := { dst := some 166, op := Op.fieldAddr 32 (Operand.tmp 165) 0, type := 0, pos := "law.go:81", after := #[{ on := 9, ground := Ground.data }, { on := 0, ground := Ground.phase }, { on := 1, ground := Ground.phase }, { on := 2, ground := Ground.phase }, { on := 3, ground := Ground.phase }, { on := 4, ground := Ground.phase }, { on := 5, ground := Ground.phase }, { on := 6, ground := Ground.phase }, { on := 7, ground := Ground.phase }, { on := 8, ground := Ground.phase }], guard := none }) (v := ?vu25) rfl (by kernel_rfl) (by kernel_rfl) (by kernel_rfl) (fun _ _ _ h => bp_put (P := Try.prog) (fn := Try.f14) _ _ _ h) (Or.inl ⟨by rfl, ?hyu25⟩) (by assumption) ?restu25
  case hyu25 => (intro w hSw; (try dsimp only at hSw); go_simp; (try with_reducible rfl))
  try simp only [Act.put, List.setIfInBounds_toArray, List.set_cons_zero, List.set_cons_succ]
  refine wpAnyH_ready (rs := [11]) (by kernel_rfl) (by simp) ?_
  refine AllReadyH.cons (o := { dst := none, op := Op.store 30 (Operand.tmp 166) (Operand.tmp 164), type := 0, pos := "law.go:81", after := #[{ on := 10, ground := Ground.data }, { on := 8, ground := Ground.data }, { on := 8, ground := Ground.chain }, { on := 0, ground := Ground.phase }, { on := 1, ground := Ground.phase }, { on := 2, ground := Ground.phase }, { on := 3, ground := Ground.phase }, { on := 4, ground := Ground.phase }, { on := 5, ground := Ground.phase }, { on := 6, ground := Ground.phase }, { on := 7, ground := Ground.phase }, { on := 8, ground := Ground.phase }], guard := none }) rfl (fun K hK => ?_) AllReadyH.nil
  go_simp
  refine hK.out _ _ ?_ (fun hHeldB => ?_)
  · (try dsimp only); first | exact HK0.out | exact HK1.out | exact HK7.out | exact HK8.out
  clear hK K hHeld
  have hHeld := hHeldB
  clear hHeldB
  try simp only [Act.put, List.setIfInBounds_toArray, List.set_cons_zero, List.set_cons_succ]
  refine wpAnyH_done (by kernel_rfl) ?_ _
  go_wp2
  go_end0
  obtain ⟨G, hL⟩ := HL.out
  exact ⟨G, hL.of_below HB1.out, Or.inl ⟨rfl, rfl⟩⟩
set_option maxHeartbeats 16000000 in
theorem does_9 {M : (Nat → Prop) → World → Value → Int → Prop} (C : BailSays) (D : MeterSays M) (lo bw : Nat) (F : Nat → Prop) (w : World) (x : St) (code n : Int) (na : Option Addr) (len cap : Nat) (hlo : lo ≤ w.heap.size) (hx : x.notes.length ≤ 100000) (hs : WS M lo bw F w x) :
    Calls Try.prog 14 #[(.pointer (some ⟨bw, 0, none⟩)), .agg #[.int .i64 9, .int .i64 code, .int .i64 n, .slice na len cap]] w (Fins (WS M lo bw) F w (useE x.left n) ⟨x.notes, useL x.left n⟩) := by
  obtain ⟨W1, hW1⟩ : ∃ W1, W1 = (w.alloc (.cells #[.pointer (some ⟨bw, 0, none⟩)] 27)).alloc (.cells #[.int .i64 9, .int .i64 code, .int .i64 n, .slice na len cap] 24) := ⟨_, rfl⟩
  have HB1 : Hid (Below w.heap.size w W1) := by rw [hW1]; exact (below1 w _).alloc (by simp) _
  have HQ0 : Hid (W1.heap[w.heap.size]? = some (.cells #[.pointer (some ⟨bw, 0, none⟩)] 27)) := by show W1.heap[_]? = _; rw [hW1]; exact heap_new2 w _ _
  have HQ1 : Hid (W1.heap[w.heap.size + 1]? = some (.cells #[.int .i64 9, .int .i64 code, .int .i64 n, .slice na len cap] 24)) := by
    show W1.heap[_]? = _
    rw [hW1]
    have := heap_new1 (w.alloc (.cells #[.pointer (some ⟨bw, 0, none⟩)] 27)) (.cells #[.int .i64 9, .int .i64 code, .int .i64 n, .slice na len cap] 24)
    simpa using this
  have HZ1 : Hid (W1.heap.size = w.heap.size + 2) := by show _ = _; rw [hW1]; simp
  
  have HS1 : Hid (WS M lo bw F W1 x) := (ws_st D lo bw).below hs HB1.out
  have HLO : Hid (w.heap.size ≤ W1.heap.size) := HB1.out.size
  have HLT : Hid (∀ b, F b → b < w.heap.size) := (ws_st D lo bw).lt hs
  have q2 : W1.cell? ⟨w.heap.size + 1, 1, none⟩ = some (.int .i64 code) := by rw [cell_of_row _ _ _ _ _ _ HQ1.out]; rfl
  have q3 : W1.cell? ⟨w.heap.size + 1, 2, none⟩ = some (.int .i64 n) := by rw [cell_of_row _ _ _ _ _ _ HQ1.out]; rfl
  clear hs
  go_enter Try.func14, Try.ntmps14
  go_wp2
  rw [← hW1]
  clear hW1
  obtain ⟨av, ac, p, FM, hX⟩ := HS1.out
  have HX : Hid (WX M lo bw F W1 x av ac p FM) := hX
  have m0 : Hid (¬ FM w.heap.size) := fun h => by have := HLT.out _ (hX.sub _ h); omega
  have m1 : Hid (¬ FM (w.heap.size + 1)) := fun h => by have := HLT.out _ (hX.sub _ h); omega
  clear hX q2 q3
  refine wp_region_held_drew (S := (fun w' => Kp FM W1 w')) (by kernel_rfl) ?_ (fun hHeld => ?_)
  · (try dsimp only); exact Kp.of_below (below_refl W1).drew
  refine wpAnyH_take (i := 0) (oi := { dst := some 169, op := Op.load 27 (Operand.tmp 2), type := 27, pos := "law.go:83", after := #[], guard := none }) (v := ?vu26) rfl (by kernel_rfl) (by kernel_rfl) (by kernel_rfl) (fun _ _ _ h => bp_put (P := Try.prog) (fn := Try.f14) _ _ _ h) (Or.inl ⟨by rfl, ?hyu26⟩) (by assumption) ?restu26
  case hyu26 => (intro wz hSw; (try dsimp only at hSw); have q0 := cell_of_row _ _ 0 _ _ _ (hSw.heap HQ0.out m0.out); have q1 := cell_of_row _ _ 2 _ _ _ (hSw.heap HQ1.out m1.out); have q4 := cell_of_row _ _ 1 _ _ _ (hSw.heap HX.out.hb HX.out.nb); (try simp only [List.getElem?_toArray, List.getElem?_cons_zero, List.getElem?_cons_succ] at q0 q1 q4); go_simp; (try with_reducible rfl))
  try simp only [Act.put, List.setIfInBounds_toArray, List.set_cons_zero, List.set_cons_succ]
  refine wpAnyH_take (i := 1) (oi := { dst := some 170, op := Op.nilCheck (Operand.tmp 169), type := 0, pos := "law.go:83", after := #[{ on := 0, ground := Ground.data }], guard := none }) (v := ?vu27) rfl (by kernel_rfl) (by kernel_rfl) (by kernel_rfl) (fun _ _ _ h => bp_put (P := Try.prog) (fn := Try.f14) _ _ _ h) (Or.inl ⟨by rfl, ?hyu27⟩) (by assumption) ?restu27
  case hyu27 => (intro w hSw; (try dsimp only at hSw); go_simp; (try with_reducible rfl))
  try simp only [Act.put, List.setIfInBounds_toArray, List.set_cons_zero, List.set_cons_succ]
  refine wpAnyH_take (i := 2) (oi := { dst := some 171, op := Op.fieldAddr 32 (Operand.tmp 170) 1, type := 0, pos := "law.go:83", after := #[{ on := 1, ground := Ground.data }], guard := none }) (v := ?vu28) rfl (by kernel_rfl) (by kernel_rfl) (by kernel_rfl) (fun _ _ _ h => bp_put (P := Try.prog) (fn := Try.f14) _ _ _ h) (Or.inl ⟨by rfl, ?hyu28⟩) (by assumption) ?restu28
  case hyu28 => (intro w hSw; (try dsimp only at hSw); go_simp; (try with_reducible rfl))
  try simp only [Act.put, List.setIfInBounds_toArray, List.set_cons_zero, List.set_cons_succ]
  refine wpAnyH_take (i := 3) (oi := { dst := some 172, op := Op.load 28 (Operand.tmp 171), type := 28, pos := "law.go:83", after := #[{ on := 2, ground := Ground.data }], guard := none }) (v := ?vu29) rfl (by kernel_rfl) (by kernel_rfl) (by kernel_rfl) (fun _ _ _ h => bp_put (P := Try.prog) (fn := Try.f14) _ _ _ h) (Or.inl ⟨by rfl, ?hyu29⟩) (by assumption) ?restu29
  case hyu29 => (intro wz hSw; (try dsimp only at hSw); have q0 := cell_of_row _ _ 0 _ _ _ (hSw.heap HQ0.out m0.out); have q1 := cell_of_row _ _ 2 _ _ _ (hSw.heap HQ1.out m1.out); have q4 := cell_of_row _ _ 1 _ _ _ (hSw.heap HX.out.hb HX.out.nb); (try simp only [List.getElem?_toArray, List.getElem?_cons_zero, List.getElem?_cons_succ] at q0 q1 q4); go_simp; (try with_reducible rfl))
  try simp only [Act.put, List.setIfInBounds_toArray, List.set_cons_zero, List.set_cons_succ]
  refine wpAnyH_take (i := 4) (oi := { dst := some 173, op := Op.fieldAddr 24 (Operand.tmp 3) 2, type := 0, pos := "law.go:83", after := #[], guard := none }) (v := ?vu30) rfl (by kernel_rfl) (by kernel_rfl) (by kernel_rfl) (fun _ _ _ h => bp_put (P := Try.prog) (fn := Try.f14) _ _ _ h) (Or.inl ⟨by rfl, ?hyu30⟩) (by assumption) ?restu30
  case hyu30 => (intro w hSw; (try dsimp only at hSw); go_simp; (try with_reducible rfl))
  try simp only [Act.put, List.setIfInBounds_toArray, List.set_cons_zero, List.set_cons_succ]
  refine wpAnyH_take (i := 5) (oi := { dst := some 174, op := Op.load 3 (Operand.tmp 173), type := 3, pos := "law.go:83", after := #[{ on := 4, ground := Ground.data }], guard := none }) (v := ?vu31) rfl (by kernel_rfl) (by kernel_rfl) (by kernel_rfl) (fun _ _ _ h => bp_put (P := Try.prog) (fn := Try.f14) _ _ _ h) (Or.inl ⟨by rfl, ?hyu31⟩) (by assumption) ?restu31
  case hyu31 => (intro wz hSw; (try dsimp only at hSw); have q0 := cell_of_row _ _ 0 _ _ _ (hSw.heap HQ0.out m0.out); have q1 := cell_of_row _ _ 2 _ _ _ (hSw.heap HQ1.out m1.out); have q4 := cell_of_row _ _ 1 _ _ _ (hSw.heap HX.out.hb HX.out.nb); (try simp only [List.getElem?_toArray, List.getElem?_cons_zero, List.getElem?_cons_succ] at q0 q1 q4); go_simp; (try with_reducible rfl))
  try simp only [Act.put, List.setIfInBounds_toArray, List.set_cons_zero, List.set_cons_succ]
  refine wpAnyH_ready (rs := [6]) (by kernel_rfl) (by simp) ?_
  refine AllReadyH.cons (o := { dst := some 175, op := Op.call { callee := Callee.value (Operand.func 26), args := #[Operand.tmp 172, Operand.tmp 174], argTypes := #[28, 3] }, type := 0, pos := "law.go:83", after := #[{ on := 3, ground := Ground.data }, { on := 5, ground := Ground.data }], guard := none }) rfl (fun K hK => ?_) AllReadyH.nil
  go_simp
  go_at_call 26
  refine (D.use FM W1.drew (.pointer p) x.left n (D.frame HX.out.m (Kp.of_below (F := fun _ => False) (below_refl W1).drew) fun _ _ h => h)).mono ?_
  rintro e w' ⟨hm, hk, he⟩
  have HK : Hid (Kp FM W1 w') := hk.undrew
  have HM : Hid (M FM w' (.pointer p) (useL x.left n)) := hm
  have HE : Hid (EnIn W1.heap.size FM w' (useE x.left n) e) := he
  rcases he with ⟨hr, rfl⟩ | ⟨v, old, rfl, ho, hv⟩
  case inr => exact ⟨rfl, F, (ws_use HX.out HK.out HM.out).of_below HB1.out, (HE.out.grow fun b hb => Nat.lt_of_lt_of_le (HLT.out b hb) HLO.out).lower HLO.out⟩
  clear hm hk hr
  refine hK.out _ _ ?_ (fun hHeldB => ?_)
  · (try dsimp only); exact HK.out
  clear hK K hHeld
  have hHeld := hHeldB
  clear hHeldB
  try simp only [Act.put, List.setIfInBounds_toArray, List.set_cons_zero, List.set_cons_succ]
  refine wpAnyH_done (by kernel_rfl) ?_ _
  go_wp2
  go_end0
  exact ⟨F, (ws_use HX.out HK.out HM.out).of_below HB1.out, (HE.out.grow fun b hb => Nat.lt_of_lt_of_le (HLT.out b hb) HLO.out).lower HLO.out⟩
set_option maxHeartbeats 16000000 in
theorem does_no {M : (Nat → Prop) → World → Value → Int → Prop} (C : BailSays) (D : MeterSays M) (lo bw : Nat) (F : Nat → Prop) (w : World) (x : St) (kind : Int) (code n : Int) (na : Option Addr) (len cap : Nat) (hlo : lo ≤ w.heap.size) (hx : x.notes.length ≤ 100000) (hs : WS M lo bw F w x) (h0 : kind < 1 ∨ 9 < kind) :
    Calls Try.prog 14 #[(.pointer (some ⟨bw, 0, none⟩)), .agg #[.int .i64 kind, .int .i64 code, .int .i64 n, .slice na len cap]] w (Fins (WS M lo bw) F w .ret x) := by
  obtain ⟨W1, hW1⟩ : ∃ W1, W1 = (w.alloc (.cells #[.pointer (some ⟨bw, 0, none⟩)] 27)).alloc (.cells #[.int .i64 kind, .int .i64 code, .int .i64 n, .slice na len cap] 24) := ⟨_, rfl⟩
  have HB1 : Hid (Below w.heap.size w W1) := by rw [hW1]; exact (below1 w _).alloc (by simp) _
  have HQ0 : Hid (W1.heap[w.heap.size]? = some (.cells #[.pointer (some ⟨bw, 0, none⟩)] 27)) := by show W1.heap[_]? = _; rw [hW1]; exact heap_new2 w _ _
  have HQ1 : Hid (W1.heap[w.heap.size + 1]? = some (.cells #[.int .i64 kind, .int .i64 code, .int .i64 n, .slice na len cap] 24)) := by
    show W1.heap[_]? = _
    rw [hW1]
    have := heap_new1 (w.alloc (.cells #[.pointer (some ⟨bw, 0, none⟩)] 27)) (.cells #[.int .i64 kind, .int .i64 code, .int .i64 n, .slice na len cap] 24)
    simpa using this
  have HZ1 : Hid (W1.heap.size = w.heap.size + 2) := by show _ = _; rw [hW1]; simp
  
  have HS1 : Hid (WS M lo bw F W1 x) := (ws_st D lo bw).below hs HB1.out
  have HLO : Hid (w.heap.size ≤ W1.heap.size) := HB1.out.size
  have HLT : Hid (∀ b, F b → b < w.heap.size) := (ws_st D lo bw).lt hs
  have q2 : W1.cell? ⟨w.heap.size + 1, 1, none⟩ = some (.int .i64 code) := by rw [cell_of_row _ _ _ _ _ _ HQ1.out]; rfl
  have q3 : W1.cell? ⟨w.heap.size + 1, 2, none⟩ = some (.int .i64 n) := by rw [cell_of_row _ _ _ _ _ _ HQ1.out]; rfl
  clear hs
  have h1 : kind ≠ 1 := by omega
  have h2 : kind ≠ 2 := by omega
  have h3 : kind ≠ 3 := by omega
  have h4 : kind ≠ 4 := by omega
  have h5 : kind ≠ 5 := by omega
  have h6 : kind ≠ 6 := by omega
  have h7 : kind ≠ 7 := by omega
  have h8 : kind ≠ 8 := by omega
  have h9 : kind ≠ 9 := by omega
  clear h0
  go_enter Try.func14, Try.ntmps14
  go_wp2
  rw [← hW1]
  clear hW1
  go_end0
  exact ⟨F, ((ws_st D lo bw).lft HS1.out (below_refl _)).of_below HB1.out, Or.inl ⟨rfl, rfl⟩⟩
end Go.Proofs.Ytgighebohbpkiaa
