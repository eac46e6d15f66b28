/- plays: kinds that call no kid. -/
import Derived.Test.YtgighebohbpkiaaBps
namespace Go.Proofs.Ytgighebohbpkiaa
open Go.RowKit Fo
set_option maxRecDepth 100000
set_option linter.unusedSimpArgs false
set_option linter.unusedVariables false

namespace Fo
/-- What plays answers. -/
def PlayR (lo pb : Nat) (F : Nat → Prop) (w : World) (r : En) (y : St) (e : Ending) (w' : World) : Prop := e = .returned (enV r) ∧ ∃ G, Lft (PS lo pb) F w y G w'
end Fo
set_option maxHeartbeats 16000000 in
theorem plays_1 (lo pb : Nat) (F : Nat → Prop) (w : World) (x : St) (code n : Int) (na : Option Addr) (len cap : Nat) (hlo : lo ≤ w.heap.size) (hx : x.notes.length ≤ 100000) (hin : InR x) (hs : PS lo pb F w x) :
    Calls Try.prog 11 #[(.pointer (some ⟨pb, 0, none⟩)), .agg #[.int .i64 1, .int .i64 code, .int .i64 n, .slice na len cap]] w (PlayR lo pb F w (.bail code n) x) := by
  obtain ⟨W1, hW1⟩ : ∃ W1, W1 = (w.alloc (.cells #[.int .i64 1, .int .i64 code, .int .i64 n, .slice na len cap] 24)).alloc (.cells #[.int .i64 0, .int .i64 0, .int .i64 0] 37) := ⟨_, rfl⟩
  have HB1 : Hid (Below w.heap.size w W1) := by rw [hW1]; exact (below1 w _).alloc (by simp) _
  have HQ1 : Hid (W1.heap[w.heap.size]? = some (.cells #[.int .i64 1, .int .i64 code, .int .i64 n, .slice na len cap] 24)) := by show W1.heap[_]? = _; rw [hW1]; exact heap_new2 w _ _
  have HQ2 : Hid (W1.heap[w.heap.size + 1]? = some (.cells #[.int .i64 0, .int .i64 0, .int .i64 0] 37)) := by
    show W1.heap[_]? = _
    rw [hW1]
    have := heap_new1 (w.alloc (.cells #[.int .i64 1, .int .i64 code, .int .i64 n, .slice na len cap] 24)) (.cells #[.int .i64 0, .int .i64 0, .int .i64 0] 37)
    simpa using this
  have HZ1 : Hid (W1.heap.size = w.heap.size + 2) := by show _ = _; rw [hW1]; simp
  have HS1 : Hid (PS lo pb F W1 x) := (ps_st lo pb).below hs HB1.out
  have HLO : Hid (w.heap.size ≤ W1.heap.size) := HB1.out.size
  have HLT : Hid (∀ b, F b → b < w.heap.size) := (ps_st lo pb).lt hs
  have hs0 := hs
  clear hs
  go_enter Try.func11, Try.ntmps11
  go_wp2
  refine bodyPost_ret (v := .agg #[.int .i64 1, .int .i64 code, .int .i64 n]) (by simp [results, Try.results11, go_sem]) rfl ?_
  exact ⟨rfl, F, (ps_st lo pb).lft hs0 ((below1 w _).alloc (by simp) _)⟩
set_option maxHeartbeats 16000000 in
theorem plays_2 (lo pb : Nat) (F : Nat → Prop) (w : World) (x : St) (code n : Int) (na : Option Addr) (len cap : Nat) (hlo : lo ≤ w.heap.size) (hx : x.notes.length ≤ 100000) (hin : InR x) (hs : PS lo pb F w x) :
    Calls Try.prog 11 #[(.pointer (some ⟨pb, 0, none⟩)), .agg #[.int .i64 2, .int .i64 code, .int .i64 n, .slice na len cap]] w (PlayR lo pb F w (.num n) x) := by
  obtain ⟨W1, hW1⟩ : ∃ W1, W1 = (w.alloc (.cells #[.int .i64 2, .int .i64 code, .int .i64 n, .slice na len cap] 24)).alloc (.cells #[.int .i64 0, .int .i64 0, .int .i64 0] 37) := ⟨_, rfl⟩
  have HB1 : Hid (Below w.heap.size w W1) := by rw [hW1]; exact (below1 w _).alloc (by simp) _
  have HQ1 : Hid (W1.heap[w.heap.size]? = some (.cells #[.int .i64 2, .int .i64 code, .int .i64 n, .slice na len cap] 24)) := by show W1.heap[_]? = _; rw [hW1]; exact heap_new2 w _ _
  have HQ2 : Hid (W1.heap[w.heap.size + 1]? = some (.cells #[.int .i64 0, .int .i64 0, .int .i64 0] 37)) := by
    show W1.heap[_]? = _
    rw [hW1]
    have := heap_new1 (w.alloc (.cells #[.int .i64 2, .int .i64 code, .int .i64 n, .slice na len cap] 24)) (.cells #[.int .i64 0, .int .i64 0, .int .i64 0] 37)
    simpa using this
  have HZ1 : Hid (W1.heap.size = w.heap.size + 2) := by show _ = _; rw [hW1]; simp
  have HS1 : Hid (PS lo pb F W1 x) := (ps_st lo pb).below hs HB1.out
  have HLO : Hid (w.heap.size ≤ W1.heap.size) := HB1.out.size
  have HLT : Hid (∀ b, F b → b < w.heap.size) := (ps_st lo pb).lt hs
  have hs0 := hs
  clear hs
  go_enter Try.func11, Try.ntmps11
  go_wp2
  refine bodyPost_ret (v := .agg #[.int .i64 2, .int .i64 0, .int .i64 n]) (by simp [results, Try.results11, go_sem]) rfl ?_
  exact ⟨rfl, F, (ps_st lo pb).lft hs0 ((below1 w _).alloc (by simp) _)⟩
set_option maxHeartbeats 16000000 in
theorem plays_no (lo pb : Nat) (F : Nat → Prop) (w : World) (x : St) (kind : Int) (code n : Int) (na : Option Addr) (len cap : Nat) (hlo : lo ≤ w.heap.size) (hx : x.notes.length ≤ 100000) (hin : InR x) (hs : PS lo pb F w x) (h0 : kind < 1 ∨ 9 < kind) :
    Calls Try.prog 11 #[(.pointer (some ⟨pb, 0, none⟩)), .agg #[.int .i64 kind, .int .i64 code, .int .i64 n, .slice na len cap]] w (PlayR lo pb F w .ret x) := by
  obtain ⟨W1, hW1⟩ : ∃ W1, W1 = (w.alloc (.cells #[.int .i64 kind, .int .i64 code, .int .i64 n, .slice na len cap] 24)).alloc (.cells #[.int .i64 0, .int .i64 0, .int .i64 0] 37) := ⟨_, rfl⟩
  have HB1 : Hid (Below w.heap.size w W1) := by rw [hW1]; exact (below1 w _).alloc (by simp) _
  have HQ1 : Hid (W1.heap[w.heap.size]? = some (.cells #[.int .i64 kind, .int .i64 code, .int .i64 n, .slice na len cap] 24)) := by show W1.heap[_]? = _; rw [hW1]; exact heap_new2 w _ _
  have HQ2 : Hid (W1.heap[w.heap.size + 1]? = some (.cells #[.int .i64 0, .int .i64 0, .int .i64 0] 37)) := by
    show W1.heap[_]? = _
    rw [hW1]
    have := heap_new1 (w.alloc (.cells #[.int .i64 kind, .int .i64 code, .int .i64 n, .slice na len cap] 24)) (.cells #[.int .i64 0, .int .i64 0, .int .i64 0] 37)
    simpa using this
  have HZ1 : Hid (W1.heap.size = w.heap.size + 2) := by show _ = _; rw [hW1]; simp
  have HS1 : Hid (PS lo pb F W1 x) := (ps_st lo pb).below hs HB1.out
  have HLO : Hid (w.heap.size ≤ W1.heap.size) := HB1.out.size
  have HLT : Hid (∀ b, F b → b < w.heap.size) := (ps_st lo pb).lt hs
  have hs0 := hs
  clear hs
  have h1 : kind ≠ 1 := by omega
  have h2 : kind ≠ 2 := by omega
  have h3 : kind ≠ 3 := by omega
  have h4 : kind ≠ 4 := by omega
  have h5 : kind ≠ 5 := by omega
  have h6 : kind ≠ 6 := by omega
  have h7 : kind ≠ 7 := by omega
  have h8 : kind ≠ 8 := by omega
  have h9 : kind ≠ 9 := by omega
  clear h0
  go_enter Try.func11, Try.ntmps11
  go_wp2
  refine bodyPost_ret (v := .agg #[.int .i64 0, .int .i64 0, .int .i64 0]) (by simp [results, Try.results11, go_sem]) rfl ?_
  exact ⟨rfl, F, (ps_st lo pb).lft hs0 ((below1 w _).alloc (by simp) _)⟩
set_option maxHeartbeats 16000000 in
theorem plays_8 (lo pb : Nat) (F : Nat → Prop) (w : World) (x : St) (code n : Int) (na : Option Addr) (len cap : Nat) (hlo : lo ≤ w.heap.size) (hx : x.notes.length ≤ 100000) (hin : InR x) (hs : PS lo pb F w x) :
    Calls Try.prog 11 #[(.pointer (some ⟨pb, 0, none⟩)), .agg #[.int .i64 8, .int .i64 code, .int .i64 n, .slice na len cap]] w (PlayR lo pb F w .ret (x.note [n])) := by
  obtain ⟨W1, hW1⟩ : ∃ W1, W1 = (w.alloc (.cells #[.int .i64 8, .int .i64 code, .int .i64 n, .slice na len cap] 24)).alloc (.cells #[.int .i64 0, .int .i64 0, .int .i64 0] 37) := ⟨_, rfl⟩
  have HB1 : Hid (Below w.heap.size w W1) := by rw [hW1]; exact (below1 w _).alloc (by simp) _
  have HQ1 : Hid (W1.heap[w.heap.size]? = some (.cells #[.int .i64 8, .int .i64 code, .int .i64 n, .slice na len cap] 24)) := by show W1.heap[_]? = _; rw [hW1]; exact heap_new2 w _ _
  have HQ2 : Hid (W1.heap[w.heap.size + 1]? = some (.cells #[.int .i64 0, .int .i64 0, .int .i64 0] 37)) := by
    show W1.heap[_]? = _
    rw [hW1]
    have := heap_new1 (w.alloc (.cells #[.int .i64 8, .int .i64 code, .int .i64 n, .slice na len cap] 24)) (.cells #[.int .i64 0, .int .i64 0, .int .i64 0] 37)
    simpa using this
  have HZ1 : Hid (W1.heap.size = w.heap.size + 2) := by show _ = _; rw [hW1]; simp
  have HS1 : Hid (PS lo pb F W1 x) := (ps_st lo pb).below hs HB1.out
  have HLO : Hid (w.heap.size ≤ W1.heap.size) := HB1.out.size
  have HLT : Hid (∀ b, F b → b < w.heap.size) := (ps_st lo pb).lt hs
  have hs0 := hs
  clear hs
  go_enter Try.func11, Try.ntmps11
  go_wp2
  rw [← hW1]
  clear hW1
  obtain ⟨av, ac, hX⟩ := HS1.out
  have HX : Hid (PX lo pb F W1 x av ac) := hX
  clear hX
  have HK0 : Hid (Kp (fun b => (Value.slice av x.notes.length ac).ownBlock = some b ∨ b = pb) W1 W1.drew) := Kp.of_below (below_refl W1).drew
  have HK1 : Hid (Kp (fun b => (Value.slice av x.notes.length ac).ownBlock = some b ∨ b = pb) W1 (W1.alloc (.cells #[.int .i64 n] 3)).drew) := Kp.of_below ((below1 W1 _).drew)
  have cN0 : W1.drew.cell? ⟨pb, 0, none⟩ = some (.slice av x.notes.length ac) := by show W1.cell? _ = _; rw [cell_of_row _ _ _ _ _ _ HX.out.hb]; rfl
  have cN1 : (W1.alloc (.cells #[.int .i64 n] 3)).cell? ⟨pb, 0, none⟩ = some (.slice av x.notes.length ac) := by rw [World.cell?_alloc_some W1 _ _ (by show (World.cell? W1.drew _).isSome = true; rw [cN0]; rfl)]; exact cN0
  have cN2 : (W1.alloc (.cells #[.int .i64 n] 3)).drew.cell? ⟨pb, 0, none⟩ = some (.slice av x.notes.length ac) := cN1
  have HN0 : Hid (¬ (fun b => (Value.slice av x.notes.length ac).ownBlock = some b ∨ b = pb) _) := kf_noP HX.out HQ1.out (by decide) (by decide)
  refine wp_region_held_drew (S := (fun w' => Kp (fun b => (Value.slice av x.notes.length ac).ownBlock = some b ∨ b = pb) W1 w')) (by kernel_rfl) ?_ (fun hHeld => ?_)
  · (try dsimp only); first | exact HK0.out | exact HK1.out | exact HK7.out | exact HK8.out
  refine wpAnyH_take (i := 0) (oi := { dst := some 173, op := Op.move (Operand.tmp 0), type := 33, pos := "law.go:148", after := #[], guard := none }) (v := ?vu109) rfl (by kernel_rfl) (by kernel_rfl) (by kernel_rfl) (fun _ _ _ h => h) (Or.inl ⟨by rfl, ?hyu109⟩) (by assumption) ?restu109
  case hyu109 => (intro w hSw; (try dsimp only at hSw); go_simp; (try with_reducible rfl))
  try simp only [Act.put, List.setIfInBounds_toArray, List.set_cons_zero, List.set_cons_succ]
  refine wpAnyH_take (i := 1) (oi := { dst := some 174, op := Op.move (Operand.tmp 0), type := 33, pos := "law.go:148", after := #[], guard := none }) (v := ?vu110) rfl (by kernel_rfl) (by kernel_rfl) (by kernel_rfl) (fun _ _ _ h => h) (Or.inl ⟨by rfl, ?hyu110⟩) (by assumption) ?restu110
  case hyu110 => (intro w hSw; (try dsimp only at hSw); go_simp; (try with_reducible rfl))
  try simp only [Act.put, List.setIfInBounds_toArray, List.set_cons_zero, List.set_cons_succ]
  refine wpAnyH_take (i := 2) (oi := { dst := some 175, op := Op.nilCheck (Operand.tmp 174), type := 0, pos := "law.go:148", after := #[{ on := 1, ground := Ground.data }], guard := none }) (v := ?vu111) rfl (by kernel_rfl) (by kernel_rfl) (by kernel_rfl) (fun _ _ _ h => h) (Or.inl ⟨by rfl, ?hyu111⟩) (by assumption) ?restu111
  case hyu111 => (intro w hSw; (try dsimp only at hSw); go_simp; (try with_reducible rfl))
  try simp only [Act.put, List.setIfInBounds_toArray, List.set_cons_zero, List.set_cons_succ]
  refine wpAnyH_take (i := 3) (oi := { dst := some 176, op := Op.fieldAddr 35 (Operand.tmp 175) 0, type := 0, pos := "law.go:148", after := #[{ on := 2, ground := Ground.data }], guard := none }) (v := ?vu112) rfl (by kernel_rfl) (by kernel_rfl) (by kernel_rfl) (fun _ _ _ h => h) (Or.inl ⟨by rfl, ?hyu112⟩) (by assumption) ?restu112
  case hyu112 => (intro w hSw; (try dsimp only at hSw); go_simp; (try with_reducible rfl))
  try simp only [Act.put, List.setIfInBounds_toArray, List.set_cons_zero, List.set_cons_succ]
  refine wpAnyH_take (i := 5) (oi := { dst := some 178, op := Op.fieldAddr 24 (Operand.tmp 3) 2, type := 0, pos := "law.go:148", after := #[], guard := none }) (v := ?vu113) rfl (by kernel_rfl) (by kernel_rfl) (by kernel_rfl) (fun _ _ _ h => h) (Or.inl ⟨by rfl, ?hyu113⟩) (by assumption) ?restu113
  case hyu113 => (intro w hSw; (try dsimp only at hSw); go_simp; (try with_reducible rfl))
  try simp only [Act.put, List.setIfInBounds_toArray, List.set_cons_zero, List.set_cons_succ]
  refine wpAnyH_take (i := 6) (oi := { dst := some 179, op := Op.load 3 (Operand.tmp 178), type := 3, pos := "law.go:148", after := #[{ on := 5, ground := Ground.data }], guard := none }) (v := ?vu114) rfl (by kernel_rfl) (by kernel_rfl) (by kernel_rfl) (fun _ _ _ h => h) (Or.inl ⟨by rfl, ?hyu114⟩) (by assumption) ?restu114
  case hyu114 => (intro wz hSw; (try dsimp only at hSw); have q0_2 := cell_of_row _ _ 2 _ _ _ (hSw.heap HQ1.out HN0.out); (try simp only [List.getElem?_toArray, List.getElem?_cons_zero, List.getElem?_cons_succ] at q0_2); go_simp; (try with_reducible rfl))
  try simp only [Act.put, List.setIfInBounds_toArray, List.set_cons_zero, List.set_cons_succ]
  refine wpAnyH_ready (rs := [4, 7]) (by kernel_rfl) (by simp) ?_
  refine AllReadyH.cons (o := { dst := some 177, op := Op.load 30 (Operand.tmp 176), type := 30, pos := "law.go:148", after := #[{ on := 3, ground := Ground.data }], guard := none }) rfl (fun K hK => ?_) ?_
  · skip
    go_simp
    refine hK.out _ _ ?_ (fun hHeldB => ?_)
    · (try dsimp only); first | exact HK0.out | exact HK1.out | exact HK7.out | exact HK8.out
    clear hK K hHeld
    have hHeld := hHeldB
    clear hHeldB
    try simp only [Act.put, List.setIfInBounds_toArray, List.set_cons_zero, List.set_cons_succ]
    refine wpAnyH_ready (rs := [7]) (by kernel_rfl) (by simp) ?_
    refine AllReadyH.cons (o := { dst := some 180, op := Op.buildSlice 30 1 #[(0, Operand.tmp 179)], type := 30, pos := "law.go:148", after := #[{ on := 6, ground := Ground.data }], guard := none }) rfl (fun K hK => ?_) AllReadyH.nil
    go_simp
    refine hK.out _ _ ?_ (fun hHeldB => ?_)
    · (try dsimp only); first | exact HK0.out | exact HK1.out | exact HK7.out | exact HK8.out
    clear hK K hHeld
    have hHeld := hHeldB
    clear hHeldB
    try simp only [Act.put, List.setIfInBounds_toArray, List.set_cons_zero, List.set_cons_succ]
    refine wpAnyH_ready (rs := [8]) (by kernel_rfl) (by simp) ?_
    refine AllReadyH.cons (o := { dst := some 181, op := Op.call { callee := Callee.builtin Builtin.append, args := #[Operand.tmp 177, Operand.tmp 180], argTypes := #[30, 30] }, type := 30, pos := "law.go:148", after := #[{ on := 4, ground := Ground.data }, { on := 7, ground := Ground.data }], guard := none }) rfl (fun K hK => ?_) AllReadyH.nil
    refine step_app_at eInt rfl _ _ rfl ((HX.out.ow.alloc _).drew) (Nat.zero_le _) (row_rd (V := ivs (gt [n])) (heap_new1 W1 (.cells #[.int .i64 n] 3)) (by decide) (fun j hj => by match j, hj with | 0, _ => rfl)) (by decide) (ivs_one _ _) (x.notes.length + 1) rfl (by omega) (ivs (gt (x.notes ++ [n]))) (fun j _ => catV_gt x.notes [n] j) rfl rfl ?_
    intro a7 c7 w7 hO7 hG7 hA7
    have hKr : Kp (fun b => (Value.slice av x.notes.length ac).ownBlock = some b) W1 w7 := (Kp.of_below (F := fun b => (Value.slice av x.notes.length ac).ownBlock = some b) ((below1 W1 (.cells #[.int .i64 n] 3)).drew)).trans (Kp.of_grown (F := fun b => (Value.slice av x.notes.length ac).ownBlock = some b) hG7 (fun k hk => hk)) (fun _ _ h => h)
    obtain ⟨k7, hput⟩ := ps_put (N := (x.notes.length + 1)) (l := [n]) (Nat.le_trans hlo HLO.out) HX.out rfl hO7 hKr (by simp) hA7
    have HL : Hid (∃ G9, Lft (PS lo pb) F W1 (x.note [n]) G9 (w7.setCell ⟨pb, 0, none⟩ (.slice a7 (x.notes.length + 1) c7))) := hput
    have f7 : w7.cell? ⟨pb, 0, none⟩ = some (.slice av x.notes.length ac) := by rw [cell_of_row _ _ _ _ _ _ k7]; rfl
    have z7 : w7.frozen? ⟨pb, 0, none⟩ = false := by simp [World.frozen?, k7]
    have HK7 : Hid (Kp (fun b => (Value.slice av x.notes.length ac).ownBlock = some b ∨ b = pb) W1 w7) := hKr.mono fun _ _ h => Or.inl h
    have HK8 : Hid (Kp (fun b => (Value.slice av x.notes.length ac).ownBlock = some b ∨ b = pb) W1 (w7.setCell ⟨pb, 0, none⟩ (.slice a7 (x.notes.length + 1) c7))) := HK7.out.set (p := ⟨pb, 0, none⟩) (Or.inl (Or.inr rfl)) _
    clear hO7 hG7 hA7 hKr hput k7
    refine hK.out _ _ ?_ (fun hHeldB => ?_)
    · (try dsimp only); first | exact HK0.out | exact HK1.out | exact HK7.out | exact HK8.out
    clear hK K hHeld
    have hHeld := hHeldB
    clear hHeldB
    try simp only [Act.put, List.setIfInBounds_toArray, List.set_cons_zero, List.set_cons_succ]
    refine wpAnyH_take (i := 9) (oi := { dst := some 182, op := Op.nilCheck (Operand.tmp 173), type := 0, pos := "law.go:148", after := #[{ on := 0, ground := Ground.data }, { on := 0, ground := Ground.phase }, { on := 1, ground := Ground.phase }, { on := 2, ground := Ground.phase }, { on := 3, ground := Ground.phase }, { on := 4, ground := Ground.phase }, { on := 5, ground := Ground.phase }, { on := 6, ground := Ground.phase }, { on := 7, ground := Ground.phase }, { on := 8, ground := Ground.phase }], guard := none }) (v := ?vu115) rfl (by kernel_rfl) (by kernel_rfl) (by kernel_rfl) (fun _ _ _ h => h) (Or.inl ⟨by rfl, ?hyu115⟩) (by assumption) ?restu115
    case hyu115 => (intro w hSw; (try dsimp only at hSw); go_simp; (try with_reducible rfl))
    try simp only [Act.put, List.setIfInBounds_toArray, List.set_cons_zero, List.set_cons_succ]
    refine wpAnyH_take (i := 10) (oi := { dst := some 183, op := Op.fieldAddr 35 (Operand.tmp 182) 0, type := 0, pos := "law.go:148", after := #[{ on := 9, ground := Ground.data }, { on := 0, ground := Ground.phase }, { on := 1, ground := Ground.phase }, { on := 2, ground := Ground.phase }, { on := 3, ground := Ground.phase }, { on := 4, ground := Ground.phase }, { on := 5, ground := Ground.phase }, { on := 6, ground := Ground.phase }, { on := 7, ground := Ground.phase }, { on := 8, ground := Ground.phase }], guard := none }) (v := ?vu116) rfl (by kernel_rfl) (by kernel_rfl) (by kernel_rfl) (fun _ _ _ h => h) (Or.inl ⟨by rfl, ?hyu116⟩) (by assumption) ?restu116
    case hyu116 => (intro w hSw; (try dsimp only at hSw); go_simp; (try with_reducible rfl))
    try simp only [Act.put, List.setIfInBounds_toArray, List.set_cons_zero, List.set_cons_succ]
    refine wpAnyH_ready (rs := [11]) (by kernel_rfl) (by simp) ?_
    refine AllReadyH.cons (o := { dst := none, op := Op.store 30 (Operand.tmp 183) (Operand.tmp 181), type := 0, pos := "law.go:148", after := #[{ on := 10, ground := Ground.data }, { on := 8, ground := Ground.data }, { on := 8, ground := Ground.chain }, { on := 0, ground := Ground.phase }, { on := 1, ground := Ground.phase }, { on := 2, ground := Ground.phase }, { on := 3, ground := Ground.phase }, { on := 4, ground := Ground.phase }, { on := 5, ground := Ground.phase }, { on := 6, ground := Ground.phase }, { on := 7, ground := Ground.phase }, { on := 8, ground := Ground.phase }], guard := none }) rfl (fun K hK => ?_) AllReadyH.nil
    go_simp
    refine hK.out _ _ ?_ (fun hHeldB => ?_)
    · (try dsimp only); first | exact HK0.out | exact HK1.out | exact HK7.out | exact HK8.out
    clear hK K hHeld
    have hHeld := hHeldB
    clear hHeldB
    try simp only [Act.put, List.setIfInBounds_toArray, List.set_cons_zero, List.set_cons_succ]
    refine wpAnyH_done (by kernel_rfl) ?_ _
    obtain ⟨H, hL⟩ := HL.out
    have hr9 := HK8.out.heap HQ2.out (kf_noP HX.out HQ2.out (by decide) (by decide))
    have hz := HZ1.out
    have HHn : Hid (¬ H (w.heap.size + 1)) := fun h => (hL.2.1 _ h).elim (fun q => by have := HLT.out _ q; omega) fun q => by omega
    have hnr := HHn.out
    have HLH : Hid (Lft (PS lo pb) F w (x.note [n]) H (w7.setCell ⟨pb, 0, none⟩ (.slice a7 (x.notes.length + 1) c7))) := hL.of_below HB1.out
    clear hL hnr
    generalize w7.setCell ⟨pb, 0, none⟩ (.slice a7 (x.notes.length + 1) c7) = W9 at hr9 HLH ⊢
    obtain ⟨s0, s1, s2, s3, s4, s5, s6, s7⟩ := st3 hr9 (.int .i64 0) (.int .i64 0) (.int .i64 0)
    have HS6 : Hid ((((W9.setCell ⟨w.heap.size + 1, 0, none⟩ (.int .i64 0)).setCell ⟨w.heap.size + 1, 1, none⟩ (.int .i64 0)).setCell ⟨w.heap.size + 1, 2, none⟩ (.int .i64 0)).heap[w.heap.size + 1]? = some (.cells #[.int .i64 0, .int .i64 0, .int .i64 0] 37)) := s6
    have HS7 : Hid (Kp (fun b => b = w.heap.size + 1) W9 (((W9.setCell ⟨w.heap.size + 1, 0, none⟩ (.int .i64 0)).setCell ⟨w.heap.size + 1, 1, none⟩ (.int .i64 0)).setCell ⟨w.heap.size + 1, 2, none⟩ (.int .i64 0))) := s7
    clear s6 s7
    go_wp2
    generalize (((W9.setCell ⟨w.heap.size + 1, 0, none⟩ (.int .i64 0)).setCell ⟨w.heap.size + 1, 1, none⟩ (.int .i64 0)).setCell ⟨w.heap.size + 1, 2, none⟩ (.int .i64 0)) = W10 at HS6 HS7 ⊢
    have r0 := cell_of_row _ _ 0 _ _ _ HS6.out
    have r1 := cell_of_row _ _ 1 _ _ _ HS6.out
    have r2 := cell_of_row _ _ 2 _ _ _ HS6.out
    simp only [List.getElem?_toArray, List.getElem?_cons_zero, List.getElem?_cons_succ] at r0 r1 r2
    refine bodyPost_ret (v := .agg #[.int .i64 0, .int .i64 0, .int .i64 0]) (by simp [results, Try.results11, go_sem, r0, r1, r2]) rfl ?_
    exact ⟨rfl, H, Lft.box (ps_st lo pb) HLH.out HS7.out (by omega) HHn.out⟩
  refine AllReadyH.cons (o := { dst := some 180, op := Op.buildSlice 30 1 #[(0, Operand.tmp 179)], type := 30, pos := "law.go:148", after := #[{ on := 6, ground := Ground.data }], guard := none }) rfl (fun K hK => ?_) AllReadyH.nil
  go_simp
  refine hK.out _ _ ?_ (fun hHeldB => ?_)
  · (try dsimp only); first | exact HK0.out | exact HK1.out | exact HK7.out | exact HK8.out
  clear hK K hHeld
  have hHeld := hHeldB
  clear hHeldB
  try simp only [Act.put, List.setIfInBounds_toArray, List.set_cons_zero, List.set_cons_succ]
  refine wpAnyH_ready (rs := [4]) (by kernel_rfl) (by simp) ?_
  refine AllReadyH.cons (o := { dst := some 177, op := Op.load 30 (Operand.tmp 176), type := 30, pos := "law.go:148", after := #[{ on := 3, ground := Ground.data }], guard := none }) rfl (fun K hK => ?_) AllReadyH.nil
  go_simp
  refine hK.out _ _ ?_ (fun hHeldB => ?_)
  · (try dsimp only); first | exact HK0.out | exact HK1.out | exact HK7.out | exact HK8.out
  clear hK K hHeld
  have hHeld := hHeldB
  clear hHeldB
  try simp only [Act.put, List.setIfInBounds_toArray, List.set_cons_zero, List.set_cons_succ]
  refine wpAnyH_ready (rs := [8]) (by kernel_rfl) (by simp) ?_
  refine AllReadyH.cons (o := { dst := some 181, op := Op.call { callee := Callee.builtin Builtin.append, args := #[Operand.tmp 177, Operand.tmp 180], argTypes := #[30, 30] }, type := 30, pos := "law.go:148", after := #[{ on := 4, ground := Ground.data }, { on := 7, ground := Ground.data }], guard := none }) rfl (fun K hK => ?_) AllReadyH.nil
  refine step_app_at eInt rfl _ _ rfl ((HX.out.ow.alloc _).drew) (Nat.zero_le _) (row_rd (V := ivs (gt [n])) (heap_new1 W1 (.cells #[.int .i64 n] 3)) (by decide) (fun j hj => by match j, hj with | 0, _ => rfl)) (by decide) (ivs_one _ _) (x.notes.length + 1) rfl (by omega) (ivs (gt (x.notes ++ [n]))) (fun j _ => catV_gt x.notes [n] j) rfl rfl ?_
  intro a7 c7 w7 hO7 hG7 hA7
  have hKr : Kp (fun b => (Value.slice av x.notes.length ac).ownBlock = some b) W1 w7 := (Kp.of_below (F := fun b => (Value.slice av x.notes.length ac).ownBlock = some b) ((below1 W1 (.cells #[.int .i64 n] 3)).drew)).trans (Kp.of_grown (F := fun b => (Value.slice av x.notes.length ac).ownBlock = some b) hG7 (fun k hk => hk)) (fun _ _ h => h)
  obtain ⟨k7, hput⟩ := ps_put (N := (x.notes.length + 1)) (l := [n]) (Nat.le_trans hlo HLO.out) HX.out rfl hO7 hKr (by simp) hA7
  have HL : Hid (∃ G9, Lft (PS lo pb) F W1 (x.note [n]) G9 (w7.setCell ⟨pb, 0, none⟩ (.slice a7 (x.notes.length + 1) c7))) := hput
  have f7 : w7.cell? ⟨pb, 0, none⟩ = some (.slice av x.notes.length ac) := by rw [cell_of_row _ _ _ _ _ _ k7]; rfl
  have z7 : w7.frozen? ⟨pb, 0, none⟩ = false := by simp [World.frozen?, k7]
  have HK7 : Hid (Kp (fun b => (Value.slice av x.notes.length ac).ownBlock = some b ∨ b = pb) W1 w7) := hKr.mono fun _ _ h => Or.inl h
  have HK8 : Hid (Kp (fun b => (Value.slice av x.notes.length ac).ownBlock = some b ∨ b = pb) W1 (w7.setCell ⟨pb, 0, none⟩ (.slice a7 (x.notes.length + 1) c7))) := HK7.out.set (p := ⟨pb, 0, none⟩) (Or.inl (Or.inr rfl)) _
  clear hO7 hG7 hA7 hKr hput k7
  refine hK.out _ _ ?_ (fun hHeldB => ?_)
  · (try dsimp only); first | exact HK0.out | exact HK1.out | exact HK7.out | exact HK8.out
  clear hK K hHeld
  have hHeld := hHeldB
  clear hHeldB
  try simp only [Act.put, List.setIfInBounds_toArray, List.set_cons_zero, List.set_cons_succ]
  refine wpAnyH_take (i := 9) (oi := { dst := some 182, op := Op.nilCheck (Operand.tmp 173), type := 0, pos := "law.go:148", after := #[{ on := 0, ground := Ground.data }, { on := 0, ground := Ground.phase }, { on := 1, ground := Ground.phase }, { on := 2, ground := Ground.phase }, { on := 3, ground := Ground.phase }, { on := 4, ground := Ground.phase }, { on := 5, ground := Ground.phase }, { on := 6, ground := Ground.phase }, { on := 7, ground := Ground.phase }, { on := 8, ground := Ground.phase }], guard := none }) (v := ?vu117) rfl (by kernel_rfl) (by kernel_rfl) (by kernel_rfl) (fun _ _ _ h => h) (Or.inl ⟨by rfl, ?hyu117⟩) (by assumption) ?restu117
  case hyu117 => (intro w hSw; (try dsimp only at hSw); go_simp; (try with_reducible rfl))
  try simp only [Act.put, List.setIfInBounds_toArray, List.set_cons_zero, List.set_cons_succ]
  refine wpAnyH_take (i := 10) (oi := { dst := some 183, op := Op.fieldAddr 35 (Operand.tmp 182) 0, type := 0, pos := "law.go:148", after := #[{ on := 9, ground := Ground.data }, { on := 0, ground := Ground.phase }, { on := 1, ground := Ground.phase }, { on := 2, ground := Ground.phase }, { on := 3, ground := Ground.phase }, { on := 4, ground := Ground.phase }, { on := 5, ground := Ground.phase }, { on := 6, ground := Ground.phase }, { on := 7, ground := Ground.phase }, { on := 8, ground := Ground.phase }], guard := none }) (v := ?vu118) rfl (by kernel_rfl) (by kernel_rfl) (by kernel_rfl) (fun _ _ _ h => h) (Or.inl ⟨by rfl, ?hyu118⟩) (by assumption) ?restu118
  case hyu118 => (intro w hSw; (try dsimp only at hSw); go_simp; (try with_reducible rfl))
  try simp only [Act.put, List.setIfInBounds_toArray, List.set_cons_zero, List.set_cons_succ]
  refine wpAnyH_ready (rs := [11]) (by kernel_rfl) (by simp) ?_
  refine AllReadyH.cons (o := { dst := none, op := Op.store 30 (Operand.tmp 183) (Operand.tmp 181), type := 0, pos := "law.go:148", after := #[{ on := 10, ground := Ground.data }, { on := 8, ground := Ground.data }, { on := 8, ground := Ground.chain }, { on := 0, ground := Ground.phase }, { on := 1, ground := Ground.phase }, { on := 2, ground := Ground.phase }, { on := 3, ground := Ground.phase }, { on := 4, ground := Ground.phase }, { on := 5, ground := Ground.phase }, { on := 6, ground := Ground.phase }, { on := 7, ground := Ground.phase }, { on := 8, ground := Ground.phase }], guard := none }) rfl (fun K hK => ?_) AllReadyH.nil
  go_simp
  refine hK.out _ _ ?_ (fun hHeldB => ?_)
  · (try dsimp only); first | exact HK0.out | exact HK1.out | exact HK7.out | exact HK8.out
  clear hK K hHeld
  have hHeld := hHeldB
  clear hHeldB
  try simp only [Act.put, List.setIfInBounds_toArray, List.set_cons_zero, List.set_cons_succ]
  refine wpAnyH_done (by kernel_rfl) ?_ _
  obtain ⟨H, hL⟩ := HL.out
  have hr9 := HK8.out.heap HQ2.out (kf_noP HX.out HQ2.out (by decide) (by decide))
  have hz := HZ1.out
  have HHn : Hid (¬ H (w.heap.size + 1)) := fun h => (hL.2.1 _ h).elim (fun q => by have := HLT.out _ q; omega) fun q => by omega
  have hnr := HHn.out
  have HLH : Hid (Lft (PS lo pb) F w (x.note [n]) H (w7.setCell ⟨pb, 0, none⟩ (.slice a7 (x.notes.length + 1) c7))) := hL.of_below HB1.out
  clear hL hnr
  generalize w7.setCell ⟨pb, 0, none⟩ (.slice a7 (x.notes.length + 1) c7) = W9 at hr9 HLH ⊢
  obtain ⟨s0, s1, s2, s3, s4, s5, s6, s7⟩ := st3 hr9 (.int .i64 0) (.int .i64 0) (.int .i64 0)
  have HS6 : Hid ((((W9.setCell ⟨w.heap.size + 1, 0, none⟩ (.int .i64 0)).setCell ⟨w.heap.size + 1, 1, none⟩ (.int .i64 0)).setCell ⟨w.heap.size + 1, 2, none⟩ (.int .i64 0)).heap[w.heap.size + 1]? = some (.cells #[.int .i64 0, .int .i64 0, .int .i64 0] 37)) := s6
  have HS7 : Hid (Kp (fun b => b = w.heap.size + 1) W9 (((W9.setCell ⟨w.heap.size + 1, 0, none⟩ (.int .i64 0)).setCell ⟨w.heap.size + 1, 1, none⟩ (.int .i64 0)).setCell ⟨w.heap.size + 1, 2, none⟩ (.int .i64 0))) := s7
  clear s6 s7
  go_wp2
  generalize (((W9.setCell ⟨w.heap.size + 1, 0, none⟩ (.int .i64 0)).setCell ⟨w.heap.size + 1, 1, none⟩ (.int .i64 0)).setCell ⟨w.heap.size + 1, 2, none⟩ (.int .i64 0)) = W10 at HS6 HS7 ⊢
  have r0 := cell_of_row _ _ 0 _ _ _ HS6.out
  have r1 := cell_of_row _ _ 1 _ _ _ HS6.out
  have r2 := cell_of_row _ _ 2 _ _ _ HS6.out
  simp only [List.getElem?_toArray, List.getElem?_cons_zero, List.getElem?_cons_succ] at r0 r1 r2
  refine bodyPost_ret (v := .agg #[.int .i64 0, .int .i64 0, .int .i64 0]) (by simp [results, Try.results11, go_sem, r0, r1, r2]) rfl ?_
  exact ⟨rfl, H, Lft.box (ps_st lo pb) HLH.out HS7.out (by omega) HHn.out⟩
set_option maxHeartbeats 16000000 in
theorem plays_9 (lo pb : Nat) (F : Nat → Prop) (w : World) (x : St) (code n : Int) (na : Option Addr) (len cap : Nat) (hlo : lo ≤ w.heap.size) (hx : x.notes.length ≤ 100000) (hin : InR x) (hs : PS lo pb F w x) :
    Calls Try.prog 11 #[(.pointer (some ⟨pb, 0, none⟩)), .agg #[.int .i64 9, .int .i64 code, .int .i64 n, .slice na len cap]] w (PlayR lo pb F w (useE x.left n) ⟨x.notes, useL x.left n⟩) := by
  obtain ⟨W1, hW1⟩ : ∃ W1, W1 = (w.alloc (.cells #[.int .i64 9, .int .i64 code, .int .i64 n, .slice na len cap] 24)).alloc (.cells #[.int .i64 0, .int .i64 0, .int .i64 0] 37) := ⟨_, rfl⟩
  have HB1 : Hid (Below w.heap.size w W1) := by rw [hW1]; exact (below1 w _).alloc (by simp) _
  have HQ1 : Hid (W1.heap[w.heap.size]? = some (.cells #[.int .i64 9, .int .i64 code, .int .i64 n, .slice na len cap] 24)) := by show W1.heap[_]? = _; rw [hW1]; exact heap_new2 w _ _
  have HQ2 : Hid (W1.heap[w.heap.size + 1]? = some (.cells #[.int .i64 0, .int .i64 0, .int .i64 0] 37)) := by
    show W1.heap[_]? = _
    rw [hW1]
    have := heap_new1 (w.alloc (.cells #[.int .i64 9, .int .i64 code, .int .i64 n, .slice na len cap] 24)) (.cells #[.int .i64 0, .int .i64 0, .int .i64 0] 37)
    simpa using this
  have HZ1 : Hid (W1.heap.size = w.heap.size + 2) := by show _ = _; rw [hW1]; simp
  have HS1 : Hid (PS lo pb F W1 x) := (ps_st lo pb).below hs HB1.out
  have HLO : Hid (w.heap.size ≤ W1.heap.size) := HB1.out.size
  have HLT : Hid (∀ b, F b → b < w.heap.size) := (ps_st lo pb).lt hs
  have hs0 := hs
  clear hs
  obtain ⟨av, ac, hX⟩ := HS1.out
  have HX : Hid (PX lo pb F W1 x av ac) := hX
  have q3 : W1.cell? ⟨w.heap.size, 2, none⟩ = some (.int .i64 n) := by rw [cell_of_row _ _ _ _ _ _ HQ1.out]; rfl
  have q4 : W1.cell? ⟨pb, 1, none⟩ = some (.int .i64 x.left) := by rw [cell_of_row _ _ _ _ _ _ hX.hb]; rfl
  have hpb : pb < w.heap.size := HLT.out _ hX.own
  obtain ⟨hi1, hi2⟩ := hin
  clear hX
  by_cases hn : n < 0
  · have hu := use_neg (l := x.left) hn
    rw [hu.1, hu.2]
    clear hu
    go_enter Try.func11, Try.ntmps11
    go_wp2
    refine bodyPost_ret (v := .agg #[.int .i64 1, .int .i64 1, .int .i64 n]) (by simp [results, Try.results11, go_sem]) rfl ?_
    exact ⟨rfl, F, (ps_st lo pb).lft hs0 ((below1 w _).alloc (by simp) _)⟩
  by_cases hb : x.left < n
  · have hu := use_big (l := x.left) hn hb
    rw [hu.1, hu.2]
    clear hu
    go_enter Try.func11, Try.ntmps11
    go_wp2
    rw [← hW1]
    clear hW1
    go_quiet (fail)
    have hr9 : (W1.drewN nq).heap[w.heap.size + 1]? = some (.cells #[.int .i64 0, .int .i64 0, .int .i64 0] 37) := HQ2.out
    have hz := HZ1.out
    have hnr : ¬ F (w.heap.size + 1) := fun h => by have := HLT.out _ h; omega
    have HNR : Hid (¬ F (w.heap.size + 1)) := hnr
    have q5 : (W1.drewN nq).cell? ⟨w.heap.size, 2, none⟩ = some (.int .i64 n) := q3
    have HLH : Hid (Lft (PS lo pb) F w x F (W1.drewN nq)) := (ps_st lo pb).lft hs0 (below_drewN HB1.out nq)
    clear hnr q3 q4
    generalize W1.drewN nq = W9 at hr9 HLH q5 ⊢
    obtain ⟨s0, s1, s2, s3, s4, s5, s6, s7⟩ := st3 hr9 (.int .i64 1) (.int .i64 10) (.int .i64 n)
    have HS6 : Hid ((((W9.setCell ⟨w.heap.size + 1, 0, none⟩ (.int .i64 1)).setCell ⟨w.heap.size + 1, 1, none⟩ (.int .i64 10)).setCell ⟨w.heap.size + 1, 2, none⟩ (.int .i64 n)).heap[w.heap.size + 1]? = some (.cells #[.int .i64 1, .int .i64 10, .int .i64 n] 37)) := s6
    have HS7 : Hid (Kp (fun b => b = w.heap.size + 1) W9 (((W9.setCell ⟨w.heap.size + 1, 0, none⟩ (.int .i64 1)).setCell ⟨w.heap.size + 1, 1, none⟩ (.int .i64 10)).setCell ⟨w.heap.size + 1, 2, none⟩ (.int .i64 n))) := s7
    clear s6 s7
    go_wp2
    generalize (((W9.setCell ⟨w.heap.size + 1, 0, none⟩ (.int .i64 1)).setCell ⟨w.heap.size + 1, 1, none⟩ (.int .i64 10)).setCell ⟨w.heap.size + 1, 2, none⟩ (.int .i64 n)) = W10 at HS6 HS7 ⊢
    have r0 := cell_of_row _ _ 0 _ _ _ HS6.out
    have r1 := cell_of_row _ _ 1 _ _ _ HS6.out
    have r2 := cell_of_row _ _ 2 _ _ _ HS6.out
    simp only [List.getElem?_toArray, List.getElem?_cons_zero, List.getElem?_cons_succ] at r0 r1 r2
    refine bodyPost_ret (v := .agg #[.int .i64 1, .int .i64 10, .int .i64 n]) (by simp [results, Try.results11, go_sem, r0, r1, r2]) rfl ?_
    exact ⟨rfl, F, Lft.box (ps_st lo pb) HLH.out HS7.out (by omega) HNR.out⟩
  · have hu := use_ok (l := x.left) hn hb
    rw [hu.1, hu.2]
    clear hu
    go_enter Try.func11, Try.ntmps11
    go_wp2
    rw [← hW1]
    clear hW1
    go_quiet (fail)
    go_wp2
    obtain ⟨Wq, hWq⟩ : ∃ Wq, Wq = W1.drewN nq := ⟨_, rfl⟩
    have HBq : Hid (Below w.heap.size w Wq) := by rw [hWq]; exact below_drewN HB1.out nq
    have HQ1q : Hid (Wq.heap[w.heap.size]? = some (.cells #[.int .i64 9, .int .i64 code, .int .i64 n, .slice na len cap] 24)) := by rw [hWq]; exact HQ1.out
    have HQ2q : Hid (Wq.heap[w.heap.size + 1]? = some (.cells #[.int .i64 0, .int .i64 0, .int .i64 0] 37)) := by rw [hWq]; exact HQ2.out
    have HZq : Hid (Wq.heap.size = w.heap.size + 2) := by rw [hWq]; exact HZ1.out
    have HXq : Hid (PX lo pb F Wq x av ac) := by rw [hWq]; exact ⟨HX.out.hb, HX.out.ow.drewN nq, HX.out.row, HX.out.own, HX.out.lt, HX.out.lo⟩
    rw [← hWq]
    clear hWq q3 q4
    have HNq : Hid (¬ w.heap.size = pb) := by show ¬ _ = _; omega
    have HN2q : Hid (¬ w.heap.size + 1 = pb) := by show ¬ _ = _; omega
    have HK0 : Hid (Kp (fun b => b = pb) Wq Wq.drew) := Kp.of_below (below_refl Wq).drew
    have HK8 : Hid (Kp (fun b => b = pb) Wq ((Wq.setCell ⟨pb, 1, none⟩ (.int .i64 (x.left - n))).drew)) := ((Kp.refl (fun b => b = pb) Wq).set (p := ⟨pb, 1, none⟩) (Or.inl rfl) _).drewK
    have hwr : IntKind.i64.wrap (x.left - n) = x.left - n := by rw [IntKind.wrap_i64]; omega
    have cN : Wq.drew.cell? ⟨pb, 1, none⟩ = some (.int .i64 x.left) := by show Wq.cell? _ = _; rw [cell_of_row _ _ _ _ _ _ HXq.out.hb]; rfl
    have zN : Wq.drew.frozen? ⟨pb, 1, none⟩ = false := by show Wq.frozen? _ = _; simp [World.frozen?, HXq.out.hb]
    refine wp_region_held_drew (S := (fun w' => Kp (fun b => b = pb) Wq w')) (by kernel_rfl) ?_ (fun hHeld => ?_)
    · (try dsimp only); first | exact HK0.out | exact HK8.out
    refine wpAnyH_take (i := 0) (oi := { dst := some 204, op := Op.move (Operand.tmp 0), type := 33, pos := "law.go:156", after := #[], guard := none }) (v := ?vu119) rfl (by kernel_rfl) (by kernel_rfl) (by kernel_rfl) (fun _ _ _ h => h) (Or.inl ⟨by rfl, ?hyu119⟩) (by assumption) ?restu119
    case hyu119 => (intro w hSw; (try dsimp only at hSw); go_simp; (try with_reducible rfl))
    try simp only [Act.put, List.setIfInBounds_toArray, List.set_cons_zero, List.set_cons_succ]
    refine wpAnyH_take (i := 1) (oi := { dst := some 205, op := Op.move (Operand.tmp 0), type := 33, pos := "law.go:156", after := #[], guard := none }) (v := ?vu120) rfl (by kernel_rfl) (by kernel_rfl) (by kernel_rfl) (fun _ _ _ h => h) (Or.inl ⟨by rfl, ?hyu120⟩) (by assumption) ?restu120
    case hyu120 => (intro w hSw; (try dsimp only at hSw); go_simp; (try with_reducible rfl))
    try simp only [Act.put, List.setIfInBounds_toArray, List.set_cons_zero, List.set_cons_succ]
    refine wpAnyH_take (i := 2) (oi := { dst := some 206, op := Op.nilCheck (Operand.tmp 205), type := 0, pos := "law.go:156", after := #[{ on := 1, ground := Ground.data }], guard := none }) (v := ?vu121) rfl (by kernel_rfl) (by kernel_rfl) (by kernel_rfl) (fun _ _ _ h => h) (Or.inl ⟨by rfl, ?hyu121⟩) (by assumption) ?restu121
    case hyu121 => (intro w hSw; (try dsimp only at hSw); go_simp; (try with_reducible rfl))
    try simp only [Act.put, List.setIfInBounds_toArray, List.set_cons_zero, List.set_cons_succ]
    refine wpAnyH_take (i := 3) (oi := { dst := some 207, op := Op.fieldAddr 35 (Operand.tmp 206) 1, type := 0, pos := "law.go:156", after := #[{ on := 2, ground := Ground.data }], guard := none }) (v := ?vu122) rfl (by kernel_rfl) (by kernel_rfl) (by kernel_rfl) (fun _ _ _ h => h) (Or.inl ⟨by rfl, ?hyu122⟩) (by assumption) ?restu122
    case hyu122 => (intro w hSw; (try dsimp only at hSw); go_simp; (try with_reducible rfl))
    try simp only [Act.put, List.setIfInBounds_toArray, List.set_cons_zero, List.set_cons_succ]
    refine wpAnyH_take (i := 5) (oi := { dst := some 209, op := Op.fieldAddr 24 (Operand.tmp 3) 2, type := 0, pos := "law.go:156", after := #[], guard := none }) (v := ?vu123) rfl (by kernel_rfl) (by kernel_rfl) (by kernel_rfl) (fun _ _ _ h => h) (Or.inl ⟨by rfl, ?hyu123⟩) (by assumption) ?restu123
    case hyu123 => (intro w hSw; (try dsimp only at hSw); go_simp; (try with_reducible rfl))
    try simp only [Act.put, List.setIfInBounds_toArray, List.set_cons_zero, List.set_cons_succ]
    refine wpAnyH_take (i := 6) (oi := { dst := some 210, op := Op.load 3 (Operand.tmp 209), type := 3, pos := "law.go:156", after := #[{ on := 5, ground := Ground.data }], guard := none }) (v := ?vu124) rfl (by kernel_rfl) (by kernel_rfl) (by kernel_rfl) (fun _ _ _ h => h) (Or.inl ⟨by rfl, ?hyu124⟩) (by assumption) ?restu124
    case hyu124 => (intro wz hSw; (try dsimp only at hSw); have u0 := cell_of_row _ _ 2 _ _ _ (hSw.heap HQ1q.out HNq.out); (try simp only [List.getElem?_toArray, List.getElem?_cons_zero, List.getElem?_cons_succ] at u0); go_simp; (try with_reducible rfl))
    try simp only [Act.put, List.setIfInBounds_toArray, List.set_cons_zero, List.set_cons_succ]
    refine wpAnyH_ready (rs := [4]) (by kernel_rfl) (by simp) ?_
    refine AllReadyH.cons (o := { dst := some 208, op := Op.load 3 (Operand.tmp 207), type := 3, pos := "law.go:156", after := #[{ on := 3, ground := Ground.data }], guard := none }) rfl (fun K hK => ?_) AllReadyH.nil
    go_simp
    refine hK.out _ _ ?_ (fun hHeldB => ?_)
    · (try dsimp only); first | exact HK0.out | exact HK8.out
    clear hK K hHeld
    have hHeld := hHeldB
    clear hHeldB
    try simp only [Act.put, List.setIfInBounds_toArray, List.set_cons_zero, List.set_cons_succ]
    refine wpAnyH_take (i := 7) (oi := { dst := some 211, op := Op.binOp BinOp.sub 3 (Operand.tmp 208) (Operand.tmp 210) 3, type := 3, pos := "law.go:156", after := #[{ on := 4, ground := Ground.data }, { on := 6, ground := Ground.data }], guard := none }) (v := ?vu125) rfl (by kernel_rfl) (by kernel_rfl) (by kernel_rfl) (fun _ _ _ h => h) (Or.inl ⟨by rfl, ?hyu125⟩) (by assumption) ?restu125
    case hyu125 => (intro w hSw; (try dsimp only at hSw); go_simp; (try with_reducible rfl))
    try simp only [Act.put, List.setIfInBounds_toArray, List.set_cons_zero, List.set_cons_succ]
    refine wpAnyH_take (i := 8) (oi := { dst := some 212, op := Op.nilCheck (Operand.tmp 204), type := 0, pos := "law.go:156", after := #[{ on := 0, ground := Ground.data }, { on := 0, ground := Ground.phase }, { on := 1, ground := Ground.phase }, { on := 2, ground := Ground.phase }, { on := 3, ground := Ground.phase }, { on := 4, ground := Ground.phase }, { on := 5, ground := Ground.phase }, { on := 6, ground := Ground.phase }, { on := 7, ground := Ground.phase }], guard := none }) (v := ?vu126) rfl (by kernel_rfl) (by kernel_rfl) (by kernel_rfl) (fun _ _ _ h => h) (Or.inl ⟨by rfl, ?hyu126⟩) (by assumption) ?restu126
    case hyu126 => (intro w hSw; (try dsimp only at hSw); go_simp; (try with_reducible rfl))
    try simp only [Act.put, List.setIfInBounds_toArray, List.set_cons_zero, List.set_cons_succ]
    refine wpAnyH_take (i := 9) (oi := { dst := some 213, op := Op.fieldAddr 35 (Operand.tmp 212) 1, type := 0, pos := "law.go:156", after := #[{ on := 8, ground := Ground.data }, { on := 0, ground := Ground.phase }, { on := 1, ground := Ground.phase }, { on := 2, ground := Ground.phase }, { on := 3, ground := Ground.phase }, { on := 4, ground := Ground.phase }, { on := 5, ground := Ground.phase }, { on := 6, ground := Ground.phase }, { on := 7, ground := Ground.phase }], guard := none }) (v := ?vu127) rfl (by kernel_rfl) (by kernel_rfl) (by kernel_rfl) (fun _ _ _ h => h) (Or.inl ⟨by rfl, ?hyu127⟩) (by assumption) ?restu127
    case hyu127 => (intro w hSw; (try dsimp only at hSw); go_simp; (try with_reducible rfl))
    try simp only [Act.put, List.setIfInBounds_toArray, List.set_cons_zero, List.set_cons_succ]
    refine wpAnyH_ready (rs := [10]) (by kernel_rfl) (by simp) ?_
    refine AllReadyH.cons (o := { dst := none, op := Op.store 3 (Operand.tmp 213) (Operand.tmp 211), type := 0, pos := "law.go:156", after := #[{ on := 9, ground := Ground.data }, { on := 7, ground := Ground.data }, { on := 0, ground := Ground.phase }, { on := 1, ground := Ground.phase }, { on := 2, ground := Ground.phase }, { on := 3, ground := Ground.phase }, { on := 4, ground := Ground.phase }, { on := 5, ground := Ground.phase }, { on := 6, ground := Ground.phase }, { on := 7, ground := Ground.phase }], guard := none }) rfl (fun K hK => ?_) AllReadyH.nil
    go_simp
    refine hK.out _ _ ?_ (fun hHeldB => ?_)
    · (try dsimp only); first | exact HK0.out | exact HK8.out
    clear hK K hHeld
    have hHeld := hHeldB
    clear hHeldB
    try simp only [Act.put, List.setIfInBounds_toArray, List.set_cons_zero, List.set_cons_succ]
    refine wpAnyH_done (by kernel_rfl) ?_ _
    have hr9 := HK8.out.heap HQ2q.out HN2q.out
    have hz := HZq.out
    have hnr : ¬ F (w.heap.size + 1) := fun h => by have := HLT.out _ h; omega
    have HNR : Hid (¬ F (w.heap.size + 1)) := hnr
    have HLH : Hid (Lft (PS lo pb) F w ⟨x.notes, x.left - n⟩ F ((Wq.setCell ⟨pb, 1, none⟩ (.int .i64 (x.left - n))).drew)) := Lft.drewL (ps_st lo pb) ((ps_less HXq.out (below_refl Wq)).of_below HBq.out)
    clear hnr
    generalize (Wq.setCell ⟨pb, 1, none⟩ (.int .i64 (x.left - n))).drew = W9 at hr9 HLH ⊢
    obtain ⟨s0, s1, s2, s3, s4, s5, s6, s7⟩ := st3 hr9 (.int .i64 0) (.int .i64 0) (.int .i64 0)
    have HS6 : Hid ((((W9.setCell ⟨w.heap.size + 1, 0, none⟩ (.int .i64 0)).setCell ⟨w.heap.size + 1, 1, none⟩ (.int .i64 0)).setCell ⟨w.heap.size + 1, 2, none⟩ (.int .i64 0)).heap[w.heap.size + 1]? = some (.cells #[.int .i64 0, .int .i64 0, .int .i64 0] 37)) := s6
    have HS7 : Hid (Kp (fun b => b = w.heap.size + 1) W9 (((W9.setCell ⟨w.heap.size + 1, 0, none⟩ (.int .i64 0)).setCell ⟨w.heap.size + 1, 1, none⟩ (.int .i64 0)).setCell ⟨w.heap.size + 1, 2, none⟩ (.int .i64 0))) := s7
    clear s6 s7
    go_wp2
    generalize (((W9.setCell ⟨w.heap.size + 1, 0, none⟩ (.int .i64 0)).setCell ⟨w.heap.size + 1, 1, none⟩ (.int .i64 0)).setCell ⟨w.heap.size + 1, 2, none⟩ (.int .i64 0)) = W10 at HS6 HS7 ⊢
    have r0 := cell_of_row _ _ 0 _ _ _ HS6.out
    have r1 := cell_of_row _ _ 1 _ _ _ HS6.out
    have r2 := cell_of_row _ _ 2 _ _ _ HS6.out
    simp only [List.getElem?_toArray, List.getElem?_cons_zero, List.getElem?_cons_succ] at r0 r1 r2
    refine bodyPost_ret (v := .agg #[.int .i64 0, .int .i64 0, .int .i64 0]) (by simp [results, Try.results11, go_sem, r0, r1, r2]) rfl ?_
    exact ⟨rfl, F, Lft.box (ps_st lo pb) HLH.out HS7.out (by omega) HNR.out⟩
end Go.Proofs.Ytgighebohbpkiaa
