/- bail's leaving, Catch, Only. -/
import Derived.Test.YtbgkfjelgnbfmaaGreatDoorBmz
namespace Go.Proofs.YtbgkfjelgnbfmaaGreatDoor
open Go.RowKit Fo
set_option maxRecDepth 100000
set_option linter.unusedSimpArgs false
set_option linter.unusedVariables false

namespace Fo
/-- How leaving ends: t tells which codes are wanted. -/
def LevE (t : Int → Prop) (lo : Nat) (F : Nat → Prop) (w : World) (r : En) (e : Ending) : Prop :=
  (r = .ret ∧ e = .returned (.pointer none)) ∨ (∃ c a b, r = .bail c a ∧ t c ∧ e = .returned (.pointer (some ⟨b, 0, none⟩)) ∧ w.heap[b]? = some (.cells #[.int .i64 c, .int .i64 a] 61)) ∨
    (r ≠ .ret ∧ (∀ c a, r = .bail c a → ¬ t c) ∧ EnIn lo F w r e)
end Fo
theorem one_put {w : World} {bq : Nat} {cy : Value} {TY : TypeId} (hq : w.heap[bq]? = some (.cells #[cy] TY)) (v : Value) :
    w.cell? ⟨bq, 0, none⟩ = some cy ∧ w.frozen? ⟨bq, 0, none⟩ = false ∧ (w.setCell ⟨bq, 0, none⟩ v).heap[bq]? = some (.cells #[v] TY) ∧ Kp (fun k => k = bq) w (w.setCell ⟨bq, 0, none⟩ v) :=
  ⟨by rw [cell_of_row _ _ _ _ _ _ hq]; rfl, by simp [World.frozen?, hq], by simp [World.setCell, Array.getElem?_modify, hq], (Kp.refl (fun k => k = bq) w).set (p := ⟨bq, 0, none⟩) (Or.inl rfl) _⟩
theorem two_put {w : World} {bp bq : Nat} {cx cy : Value} {TX TY : TypeId} (hp : w.heap[bp]? = some (.cells #[cx] TX)) (hq : w.heap[bq]? = some (.cells #[cy] TY)) (h3 : bp ≠ bq) (u v : Value) :
    w.cell? ⟨bp, 0, none⟩ = some cx ∧ w.frozen? ⟨bp, 0, none⟩ = false ∧ (w.setCell ⟨bp, 0, none⟩ u).cell? ⟨bq, 0, none⟩ = some cy ∧ (w.setCell ⟨bp, 0, none⟩ u).frozen? ⟨bq, 0, none⟩ = false ∧
    ((w.setCell ⟨bp, 0, none⟩ u).setCell ⟨bq, 0, none⟩ v).heap[bp]? = some (.cells #[u] TX) ∧ ((w.setCell ⟨bp, 0, none⟩ u).setCell ⟨bq, 0, none⟩ v).heap[bq]? = some (.cells #[v] TY) ∧ Kp (fun k => k = bp ∨ k = bq) w ((w.setCell ⟨bp, 0, none⟩ u).setCell ⟨bq, 0, none⟩ v) := by
  have hp1 : (w.setCell ⟨bp, 0, none⟩ u).heap[bp]? = some (.cells #[u] TX) := by simp [World.setCell, Array.getElem?_modify, hp]
  have hq1 : (w.setCell ⟨bp, 0, none⟩ u).heap[bq]? = some (.cells #[cy] TY) := (Below.heap_setCell w _ _ _ (fun e => h3 e.symm)).trans hq
  refine ⟨by rw [cell_of_row _ _ _ _ _ _ hp]; rfl, by simp [World.frozen?, hp], by rw [cell_of_row _ _ _ _ _ _ hq1]; rfl, by simp [World.frozen?, hq1], (Below.heap_setCell _ _ _ _ (fun e => h3 e)).trans hp1, ?_, ?_⟩
  · generalize w.setCell ⟨bp, 0, none⟩ u = w1 at hq1 ⊢
    simp [World.setCell, Array.getElem?_modify, hq1]
  · exact ((Kp.refl (fun k => k = bp ∨ k = bq) w).set (p := ⟨bp, 0, none⟩) (Or.inl (Or.inl rfl)) _).set (p := ⟨bq, 0, none⟩) (Or.inl (Or.inr rfl)) _
theorem settle_rec (v : Value) (old : List PanicEntry) (h : ∀ x, x ∈ old → x.goexit = false) : settle (.panicking ({ v := v, recovered := true } :: old)) = .returning := by
  have hd : old.dropWhile (!·.goexit) = [] := by
    induction old with
    | nil => rfl
    | cons x l ih => rw [List.dropWhile_cons_of_pos (by simp [h x (by simp)])]; exact ih fun y hy => h y (by simp [hy])
  simp [settle, hd]
set_option maxHeartbeats 4000000 in
theorem lvC_any {α : Type} {S : (Nat → Prop) → World → α → Prop} (hS : StF S) (F : Nat → Prop) (w : World) (x y : α) (f : FuncId) (cap : Array Value) (r : En) (hf : Fnv Tryz.prog f cap) (hx : S F w x)
    (hc : ∀ w1, Below w.heap.size w w1 → S F w1 x → Plays Tryz.prog f cap w1 (Fins S F w1 r y)) :
    Calls Tryz.prog 39 #[.func (.func f) #[] cap, (.func (.func 40) #[] #[])] w fun e w' => ∃ G, Lft S F w y G w' ∧ LevE (fun _ => True) w.heap.size G w' r e := by
  have hmf : ∀ (fn : Fn) (first cap : Array Value) (w : World), (Instr.makeFunc fn first cap).run Tryz.prog w = .ok (.func fn first cap) w := fun _ _ _ _ => rfl
  obtain ⟨W2, hW2⟩ : ∃ W2, W2 = (w.alloc (.cells #[(.func (.func 40) #[] #[])] 59)).alloc (.cells #[.pointer none] 57) := ⟨_, rfl⟩
  have hb2 : Below w.heap.size w W2 := by rw [hW2]; exact (below1 w _).alloc (by simp) _
  have HP : Hid (W2.heap[w.heap.size]? = some (.cells #[(.func (.func 40) #[] #[])] 59)) := by show W2.heap[_]? = _; rw [hW2]; exact heap_new2 w _ _
  have HQ : Hid (W2.heap[w.heap.size + 1]? = some (.cells #[.pointer none] 57)) := by
    show W2.heap[_]? = _
    rw [hW2]
    have := heap_new1 (w.alloc (.cells #[(.func (.func 40) #[] #[])] 59)) (.cells #[.pointer none] 57)
    simpa using this
  have hlt := hS.lt hx
  have HC := (call_fins hf (hc W2 hb2 (hS.below hx hb2))).calls
  have HB2 : Hid (Below w.heap.size w W2) := hb2
  have HLT : Hid (∀ b, F b → b < w.heap.size) := hlt
  have HZ : Hid (W2.heap.size = w.heap.size + 2) := by show _ = _; rw [hW2]; simp
  clear hc hb2 hx hlt hf
  go_enter_defers Tryz.func39, Tryz.ntmps39
  go_wp2_with (go_at_call 62; fail)
  rw [← hW2]
  clear hW2
  refine HC.mono ?_
  clear HC
  rintro e w3 ⟨G, hl, he⟩
  have n1 : ¬ F w.heap.size := fun h => by have := HLT.out _ h; omega
  have n2 : ¬ F (w.heap.size + 1) := fun h => by have := HLT.out _ h; omega
  have hz := HZ.out
  have g1 : ¬ G w.heap.size := fun h => (hl.2.1 _ h).elim n1 fun q => by omega
  have g2 : ¬ G (w.heap.size + 1) := fun h => (hl.2.1 _ h).elim n2 fun q => by omega
  have hp3 := hl.2.2.heap HP.out n1
  have hq3 := hl.2.2.heap HQ.out n2
  have HL : Hid (Lft S F w y G w3) := hl.of_below HB2.out
  have HP3 : Hid (w3.heap[w.heap.size]? = some (.cells #[(.func (.func 40) #[] #[])] 59)) := hp3
  have HQ3 : Hid (w3.heap[w.heap.size + 1]? = some (.cells #[.pointer none] 57)) := hq3
  have HG : Hid (¬ G w.heap.size ∧ ¬ G (w.heap.size + 1)) := ⟨g1, g2⟩
  clear hl n1 n2 g1 g2 hp3 hq3
  rcases he with ⟨rfl, rfl⟩ | ⟨v, old, rfl, ho, hv⟩
  · obtain ⟨k0, z0, k5, k4⟩ := one_put HQ3.out (.pointer none)
    have HK4 : Hid (Kp _ _ _) := k4
    have HK3 : Hid (_ = _) := k5
    clear k4 k5
    go_wp2
    generalize w3.setCell ⟨w.heap.size + 1, 0, none⟩ (.pointer none) = w4 at HK3 HK4 ⊢
    refine leaves_cons (f := 59) (args := #[.pointer (some ⟨w.heap.size, 0, none⟩), .pointer (some ⟨w.heap.size + 1, 0, none⟩)]) (by simp) (by simp [go_sem]) ?_
    refine (lv_idle w.heap.size (w.heap.size + 1) w4).mono ?_
    rintro e u' w' ⟨rfl, rfl, rfl⟩
    have d3 : w'.cell? ⟨w.heap.size + 1, 0, none⟩ = some (.pointer none) := by rw [cell_of_row _ _ _ _ _ _ HK3.out]; rfl
    have hfin : Lft S F w y G w' := ⟨hS.frame HL.out.1 HK4.out fun b hb hk => HG.out.2 (hk ▸ hb), HL.out.2.1, HL.out.2.2.trans HK4.out fun b hb hk => by omega⟩
    have HFin : Hid (Lft S F w y G w') := hfin
    clear hfin
    simp [Leaves, settle, results, Tryz.results39, go_sem, d3]
    exact ⟨G, HFin.out, Or.inl ⟨rfl, rfl⟩⟩
  · have HV : Hid (PanV W2.heap.size G w3 r v) := hv
    have HO : Hid (∀ x, x ∈ old → x.goexit = false) := ho
    clear hv ho
    try go_wp2
    refine leaves_cons (f := 59) (args := #[.pointer (some ⟨w.heap.size, 0, none⟩), .pointer (some ⟨w.heap.size + 1, 0, none⟩)]) (by simp) (by simp [go_sem]) ?_
    by_cases hr : ∃ c a, r = .bail c a
    · obtain ⟨c, a, rfl⟩ := hr
      obtain ⟨b, rfl, hbb, hgb, hlb⟩ := HV.out
      refine (lvC_bail w.heap.size (w.heap.size + 1) b c a old w3 hbb HP3.out HQ3.out).mono ?_
      rintro e u' w' ⟨rfl, rfl, qC, rfl⟩
      have hk : Kp (fun b => b = w.heap.size + 1) w3 ((w3.drewN qC).setCell ⟨w.heap.size + 1, 0, none⟩ (.pointer (some ⟨b, 0, none⟩))) := (Kp.of_below (F := fun b => b = w.heap.size + 1) (below_drewN (below_refl w3) qC)).set (p := ⟨w.heap.size + 1, 0, none⟩) (Or.inl rfl) _
      have h2 : ((w3.drewN qC).setCell ⟨w.heap.size + 1, 0, none⟩ (.pointer (some ⟨b, 0, none⟩))).heap[w.heap.size + 1]? = some (.cells #[.pointer (some ⟨b, 0, none⟩)] 57) := by
        have h0 : w3.heap[w.heap.size + 1]? = some (.cells #[.pointer none] 57) := HQ3.out
        simp [World.setCell, Array.getElem?_modify, h0]
      generalize (w3.drewN qC).setCell ⟨w.heap.size + 1, 0, none⟩ (.pointer (some ⟨b, 0, none⟩)) = w5 at hk h2 ⊢
      have hb5 := hk.heap hbb (by omega)
      have HB5 : Hid (_ = _) := hb5
      have d3 : w5.cell? ⟨w.heap.size + 1, 0, none⟩ = some (.pointer (some ⟨b, 0, none⟩)) := by rw [cell_of_row _ _ _ _ _ _ h2]; rfl
      have HFin : Hid (Lft S F w y G w5) := ⟨hS.frame HL.out.1 hk fun b hb hk => HG.out.2 (hk ▸ hb), HL.out.2.1, HL.out.2.2.trans hk fun b hb hk => by omega⟩
      have hst := settle_rec (.iface 57 (.pointer (some ⟨b, 0, none⟩))) old HO.out
      clear h2 hk hbb hb5
      simp [Leaves, hst, results, Tryz.results39, go_sem, d3]
      exact ⟨G, HFin.out, Or.inr (Or.inl ⟨c, a, b, rfl, trivial, rfl, HB5.out⟩)⟩
    · refine (lv_other w.heap.size (w.heap.size + 1) v r G W2.heap.size old w3 w3 HV.out fun c a e => hr ⟨c, a, e⟩).mono ?_
      rintro e u' w' ⟨rfl, rfl, rfl⟩
      have hen : EnIn w.heap.size G w' r (.panicked ({ v := v, recovered := false } :: { v := v, recovered := true } :: old)) := EnIn.lower (Or.inr ⟨v, _, rfl, fun x hx => by rcases List.mem_cons.1 hx with e | e; rw [e]; exact HO.out x e, HV.out⟩) HB2.out.size
      exact ⟨G, HL.out, Or.inr (Or.inr ⟨fun h => (by subst h; exact HV.out.elim), fun c a h => absurd ⟨c, a, h⟩ hr, hen⟩)⟩
set_option maxHeartbeats 4000000 in
theorem catch_any {α : Type} {S : (Nat → Prop) → World → α → Prop} (hS : StF S) (F : Nat → Prop) (w : World) (x y : α) (f : FuncId) (cap : Array Value) (r : En) (hf : Fnv Tryz.prog f cap) (hx : S F w x)
    (hc : ∀ w1, Below w.heap.size w w1 → S F w1 x → Plays Tryz.prog f cap w1 (Fins S F w1 r y)) :
    Calls Tryz.prog 23 #[.func (.func f) #[] cap] w fun e w' => ∃ G, Lft S F w y G w' ∧ CatE w.heap.size G w' r e := by
  have HC := lvC_any hS F w x y f cap r hf hx hc
  clear hc hx hf
  go_enter Tryz.func23, Tryz.ntmps23
  go_wp2_with (go_at_call 39; fail)
  refine HC.mono ?_
  clear HC
  rintro e w3 ⟨G, hl, he⟩
  have HL : Hid (Lft S F w y G w3) := hl
  clear hl
  rcases he with ⟨rfl, rfl⟩ | ⟨c, a, b, rfl, -, rfl, hb⟩ | ⟨h1, h2, he⟩
  · go_wp2
    go_ret2
    exact ⟨G, HL.out, rfl⟩
  · have t0 : w3.cell? ⟨b, 0, none⟩ = some (.int .i64 c) := by rw [cell_of_row _ _ _ _ _ _ hb]; rfl
    have t1 : w3.cell? ⟨b, 1, none⟩ = some (.int .i64 a) := by rw [cell_of_row _ _ _ _ _ _ hb]; rfl
    have HBB : Hid (w3.heap[b]? = some (.cells #[.int .i64 c, .int .i64 a] 61)) := hb
    clear hb
    go_wp2
    refine wp_region_held_drew (S := (fun w' => w'.heap[b]? = some (.cells #[.int .i64 c, .int .i64 a] 61))) (by kernel_rfl) ?_ (fun hHeld => ?_)
    · (try dsimp only); exact HBB.out
    refine wpAnyH_take (i := 0) (oi := { dst := some 9, op := Op.move (Operand.tmp 4), type := 57, pos := "bail.go:35", after := #[], guard := none }) (v := ?vu1) rfl (by kernel_rfl) (by kernel_rfl) (by kernel_rfl) (fun _ _ _ h => h) (Or.inl ⟨by rfl, ?hyu1⟩) (by assumption) ?restu1
    case hyu1 => (intro w hSw; (try dsimp only at hSw); go_simp; (try with_reducible rfl))
    try simp only [Act.put, List.setIfInBounds_toArray, List.set_cons_zero, List.set_cons_succ]
    refine wpAnyH_take (i := 1) (oi := { dst := some 10, op := Op.nilCheck (Operand.tmp 9), type := 0, pos := "bail.go:35", after := #[{ on := 0, ground := Ground.data }], guard := none }) (v := ?vu2) rfl (by kernel_rfl) (by kernel_rfl) (by kernel_rfl) (fun _ _ _ h => h) (Or.inl ⟨by rfl, ?hyu2⟩) (by assumption) ?restu2
    case hyu2 => (intro w hSw; (try dsimp only at hSw); go_simp; (try with_reducible rfl))
    try simp only [Act.put, List.setIfInBounds_toArray, List.set_cons_zero, List.set_cons_succ]
    refine wpAnyH_take (i := 2) (oi := { dst := some 11, op := Op.fieldAddr 61 (Operand.tmp 10) 0, type := 0, pos := "bail.go:35", after := #[{ on := 1, ground := Ground.data }], guard := none }) (v := ?vu3) rfl (by kernel_rfl) (by kernel_rfl) (by kernel_rfl) (fun _ _ _ h => h) (Or.inl ⟨by rfl, ?hyu3⟩) (by assumption) ?restu3
    case hyu3 => (intro w hSw; (try dsimp only at hSw); go_simp; (try with_reducible rfl))
    try simp only [Act.put, List.setIfInBounds_toArray, List.set_cons_zero, List.set_cons_succ]
    refine wpAnyH_take (i := 3) (oi := { dst := some 12, op := Op.load 26 (Operand.tmp 11), type := 26, pos := "bail.go:35", after := #[{ on := 2, ground := Ground.data }], guard := none }) (v := ?vu4) rfl (by kernel_rfl) (by kernel_rfl) (by kernel_rfl) (fun _ _ _ h => h) (Or.inl ⟨by rfl, ?hyu4⟩) (by assumption) ?restu4
    case hyu4 => (intro wz hSw; (try dsimp only at hSw); have t0 := cell_of_row _ _ 0 _ _ _ hSw; have t1 := cell_of_row _ _ 1 _ _ _ hSw; (try simp only [List.getElem?_toArray, List.getElem?_cons_zero, List.getElem?_cons_succ] at t0 t1); go_simp; (try with_reducible rfl))
    try simp only [Act.put, List.setIfInBounds_toArray, List.set_cons_zero, List.set_cons_succ]
    refine wpAnyH_take (i := 4) (oi := { dst := some 13, op := Op.move (Operand.tmp 4), type := 57, pos := "bail.go:35", after := #[{ on := 8, ground := Ground.gcOnly Departure.lateStores }], guard := none }) (v := ?vu5) rfl (by kernel_rfl) (by kernel_rfl) (by kernel_rfl) (fun _ _ _ h => h) (Or.inl ⟨by rfl, ?hyu5⟩) (by assumption) ?restu5
    case hyu5 => (intro w hSw; (try dsimp only at hSw); go_simp; (try with_reducible rfl))
    try simp only [Act.put, List.setIfInBounds_toArray, List.set_cons_zero, List.set_cons_succ]
    refine wpAnyH_take (i := 5) (oi := { dst := some 14, op := Op.nilCheck (Operand.tmp 13), type := 0, pos := "bail.go:35", after := #[{ on := 4, ground := Ground.data }, { on := 8, ground := Ground.gcOnly Departure.lateStores }], guard := none }) (v := ?vu6) rfl (by kernel_rfl) (by kernel_rfl) (by kernel_rfl) (fun _ _ _ h => h) (Or.inl ⟨by rfl, ?hyu6⟩) (by assumption) ?restu6
    case hyu6 => (intro w hSw; (try dsimp only at hSw); go_simp; (try with_reducible rfl))
    try simp only [Act.put, List.setIfInBounds_toArray, List.set_cons_zero, List.set_cons_succ]
    refine wpAnyH_take (i := 6) (oi := { dst := some 15, op := Op.fieldAddr 61 (Operand.tmp 14) 1, type := 0, pos := "bail.go:35", after := #[{ on := 5, ground := Ground.data }, { on := 8, ground := Ground.gcOnly Departure.lateStores }], guard := none }) (v := ?vu7) rfl (by kernel_rfl) (by kernel_rfl) (by kernel_rfl) (fun _ _ _ h => h) (Or.inl ⟨by rfl, ?hyu7⟩) (by assumption) ?restu7
    case hyu7 => (intro w hSw; (try dsimp only at hSw); go_simp; (try with_reducible rfl))
    try simp only [Act.put, List.setIfInBounds_toArray, List.set_cons_zero, List.set_cons_succ]
    refine wpAnyH_take (i := 7) (oi := { dst := some 16, op := Op.load 3 (Operand.tmp 15), type := 3, pos := "bail.go:35", after := #[{ on := 6, ground := Ground.data }, { on := 8, ground := Ground.gcOnly Departure.lateStores }], guard := none }) (v := ?vu8) rfl (by kernel_rfl) (by kernel_rfl) (by kernel_rfl) (fun _ _ _ h => h) (Or.inl ⟨by rfl, ?hyu8⟩) (by assumption) ?restu8
    case hyu8 => (intro wz hSw; (try dsimp only at hSw); have t0 := cell_of_row _ _ 0 _ _ _ hSw; have t1 := cell_of_row _ _ 1 _ _ _ hSw; (try simp only [List.getElem?_toArray, List.getElem?_cons_zero, List.getElem?_cons_succ] at t0 t1); go_simp; (try with_reducible rfl))
    try simp only [Act.put, List.setIfInBounds_toArray, List.set_cons_zero, List.set_cons_succ]
    refine wpAnyH_take (i := 8) (oi := { dst := some 2, op := Op.assign (Operand.tmp 12), type := 26, pos := "bail.go:35", after := #[{ on := 3, ground := Ground.data }, { on := 0, ground := Ground.phase }, { on := 1, ground := Ground.phase }, { on := 2, ground := Ground.phase }, { on := 3, ground := Ground.phase }, { on := 4, ground := Ground.textOnly Departure.lateStores }, { on := 5, ground := Ground.textOnly Departure.lateStores }, { on := 6, ground := Ground.textOnly Departure.lateStores }, { on := 7, ground := Ground.textOnly Departure.lateStores }], guard := none }) (v := ?vu9) rfl (by kernel_rfl) (by kernel_rfl) (by kernel_rfl) (fun _ _ _ h => h) (Or.inl ⟨by rfl, ?hyu9⟩) (by assumption) ?restu9
    case hyu9 => (intro w hSw; (try dsimp only at hSw); go_simp; (try with_reducible rfl))
    try simp only [Act.put, List.setIfInBounds_toArray, List.set_cons_zero, List.set_cons_succ]
    refine wpAnyH_take (i := 9) (oi := { dst := some 3, op := Op.assign (Operand.tmp 16), type := 3, pos := "bail.go:35", after := #[{ on := 7, ground := Ground.data }, { on := 8, ground := Ground.chain }, { on := 0, ground := Ground.phase }, { on := 1, ground := Ground.phase }, { on := 2, ground := Ground.phase }, { on := 3, ground := Ground.phase }, { on := 4, ground := Ground.phase }, { on := 5, ground := Ground.phase }, { on := 6, ground := Ground.phase }, { on := 7, ground := Ground.phase }, { on := 8, ground := Ground.phase }], guard := none }) (v := ?vu10) rfl (by kernel_rfl) (by kernel_rfl) (by kernel_rfl) (fun _ _ _ h => h) (Or.inl ⟨by rfl, ?hyu10⟩) (by assumption) ?restu10
    case hyu10 => (intro w hSw; (try dsimp only at hSw); go_simp; (try with_reducible rfl))
    try simp only [Act.put, List.setIfInBounds_toArray, List.set_cons_zero, List.set_cons_succ]
    refine wpAnyH_done (by kernel_rfl) ?_ _
    go_wp2
    go_ret2
    exact ⟨G, ⟨hS.drew HL.out.1, HL.out.2.1, HL.out.2.2.trans (Kp.of_below (F := F) (below_refl w3).drew) fun _ _ h => h⟩, rfl⟩
  · have HE : Hid (EnIn w.heap.size G w3 r e) := he
    rcases he with ⟨rfl, rfl⟩ | ⟨v, old, rfl, ho, hv⟩
    · exact absurd rfl h1
    clear ho hv
    go_wp2
    refine ⟨rfl, G, HL.out, ?_⟩
    cases r with
    | ret => exact absurd rfl h1
    | bail c a => exact absurd trivial (h2 c a rfl)
    | num n => exact HE.out
    | nilB => exact HE.out
theorem bail_says : BailSays where
  out := out_any
  catches := fun hS F w x y f cap r hf hx hc => catch_any hS F w x y f cap r hf hx hc
end Go.Proofs.YtbgkfjelgnbfmaaGreatDoor
