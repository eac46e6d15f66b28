/- bail's words, and where there is nothing to do. -/
import Derived.Test.YtgighebohbpkiaaDoorBwd
import Derived.Test.YtgighebohbpkiaaDoorBmq
import Derived.Test.YtgighebohbpkiaaDoorShelf
import Derived.Deep.RegionHeld3
namespace Go.Proofs.YtgighebohbpkiaaDoor
open Go.RowKit Fo
set_option maxRecDepth 100000
set_option linter.unusedSimpArgs false
set_option linter.unusedVariables false

theorem gpow : ∃ g, Tryd.prog.globalNamed "internal/strconv.uint64pow10" = some g ∧ g < 8 := by
  first
  | exact ⟨0, by kernel_rfl, by decide⟩
  | exact ⟨1, by kernel_rfl, by decide⟩
  | exact ⟨2, by kernel_rfl, by decide⟩
  | exact ⟨3, by kernel_rfl, by decide⟩
/-- What the calls read of the package variables. -/
structure EnvW (w : World) : Prop where
  sz : ∀ g, Tryd.prog.globalNamed "internal/strconv.uint64pow10" = some g → g < w.heap.size
  t10 : Lib.TabIs Tryd.prog w "internal/strconv.uint64pow10" .u64 Lib.pow10Tab
theorem var_of_block {w w' : World} {name : String} {g : Nat} (hg : Tryd.prog.globalNamed name = some g) (h : w'.heap[g]? = w.heap[g]?) : w'.var? Tryd.prog name = w.var? Tryd.prog name := by
  unfold World.var?; rw [hg]; simp only [Option.bind_some, h]
theorem EnvW.below {w w' : World} (h : EnvW w) (hb : Below w.heap.size w w') : EnvW w' := by
  obtain ⟨g, hg, -⟩ := gpow
  refine ⟨fun g hg => Nat.lt_of_lt_of_le (h.sz g hg) hb.size, ?_⟩
  unfold Lib.TabIs
  rw [var_of_block hg (hb.block g (h.sz g hg))]
  exact h.t10
theorem drewN_fields (k : Nat) : ∀ w : World, (w.drewN k).heap = w.heap ∧ (w.drewN k).os = w.os ∧ (w.drewN k).tape = w.tape ∧ (w.drewN k).output = w.output := by
  induction k with
  | zero => intro w; exact ⟨rfl, rfl, rfl, rfl⟩
  | succ k ih => intro w; exact ih w.drew
theorem below_grow (w : World) (k : Nat) (os : Array Obj) : Below w.heap.size w (Sort.grow (w.drewN k) os) := by
  obtain ⟨h, h1, h2, h3⟩ := drewN_fields k w
  refine ⟨h1, h2, h3, ?_, ?_⟩
  · show w.heap.size ≤ ((w.drewN k).heap ++ os).size
    rw [h]; simp
  · intro j hj
    show ((w.drewN k).heap ++ os)[j]? = _
    rw [h, Array.getElem?_append_left hj]
theorem itoa_any (w : World) (n : Int) (h1 : -1000 ≤ n) (h2 : n ≤ 1000) (henv : EnvW w) : Calls Tryd.prog 20 #[.int .i64 n] w fun e w' => e = .returned (.string (itoaT n)) ∧ Below w.heap.size w w' :=
  (Tryd.strconv_Itoa n (by omega) (by omega) w henv.t10).mono fun _ _ hh => ⟨hh.1, by obtain ⟨k, os, rfl⟩ := hh.2; exact below_grow w k os⟩
set_option maxHeartbeats 4000000 in
theorem calln_any (w : World) : Calls Tryd.prog 19 #[.nilFunc] w fun e w' => e = .returned (.tuple #[]) ∧ w' = w := by
  have hbo : ∀ w, (binOp .neq 1 .nilFunc .nilFunc).run Tryd.prog w = .ok (.bool false) w := fun _ => by kernel_rfl
  go_enter Tryd.func19, Tryd.ntmps19
  go_wp2
  go_end0
  exact ⟨rfl, rfl⟩
set_option maxHeartbeats 4000000 in
theorem calln_def (u : FrameMode) (w : World) : CallsD Tryd.prog 19 #[.nilFunc] u w fun e u' w' => e = .returned (.tuple #[]) ∧ u' = u ∧ w' = w := by
  have hbo : ∀ w, (binOp .neq 1 .nilFunc .nilFunc).run Tryd.prog w = .ok (.bool false) w := fun _ => by kernel_rfl
  refine callsD_of_wpS Tryd.func19 rfl fun c₀ cs hu => ?_
  simp only [Tryd.ntmps19, List.size_toArray, List.length_cons, List.length_nil, Nat.reduceAdd, Nat.reduceSub, Array.replicate_succ, Array.replicate_zero, List.push_toArray, List.append_toArray, List.nil_append, List.cons_append]
  apply wpS_of_wp
  go_wp2
  cases c₀
  simp_all [go_sem, bodyPostS, results, Tryd.results19]
set_option maxHeartbeats 4000000 in
theorem asbn_any (w : World) : Calls Tryd.prog 23 #[.nilIface] w fun e w' => e = .returned (.pointer none) ∧ w' = w := by
  have hta : ∀ w, (Instr.typeAssert .nilIface 20 23 true).run Tryd.prog w = .ok (.tuple #[.pointer none, .bool false]) w := fun _ => by kernel_rfl
  go_enter Tryd.func23, Tryd.ntmps23
  go_wp2
  go_ret
  exact ⟨rfl, rfl⟩
set_option maxHeartbeats 4000000 in
theorem leavn_any (wf : Fn) (wx wy : Array Value) (w : World) : Calls Tryd.prog 16 #[.nilFunc, .func wf wx wy] w fun e w' => e = .returned (.pointer none) ∧ Below w.heap.size w w' := by
  have hmf : ∀ (fn : Fn) (first cap : Array Value) (w : World), (Instr.makeFunc fn first cap).run Tryd.prog w = .ok (.func fn first cap) w := fun _ _ _ _ => rfl
  obtain ⟨W2, hW2⟩ : ∃ W2, W2 = (w.alloc (.cells #[.func wf wx wy] 42)).alloc (.cells #[.pointer none] 23) := ⟨_, rfl⟩
  have hb2 : Below w.heap.size w W2 := by rw [hW2]; exact (below1 w _).alloc (by simp) _
  have hq : W2.heap[w.heap.size + 1]? = some (.cells #[.pointer none] 23) := by
    rw [hW2]
    have := heap_new1 (w.alloc (.cells #[.func wf wx wy] 42)) (.cells #[.pointer none] 23)
    simpa using this
  obtain ⟨k0, z0, k5, k4⟩ := one_put hq (.pointer none)
  have hbw : Below w.heap.size w (W2.setCell ⟨w.heap.size + 1, 0, none⟩ (.pointer none)) := (((Kp.of_below (F := fun _ => False) hb2).set (p := ⟨w.heap.size + 1, 0, none⟩) (Or.inr (Nat.le_succ _)) (.pointer none))).below (Nat.le_refl _) fun _ _ h => h
  have HBW : Hid (Below w.heap.size w (W2.setCell ⟨w.heap.size + 1, 0, none⟩ (.pointer none))) := hbw
  have HK : Hid (_ = _) := k5
  clear hq hb2 k5 k4 hbw
  go_enter_defers Tryd.func16, Tryd.ntmps16
  go_wp2_with (go_at_call 19; fail)
  rw [← hW2]
  clear hW2
  refine (calln_any _).mono ?_
  rintro e wl ⟨rfl, hwl⟩
  rw [hwl]
  clear hwl
  go_wp2
  generalize W2.setCell ⟨w.heap.size + 1, 0, none⟩ (.pointer none) = w4 at HK HBW ⊢
  refine leaves_cons (f := 22) (args := #[.pointer (some ⟨w.heap.size, 0, none⟩), .pointer (some ⟨w.heap.size + 1, 0, none⟩)]) (by simp) (by simp [go_sem]) ?_
  refine (lv_idle w.heap.size (w.heap.size + 1) w4).mono ?_
  rintro e u' w' ⟨rfl, rfl, rfl⟩
  have d3 : w'.cell? ⟨w.heap.size + 1, 0, none⟩ = some (.pointer none) := by rw [cell_of_row _ _ _ _ _ _ HK.out]; rfl
  simp [Leaves, settle, results, Tryd.results16, go_sem, d3]
  exact HBW.out
set_option maxHeartbeats 4000000 in
theorem catchn_any (w : World) : Calls Tryd.prog 5 #[.nilFunc] w fun e w' => e = .returned (.tuple #[.int .i64 0, .int .i64 0]) ∧ Below w.heap.size w w' := by
  have hmf : ∀ (fn : Fn) (first cap : Array Value) (w : World), (Instr.makeFunc fn first cap).run Tryd.prog w = .ok (.func fn first cap) w := fun _ _ _ _ => rfl
  go_enter Tryd.func5, Tryd.ntmps5
  go_wp2_with (go_at_call 16; refine (leavn_any _ _ _ _).mono ?_; rintro e wl ⟨rfl, bl⟩; have HBl : Hid (Below w.heap.size w wl) := bl; clear bl)
  go_ret2
  exact ⟨rfl, HBl.out⟩
set_option maxHeartbeats 4000000 in
theorem onlyn_any (w : World) (k : Int) : Calls Tryd.prog 10 #[.int .i64 k, .nilFunc] w fun e w' => e = .returned (.bool false) ∧ Below w.heap.size w w' := by
  have hmf : ∀ (fn : Fn) (first cap : Array Value) (w : World), (Instr.makeFunc fn first cap).run Tryd.prog w = .ok (.func fn first cap) w := fun _ _ _ _ => rfl
  go_enter Tryd.func10, Tryd.ntmps10
  go_wp2_with (go_at_call 16; refine (leavn_any _ _ _ _).mono ?_; rintro e wl ⟨rfl, bl⟩; have HBl : Hid (Below w.heap.size w wl) := below_step (below1 w _) bl; clear bl)
  go_ret
  exact ⟨rfl, HBl.out⟩
set_option maxHeartbeats 4000000 in
theorem safen_any (w : World) : Calls Tryd.prog 6 #[.nilFunc] w fun e w' => e = .returned (.tuple #[.nilIface, .bool true]) ∧ Below w.heap.size w w' := by
  have hmf : ∀ (fn : Fn) (first cap : Array Value) (w : World), (Instr.makeFunc fn first cap).run Tryd.prog w = .ok (.func fn first cap) w := fun _ _ _ _ => rfl
  obtain ⟨W2, hW2⟩ : ∃ W2, W2 = (w.alloc (.cells #[.nilIface] 20)).alloc (.cells #[.bool false] 4) := ⟨_, rfl⟩
  have hb2 : Below w.heap.size w W2 := by rw [hW2]; exact (below1 w _).alloc (by simp) _
  have hp : W2.heap[w.heap.size]? = some (.cells #[.nilIface] 20) := by rw [hW2]; exact heap_new2 w _ _
  have hq : W2.heap[w.heap.size + 1]? = some (.cells #[.bool false] 4) := by
    rw [hW2]
    have := heap_new1 (w.alloc (.cells #[.nilIface] 20)) (.cells #[.bool false] 4)
    simpa using this
  obtain ⟨k0, z0, k1, z1, k2, k3, k4⟩ := two_put hp hq (Nat.ne_of_lt (Nat.lt_succ_self _)) .nilIface (.bool true)
  have hbw : Below w.heap.size w ((W2.setCell ⟨w.heap.size, 0, none⟩ .nilIface).setCell ⟨w.heap.size + 1, 0, none⟩ (.bool true)) := (((Kp.of_below (F := fun _ => False) hb2).set (p := ⟨w.heap.size, 0, none⟩) (Or.inr (Nat.le_refl _)) .nilIface).set (p := ⟨w.heap.size + 1, 0, none⟩) (Or.inr (Nat.le_succ _)) (.bool true)).below (Nat.le_refl _) fun _ _ h => h
  have HBW : Hid (Below w.heap.size w ((W2.setCell ⟨w.heap.size, 0, none⟩ .nilIface).setCell ⟨w.heap.size + 1, 0, none⟩ (.bool true))) := hbw
  have HK2 : Hid (_ = _) := k2
  have HK3 : Hid (_ = _) := k3
  clear hp hq hb2 k2 k3 k4 hbw
  go_enter_defers Tryd.func6, Tryd.ntmps6
  go_wp2_with (go_at_call 19; fail)
  rw [← hW2]
  clear hW2
  refine (calln_any _).mono ?_
  rintro e wl ⟨rfl, hwl⟩
  rw [hwl]
  clear hwl
  go_wp2
  generalize (W2.setCell ⟨w.heap.size, 0, none⟩ .nilIface).setCell ⟨w.heap.size + 1, 0, none⟩ (.bool true) = w4 at HK2 HK3 HBW ⊢
  refine leaves_cons (f := 18) (args := #[.pointer (some ⟨w.heap.size + 1, 0, none⟩), .pointer (some ⟨w.heap.size, 0, none⟩)]) (by simp) (by simp [go_sem]) ?_
  refine (safC_done (w.heap.size + 1) w.heap.size w4 HK3.out).mono ?_
  rintro e u' w' ⟨rfl, rfl, rfl⟩
  have d2 : w'.cell? ⟨w.heap.size, 0, none⟩ = some .nilIface := by rw [cell_of_row _ _ _ _ _ _ HK2.out]; rfl
  have d3 : w'.cell? ⟨w.heap.size + 1, 0, none⟩ = some (.bool true) := by rw [cell_of_row _ _ _ _ _ _ HK3.out]; rfl
  simp [Leaves, settle, results, Tryd.results6, go_sem, d2, d3]
  exact HBW.out
set_option maxHeartbeats 4000000 in
theorem aftern_any (w : World) : Calls Tryd.prog 7 #[.nilFunc, .nilFunc] w fun e w' => e = .returned (.tuple #[]) ∧ Below w.heap.size w w' := by
  go_enter_defers Tryd.func7, Tryd.ntmps7
  go_wp2_with (go_at_call 19; refine (calln_any _).mono ?_; rintro e wl ⟨rfl, rfl⟩)
  refine leaves_cons (f := 19) (args := #[.nilFunc]) (by simp) (by simp [go_sem]) ?_
  refine (calln_def .returning _).mono ?_
  rintro e u' w' ⟨rfl, rfl, rfl⟩
  simp [Leaves, settle, results, Tryd.results7, go_sem]
  exact below_refl _
set_option maxHeartbeats 4000000 in
theorem errn_any (w : World) : Calls Tryd.prog 8 #[.pointer none] w fun e w' => e = .returned (.string ⟨#[98, 97, 105, 108]⟩) ∧ Below w.heap.size w w' := by
  go_enter Tryd.func8, Tryd.ntmps8
  go_wp2
  go_ret
  exact ⟨rfl, below_refl w⟩
set_option maxHeartbeats 8000000 in
theorem err_any (w : World) (b : Nat) (c a : Int) (henv : EnvW w) (hb : w.heap[b]? = some (.cells #[.int .i64 c, .int .i64 a] 26)) (h1 : -1000 ≤ c) (h2 : c ≤ 1000) (h3 : -1000 ≤ a) (h4 : a ≤ 1000) :
    Calls Tryd.prog 8 #[.pointer (some ⟨b, 0, none⟩)] w fun e w' => e = .returned (.string (bailT c a)) ∧ Below w.heap.size w w' := by
  have HENV : Hid (EnvW w) := henv
  have HB : Hid (w.heap[b]? = some (.cells #[.int .i64 c, .int .i64 a] 26)) := hb
  obtain ⟨s1, hs1⟩ : ∃ s1, s1 = itoaT c := ⟨_, rfl⟩
  obtain ⟨s2, hs2⟩ : ∃ s2, s2 = itoaT a := ⟨_, rfl⟩
  have hz1 : s1.size ≤ 30 := by rw [hs1]; exact itoaT_size c h1 h2
  have hz2 : s2.size ≤ 30 := by rw [hs2]; exact itoaT_size a h3 h4
  have hbt : bailT c a = ⟨#[98, 97, 105, 108, 32]⟩ ++ s1 ++ ⟨#[32, 97, 116, 32]⟩ ++ s2 := by rw [hs1, hs2]; rfl
  have HBT : Hid (bailT c a = ⟨#[98, 97, 105, 108, 32]⟩ ++ s1 ++ ⟨#[32, 97, 116, 32]⟩ ++ s2) := hbt
  have HS1 : Hid (s1 = itoaT c) := hs1
  have HS2 : Hid (s2 = itoaT a) := hs2
  clear henv hb hs1 hs2 hbt
  go_enter Tryd.func8, Tryd.ntmps8
  go_wp2
  refine wp_region_held_drew (S := (fun w' => Below w.heap.size w w')) (by kernel_rfl) ?_ (fun hHeld => ?_)
  · (try dsimp only); exact (below_refl w).drew
  refine wpAnyH_take (i := 0) (oi := { dst := some 5, op := Op.move (Operand.tmp 0), type := 23, pos := "bail.go:21", after := #[], guard := none }) (v := ?vu11) rfl (by kernel_rfl) (by kernel_rfl) (by kernel_rfl) (fun _ _ _ h => h) (Or.inl ⟨by rfl, ?hyu11⟩) (by assumption) ?restu11
  case hyu11 => (intro w hSw; (try dsimp only at hSw); go_simp; (try with_reducible rfl))
  try simp only [Act.put, List.setIfInBounds_toArray, List.set_cons_zero, List.set_cons_succ]
  refine wpAnyH_take (i := 1) (oi := { dst := some 6, op := Op.nilCheck (Operand.tmp 5), type := 0, pos := "bail.go:21", after := #[{ on := 0, ground := Ground.data }], guard := none }) (v := ?vu12) rfl (by kernel_rfl) (by kernel_rfl) (by kernel_rfl) (fun _ _ _ h => h) (Or.inl ⟨by rfl, ?hyu12⟩) (by assumption) ?restu12
  case hyu12 => (intro w hSw; (try dsimp only at hSw); go_simp; (try with_reducible rfl))
  try simp only [Act.put, List.setIfInBounds_toArray, List.set_cons_zero, List.set_cons_succ]
  refine wpAnyH_take (i := 2) (oi := { dst := some 7, op := Op.fieldAddr 26 (Operand.tmp 6) 0, type := 0, pos := "bail.go:21", after := #[{ on := 1, ground := Ground.data }], guard := none }) (v := ?vu13) rfl (by kernel_rfl) (by kernel_rfl) (by kernel_rfl) (fun _ _ _ h => h) (Or.inl ⟨by rfl, ?hyu13⟩) (by assumption) ?restu13
  case hyu13 => (intro w hSw; (try dsimp only at hSw); go_simp; (try with_reducible rfl))
  try simp only [Act.put, List.setIfInBounds_toArray, List.set_cons_zero, List.set_cons_succ]
  refine wpAnyH_take (i := 3) (oi := { dst := some 8, op := Op.load 24 (Operand.tmp 7), type := 24, pos := "bail.go:21", after := #[{ on := 2, ground := Ground.data }], guard := none }) (v := ?vu14) rfl (by kernel_rfl) (by kernel_rfl) (by kernel_rfl) (fun _ _ _ h => h) (Or.inl ⟨by rfl, ?hyu14⟩) (by assumption) ?restu14
  case hyu14 => (intro wz hSw; (try dsimp only at hSw); have t0 := cell_of_row _ _ 0 _ _ _ ((hSw.block _ (lt_of_heap HB.out)).trans HB.out); have t1 := cell_of_row _ _ 1 _ _ _ ((hSw.block _ (lt_of_heap HB.out)).trans HB.out); (try simp only [List.getElem?_toArray, List.getElem?_cons_zero, List.getElem?_cons_succ] at t0 t1); go_simp; (try with_reducible rfl))
  try simp only [Act.put, List.setIfInBounds_toArray, List.set_cons_zero, List.set_cons_succ]
  refine wpAnyH_take (i := 7) (oi := { dst := some 12, op := Op.move (Operand.tmp 0), type := 23, pos := "bail.go:21", after := #[], guard := none }) (v := ?vu15) rfl (by kernel_rfl) (by kernel_rfl) (by kernel_rfl) (fun _ _ _ h => h) (Or.inl ⟨by rfl, ?hyu15⟩) (by assumption) ?restu15
  case hyu15 => (intro w hSw; (try dsimp only at hSw); go_simp; (try with_reducible rfl))
  try simp only [Act.put, List.setIfInBounds_toArray, List.set_cons_zero, List.set_cons_succ]
  refine wpAnyH_take (i := 8) (oi := { dst := some 13, op := Op.nilCheck (Operand.tmp 12), type := 0, pos := "bail.go:21", after := #[{ on := 7, ground := Ground.data }], guard := none }) (v := ?vu16) rfl (by kernel_rfl) (by kernel_rfl) (by kernel_rfl) (fun _ _ _ h => h) (Or.inl ⟨by rfl, ?hyu16⟩) (by assumption) ?restu16
  case hyu16 => (intro w hSw; (try dsimp only at hSw); go_simp; (try with_reducible rfl))
  try simp only [Act.put, List.setIfInBounds_toArray, List.set_cons_zero, List.set_cons_succ]
  refine wpAnyH_take (i := 9) (oi := { dst := some 14, op := Op.fieldAddr 26 (Operand.tmp 13) 1, type := 0, pos := "bail.go:21", after := #[{ on := 8, ground := Ground.data }], guard := none }) (v := ?vu17) rfl (by kernel_rfl) (by kernel_rfl) (by kernel_rfl) (fun _ _ _ h => h) (Or.inl ⟨by rfl, ?hyu17⟩) (by assumption) ?restu17
  case hyu17 => (intro w hSw; (try dsimp only at hSw); go_simp; (try with_reducible rfl))
  try simp only [Act.put, List.setIfInBounds_toArray, List.set_cons_zero, List.set_cons_succ]
  refine wpAnyH_take (i := 10) (oi := { dst := some 15, op := Op.load 3 (Operand.tmp 14), type := 3, pos := "bail.go:21", after := #[{ on := 9, ground := Ground.data }], guard := none }) (v := ?vu18) rfl (by kernel_rfl) (by kernel_rfl) (by kernel_rfl) (fun _ _ _ h => h) (Or.inl ⟨by rfl, ?hyu18⟩) (by assumption) ?restu18
  case hyu18 => (intro wz hSw; (try dsimp only at hSw); have t0 := cell_of_row _ _ 0 _ _ _ ((hSw.block _ (lt_of_heap HB.out)).trans HB.out); have t1 := cell_of_row _ _ 1 _ _ _ ((hSw.block _ (lt_of_heap HB.out)).trans HB.out); (try simp only [List.getElem?_toArray, List.getElem?_cons_zero, List.getElem?_cons_succ] at t0 t1); go_simp; (try with_reducible rfl))
  try simp only [Act.put, List.setIfInBounds_toArray, List.set_cons_zero, List.set_cons_succ]
  refine wpAnyH_ready (rs := [4]) (by kernel_rfl) (by simp) ?_
  refine AllReadyH.cons (o := { dst := some 9, op := Op.call { callee := Callee.value (Operand.func 20), args := #[Operand.tmp 8], argTypes := #[3] }, type := 9, pos := "bail.go:21", after := #[{ on := 3, ground := Ground.data }], guard := none }) rfl (fun K hK => ?_) AllReadyH.nil
  go_simp
  go_at_call 20
  refine (itoa_any _ c (by omega) (by omega) (HENV.out.below (below_refl w).drew)).mono ?_
  rw [← HS1.out]
  rintro e z1 ⟨rfl, b⟩
  have HZ1 : Hid (Below w.heap.size w z1) := below_step (below_refl w).drew b
  clear b
  refine hK.out _ _ ?_ (fun hHeldB => ?_)
  · (try dsimp only); exact HZ1.out
  clear hK K hHeld
  have hHeld := hHeldB
  clear hHeldB
  try simp only [Act.put, List.setIfInBounds_toArray, List.set_cons_zero, List.set_cons_succ]
  refine wpAnyH_take (i := 5) (oi := { dst := some 10, op := Op.binOp BinOp.add 9 (Operand.const (Value.string { data := #[98, 97, 105, 108, 32] })) (Operand.tmp 9) 9, type := 9, pos := "bail.go:21", after := #[{ on := 4, ground := Ground.data }], guard := none }) (v := ?vu19) rfl (by kernel_rfl) (by kernel_rfl) (by kernel_rfl) (fun _ _ _ h => h) (Or.inl ⟨by rfl, ?hyu19⟩) (by assumption) ?restu19
  case hyu19 => (intro w hSw; (try dsimp only at hSw); go_simp; (try rw [if_neg (by (try simp only [ByteArray.size_append]); (try simp); omega)]); (try with_reducible rfl))
  try simp only [Act.put, List.setIfInBounds_toArray, List.set_cons_zero, List.set_cons_succ]
  refine wpAnyH_take (i := 6) (oi := { dst := some 11, op := Op.binOp BinOp.add 9 (Operand.tmp 10) (Operand.const (Value.string { data := #[32, 97, 116, 32] })) 9, type := 9, pos := "bail.go:21", after := #[{ on := 5, ground := Ground.data }], guard := none }) (v := ?vu20) rfl (by kernel_rfl) (by kernel_rfl) (by kernel_rfl) (fun _ _ _ h => h) (Or.inl ⟨by rfl, ?hyu20⟩) (by assumption) ?restu20
  case hyu20 => (intro w hSw; (try dsimp only at hSw); go_simp; (try rw [if_neg (by (try simp only [ByteArray.size_append]); (try simp); omega)]); (try with_reducible rfl))
  try simp only [Act.put, List.setIfInBounds_toArray, List.set_cons_zero, List.set_cons_succ]
  refine wpAnyH_ready (rs := [11]) (by kernel_rfl) (by simp) ?_
  refine AllReadyH.cons (o := { dst := some 16, op := Op.call { callee := Callee.value (Operand.func 20), args := #[Operand.tmp 15], argTypes := #[3] }, type := 9, pos := "bail.go:21", after := #[{ on := 10, ground := Ground.data }, { on := 4, ground := Ground.chain }], guard := none }) rfl (fun K hK => ?_) AllReadyH.nil
  go_simp
  go_at_call 20
  refine (itoa_any _ a (by omega) (by omega) (HENV.out.below HZ1.out)).mono ?_
  rw [← HS2.out]
  rintro e z2 ⟨rfl, b⟩
  have HZ2 : Hid (Below w.heap.size w z2) := below_step HZ1.out b
  clear b
  refine hK.out _ _ ?_ (fun hHeldB => ?_)
  · (try dsimp only); exact HZ2.out
  clear hK K hHeld
  have hHeld := hHeldB
  clear hHeldB
  try simp only [Act.put, List.setIfInBounds_toArray, List.set_cons_zero, List.set_cons_succ]
  refine wpAnyH_take (i := 12) (oi := { dst := some 17, op := Op.binOp BinOp.add 9 (Operand.tmp 11) (Operand.tmp 16) 9, type := 9, pos := "bail.go:21", after := #[{ on := 6, ground := Ground.data }, { on := 11, ground := Ground.data }], guard := none }) (v := ?vu21) rfl (by kernel_rfl) (by kernel_rfl) (by kernel_rfl) (fun _ _ _ h => h) (Or.inl ⟨by rfl, ?hyu21⟩) (by assumption) ?restu21
  case hyu21 => (intro w hSw; (try dsimp only at hSw); go_simp; (try rw [if_neg (by (try simp only [ByteArray.size_append]); (try simp); omega)]); (try with_reducible rfl))
  try simp only [Act.put, List.setIfInBounds_toArray, List.set_cons_zero, List.set_cons_succ]
  refine wpAnyH_take (i := 13) (oi := { dst := some 2, op := Op.assign (Operand.tmp 17), type := 9, pos := "bail.go:21", after := #[{ on := 12, ground := Ground.data }, { on := 11, ground := Ground.chain }, { on := 0, ground := Ground.phase }, { on := 1, ground := Ground.phase }, { on := 2, ground := Ground.phase }, { on := 3, ground := Ground.phase }, { on := 4, ground := Ground.phase }, { on := 5, ground := Ground.phase }, { on := 6, ground := Ground.phase }, { on := 7, ground := Ground.phase }, { on := 8, ground := Ground.phase }, { on := 9, ground := Ground.phase }, { on := 10, ground := Ground.phase }, { on := 11, ground := Ground.phase }, { on := 12, ground := Ground.phase }], guard := none }) (v := ?vu22) rfl (by kernel_rfl) (by kernel_rfl) (by kernel_rfl) (fun _ _ _ h => h) (Or.inl ⟨by rfl, ?hyu22⟩) (by assumption) ?restu22
  case hyu22 => (intro w hSw; (try dsimp only at hSw); go_simp; (try with_reducible rfl))
  try simp only [Act.put, List.setIfInBounds_toArray, List.set_cons_zero, List.set_cons_succ]
  refine wpAnyH_done (by kernel_rfl) ?_ _
  go_wp2
  go_ret
  rw [HBT.out]
  exact ⟨rfl, HZ2.out⟩
theorem words_says : WordsSays EnvW where
  keep := fun h hb => h.below hb
  err := err_any
  errn := errn_any
  catchn := catchn_any
  safen := safen_any
  aftern := aftern_any
  onlyn := fun w k => onlyn_any w k
end Go.Proofs.YtgighebohbpkiaaDoor
