/- bail's After and Safe; all that it answers of leaving. -/
import Derived.Test.YtgighebohbpkiaaDoorBmo
namespace Go.Proofs.YtgighebohbpkiaaDoor
open Go.RowKit Fo
set_option maxRecDepth 100000
set_option linter.unusedSimpArgs false
set_option linter.unusedVariables false

set_option maxHeartbeats 4000000 in
theorem after_any {α : Type} {S : (Nat → Prop) → World → α → Prop} (hS : StF S) (F : Nat → Prop) (w : World) (x y z : α) (f g : FuncId) (capf capg : Array Value) (r s : En) (hf : Fnv Tryd.prog f capf) (hg : Fnv Tryd.prog g capg) (hx : S F w x)
    (hc : ∀ w1, Below w.heap.size w w1 → S F w1 x → Plays Tryd.prog f capf w1 (Fins S F w1 r y)) (hd : ∀ w1 G, Lft S F w y G w1 → Plays Tryd.prog g capg w1 (Fins S G w1 s z)) :
    Calls Tryd.prog 7 #[.func (.func f) #[] capf, .func (.func g) #[] capg] w fun e w' => ∃ G, Lft S F w z G w' ∧ EnIn w.heap.size G w' (r.behind s) e := by
  have HC := (call_fins hf (hc w (Below.refl _ _) hx)).calls
  have HD : Hid (∀ w1 G, Lft S F w y G w1 → Plays Tryd.prog 19 #[.func (.func g) #[] capg] w1 (Fins S G w1 s z)) := fun w1 G h => call_fins hg (hd w1 G h)
  clear hc hx hf hg hd
  go_enter_defers Tryd.func7, Tryd.ntmps7
  go_wp2_with (go_at_call 19; fail)
  refine HC.mono ?_
  clear HC
  rintro e w3 ⟨G, hl, he⟩
  have HL : Hid (Lft S F w y G w3) := hl
  have HE : Hid (EnIn w.heap.size G w3 r e) := he
  clear hl
  rcases he with ⟨hr, rfl⟩ | ⟨v, old, rfl, ho, hv⟩
  · subst hr
    go_wp2
    refine leaves_cons (f := 19) (args := #[.func (.func g) #[] capg]) (by simp) (by simp [go_sem]) ?_
    refine ((HD.out w3 G HL.out).deferred _).mono ?_
    rintro e u' w' ⟨rfl, H, hl, he⟩
    have hL : Lft S F w z H w' := HL.out.trans hl
    have hE : EnIn w.heap.size H w' s e := he.lower HL.out.2.2.size
    rcases he with ⟨rfl, rfl⟩ | ⟨v2, old2, rfl, ho2, hv2⟩
    · have HFin : Hid (∃ H, Lft S F w z H w' ∧ EnIn w.heap.size H w' (En.ret.behind .ret) (.returned (.tuple #[]))) := ⟨H, hL, Or.inl ⟨rfl, rfl⟩⟩
      clear hL hE hl
      simp [Leaves, settle, results, Tryd.results7, go_sem]
      exact HFin.out
    · have hs : En.ret.behind s = s := by cases s <;> first | rfl | exact hv2.elim
      show Leaves _ _ _ _ [] (raised .returning _) _
      show ∃ H, Lft S F w z H w' ∧ EnIn w.heap.size H w' (En.ret.behind s) _
      rw [hs]
      exact ⟨H, hL, hE⟩
  · try go_wp2
    refine leaves_cons (f := 19) (args := #[.func (.func g) #[] capg]) (by simp) (by simp [go_sem]) ?_
    refine ((HD.out w3 G HL.out).deferred _).mono ?_
    rintro e u' w' ⟨rfl, H, hl, he⟩
    have hL : Lft S F w z H w' := HL.out.trans hl
    have hE : EnIn w.heap.size H w' s e := he.lower HL.out.2.2.size
    rcases he with ⟨rfl, rfl⟩ | ⟨v2, old2, rfl, ho2, hv2⟩
    · show ∃ H, Lft S F w z H w' ∧ EnIn w.heap.size H w' (r.behind .ret) _
      refine ⟨H, hL, Or.inr ⟨v, old, rfl, ho, ?_⟩⟩
      have : r.behind .ret = r := by cases r <;> rfl
      rw [this]
      exact hv.step (Nat.le_refl _) hl.2.2 (fun b h1 h2 h3 => h3) (fun b hb hH => (hl.2.1 b hH).elim id fun q => by omega)
    · have hs : r.behind s = s := by cases s <;> first | rfl | exact hv2.elim
      show ∃ H, Lft S F w z H w' ∧ EnIn w.heap.size H w' (r.behind s) _
      rw [hs]
      refine ⟨H, hL, Or.inr ⟨v2, old2 ++ { v := v, recovered := false } :: old, rfl, fun x hx => ?_, ?_⟩⟩
      · rcases List.mem_append.1 hx with q | q
        · exact ho2 x q
        · rcases List.mem_cons.1 q with q | q
          · rw [q]
          · exact ho x q
      · exact hv2.step HL.out.2.2.size (Kp.refl (fun _ => False) w') (fun _ _ _ _ h => h) (fun b hb hH => hH)
set_option maxHeartbeats 4000000 in
theorem safC_done (bo bv : Nat) (w : World) (ho : w.heap[bo]? = some (.cells #[.bool true] 4)) : CallsD Tryd.prog 18 #[.pointer (some ⟨bo, 0, none⟩), .pointer (some ⟨bv, 0, none⟩)] .returning w fun e u' w' => e = .returned (.tuple #[]) ∧ u' = .returning ∧ w' = w := by
  have c0 : w.cell? ⟨bo, 0, none⟩ = some (.bool true) := by rw [cell_of_row _ _ _ _ _ _ ho]; rfl
  refine callsD_of_wpS Tryd.func18 rfl fun c₀ cs hu => ?_
  simp only [Tryd.ntmps18, List.size_toArray, List.length_cons, List.length_nil, Nat.reduceAdd, Nat.reduceSub, Array.replicate_succ, Array.replicate_zero, List.push_toArray, List.append_toArray, List.nil_append, List.cons_append]
  apply wpS_seq
  apply wpS_of_wp
  go_wp2
  simp only [Exit.thenS]
  refine wpS_cond (t := false) rfl ?_
  apply wpS_of_wp
  go_wp2
  cases c₀
  simp_all [go_sem, bodyPostS, results, Tryd.results18]
set_option maxHeartbeats 4000000 in
theorem safC_pan (bo bv : Nat) (T : TypeId) (u x : Value) (TV : TypeId) (old : List PanicEntry) (w : World) (ho : w.heap[bo]? = some (.cells #[.bool false] 4)) (hv : w.heap[bv]? = some (.cells #[x] TV)) :
    CallsD Tryd.prog 18 #[.pointer (some ⟨bo, 0, none⟩), .pointer (some ⟨bv, 0, none⟩)] (.panicking ({ v := .iface T u, recovered := false } :: old)) w fun e u' w' => e = .returned (.tuple #[]) ∧ u' = .panicking ({ v := .iface T u, recovered := true } :: old) ∧ w' = w.setCell ⟨bv, 0, none⟩ (.iface T u) := by
  have c0 : w.cell? ⟨bo, 0, none⟩ = some (.bool false) := by rw [cell_of_row _ _ _ _ _ _ ho]; rfl
  have c1 : w.cell? ⟨bv, 0, none⟩ = some x := by rw [cell_of_row _ _ _ _ _ _ hv]; rfl
  have z1 : w.frozen? ⟨bv, 0, none⟩ = false := by simp [World.frozen?, hv]
  refine callsD_of_wpS Tryd.func18 rfl fun c₀ cs hu => ?_
  simp only [Tryd.ntmps18, List.size_toArray, List.length_cons, List.length_nil, Nat.reduceAdd, Nat.reduceSub, Array.replicate_succ, Array.replicate_zero, List.push_toArray, List.append_toArray, List.nil_append, List.cons_append]
  apply wpS_seq
  apply wpS_of_wp
  go_wp2
  simp only [Exit.thenS]
  refine wpS_cond (t := true) rfl ?_
  apply wpS_region
  simp [wpOpsS, go_sem, recoverD, hu, c1, z1]
  refine ⟨rfl, _, rfl, _, results_none rfl _ _ _, rfl, rfl, rfl⟩
theorem pan_iface {lo : Nat} {F : Nat → Prop} {w : World} {r : En} {v : Value} (h : PanV lo F w r v) : ∃ T u, v = .iface T u := by
  cases r with
  | ret => exact h.elim
  | bail c a => obtain ⟨b, e, -⟩ := h; exact ⟨_, _, e⟩
  | num n => exact ⟨_, _, h⟩
  | nilB => exact ⟨_, _, h⟩
set_option maxHeartbeats 4000000 in
theorem safe_any {α : Type} {S : (Nat → Prop) → World → α → Prop} (hS : StF S) (F : Nat → Prop) (w : World) (x y : α) (f : FuncId) (cap : Array Value) (r : En) (hf : Fnv Tryd.prog f cap) (hx : S F w x)
    (hc : ∀ w1, Below w.heap.size w w1 → S F w1 x → Plays Tryd.prog f cap w1 (Fins S F w1 r y)) :
    Calls Tryd.prog 6 #[.func (.func f) #[] cap] w fun e w' => ∃ G, Lft S F w y G w' ∧ SafE w.heap.size G w' r e := by
  have hmf : ∀ (fn : Fn) (first cap : Array Value) (w : World), (Instr.makeFunc fn first cap).run Tryd.prog w = .ok (.func fn first cap) w := fun _ _ _ _ => rfl
  obtain ⟨W2, hW2⟩ : ∃ W2, W2 = (w.alloc (.cells #[.nilIface] 20)).alloc (.cells #[.bool false] 4) := ⟨_, rfl⟩
  have hb2 : Below w.heap.size w W2 := by rw [hW2]; exact (below1 w _).alloc (by simp) _
  have HP : Hid (W2.heap[w.heap.size]? = some (.cells #[.nilIface] 20)) := by show W2.heap[_]? = _; rw [hW2]; exact heap_new2 w _ _
  have HQ : Hid (W2.heap[w.heap.size + 1]? = some (.cells #[.bool false] 4)) := by
    show W2.heap[_]? = _
    rw [hW2]
    have := heap_new1 (w.alloc (.cells #[.nilIface] 20)) (.cells #[.bool false] 4)
    simpa using this
  have hlt := hS.lt hx
  have HC := (call_fins hf (hc W2 hb2 (hS.below hx hb2))).calls
  have HB2 : Hid (Below w.heap.size w W2) := hb2
  have HLT : Hid (∀ b, F b → b < w.heap.size) := hlt
  have HZ : Hid (W2.heap.size = w.heap.size + 2) := by show _ = _; rw [hW2]; simp
  clear hc hb2 hx hlt hf
  go_enter_defers Tryd.func6, Tryd.ntmps6
  go_wp2_with (go_at_call 19; fail)
  rw [← hW2]
  clear hW2
  refine HC.mono ?_
  clear HC
  rintro e w3 ⟨G, hl, he⟩
  have n1 : ¬ F w.heap.size := fun h => by have := HLT.out _ h; omega
  have n2 : ¬ F (w.heap.size + 1) := fun h => by have := HLT.out _ h; omega
  have hz := HZ.out
  have g1 : ¬ G w.heap.size := fun h => (hl.2.1 _ h).elim n1 fun q => by omega
  have g2 : ¬ G (w.heap.size + 1) := fun h => (hl.2.1 _ h).elim n2 fun q => by omega
  have hp3 := hl.2.2.heap HP.out n1
  have hq3 := hl.2.2.heap HQ.out n2
  have HL : Hid (Lft S F w y G w3) := hl.of_below HB2.out
  have HP3 : Hid (w3.heap[w.heap.size]? = some (.cells #[.nilIface] 20)) := hp3
  have HQ3 : Hid (w3.heap[w.heap.size + 1]? = some (.cells #[.bool false] 4)) := hq3
  have HG : Hid (¬ G w.heap.size ∧ ¬ G (w.heap.size + 1)) := ⟨g1, g2⟩
  clear hl n1 n2 g1 g2 hp3 hq3
  have hne : w.heap.size ≠ w.heap.size + 1 := by omega
  rcases he with ⟨rfl, rfl⟩ | ⟨v, old, rfl, ho, hv⟩
  · obtain ⟨k0, z0, k1, z1, k2, k3, k4⟩ := two_put HP3.out HQ3.out hne .nilIface (.bool true)
    have HK4 : Hid (Kp _ _ _) := k4
    have HK2 : Hid (_ = _) := k2
    have HK3 : Hid (_ = _) := k3
    clear k2 k3 k4
    go_wp2
    generalize (w3.setCell ⟨w.heap.size, 0, none⟩ .nilIface).setCell ⟨w.heap.size + 1, 0, none⟩ (.bool true) = w4 at HK2 HK3 HK4 ⊢
    refine leaves_cons (f := 18) (args := #[.pointer (some ⟨w.heap.size + 1, 0, none⟩), .pointer (some ⟨w.heap.size, 0, none⟩)]) (by simp) (by simp [go_sem]) ?_
    refine (safC_done (w.heap.size + 1) w.heap.size w4 HK3.out).mono ?_
    rintro e u' w' ⟨rfl, rfl, rfl⟩
    have d2 : w'.cell? ⟨w.heap.size, 0, none⟩ = some .nilIface := by rw [cell_of_row _ _ _ _ _ _ HK2.out]; rfl
    have d3 : w'.cell? ⟨w.heap.size + 1, 0, none⟩ = some (.bool true) := by rw [cell_of_row _ _ _ _ _ _ HK3.out]; rfl
    have HFin : Hid (Lft S F w y G w') := ⟨hS.frame HL.out.1 HK4.out fun b hb hk => by rcases hk with e | e; exact HG.out.1 (e ▸ hb); exact HG.out.2 (e ▸ hb), HL.out.2.1, HL.out.2.2.trans HK4.out fun b hb hk => by omega⟩
    simp [Leaves, settle, results, Tryd.results6, go_sem, d2, d3]
    exact ⟨G, HFin.out, Or.inl ⟨rfl, rfl⟩⟩
  · obtain ⟨T, u, rfl⟩ := pan_iface hv
    have HV : Hid (PanV W2.heap.size G w3 r (.iface T u)) := hv
    have HO : Hid (∀ x, x ∈ old → x.goexit = false) := ho
    clear hv ho
    refine leaves_cons (f := 18) (args := #[.pointer (some ⟨w.heap.size + 1, 0, none⟩), .pointer (some ⟨w.heap.size, 0, none⟩)]) (by simp) (by simp [go_sem]) ?_
    refine (safC_pan (w.heap.size + 1) w.heap.size T u _ _ old w3 HQ3.out HP3.out).mono ?_
    rintro e u' w' ⟨rfl, rfl, rfl⟩
    have hk : Kp (fun b => b = w.heap.size ∨ b = w.heap.size + 1) w3 (w3.setCell ⟨w.heap.size, 0, none⟩ (.iface T u)) := (Kp.refl _ w3).set (Or.inl (Or.inl rfl)) _
    have h1 : (w3.setCell ⟨w.heap.size, 0, none⟩ (.iface T u)).heap[w.heap.size]? = some (.cells #[.iface T u] 20) := by
      have h0 := HP3.out
      simp [World.setCell, Array.getElem?_modify, h0]
    have h2 : (w3.setCell ⟨w.heap.size, 0, none⟩ (.iface T u)).heap[w.heap.size + 1]? = some (.cells #[.bool false] 4) := (Below.heap_setCell w3 _ _ _ (fun e => hne e.symm)).trans HQ3.out
    have hV' : PanV w.heap.size G (w3.setCell ⟨w.heap.size, 0, none⟩ (.iface T u)) r (.iface T u) := HV.out.step HB2.out.size hk (fun b q1 q2 q3 q4 => by rcases q4 with e | e <;> omega) fun _ _ h => h
    have HV' : Hid (PanV w.heap.size G (w3.setCell ⟨w.heap.size, 0, none⟩ (.iface T u)) r (.iface T u)) := hV'
    have HFin : Hid (Lft S F w y G (w3.setCell ⟨w.heap.size, 0, none⟩ (.iface T u))) := ⟨hS.frame HL.out.1 hk fun b hb hk => by rcases hk with e | e; exact HG.out.1 (e ▸ hb); exact HG.out.2 (e ▸ hb), HL.out.2.1, HL.out.2.2.trans hk fun b hb hk => by omega⟩
    clear hV' hk
    generalize w3.setCell ⟨w.heap.size, 0, none⟩ (.iface T u) = w5 at h1 h2 HV' HFin ⊢
    have d2 : w5.cell? ⟨w.heap.size, 0, none⟩ = some (.iface T u) := by rw [cell_of_row _ _ _ _ _ _ h1]; rfl
    have d3 : w5.cell? ⟨w.heap.size + 1, 0, none⟩ = some (.bool false) := by rw [cell_of_row _ _ _ _ _ _ h2]; rfl
    have hst := settle_rec (.iface T u) old HO.out
    clear h1 h2
    simp [Leaves, hst, results, Tryd.results6, go_sem, d2, d3]
    exact ⟨G, HFin.out, Or.inr ⟨_, rfl, HV'.out⟩⟩
theorem bail_says : BailSays where
  out := out_any
  catches := fun hS F w x y f cap r hf hx hc => catch_any hS F w x y f cap r hf hx hc
  only := fun hS F w x y k f cap r hf hx hc => only_any hS F w x y k f cap r hf hx hc
  after := fun hS F w x y z f g cf cg r s hf hg hx hc hd => after_any hS F w x y z f g cf cg r s hf hg hx hc hd
  safe := fun hS F w x y f cap r hf hx hc => safe_any hS F w x y f cap r hf hx hc
end Go.Proofs.YtgighebohbpkiaaDoor
