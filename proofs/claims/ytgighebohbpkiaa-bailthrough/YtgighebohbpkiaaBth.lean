/- What BailThrough's functions do, out of what bail answers. -/
import Derived.Test.YtgighebohbpkiaaBap
import Derived.Test.YtgighebohbpkiaaBaw
import Derived.Deep.RegionHeld3
import Derived.Laws.EntriesVeiled
namespace Go.Proofs.Ytgighebohbpkiaa
open Go.RowKit Fo
set_option maxRecDepth 100000
set_option linter.unusedSimpArgs false

namespace Fo
/-- A function that leaves, behind i others that note their numbers; all of it outside F. -/
def Thc (F : Nat → Prop) (w : World) (bo : Nat) (code at' : Int) : Nat → Value → Prop
  | 0, v => ∃ bc ba, v = .func (.func 17) #[] #[.pointer (some ⟨bc, 0, none⟩), .pointer (some ⟨ba, 0, none⟩)] ∧ w.cell? ⟨bc, 0, none⟩ = some (.int .i64 code) ∧ w.cell? ⟨ba, 0, none⟩ = some (.int .i64 at') ∧ ¬ F bc ∧ ¬ F ba
  | i + 1, v => ∃ bg bi g, v = .func (.func 19) #[] #[.pointer (some ⟨bg, 0, none⟩), .pointer (some ⟨bo, 0, none⟩), .pointer (some ⟨bi, 0, none⟩)] ∧ w.cell? ⟨bg, 0, none⟩ = some g ∧ w.cell? ⟨bi, 0, none⟩ = some (.int .i64 i) ∧ ¬ F bg ∧ ¬ F bi ∧ Thc F w bo code at' i g
theorem Thc.step {F G : Nat → Prop} {w w' : World} {bo : Nat} {code at' : Int} (hk : Kp F w w') (hG : ∀ b, G b → F b ∨ w.heap.size ≤ b) : ∀ {i : Nat} {v : Value}, Thc F w bo code at' i v → Thc G w' bo code at' i v
  | 0, _, ⟨bc, ba, e, h1, h2, h3, h4⟩ => ⟨bc, ba, e, hk.cell h1 h3, hk.cell h2 h4, fun k => (hG _ k).elim h3 fun q => absurd (World.block_lt_of_cell? w _ h1) (by show ¬ bc < _; omega), fun k => (hG _ k).elim h4 fun q => absurd (World.block_lt_of_cell? w _ h2) (by show ¬ ba < _; omega)⟩
  | _ + 1, _, ⟨bg, bi, g, e, h1, h2, h3, h4, h5⟩ => ⟨bg, bi, g, e, hk.cell h1 h3, hk.cell h2 h4, fun k => (hG _ k).elim h3 fun q => absurd (World.block_lt_of_cell? w _ h1) (by show ¬ bg < _; omega), fun k => (hG _ k).elim h4 fun q => absurd (World.block_lt_of_cell? w _ h2) (by show ¬ bi < _; omega), Thc.step hk hG h5⟩
theorem Thc.below {F : Nat → Prop} {w w' : World} {bo : Nat} {code at' : Int} {i : Nat} {v : Value} (h : Thc F w bo code at' i v) (hb : Below w.heap.size w w') : Thc F w' bo code at' i v := h.step (Kp.of_below hb) fun _ h => Or.inl h
def iota (i : Nat) : List Int := lst (fun j => (j : Int)) i
theorem iota_succ (i : Nat) : iota (i + 1) = iota i ++ [(i : Int)] := by unfold iota lst; rw [List.range_succ, List.map_append]; rfl
theorem iota_len (i : Nat) : (iota i).length = i := lst_len _ _
end Fo
theorem fnv_th0 (cap : Array Value) : Fnv Try.prog 17 cap := enters_of Try.func17 (by kernel_rfl) rfl cap
theorem fnv_th1 (cap : Array Value) : Fnv Try.prog 19 cap := enters_of Try.func19 (by kernel_rfl) rfl cap
theorem fnv_th2 (cap : Array Value) : Fnv Try.prog 21 cap := enters_of Try.func21 (by kernel_rfl) rfl cap
theorem fnv_th3 (cap : Array Value) : Fnv Try.prog 23 cap := enters_of Try.func23 (by kernel_rfl) rfl cap
theorem os_box7 {w w7 : World} {bo n : Nat} {a : Option Addr} {c : Nat} {V : Nat → Value} {cs : Array Value} {o : Obj} {T : TypeId} (hv : w.heap[bo]? = some (.cells cs T)) (ho : Ow 3 0 w (.slice a n c) n V) (hg : (w.alloc o).grownBy w7 (Value.slice a n c).ownBlock) (hne : T ≠ 3 := by decide) : w7.heap[bo]? = some (.cells cs T) := by
  have hlt := lt_of_heap hv
  rw [hg.block bo (by simp; omega) fun e => (ho.far hv hne _ e.symm) rfl, Below.heap_alloc _ _ _ hlt]
  exact hv
namespace Fo
theorem os_put {lo bo : Nat} {F : Nat → Prop} {w w7 : World} {l : List Int} {x : Int} {a a7 : Option Addr} {c c7 : Nat} (hlo : lo ≤ w.heap.size) (HS : OS lo bo F w l) (hW : ∀ g, (Value.slice a l.length c).ownBlock = some g → F g) (k7 : w7.heap[bo]? = some (.cells #[.slice a l.length c] 30))
    (hO7 : Ow 3 0 w7 (.slice a7 (l.length + 1) c7) (l.length + 1) (ivs (gt (l ++ [x])))) (hK7 : Kp F w w7) (hA7 : (Value.slice a7 (l.length + 1) c7).ownBlock = (Value.slice a l.length c).ownBlock ∨ (Value.slice a7 (l.length + 1) c7).ownBlock = some (w.heap.size + 1)) :
    ∃ G, Lft (OS lo bo) F w (l ++ [x]) G (w7.setCell ⟨bo, 0, none⟩ (.slice a7 (l.length + 1) c7)) := by
  have hz : (w7.setCell ⟨bo, 0, none⟩ (.slice a7 (l.length + 1) c7)).heap.size = w7.heap.size := by simp [World.setCell]
  have hlt7 := hK7.size
  refine ⟨fun b => F b ∨ (w.heap.size ≤ b ∧ b < w7.heap.size), ⟨⟨.slice a7 (l.length + 1) c7, by simp [World.setCell, Array.getElem?_modify, k7], ?_, fun g hg => ?_⟩, Or.inl HS.own, fun b hb => ?_, fun b hb => ?_⟩, fun b hb => hb.imp id And.left, hK7.set (Or.inl HS.own) _⟩
  · rw [show (l ++ [x]).length = l.length + 1 by simp]
    exact hO7.kp ((Kp.refl (fun b => b = bo) w7).set (Or.inl rfl) _) fun g hg e => (hO7.far k7 (by decide) g hg) e
  · rcases hA7 with e | e
    · exact Or.inl (hW g (e ▸ hg))
    · have h1 := hO7.ltb g hg
      have h2 : w.heap.size + 1 = g := by rw [e] at hg; simpa using hg
      exact Or.inr ⟨by omega, h1⟩
  · rw [hz]
    rcases hb with h | h
    · exact Nat.lt_of_lt_of_le (HS.lt b h) hlt7
    · exact h.2
  · rcases hb with h | h
    · exact HS.lo b h
    · omega
end Fo
set_option maxHeartbeats 4000000 in
theorem th0_plays (C : BailSays) (lo bo : Nat) (F : Nat → Prop) (w : World) (bc ba : Nat) (code at' : Int) (l : List Int) (hS : OS lo bo F w l) (h1 : w.cell? ⟨bc, 0, none⟩ = some (.int .i64 code)) (h2 : w.cell? ⟨ba, 0, none⟩ = some (.int .i64 at')) :
    Plays Try.prog 17 #[.pointer (some ⟨bc, 0, none⟩), .pointer (some ⟨ba, 0, none⟩)] w (Fins (OS lo bo) F w (.bail code at') l) := by
  refine ⟨_, _, Try.func17, rfl, ?_⟩
  simp only [Try.ntmps17, List.size_toArray, List.length_cons, List.length_nil, Nat.reduceAdd, Nat.reduceSub, Array.replicate_succ, Array.replicate_zero, List.push_toArray, List.append_toArray, List.nil_append, List.cons_append]
  have HS : Hid (OS lo bo F w l) := hS
  clear hS
  go_wp2_with (go_at_call 18; fail)
  refine (C.out w code at').mono ?_
  rintro e w' ⟨hb, he⟩
  have HB : Hid (Below w.heap.size w w') := hb
  rcases id he with ⟨h, -⟩ | ⟨v, old, rfl, -⟩
  · cases h
  have HE : Hid (EnIn w.heap.size (fun _ => False) w' (.bail code at') (.panicked ({ v := v, recovered := false } :: old))) := he
  clear hb he
  go_wp2
  exact ⟨rfl, F, (os_st lo bo).lft HS.out HB.out, HE.out.of_no HS.out.lt⟩
set_option maxHeartbeats 4000000 in
theorem th2_plays (lo bo : Nat) (F : Nat → Prop) (w : World) (bi : Nat) (x : Int) (l : List Int) (hlo : lo ≤ w.heap.size) (hl : l.length ≤ 1000) (hS : OS lo bo F w l) (h1 : w.cell? ⟨bi, 0, none⟩ = some (.int .i64 x)) :
    Plays Try.prog 21 #[.pointer (some ⟨bo, 0, none⟩), .pointer (some ⟨bi, 0, none⟩)] w (Fins (OS lo bo) F w .ret (l ++ [x])) := by
  refine ⟨_, _, Try.func21, rfl, ?_⟩
  simp only [Try.ntmps21, List.size_toArray, List.length_cons, List.length_nil, Nat.reduceAdd, Nat.reduceSub, Array.replicate_succ, Array.replicate_zero, List.push_toArray, List.append_toArray, List.nil_append, List.cons_append]
  have HS : Hid (OS lo bo F w l) := hS
  obtain ⟨v, hv, hO, hown⟩ := hS.box
  obtain ⟨a, c, rfl, -⟩ := hO.rd
  have HO : Hid (Ow 3 0 w (.slice a l.length c) l.length (ivs (gt l))) := hO
  have HV : Hid (w.heap[bo]? = some (.cells #[.slice a l.length c] 30)) := hv
  have HW : Hid (∀ g, (Value.slice a l.length c).ownBlock = some g → F g) := hown
  have h2 : w.cell? ⟨bo, 0, none⟩ = some (.slice a l.length c) := by rw [cell_of_row _ _ _ _ _ _ hv]; rfl
  have hbo := lt_of_heap hv
  clear hS hO hv hown
  go_wp2_with (at_builtin; refine wpList_app_at eInt rfl _ _ rfl (HO.out.alloc _) (Nat.zero_le _) (one_cell w 3 (.int .i64 x)) (by decide) (fun _ _ => rfl) (l.length + 1) rfl (by omega) (ivs (gt (l ++ [x]))) (fun j hj => catV_one l x j hj) rfl rfl ?_; intro a7 c7 w7 hO7 hG7 hA7; have k7 := os_box7 HV.out HO.out hG7; have f7 : w7.cell? ⟨bo, 0, none⟩ = some (.slice a l.length c) := (by rw [cell_of_row _ _ _ _ _ _ k7]; rfl); have z7 : w7.frozen? ⟨bo, 0, none⟩ = false := (by simp [World.frozen?, k7]))
  have HO7 : Hid (Ow 3 0 w7 (.slice a7 (l.length + 1) c7) (l.length + 1) (ivs (gt (l ++ [x])))) := hO7
  have HK7 : Hid (Kp F w w7) := by
    refine (Kp.of_below (below1 w _)).trans (Kp.of_grown (F := F) hG7 fun k hk => HW.out k hk) fun _ _ h => h
  have HA7 : Hid ((Value.slice a7 (l.length + 1) c7).ownBlock = (Value.slice a l.length c).ownBlock ∨ (Value.slice a7 (l.length + 1) c7).ownBlock = some (w.heap.size + 1)) := by
    show _ ∨ _; simpa using hA7
  have HK : Hid (w7.heap[bo]? = some (.cells #[.slice a l.length c] 30)) := k7
  clear hO7 hG7 hA7 k7 f7 z7
  go_wp2
  go_end0
  obtain ⟨G, hL⟩ := os_put hlo HS.out HW.out HK.out HO7.out HK7.out HA7.out
  exact ⟨G, hL, Or.inl ⟨rfl, rfl⟩⟩
set_option maxHeartbeats 4000000 in
theorem th1_plays (C : BailSays) (lo bo : Nat) (F : Nat → Prop) (w : World) (bg bi i : Nat) (code at' : Int) (f : FuncId) (cap : Array Value) (l m : List Int) (hlo : lo ≤ w.heap.size) (hm : m.length ≤ 1000) (hS : OS lo bo F w l) (h1 : w.cell? ⟨bg, 0, none⟩ = some (.func (.func f) #[] cap)) (h2 : w.cell? ⟨bi, 0, none⟩ = some (.int .i64 i)) (n2 : ¬ F bi) (hf : Fnv Try.prog f cap)
    (hp : ∀ w1, Below w.heap.size w w1 → OS lo bo F w1 l → Plays Try.prog f cap w1 (Fins (OS lo bo) F w1 (.bail code at') m)) :
    Plays Try.prog 19 #[.pointer (some ⟨bg, 0, none⟩), .pointer (some ⟨bo, 0, none⟩), .pointer (some ⟨bi, 0, none⟩)] w (Fins (OS lo bo) F w (.bail code at') (m ++ [(i : Int)])) := by
  have hmf : ∀ (fn : Fn) (first cap : Array Value) (w : World), (Instr.makeFunc fn first cap).run Try.prog w = .ok (.func fn first cap) w := fun _ _ _ _ => rfl
  refine ⟨_, _, Try.func19, rfl, ?_⟩
  simp only [Try.ntmps19, List.size_toArray, List.length_cons, List.length_nil, Nat.reduceAdd, Nat.reduceSub, Array.replicate_succ, Array.replicate_zero, List.push_toArray, List.append_toArray, List.nil_append, List.cons_append]
  have HS : Hid (OS lo bo F w l) := hS
  have HP : Hid (∀ w1, Below w.heap.size w w1 → OS lo bo F w1 l → Plays Try.prog f cap w1 (Fins (OS lo bo) F w1 (.bail code at') m)) := hp
  have HF : Hid (Fnv Try.prog f cap) := hf
  have H2 : Hid (w.cell? ⟨bi, 0, none⟩ = some (.int .i64 i)) := h2
  clear hS hp hf
  go_wp2_with (go_at_call 20; fail)
  refine (C.after (os_st lo bo) F w l m (m ++ [(i : Int)]) f 21 cap _ (.bail code at') .ret HF.out (fnv_th2 _) HS.out HP.out fun w1 G hl => th2_plays lo bo G w1 bi i m (Nat.le_trans hlo hl.2.2.size) hm hl.1 (hl.2.2.cell H2.out n2)).mono ?_
  rintro e w' ⟨G, hl, he⟩
  have HL : Hid (Lft (OS lo bo) F w (m ++ [(i : Int)]) G w') := hl
  change EnIn w.heap.size G w' (.bail code at') e at he
  rcases id he with ⟨h, -⟩ | ⟨v, old, rfl, -⟩
  · cases h
  have HE : Hid (EnIn w.heap.size G w' (.bail code at') (.panicked ({ v := v, recovered := false } :: old))) := he
  clear hl he
  go_wp2
  exact ⟨rfl, G, HL.out, HE.out⟩
set_option maxHeartbeats 4000000 in
theorem th3_plays (C : BailSays) (lo bo : Nat) (F : Nat → Prop) (w : World) (bk bf : Nat) (k code at' : Int) (f : FuncId) (cap : Array Value) (l m : List Int) (hk : k ≠ code) (hS : OS lo bo F w l) (h1 : w.cell? ⟨bk, 0, none⟩ = some (.int .i64 k)) (h2 : w.cell? ⟨bf, 0, none⟩ = some (.func (.func f) #[] cap)) (hf : Fnv Try.prog f cap)
    (hp : ∀ w1, Below w.heap.size w w1 → OS lo bo F w1 l → Plays Try.prog f cap w1 (Fins (OS lo bo) F w1 (.bail code at') m)) :
    Plays Try.prog 23 #[.pointer (some ⟨bk, 0, none⟩), .pointer (some ⟨bf, 0, none⟩)] w (Fins (OS lo bo) F w (.bail code at') m) := by
  refine ⟨_, _, Try.func23, rfl, ?_⟩
  simp only [Try.ntmps23, List.size_toArray, List.length_cons, List.length_nil, Nat.reduceAdd, Nat.reduceSub, Array.replicate_succ, Array.replicate_zero, List.push_toArray, List.append_toArray, List.nil_append, List.cons_append]
  have HS : Hid (OS lo bo F w l) := hS
  have HP : Hid (∀ w1, Below w.heap.size w w1 → OS lo bo F w1 l → Plays Try.prog f cap w1 (Fins (OS lo bo) F w1 (.bail code at') m)) := hp
  have HF : Hid (Fnv Try.prog f cap) := hf
  have HK : Hid (k ≠ code) := hk
  clear hS hp hf hk
  go_wp2_with (go_at_call 24; fail)
  refine (C.only (os_st lo bo) F w l m k f cap (.bail code at') HF.out HS.out HP.out).mono ?_
  rintro e w' ⟨G, hl, he⟩
  have HL : Hid (Lft (OS lo bo) F w m G w') := hl
  clear hl
  rcases he with ⟨hr, -⟩ | ⟨a, hr, -⟩ | ⟨-, -, he⟩
  · cases hr
  · injection hr with hr _
    exact absurd hr.symm HK.out
  rcases id he with ⟨h, -⟩ | ⟨v, old, rfl, -⟩
  · cases h
  have HE : Hid (EnIn w.heap.size G w' (.bail code at') (.panicked ({ v := v, recovered := false } :: old))) := he
  clear he
  go_wp2
  exact ⟨rfl, G, HL.out, HE.out⟩
theorem thc_plays (C : BailSays) (lo bo : Nat) (code at' : Int) : ∀ (i : Nat) (F : Nat → Prop) (w : World) (v : Value) (l : List Int), Thc F w bo code at' i v → l.length + i ≤ 1000 → lo ≤ w.heap.size →
    ∃ f cap, v = .func (.func f) #[] cap ∧ Fnv Try.prog f cap ∧ ∀ w1, Below w.heap.size w w1 → OS lo bo F w1 l → Plays Try.prog f cap w1 (Fins (OS lo bo) F w1 (.bail code at') (l ++ iota i))
  | 0, F, w, v, l, ⟨bc, ba, e, h1, h2, _, _⟩, _, _ => ⟨_, _, e, fnv_th0 _, fun w1 hb hs => by
    have := th0_plays C lo bo F w1 bc ba code at' l hs (by rw [hb.cell (World.block_lt_of_cell? w _ h1)]; exact h1) (by rw [hb.cell (World.block_lt_of_cell? w _ h2)]; exact h2)
    rwa [show l ++ iota 0 = l from List.append_nil l]⟩
  | i + 1, F, w, v, l, ⟨bg, bi, g, e, h1, h2, n1, n2, h5⟩, hl, hlo => by
    obtain ⟨f, cap, rfl, hf, hp⟩ := thc_plays C lo bo code at' i F w g l h5 (by omega) hlo
    refine ⟨_, _, e, fnv_th1 _, fun w1 hb hs => ?_⟩
    have := th1_plays C lo bo F w1 bg bi i code at' f cap l (l ++ iota i) (Nat.le_trans hlo hb.size) (by rw [List.length_append, iota_len]; omega) hs (by rw [hb.cell (World.block_lt_of_cell? w _ h1)]; exact h1) (by rw [hb.cell (World.block_lt_of_cell? w _ h2)]; exact h2) n2 hf fun w2 hb2 hs2 => hp w2 (hb.trans (hb2.mono hb.size)) hs2
    rwa [iota_succ, ← List.append_assoc]
end Go.Proofs.Ytgighebohbpkiaa
