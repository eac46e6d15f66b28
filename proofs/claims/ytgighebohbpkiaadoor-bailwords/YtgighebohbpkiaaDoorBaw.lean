/- The laws' awake, out of what bail answers. -/
import Derived.Test.YtgighebohbpkiaaDoorBcl
import Derived.Shelf.Abstract
namespace Go.Proofs.YtgighebohbpkiaaDoor
open Go.RowKit Fo
set_option maxRecDepth 100000
set_option linter.unusedSimpArgs false

namespace Fo
/-- Nothing is in memory that is asked for. -/
def NoS (F : Nat → Prop) (_ : World) (_ : Unit) : Prop := ∀ b, ¬ F b
theorem nos_st : StF NoS := ⟨fun h _ _ => h, fun h b k => absurd k (h b)⟩
theorem nos (w : World) : NoS (fun _ => False) w () := fun _ h => h
theorem Lft.nos_below {w w' : World} {G : Nat → Prop} (h : Lft NoS (fun _ => False) w () G w') : Below w.heap.size w w' := h.2.2.below (Nat.le_refl _) fun _ _ h => h
theorem EnIn.of_no {lo : Nat} {w : World} {r : En} {e : Ending} {G : Nat → Prop} (h : EnIn lo (fun _ => False) w r e) (hG : ∀ b, G b → b < lo) : EnIn lo G w r e := by
  rcases h with h | ⟨v, old, h1, h2, h3⟩
  · exact Or.inl h
  · refine Or.inr ⟨v, old, h1, h2, ?_⟩
    cases r with
    | bail c a =>
      obtain ⟨b, e, hb, hf, hlo⟩ := h3
      exact ⟨b, e, hb, fun k => by have := hG b k; omega, hlo⟩
    | ret => exact h3
    | num n => exact h3
    | nilB => exact h3
/-- A world in which only new blocks came holds what it held. -/
theorem StF.below {α : Type} {S : (Nat → Prop) → World → α → Prop} (hS : StF S) {F : Nat → Prop} {w w' : World} {x : α} (h : S F w x) (hb : Below w.heap.size w w') : S F w' x := hS.frame h (Kp.of_below (F := fun _ => False) hb) fun _ _ h => h
theorem StF.lft {α : Type} {S : (Nat → Prop) → World → α → Prop} (hS : StF S) {F : Nat → Prop} {w w' : World} {x : α} (h : S F w x) (hb : Below w.heap.size w w') : Lft S F w x F w' := ⟨hS.below h hb, fun _ h => Or.inl h, Kp.of_below hb⟩
end Fo
set_option maxHeartbeats 4000000 in
theorem aw1_plays (C : BailSays) (w : World) : Plays Tryd.prog 11 #[] w (Fins NoS (fun _ => False) w (.bail 4 7) ()) := by
  refine ⟨_, _, Tryd.func11, rfl, ?_⟩
  simp only [Tryd.ntmps11, List.size_toArray, List.length_cons, List.length_nil, Nat.reduceAdd, Nat.reduceSub, Array.replicate_succ, Array.replicate_zero, List.push_toArray, List.append_toArray, List.nil_append, List.cons_append]
  go_wp2_with (go_at_call 12; fail)
  refine (C.out w 4 7).mono ?_
  rintro e w' ⟨hb, he⟩
  have HB : Hid (Below w.heap.size w w') := hb
  rcases id he with ⟨h, -⟩ | ⟨v, old, rfl, -⟩
  · cases h
  have HE : Hid (EnIn w.heap.size (fun _ => False) w' (.bail 4 7) (.panicked ({ v := v, recovered := false } :: old))) := he
  clear hb he
  go_wp2
  exact ⟨rfl, _, nos_st.lft (nos w) HB.out, HE.out⟩
set_option maxHeartbeats 4000000 in
theorem aw2_plays (w : World) : Plays Tryd.prog 13 #[] w (Fins NoS (fun _ => False) w (.num 3) ()) := by
  refine ⟨_, _, Tryd.func13, rfl, ?_⟩
  simp only [Tryd.ntmps13, List.size_toArray, List.length_cons, List.length_nil, Nat.reduceAdd, Nat.reduceSub, Array.replicate_succ, Array.replicate_zero, List.push_toArray, List.append_toArray, List.nil_append, List.cons_append]
  go_wp2
  exact ⟨rfl, _, nos_st.lft (nos w) (below_refl w), Or.inr ⟨_, [], rfl, fun x h => (by cases h), rfl⟩⟩
theorem fnv_aw1 : Fnv Tryd.prog 11 #[] := enters_of Tryd.func11 (by kernel_rfl) rfl #[]
theorem fnv_aw2 : Fnv Tryd.prog 13 #[] := enters_of Tryd.func13 (by kernel_rfl) rfl #[]
set_option maxHeartbeats 16000000 in
/-- THE LAWS' AWAKE. -/
theorem awake_of {M : (Nat → Prop) → World → Value → Int → Prop} (C : BailSays) (D : MeterSays M) (w : World) : Calls Tryd.prog 4 #[] w fun e w' => e = .returned (.bool true) ∧ Below w.heap.size w w' := by
  have hmf : ∀ (fn : Fn) (first cap : Array Value) (w : World), (Instr.makeFunc fn first cap).run Tryd.prog w = .ok (.func fn first cap) w := fun _ _ _ _ => rfl
  have hta : ∀ w, (Instr.typeAssert (.iface 3 (.int .i64 3)) 20 3 true).run Tryd.prog w = .ok (.tuple #[.int .i64 3, .bool true]) w := fun _ => by kernel_rfl
  go_enter Tryd.func4, Tryd.ntmps4
  go_wp2_with (go_at_call 5; fail)
  refine (C.catches nos_st (fun _ => False) w () () _ #[] (.bail 4 7) fnv_aw1 (nos w) fun w1 _ _ => aw1_plays C w1).mono ?_
  rintro e w1 ⟨G, hl, he⟩
  have HB1 : Hid (Below w.heap.size w w1) := hl.nos_below
  change e = _ at he
  subst he
  clear hl
  go_wp2_with (go_at_call 6; fail)
  refine (C.safe nos_st (fun _ => False) w1 () () _ #[] (.num 3) fnv_aw2 (nos w1) fun w2 _ _ => aw2_plays w2).mono ?_
  rintro e w2 ⟨G2, hl, he⟩
  have HB2 : Hid (Below w.heap.size w w2) := below_step HB1.out hl.nos_below
  rcases he with ⟨h, -⟩ | ⟨v, rfl, hv⟩
  · cases h
  replace hv : v = .iface 3 (.int .i64 3) := hv
  subst hv
  clear hl HB1
  go_wp2_with (go_at_call 14; fail)
  refine (D.new w2 5 5 (by decide) rfl).mono ?_
  rintro e w3 ⟨⟨F, p, rfl, hm, -⟩, b⟩
  have HB3 : Hid (Below w.heap.size w w3) := below_step HB2.out b
  have HM : Hid (M F w3 (.pointer p) 5) := hm
  clear b hm HB2
  go_wp2_with (go_at_call 15; fail)
  refine (D.left F w3 _ 5 HM.out).mono ?_
  rintro e w4 ⟨rfl, b⟩
  have HB4 : Hid (Below w.heap.size w w4) := below_step HB3.out b
  clear b HB3
  go_wp2
  go_ret
  exact ⟨rfl, HB4.out⟩
end Go.Proofs.YtgighebohbpkiaaDoor
