/- PROVED: at every value of any semiring, or of none, tansylaw4.SemiStars returns true and leaves its arguments as they were, with the package variables as the program's text lays them (the tied card); conditions: none but the card's own. -/
import Derived.Test.YtjdbapkmaggllaaDoorOpv
import Derived.Test.YtjdbapkmaggllaaDoorLst
namespace Go.Proofs.YtjdbapkmaggllaaDoor
open Go.ChangeShapes Go.WideShapes Go.ChangeAt Go.RowKit Fo
set_option maxRecDepth 100000

theorem stars_contract (H : Type) (enc : TypeId × Value → H) (W : World) (base : Nat) (args : Array Value) (ds gs : List (DataW H)) (before : List MemPlace)
    (hval : ∀ (j : Nat) t v, Tryd.f3.params[j]? = some t → args[j]? = some v → Value.okWide Tryd.prog W .any base t v)
    (hW : DataW.Whole enc Tryd.prog Tryd.f3.params.toList Rows.semiStarsSpec.vars false W args.toList ds gs before) (henv : Env W) :
    Calls Tryd.prog 3 args W fun e W' => ∃ v, e = .returned v ∧ Rows.semiStarsSpec.post enc Tryd.prog Tryd.f3 false true false false W args v W' := by
  have hW' := hW
  obtain ⟨p, q, hA0, hV, rfl, hfz, hnd⟩ := hW
  have hA : DataW.TrodAll enc Tryd.prog W 0 (fun _ => true) true Tryd.f3.params.toList args.toList ds p := hA0
  rw [Tryd.params3] at hA hval
  obtain ⟨v0, vs0, d0, ds0, p0, q0, hargs, rfl, rfl, h0, r0⟩ := trodAll_cons hA
  obtain ⟨rfl, rfl, rfl⟩ := trodAll_nil r0
  obtain rfl : args = #[v0] := by cases args; simp_all
  obtain ⟨rfl, rfl⟩ := trodVars_none hV
  have k0 := h0
  obtain ⟨fu0, hf0⟩ := h0
  obtain ⟨s0, i0, a0, n0, c0, L0, l0, x0, rfl, hR0, hL0, hx0, hl0, hs0⟩ := open_value (hval 0 27 v0 rfl rfl) hf0
  clear hA0
  simp only [List.append_nil] at hW'
  have hlt0 : ∀ x ∈ p0, x.block < W.heap.size := fun x hx => hW'.lt x (by simp [hx])
  have hwalk := stars_all s0 i0 a0 n0 c0 L0 l0 x0 W henv hR0 hL0 hx0 hl0 hs0
  refine hwalk.mono fun e W' ⟨he, hb⟩ => ?_
  subst he
  exact ⟨_, rfl, post_below (pa := p0) (pv := []) hW' (fun _ _ _ => trodAll_cons_mk (shut_bool Tryd.underlying4 _) trodAll_mk0)
    (fun sp hsp => by
      have t1 := (trodAll_cons_mk (value_stays sp k0 (fun x hx => hb.same (hlt0 x hx)) (fun x hx => hsp x (by simp [hx]))) (trodAll_mk0 (enc := enc) (P := Tryd.prog) (w := W') (base := 0) (spare := sp) (held := true)))
      have t2 : DataW.TrodAll enc Tryd.prog W' 0 sp true [27] [Value.agg #[.int .i64 s0, .bool i0, .slice a0 n0 c0, .int .i64 l0, .float .f64 x0]] [d0] (p0) := by simpa using t1
      exact t2) (fun _ _ => rfl) (by simp)
    hb (ok_one (by kernel_rfl) rfl (okWide_bool_mk Tryd.underlying4 _))⟩
theorem stars_reads (os : Os) {H : Type} (enc : TypeId × Value → H) : ∃ e0 places, DataW.whole enc Tryd.prog ((World.doorLaid Tryd.prog 3000 os).forCall (fun _ _ => 0) ⟨#[], #[.agg #[.int .i64 0, .bool false, .slice none 0 0, .int .i64 0, .float .f64 0]], []⟩).memory Tryd.f3.params.toList Rows.semiStarsSpec.vars false #[Value.agg #[.int .i64 0, .bool false, .slice none 0 0, .int .i64 0, .float .f64 0]].toList 8 = some ([e0], [], places) :=
  ⟨.agg [.lit (.int .i64 0), .agg [.lit (.bool false), .nil], .lit (.int .i64 0), .lit (.float .f64 0)], [], by kernel_rfl⟩
theorem stars_lifted (os : Os) (started : os.Started) (H : Type) (enc : TypeId × Value → H) (F : Stop.Interp) :
    ReturnsInHanded {} Tryd.checked os 3 .any ((OpenSpec.ofChange Rows.semiStarsSpec).preRow enc Tryd.prog Tryd.f3 Rows.semiStarsRow.domain false Rows.semiStarsRow.laid) (((OpenSpec.ofChange Rows.semiStarsSpec).at F).post enc Tryd.prog Tryd.f3 false true false false) := by
  obtain ⟨e0, places, hx⟩ := stars_reads os enc
  refine returnsInHanded_of_row (C := Tryd.checked) (s := OpenSpec.ofChange Rows.semiStarsSpec) own started (by kernel_rfl) Tryd.func3
    (witness_row_atRef (enc := enc) (C := Tryd.checked) false (World.doorLaid Tryd.prog 3000 os) #[.agg #[.int .i64 0, .bool false, .slice none 0 0, .int .i64 0, .float .f64 0]] rfl (by kernel_rfl) (by kernel_rfl) (by kernel_rfl)
      (OpenSpec.preRow_of_cond 8 hx (by kernel_rfl) (fun k hk => by cases hk) (by kernel_rfl) (door_met os _))) ?_
  intro W base args ds gs before hval hW _ _ _ hL hS _
  exact stars_contract H enc W base args ds gs before hval hW (env_of hL)
theorem stars_said : Rows.SemiStarsSaid :=
  OpenClaim.holds_of_cond 3 Tryd.f3 rfl rfl rfl rfl rfl rfl rfl ⟨rfl, rfl, rfl, rfl, rfl⟩ rfl rfl rfl rfl rfl (by kernel_rfl) Tryd.func3 (by kernel_rfl)
    (of_decide_eq_true (by kernel_rfl)) (by unfold Func.isWrapper; first | (rw [if_pos (by decide +kernel)]; kernel_rfl) | (rw [if_neg (by decide +kernel)]; exact ⟨rfl, rfl⟩))
    (fun os started H enc _ F => by rw [OpenClaim.pre_eq_preRow]; exact stars_lifted os started H enc F)
theorem stars_plain (f : FuncId) (fn : Func) (hf : Tryd.pinned.checked.prog.funcNamed "tansy/tansylaw4.SemiStars" = some f) (hfn : Tryd.pinned.checked.prog.funcs[f]? = some fn) :
    false = Tryd.pinned.checked.prog.looks [] ∧ ∀ (j : Nat) t, fn.params[j]? = some t → Tryd.pinned.checked.prog.wantsStandIn t = false := by
  obtain rfl : f = 3 := Option.some.inj ((show Tryd.prog.funcNamed "tansy/tansylaw4.SemiStars" = some 3 by kernel_rfl).symm.trans hf) |>.symm
  obtain rfl : fn = Tryd.f3 := (Option.some.inj (Tryd.func3.symm.trans hfn)).symm
  refine ⟨by kernel_rfl, fun j t ht => ?_⟩
  rw [Tryd.params3] at ht
  obtain rfl : t = 27 := by simpa using Array.mem_of_getElem? ht
  exact (show Tryd.prog.wantsStandIn 27 = false by kernel_rfl)
/-- THE CARD. -/
theorem stars_card : Rows.SemiStarsCardSaid :=
  Claim7.holds_tied_plain_at .later [] _ _ _ _ stars_said (fun _ h => by cases h) (by kernel_rfl) (fun _ h => by cases h) semiStars_row_tie rfl ⟨rfl, rfl⟩ (by kernel_rfl) rfl stars_plain (by kernel_rfl)
end Go.Proofs.YtjdbapkmaggllaaDoor
