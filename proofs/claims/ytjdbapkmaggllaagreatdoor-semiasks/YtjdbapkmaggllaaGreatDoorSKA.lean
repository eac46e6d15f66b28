/- PROVED: at both values of any semirings, or of none, and every number, tansylaw4.SemiAsks returns true and leaves its arguments as they were, with the package variables as the program's text lays them (the tied card); conditions: none but the card's own. -/
import Derived.Test.YtjdbapkmaggllaaGreatDoorS19
import Derived.Test.YtjdbapkmaggllaaGreatDoorS51
namespace Go.Proofs.YtjdbapkmaggllaaGreatDoor
open Go.ChangeShapes Go.WideShapes Go.ChangeAt Go.RowKit Fo
set_option maxRecDepth 100000

theorem asks_contract (H : Type) (enc : TypeId × Value → H) (W : World) (base : Nat) (args : Array Value) (ds gs : List (DataW H)) (before : List MemPlace)
    (hval : ∀ (j : Nat) t v, Tryz.f3.params[j]? = some t → args[j]? = some v → Value.okWide Tryz.prog W .any base t v)
    (hW : DataW.Whole enc Tryz.prog Tryz.f3.params.toList Rows.semiAsksSpec.vars false W args.toList ds gs before) (henv : Env W) :
    Calls Tryz.prog 3 args W fun e W' => ∃ v, e = .returned v ∧ Rows.semiAsksSpec.post enc Tryz.prog Tryz.f3 false true false false W args v W' := by
  have hW' := hW
  obtain ⟨p, q, hA0, hV, rfl, hfz, hnd⟩ := hW
  have hA : DataW.TrodAll enc Tryz.prog W 0 (fun _ => true) true Tryz.f3.params.toList args.toList ds p := hA0
  rw [Tryz.params3] at hA hval
  obtain ⟨v0, vs0, d0, ds0, p0, q0, hargs, rfl, rfl, h0, r0⟩ := trodAll_cons hA
  obtain ⟨v1, vs1, d1, ds1, p1, q1, rfl, rfl, rfl, h1, r1⟩ := trodAll_cons r0
  obtain ⟨v2, vs2, d2, ds2, p2, q2, rfl, rfl, rfl, h2, r2⟩ := trodAll_cons r1
  obtain ⟨rfl, rfl, rfl⟩ := trodAll_nil r2
  obtain rfl : args = #[v0, v1, v2] := by cases args; simp_all
  obtain ⟨rfl, rfl⟩ := trodVars_none hV
  have k0 := h0
  obtain ⟨fu0, hf0⟩ := h0
  obtain ⟨s0, i0, a0, n0, c0, L0, l0, x0, rfl, hR0, hL0, hx0, hl0, hs0⟩ := open_value (hval 0 27 v0 rfl rfl) hf0
  have k1 := h1
  obtain ⟨fu1, hf1⟩ := h1
  obtain ⟨s1, i1, a1, n1, c1, L1, l1, x1, rfl, hR1, hL1, hx1, hl1, hs1⟩ := open_value (hval 1 27 v1 rfl rfl) hf1
  obtain ⟨x2, rfl, rfl, rfl, w2⟩ := open_int Tryz.underlying3 (hval 2 3 v2 rfl rfl) h2
  clear hA0
  simp only [List.append_nil] at hW'
  have hlt0 : ∀ x ∈ p0, x.block < W.heap.size := fun x hx => hW'.lt x (by simp [hx])
  have hlt1 : ∀ x ∈ p1, x.block < W.heap.size := fun x hx => hW'.lt x (by simp [hx])
  have hwalk := asks_all s0 i0 a0 n0 c0 L0 l0 x0 s1 i1 a1 n1 c1 L1 l1 x1 x2 W henv hR0 hL0 hx0 hl0 hs0 hR1 hL1 hx1 hl1 hs1
  refine hwalk.mono fun e W' ⟨he, hb⟩ => ?_
  subst he
  exact ⟨_, rfl, post_below (pa := p0 ++ p1) (pv := []) hW' (fun _ _ _ => trodAll_cons_mk (shut_bool Tryz.underlying4 _) trodAll_mk0)
    (fun sp hsp => by
      have t1 := (trodAll_cons_mk (value_stays sp k0 (fun x hx => hb.same (hlt0 x hx)) (fun x hx => hsp x (by simp [hx]))) (trodAll_cons_mk (value_stays sp k1 (fun x hx => hb.same (hlt1 x hx)) (fun x hx => hsp x (by simp [hx]))) (trodAll_cons_mk (shut_int Tryz.underlying3 w2) (trodAll_mk0 (enc := enc) (P := Tryz.prog) (w := W') (base := 0) (spare := sp) (held := true)))))
      have t2 : DataW.TrodAll enc Tryz.prog W' 0 sp true [27, 27, 3] [Value.agg #[.int .i64 s0, .bool i0, .slice a0 n0 c0, .int .i64 l0, .float .f64 x0], Value.agg #[.int .i64 s1, .bool i1, .slice a1 n1 c1, .int .i64 l1, .float .f64 x1], Value.int .i64 x2] [d0, d1, .lit (.int .i64 x2)] (p0 ++ p1) := by simpa using t1
      exact t2) (fun _ _ => rfl) (by simp)
    hb (ok_one (by kernel_rfl) rfl (okWide_bool_mk Tryz.underlying4 _))⟩
theorem asks_reads (os : Os) {H : Type} (enc : TypeId × Value → H) : ∃ e0 e1 e2 places, DataW.whole enc Tryz.prog ((World.doorLaid Tryz.prog 3000 os).forCall (fun _ _ => 0) ⟨#[], #[.agg #[.int .i64 0, .bool false, .slice none 0 0, .int .i64 0, .float .f64 0], .agg #[.int .i64 0, .bool false, .slice none 0 0, .int .i64 0, .float .f64 0], .int .i64 0], []⟩).memory Tryz.f3.params.toList Rows.semiAsksSpec.vars false #[Value.agg #[.int .i64 0, .bool false, .slice none 0 0, .int .i64 0, .float .f64 0], Value.agg #[.int .i64 0, .bool false, .slice none 0 0, .int .i64 0, .float .f64 0], Value.int .i64 0].toList 8 = some ([e0, e1, e2], [], places) :=
  ⟨.agg [.lit (.int .i64 0), .agg [.lit (.bool false), .nil], .lit (.int .i64 0), .lit (.float .f64 0)], .agg [.lit (.int .i64 0), .agg [.lit (.bool false), .nil], .lit (.int .i64 0), .lit (.float .f64 0)], .lit (.int .i64 0), [], by kernel_rfl⟩
theorem asks_lifted (os : Os) (started : os.Started) (H : Type) (enc : TypeId × Value → H) (F : Stop.Interp) :
    ReturnsInHanded {} Tryz.checked os 3 .any ((OpenSpec.ofChange Rows.semiAsksSpec).preRow enc Tryz.prog Tryz.f3 Rows.semiAsksRow.domain false Rows.semiAsksRow.laid) (((OpenSpec.ofChange Rows.semiAsksSpec).at F).post enc Tryz.prog Tryz.f3 false true false false) := by
  obtain ⟨e0, e1, e2, places, hx⟩ := asks_reads os enc
  refine returnsInHanded_of_row (C := Tryz.checked) (s := OpenSpec.ofChange Rows.semiAsksSpec) own started (by kernel_rfl) Tryz.func3
    (witness_row_atRef (enc := enc) (C := Tryz.checked) false (World.doorLaid Tryz.prog 3000 os) #[.agg #[.int .i64 0, .bool false, .slice none 0 0, .int .i64 0, .float .f64 0], .agg #[.int .i64 0, .bool false, .slice none 0 0, .int .i64 0, .float .f64 0], .int .i64 0] rfl (by kernel_rfl) (by kernel_rfl) (by kernel_rfl)
      (OpenSpec.preRow_of_cond 8 hx (by kernel_rfl) (fun k hk => by cases hk) (by kernel_rfl) (door_met os _))) ?_
  intro W base args ds gs before hval hW _ _ _ hL hS _
  exact asks_contract H enc W base args ds gs before hval hW (env_of hL)
theorem asks_said : Rows.SemiAsksSaid :=
  OpenClaim.holds_of_cond 3 Tryz.f3 rfl rfl rfl rfl rfl rfl rfl ⟨rfl, rfl, rfl, rfl, rfl⟩ rfl rfl rfl rfl rfl (by kernel_rfl) Tryz.func3 (by kernel_rfl)
    (of_decide_eq_true (by kernel_rfl)) (by unfold Func.isWrapper; first | (rw [if_pos (by decide +kernel)]; kernel_rfl) | (rw [if_neg (by decide +kernel)]; exact ⟨rfl, rfl⟩))
    (fun os started H enc _ F => by rw [OpenClaim.pre_eq_preRow]; exact asks_lifted os started H enc F)
theorem asks_plain (f : FuncId) (fn : Func) (hf : Tryz.pinned.checked.prog.funcNamed "tansy/tansylaw4.SemiAsks" = some f) (hfn : Tryz.pinned.checked.prog.funcs[f]? = some fn) :
    true = Tryz.pinned.checked.prog.looks [] ∧ ∀ (j : Nat) t, fn.params[j]? = some t → Tryz.pinned.checked.prog.wantsStandIn t = false := by
  obtain rfl : f = 3 := Option.some.inj ((show Tryz.prog.funcNamed "tansy/tansylaw4.SemiAsks" = some 3 by kernel_rfl).symm.trans hf) |>.symm
  obtain rfl : fn = Tryz.f3 := (Option.some.inj (Tryz.func3.symm.trans hfn)).symm
  refine ⟨by kernel_rfl, fun j t ht => ?_⟩
  rw [Tryz.params3] at ht
  have ht' : t = 27 ∨ t = 3 := by simpa using Array.mem_of_getElem? ht
  rcases ht' with rfl | rfl
  · exact (show Tryz.prog.wantsStandIn 27 = false by kernel_rfl)
  · exact (show Tryz.prog.wantsStandIn 3 = false by kernel_rfl)
/-- THE CARD. -/
theorem asks_card : Rows.SemiAsksCardSaid :=
  Claim7.holds_tied_plain_at .later [] _ _ _ _ asks_said (fun _ h => by cases h) (by kernel_rfl) (fun _ h => by cases h) semiAsks_row_tie rfl ⟨rfl, rfl⟩ (by kernel_rfl) rfl asks_plain (by kernel_rfl)
end Go.Proofs.YtjdbapkmaggllaaGreatDoor
