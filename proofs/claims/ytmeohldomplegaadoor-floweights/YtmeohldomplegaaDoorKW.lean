/- PROVED: for every double x, tansylaw1.FloWeights(x) returns true and leaves its argument as it was, with the package variables as the program's text lays them (the tied card); conditions: none but the card's own. -/
import Derived.Test.YtmeohldomplegaaDoorW
import Derived.Test.YtmeohldomplegaaDoorL
namespace Go.Proofs.YtmeohldomplegaaDoor
open Go.ChangeShapes Go.WideShapes Go.ChangeAt Go.RowKit Fo
set_option maxRecDepth 100000

theorem inTo_iff (t b : Nat) : inTo t b = true ↔ isN b = false ∧ 0 ≤ key b ∧ key b ≤ key t := by
  unfold inTo
  simp only [Bool.and_eq_true, Bool.not_eq_true', decide_eq_true_eq, and_assoc]
theorem key_abs (x : Nat) (hx : x < 18446744073709551616) (h0 : 0 ≤ key x) : key (x % 9223372036854775808) = key x := by
  unfold key at *
  split at h0
  · rename_i h; rw [if_pos (by omega), if_pos h]; omega
  · rename_i h; rw [if_pos (by omega), if_neg h]; omega
theorem isN_abs (x : Nat) : isN (x % 9223372036854775808) = isN x := by
  unfold isN; congr 2; omega

theorem weights_any (x : Nat) (hx : x < 18446744073709551616) (w : World) (henv : Env w) :
    Calls Tryd.prog 8 #[.float .f64 x] w fun r w' => r = .returned (.bool true) ∧ Below w.heap.size w w' := by
  have kI : key 9218868437227405312 = 9218868437227405312 := by decide
  have k1 : key 4607182418800017408 = 4607182418800017408 := by decide
  have n1 : isN 4607182418800017408 = false := by decide
  cases hn : isN x
  · by_cases h0 : key x < 0
    · refine weights_no x hx ?_ ?_ (Or.inr ⟨ord_self x hx hn, ?_⟩) w henv
      · rw [Bool.eq_false_iff]; intro h; have := (inTo_iff _ _).1 h; omega
      · rw [Bool.eq_false_iff]; intro h; have := (inTo_iff _ _).1 h; omega
      · rw [ord_of x 0 hx (by omega) hn isN0, key0, cmp_of_lt h0]
    · have hp : inTo 9218868437227405312 x = true := by
        rw [inTo_iff]
        refine ⟨hn, by omega, ?_⟩
        rw [kI]
        have hn' : ¬ (9218868437227405312 < x % 9223372036854775808) := by simpa [isN] using hn
        unfold key; split <;> omega
      have hB : x % 9223372036854775808 < 9223372036854775808 := by omega
      have nB : isN (x % 9223372036854775808) = false := by rw [isN_abs]; exact hn
      have kB := key_abs x hx (by omega)
      have hpB : inTo 9218868437227405312 (x % 9223372036854775808) = true := by
        rw [inTo_iff] at hp ⊢
        rw [kB]; exact ⟨nB, hp.2⟩
      have d11 := fun w => price_yes (x % 9223372036854775808) (by omega) hpB w
      rw [show x % 9223372036854775808 % 9223372036854775808 = x % 9223372036854775808 by omega] at d11
      refine weights_yes x (x % 9223372036854775808) hB nB (fun w => price_yes x hx hp w) d11 ?_ ?_ ?_ w henv
      · rcases Int.lt_trichotomy 0 (key x) with h | h | h
        · exact Or.inl (by rw [ord_of x 0 hx (by omega) hn isN0, key0, cmp_of_gt h])
        · exact Or.inr (by rw [ord_of x 0 hx (by omega) hn isN0, key0, cmp_of_eq h.symm])
        · omega
      · rw [ord_of _ x (by omega) hx nB hn, cmp_of_eq kB]
      · rcases Int.lt_trichotomy (key x) (key 4607182418800017408) with h | h | h
        · exact Or.inl ⟨fun w => unit_yes x hx ((inTo_iff _ _).2 ⟨hn, by omega, by omega⟩) w, Or.inl (by rw [ord_of x _ hx (by decide) hn n1, cmp_of_lt h])⟩
        · exact Or.inl ⟨fun w => unit_yes x hx ((inTo_iff _ _).2 ⟨hn, by omega, by omega⟩) w, Or.inr (by rw [ord_of x _ hx (by decide) hn n1, cmp_of_eq h])⟩
        · exact Or.inr ⟨fun w => unit_not x hx (by rw [Bool.eq_false_iff]; intro h'; have := (inTo_iff _ _).1 h'; omega) w, by rw [ord_of x _ hx (by decide) hn n1, cmp_of_gt h]⟩
  · refine weights_no x hx ?_ ?_ (Or.inl (ord_none x x hx hx hn)) w henv
    · rw [Bool.eq_false_iff]; intro h; have := ((inTo_iff _ _).1 h).1; rw [hn] at this; cases this
    · rw [Bool.eq_false_iff]; intro h; have := ((inTo_iff _ _).1 h).1; rw [hn] at this; cases this

theorem weights_contract (H : Type) (enc : TypeId × Value → H) (W : World) (base : Nat) (args : Array Value) (ds gs : List (DataW H)) (before : List MemPlace)
    (hval : ∀ (j : Nat) t v, Tryd.f8.params[j]? = some t → args[j]? = some v → Value.okWide Tryd.prog W .any base t v)
    (hW : DataW.Whole enc Tryd.prog Tryd.f8.params.toList Rows.floWeightsSpec.vars false W args.toList ds gs before) (henv : Env W) :
    Calls Tryd.prog 8 args W fun e W' => ∃ v, e = .returned v ∧ Rows.floWeightsSpec.post enc Tryd.prog Tryd.f8 false true false false W args v W' := by
  have hW' := hW
  obtain ⟨p, q, hA0, hV, rfl, hfz, hnd⟩ := hW
  have hA : DataW.TrodAll enc Tryd.prog W 0 (fun _ => true) true Tryd.f8.params.toList args.toList ds p := hA0
  rw [Tryd.params8] at hA hval
  obtain ⟨v0, vs0, d0, ds0, p0, q0, hargs, rfl, rfl, h0, r0⟩ := trodAll_cons hA
  obtain ⟨rfl, rfl, rfl⟩ := trodAll_nil r0
  obtain rfl : args = #[v0] := by cases args; simp_all
  obtain ⟨rfl, rfl⟩ := trodVars_none hV
  obtain ⟨x, rfl, rfl, rfl, hx⟩ := open_float Tryd.underlying22 (hval 0 22 v0 rfl rfl) h0
  clear hA0
  simp only [List.append_nil] at hW'
  refine (weights_any x (float_lt hx) W henv).mono fun e W' ⟨he, hb⟩ => ?_
  subst he
  exact ⟨_, rfl, post_below (pa := []) (pv := []) hW' (fun _ _ _ => trodAll_cons_mk (shut_bool Tryd.underlying4 _) trodAll_mk0) (fun _ _ => trodAll_cons_mk (shut_float Tryd.underlying22 hx) trodAll_mk0) (fun _ _ => rfl) rfl
    hb (ok_one (by kernel_rfl) rfl (okWide_bool_mk Tryd.underlying4 _))⟩
theorem weights_reads (os : Os) {H : Type} (enc : TypeId × Value → H) : ∃ places, DataW.whole enc Tryd.prog ((World.doorLaid Tryd.prog 3000 os).forCall (fun _ _ => 0) ⟨#[], #[.float .f64 0], []⟩).memory Tryd.f8.params.toList Rows.floWeightsSpec.vars false #[Value.float .f64 0].toList 8 = some ([.lit (.float .f64 0)], [], places) :=
  ⟨[], by kernel_rfl⟩
theorem weights_lifted (os : Os) (started : os.Started) (H : Type) (enc : TypeId × Value → H) (F : Stop.Interp) :
    ReturnsInHanded {} Tryd.checked os 8 .any ((OpenSpec.ofChange Rows.floWeightsSpec).preRow enc Tryd.prog Tryd.f8 Rows.floWeightsRow.domain false Rows.floWeightsRow.laid) (((OpenSpec.ofChange Rows.floWeightsSpec).at F).post enc Tryd.prog Tryd.f8 false true false false) := by
  obtain ⟨places, hx⟩ := weights_reads os enc
  refine returnsInHanded_of_row (C := Tryd.checked) (s := OpenSpec.ofChange Rows.floWeightsSpec) own started (by kernel_rfl) Tryd.func8
    (witness_row_atRef (enc := enc) (C := Tryd.checked) false (World.doorLaid Tryd.prog 3000 os) #[.float .f64 0] rfl (by kernel_rfl) (by kernel_rfl) (by kernel_rfl)
      (OpenSpec.preRow_of_cond 8 hx (by kernel_rfl) (fun k hk => by cases hk) (by kernel_rfl) (door_met os _))) ?_
  intro W base args ds gs before hval hW _ _ _ hL hS _
  exact weights_contract H enc W base args ds gs before hval hW (env_of hL hS)
theorem weights_said : Rows.FloWeightsSaid :=
  OpenClaim.holds_of_cond 8 Tryd.f8 rfl rfl rfl rfl rfl rfl rfl ⟨rfl, rfl, rfl, rfl, rfl⟩ rfl rfl rfl rfl rfl (by kernel_rfl) Tryd.func8 (by kernel_rfl)
    (of_decide_eq_true (by kernel_rfl)) (by unfold Func.isWrapper; first | (rw [if_pos (by decide +kernel)]; kernel_rfl) | (rw [if_neg (by decide +kernel)]; exact ⟨rfl, rfl⟩))
    (fun os started H enc _ F => by rw [OpenClaim.pre_eq_preRow]; exact weights_lifted os started H enc F)
theorem weights_plain (f : FuncId) (fn : Func) (hf : Tryd.pinned.checked.prog.funcNamed "tansy/tansylaw1.FloWeights" = some f) (hfn : Tryd.pinned.checked.prog.funcs[f]? = some fn) :
    true = Tryd.pinned.checked.prog.looks [] ∧ ∀ (j : Nat) t, fn.params[j]? = some t → Tryd.pinned.checked.prog.wantsStandIn t = false := by
  obtain rfl : f = 8 := Option.some.inj ((show Tryd.prog.funcNamed "tansy/tansylaw1.FloWeights" = some 8 by kernel_rfl).symm.trans hf) |>.symm
  obtain rfl : fn = Tryd.f8 := (Option.some.inj (Tryd.func8.symm.trans hfn)).symm
  refine ⟨by kernel_rfl, fun j t ht => ?_⟩
  rw [Tryd.params8] at ht
  obtain rfl : t = 22 := by simpa using Array.mem_of_getElem? ht
  exact (show Tryd.prog.wantsStandIn 22 = false by kernel_rfl)
/-- THE CARD. -/
theorem weights_card : Rows.FloWeightsCardSaid :=
  Claim7.holds_tied_plain_at .later [] _ _ _ _ weights_said (fun _ h => by cases h) (by kernel_rfl) (fun _ h => by cases h) floWeights_row_tie rfl ⟨rfl, rfl⟩ (by kernel_rfl) rfl weights_plain (by kernel_rfl)
end Go.Proofs.YtmeohldomplegaaDoor
