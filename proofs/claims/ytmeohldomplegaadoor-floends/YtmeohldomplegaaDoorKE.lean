/- PROVED: at every list of numbers, tansylaw1.FloEnds returns true and leaves its argument as it was, with the package variables as the program's text lays them (the tied card); conditions: none but the card's own. -/
import Derived.Test.YtmeohldomplegaaDoorN
import Derived.Test.YtmeohldomplegaaDoorO
import Derived.Test.YtmeohldomplegaaDoorL
import Derived.Deep.Slices
namespace Go.Proofs.YtmeohldomplegaaDoor
open Go.ChangeShapes Go.WideShapes Go.ChangeAt Go.RowKit Fo
set_option maxRecDepth 100000

theorem laidOut : laidOutB Tryd.prog = true := by kernel_rfl
theorem float_of_trod {H : Type} {enc : TypeId × Value → H} {w : World} {base : Nat} {sp : Nat → Bool} {held : Bool} {n : Nat} {v : Value} {x : DataW H × List MemPlace}
    (h : DataW.trod enc Tryd.prog w base sp held n 22 [v] = some x) : ∃ b, v = .float .f64 b ∧ b < 18446744073709551616 := by
  cases n with
  | zero => simp [DataW.trod] at h
  | succ n =>
    simp only [DataW.trod, Tryd.underlying22] at h
    cases v <;> simp at h
    rename_i k b
    obtain ⟨⟨rfl, hw⟩, -⟩ := h
    exact ⟨b, rfl, float_lt hw⟩

/-- A list of numbers, opened: nil, or so many cells that hold them. -/
theorem open_floats {H : Type} {enc : TypeId × Value → H} {W : World} {fuel : Nat} {a0 : Option Addr} {len cap : Nat} {x : DataW H × List MemPlace}
    (hf : DataW.trod enc Tryd.prog W 0 (fun _ => true) true fuel 35 (Value.slice a0 len cap).cells.toList = some x) :
    (len = 0) ∨ ∃ (b off : Nat) (X : Nat → Nat), a0 = some ⟨b, off, none⟩ ∧ len ≤ cap ∧ cap ≤ 9223372036854775807 ∧ (∀ j, X j < 18446744073709551616) ∧ ∀ j, j < len → W.cell? ⟨b, off + j, none⟩ = some (.float .f64 (X j)) := by
  by_cases h0 : len = 0
  · exact Or.inl h0
  right
  rcases Deep.open_slice1 Tryd.underlying35 (by kernel_rfl) hf with ⟨hcs, -⟩ | ⟨a, len', cap', m, n, V, D, Pl, hcs, -, hl, hm, hmm, -, hV⟩
  · simp [Value.cells] at hcs; omega
  · simp [Value.cells] at hcs
    obtain ⟨rfl, rfl, rfl⟩ := hcs
    simp only [if_true] at hmm
    subst hmm
    obtain ⟨b, off, spot⟩ := a
    have hspot : spot = none := by simpa [Addr.add] using World.cell?_spot (hV 0 (by omega)).1
    subst hspot
    have hX : ∀ j, ∃ y, y < 18446744073709551616 ∧ (j < len → V j = .float .f64 y) := fun j => by
      by_cases hj : j < len
      · obtain ⟨y, e, hy⟩ := float_of_trod (hV j (by omega)).2
        exact ⟨y, hy, fun _ => e⟩
      · exact ⟨0, by decide, fun h => absurd h hj⟩
    refine ⟨b, off, fun j => Classical.choose (hX j), rfl, hl, by unfold maxLen at hm; omega, fun j => (Classical.choose_spec (hX j)).1, fun j hj => ?_⟩
    rw [← (Classical.choose_spec (hX j)).2 hj, ← add_plain]
    exact (hV j (by omega)).1

theorem ends_any (a0 : Option Addr) (len cap : Nat) (W : World) (henv : Env W)
    (h : (len = 0) ∨ ∃ (b off : Nat) (X : Nat → Nat), a0 = some ⟨b, off, none⟩ ∧ len ≤ cap ∧ cap ≤ 9223372036854775807 ∧ (∀ j, X j < 18446744073709551616) ∧ ∀ j, j < len → W.cell? ⟨b, off + j, none⟩ = some (.float .f64 (X j))) :
    Calls Tryd.prog 7 #[.slice a0 len cap] W fun r w' => r = .returned (.bool true) ∧ Below W.heap.size W w' := by
  by_cases h0 : len = 0
  · subst h0; exact ends_none a0 cap W henv
  rcases h with h | ⟨b, off, X, rfl, hl, hcap, hX, hc⟩
  · exact absurd h h0
  by_cases h2 : 200 < len
  · exact ends_out b off len cap W h2 henv
  have hbl := best_lt ahLeast X hX (len - 1)
  have hbm := best_lt ahMost X hX (len - 1)
  obtain ⟨ja, hja, ea⟩ := best_mem ahLeast X (len - 1)
  obtain ⟨jb, hjb, eb⟩ := best_mem ahMost X (len - 1)
  refine ends_core b off len cap W (by omega) (by omega) henv X (bitsOf (best ahLeast X (len - 1))) (bitsOf (best ahMost X (len - 1))) (fun a b => decide (plc a < plc b)) (fun a b => decide (bitsOf a = bitsOf b)) hX (bitsOf_lt _ hbl) (bitsOf_lt _ hbm) hc
    (fun w' e => by subst e; exact least_any b off len cap _ (by omega) hl hcap X hX hc) (fun w' e => by subst e; exact most_any b off len cap _ (by omega) hl hcap X hX hc)
    (fun a b ha hb w => less_any a b ha hb w) (fun a b ha hb w => same_any a b ha hb w) ?_ ?_ ?_ ?_
  · intro j hj
    have := least_le X (len - 1) j (by omega)
    rw [plc_bits]; simp only [decide_eq_false_iff_not]; omega
  · intro j hj
    have := most_ge X (len - 1) j (by omega)
    rw [plc_bits]; simp only [decide_eq_false_iff_not]; omega
  · refine anyB_of _ ja ?_ len (by omega)
    simp only [decide_eq_true_eq]; rw [bits_bits, ea]
  · refine anyB_of _ jb ?_ len (by omega)
    simp only [decide_eq_true_eq]; rw [bits_bits, eb]

theorem ends_contract (H : Type) (enc : TypeId × Value → H) (W : World) (base : Nat) (args : Array Value) (ds gs : List (DataW H)) (before : List MemPlace)
    (hval : ∀ (j : Nat) t v, Tryd.f7.params[j]? = some t → args[j]? = some v → Value.okWide Tryd.prog W .any base t v)
    (hW : DataW.Whole enc Tryd.prog Tryd.f7.params.toList Rows.floEndsSpec.vars false W args.toList ds gs before) (henv : Env W) :
    Calls Tryd.prog 7 args W fun e W' => ∃ v, e = .returned v ∧ Rows.floEndsSpec.post enc Tryd.prog Tryd.f7 false true false false W args v W' := by
  have hW' := hW
  obtain ⟨p, q, hA0, hV, rfl, hfz, hnd⟩ := hW
  have hA : DataW.TrodAll enc Tryd.prog W 0 (fun _ => true) true Tryd.f7.params.toList args.toList ds p := hA0
  rw [Tryd.params7] at hA hval
  obtain ⟨v0, vs0, d0, ds0, p0, q0, hargs, rfl, rfl, h0, r0⟩ := trodAll_cons hA
  obtain ⟨rfl, rfl, rfl⟩ := trodAll_nil r0
  obtain rfl : args = #[v0] := by cases args; simp_all
  obtain ⟨rfl, rfl⟩ := trodVars_none hV
  obtain ⟨a0, len, cap, rfl⟩ := okWide_slice Tryd.underlying35 (hval 0 35 v0 rfl rfl)
  have h0k := h0
  obtain ⟨fuel, hf⟩ := h0
  clear hA0
  simp only [List.append_nil] at hW' hA
  have hlt : ∀ x ∈ p0, x.block < W.heap.size := fun x hx => by simpa using hW'.lt x hx
  refine (ends_any a0 len cap W henv (open_floats hf)).mono fun e W' ⟨he, hb⟩ => ?_
  subst he
  exact ⟨_, rfl, post_below (pa := p0) (pv := []) hW' (fun _ _ _ => trodAll_cons_mk (shut_bool Tryd.underlying4 _) trodAll_mk0)
    (fun sp hsp => by
      have := trodAll_cons_mk (WideElems.Trod_stays laidOut (by kernel_rfl) (of_decide_eq_true (by kernel_rfl)) h0k (fun x hx => hb.same (hlt x hx)) (fun x hx => hsp x (by simpa using hx))) (trodAll_mk0 (enc := enc) (P := Tryd.prog) (w := W') (base := 0) (spare := sp) (held := true))
      have t2 : DataW.TrodAll enc Tryd.prog W' 0 sp true [35] [Value.slice a0 len cap] [d0] p0 := by simpa using this
      exact t2) (fun _ _ => rfl) (by simp)
    hb (ok_one (by kernel_rfl) rfl (okWide_bool_mk Tryd.underlying4 _))⟩
theorem ends_reads (os : Os) {H : Type} (enc : TypeId × Value → H) : ∃ places, DataW.whole enc Tryd.prog ((World.doorLaid Tryd.prog 3000 os).forCall (fun _ _ => 0) ⟨#[], #[.slice none 0 0], []⟩).memory Tryd.f7.params.toList Rows.floEndsSpec.vars false #[Value.slice none 0 0].toList 8 = some ([.nil], [], places) :=
  ⟨[], by kernel_rfl⟩
theorem ends_lifted (os : Os) (started : os.Started) (H : Type) (enc : TypeId × Value → H) (F : Stop.Interp) :
    ReturnsInHanded {} Tryd.checked os 7 .any ((OpenSpec.ofChange Rows.floEndsSpec).preRow enc Tryd.prog Tryd.f7 Rows.floEndsRow.domain false Rows.floEndsRow.laid) (((OpenSpec.ofChange Rows.floEndsSpec).at F).post enc Tryd.prog Tryd.f7 false true false false) := by
  obtain ⟨places, hx⟩ := ends_reads os enc
  refine returnsInHanded_of_row (C := Tryd.checked) (s := OpenSpec.ofChange Rows.floEndsSpec) own started (by kernel_rfl) Tryd.func7
    (witness_row_atRef (enc := enc) (C := Tryd.checked) false (World.doorLaid Tryd.prog 3000 os) #[.slice none 0 0] rfl (by kernel_rfl) (by kernel_rfl) (by kernel_rfl)
      (OpenSpec.preRow_of_cond 8 hx (by kernel_rfl) (fun k hk => by cases hk) (by kernel_rfl) (door_met os _))) ?_
  intro W base args ds gs before hval hW _ _ _ hL hS _
  exact ends_contract H enc W base args ds gs before hval hW (env_of hL hS)
theorem ends_said : Rows.FloEndsSaid :=
  OpenClaim.holds_of_cond 7 Tryd.f7 rfl rfl rfl rfl rfl rfl rfl ⟨rfl, rfl, rfl, rfl, rfl⟩ rfl rfl rfl rfl rfl (by kernel_rfl) Tryd.func7 (by kernel_rfl)
    (of_decide_eq_true (by kernel_rfl)) (by unfold Func.isWrapper; first | (rw [if_pos (by decide +kernel)]; kernel_rfl) | (rw [if_neg (by decide +kernel)]; exact ⟨rfl, rfl⟩))
    (fun os started H enc _ F => by rw [OpenClaim.pre_eq_preRow]; exact ends_lifted os started H enc F)
theorem ends_plain (f : FuncId) (fn : Func) (hf : Tryd.pinned.checked.prog.funcNamed "tansy/tansylaw1.FloEnds" = some f) (hfn : Tryd.pinned.checked.prog.funcs[f]? = some fn) :
    true = Tryd.pinned.checked.prog.looks [] ∧ ∀ (j : Nat) t, fn.params[j]? = some t → Tryd.pinned.checked.prog.wantsStandIn t = false := by
  obtain rfl : f = 7 := Option.some.inj ((show Tryd.prog.funcNamed "tansy/tansylaw1.FloEnds" = some 7 by kernel_rfl).symm.trans hf) |>.symm
  obtain rfl : fn = Tryd.f7 := (Option.some.inj (Tryd.func7.symm.trans hfn)).symm
  refine ⟨by kernel_rfl, fun j t ht => ?_⟩
  rw [Tryd.params7] at ht
  obtain rfl : t = 35 := by simpa using Array.mem_of_getElem? ht
  exact (show Tryd.prog.wantsStandIn 35 = false by kernel_rfl)
/-- THE CARD. -/
theorem ends_card : Rows.FloEndsCardSaid :=
  Claim7.holds_tied_plain_at .later [] _ _ _ _ ends_said (fun _ h => by cases h) (by kernel_rfl) (fun _ h => by cases h) floEnds_row_tie rfl ⟨rfl, rfl⟩ (by kernel_rfl) rfl ends_plain (by kernel_rfl)
end Go.Proofs.YtmeohldomplegaaDoor
