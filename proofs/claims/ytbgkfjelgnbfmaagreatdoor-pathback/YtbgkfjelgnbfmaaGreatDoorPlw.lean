/- From the row's list of package variables to what is read of them; a world that holds them; how a law's proof is shut. -/
import Derived.Test.YtbgkfjelgnbfmaaGreatDoorPak
import Derived.Test.YtbgkfjelgnbfmaaGreatDoorCards
import Derived.Test.YtbgkfjelgnbfmaaGreatDoorTie
import Derived.HandedShaped
import Derived.ProofKit
import Derived.OpenShut
import Derived.Deep.DeepHandedRow
import Derived.Deep.DeepWitnessRowRef
import Derived.LaidMore
import Derived.Stop.LaidErr
import Derived.MakeChecks
namespace Go.Proofs.YtbgkfjelgnbfmaaGreatDoor
open Go.ChangeShapes Go.WideShapes Go.ChangeAt Go.RowKit Fo
set_option maxRecDepth 100000

/-- What the laws' calls read of the package variables. -/
abbrev Env (W : World) : Prop := EnvP W.heap.size W
theorem ggx : Tryz.prog.globalNamed "strconv.ErrSyntax" = some 4 := by kernel_rfl
theorem ggr : Tryz.prog.globalNamed "strconv.ErrRange" = some 5 := by kernel_rfl
theorem gtx : (Tryz.prog.globals[4]?).map (·.type) = some 100 := by kernel_rfl
theorem gtr : (Tryz.prog.globals[5]?).map (·.type) = some 100 := by kernel_rfl
theorem err_star : "*" ++ "errors.errorString" = "*errors.errorString" := by decide
theorem err_row (u : TypeId) (h : Tryz.prog.typeName? 3 u = some "*errors.errorString") : u = 143 :=
  typeName_ptr_named (nm := "errors.errorString") (by rw [err_star]; kernel_rfl) (by kernel_rfl) (by decide) u (by rw [err_star]; exact h)
theorem err_cells : Tryz.prog.cellsOf 145 = 1 := by kernel_rfl
theorem str_cells : Tryz.prog.cellsOf 9 = 1 := by kernel_rfl
theorem size_of_var {W : World} {name : String} {g : Nat} {cs : Array Value} (hg : Tryz.prog.globalNamed name = some g) (h : W.var? Tryz.prog name = some cs) : g < W.heap.size := by
  unfold World.var? at h
  rw [hg] at h
  rcases Nat.lt_or_ge g W.heap.size with h' | h'
  · exact h'
  · simp only [Option.bind_some, Array.getElem?_eq_none h'] at h
    cases h
/-- WHAT A ROW's LIST GIVES. -/
theorem env_of {W : World} (hL : laidMetH Tryz.prog Rows.pathReadsRow.laid W) : Env W := by
  have h : laidMet Tryz.prog Rows.pathReadsRow.laid W := hL
  have t3 := h.tail.tail.tail
  obtain ⟨a, s, hr, -⟩ := laid_sentinel t3 ggr gtr Tryz.underlying100 err_row Tryz.underlying143 Tryz.underlying145 rfl rfl Tryz.underlying9 err_cells str_cells
  obtain ⟨b, s2, hx, -⟩ := laid_sentinel t3.tail ggx gtx Tryz.underlying100 err_row Tryz.underlying143 Tryz.underlying145 rfl rfl Tryz.underlying9 err_cells str_cells
  exact ⟨⟨_, _, hx⟩, ⟨_, _, hr⟩, fun g hg => size_of_var hg hx, fun g hg => size_of_var hg hr, Nat.le_refl _⟩
theorem own : ownKnob Tryz.prog.godebug = none := by kernel_rfl
/-- THE LAW's END: it has only added blocks. -/
theorem post_below {H : Type} {enc : TypeId × Value → H} {f : Func} {s : ChangeSpec} {fresh handsOn again : Bool} {W W' : World} {args : Array Value} {v : Value} {ds gs : List (DataW H)} {before pa pv : List MemPlace}
    (hW : DataW.Whole enc Tryz.prog f.params.toList s.vars false W args.toList ds gs before)
    (hres : ∀ (b : Nat) (sp : Nat → Bool) (hd : Bool), DataW.TrodAll enc Tryz.prog W' b sp hd f.resultTypes.toList (v.resultList f.resultTypes.size) (s.fn H (ds ++ gs)).results [])
    (hargs : ∀ sp : Nat → Bool, (∀ p ∈ before, sp p.block = true) → DataW.TrodAll enc Tryz.prog W' 0 sp true f.params.toList args.toList (s.fn H (ds ++ gs)).args pa)
    (hvars : ∀ sp : Nat → Bool, (∀ p ∈ before, sp p.block = true) → DataW.TrodVars enc Tryz.prog W' sp s.vars (s.fn H (ds ++ gs)).vars pv)
    (hps : before = pa ++ pv) (hb : Below W.heap.size W W')
    (hok : ∀ (j : Nat) (t : TypeId) (r : Value), f.resultTypes[j]? = some t → (v.resultList f.resultTypes.size)[j]? = some r → Value.okWide Tryz.prog W' .any 0 t r) :
    s.post enc Tryz.prog f false fresh handsOn again W args v W' := by
  have hold : ∀ p ∈ before, (fun b => decide (b < W.heap.size)) p.block = true := fun p hp => by simpa using hW.lt p hp
  have hlt := hW.lt
  refine ⟨ds, gs, before, [], pa, pv, hW, hres _ _ _, hargs _ hold, hvars _ hold, World.keptBut_mono (fun p hp => ⟨hp, ?_⟩) (hb.frame (· ∈ before)), fun _ => ?_⟩
  · rw [hps, List.mem_append] at hp; exact Or.inr hp
  · obtain ⟨_, _, _, _, _, hz, _⟩ := hW
    refine ⟨hok, _, _, ([] ++ pa) ++ pv, ⟨[] ++ pa, pv, trodAll_append (hargs _ (fun _ _ => rfl)) (hres _ _ _), hvars _ (fun _ _ => rfl), rfl, ?_, fun h => by cases h⟩, ?_⟩
    · intro b off hp
      have hp' : MemPlace.cell b off ∈ before := by rw [hps]; simpa using hp
      rw [hb.frozen (p := ⟨b, off, none⟩) (hlt _ hp')]
      exact hz b off hp'
    · intro p hp _
      rw [hps]; simpa using hp
/-- A world that holds the listed variables: the one that the program's own first steps leave. -/
theorem door_met (os : Os) (args : Array Value) : laidMetH Tryz.prog Rows.pathReadsRow.laid ((World.doorLaid Tryz.prog 3000 os).forCall (fun _ _ => 0) ⟨#[], args, []⟩).memory :=
  laidMetH_of_parts3 (fuel := 8) (laidMet_of_run' 8 (by kernel_rfl) (by kernel_rfl)) (by kernel_rfl) (by kernel_rfl)
end Go.Proofs.YtbgkfjelgnbfmaaGreatDoor
