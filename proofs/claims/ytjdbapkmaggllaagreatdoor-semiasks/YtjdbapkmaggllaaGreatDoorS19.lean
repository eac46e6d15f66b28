/- A value as an argument, opened; how a law's proof is shut. The small makers: ofNat, ofLevel, ofX, topLevel, isWeight. -/
import Derived.Test.YtjdbapkmaggllaaGreatDoorS03
import Derived.Test.YtjdbapkmaggllaaGreatDoorS16
import Derived.Test.YtjdbapkmaggllaaGreatDoorS18
import Derived.Test.YtjdbapkmaggllaaGreatDoorCards
import Derived.Test.YtjdbapkmaggllaaGreatDoorTie
import Derived.ProofKit
import Derived.OpenShut
import Derived.Lib.SmallJoins
import Derived.Deep.DeepHandedRow
import Derived.Deep.DeepWitnessRowRef
import Derived.LaidMore
import Derived.Stop.LaidErr
import Derived.Lib.TrailingZeros
import Derived.MakeChecks
namespace Go.Proofs.YtjdbapkmaggllaaGreatDoor
open Go.ChangeShapes Go.WideShapes Go.ChangeAt Go.RowKit Fo
set_option maxRecDepth 100000

theorem int_of_trod {H : Type} {enc : TypeId × Value → H} {w : World} {base : Nat} {sp : Nat → Bool} {held : Bool} {n : Nat} {v : Value} {x : DataW H × List MemPlace}
    (h : DataW.trod enc Tryz.prog w base sp held n 3 [v] = some x) : ∃ b : Int, v = .int .i64 b ∧ -9223372036854775808 ≤ b ∧ b ≤ 9223372036854775807 := by
  cases n with
  | zero => simp [DataW.trod] at h
  | succ n =>
    simp only [DataW.trod, Tryz.underlying3] at h
    cases v <;> simp at h
    rename_i k b
    obtain ⟨⟨rfl, hw⟩, -⟩ := h
    simp [Lit.wf, IntKind.min, IntKind.max, IntKind.signed, IntKind.bits] at hw
    exact ⟨b, rfl, by omega, by omega⟩
theorem flo_of_trod {H : Type} {enc : TypeId × Value → H} {w : World} {base : Nat} {sp : Nat → Bool} {held : Bool} {n : Nat} {v : Value} {x : DataW H × List MemPlace}
    (h : DataW.trod enc Tryz.prog w base sp held n 25 [v] = some x) : ∃ b : Nat, v = .float .f64 b ∧ b < 18446744073709551616 := by
  cases n with
  | zero => simp [DataW.trod] at h
  | succ n =>
    simp only [DataW.trod, Tryz.underlying25] at h
    cases v <;> simp at h
    rename_i k b
    obtain ⟨⟨rfl, hw⟩, -⟩ := h
    exact ⟨b, rfl, by simpa [Lit.wf] using hw⟩
/-- A value that comes in. -/
theorem open_value {H : Type} {enc : TypeId × Value → H} {W : World} {base : Nat} {fuel : Nat} {v : Value} {x : DataW H × List MemPlace} (hv : Value.okWide Tryz.prog W .any base 27 v)
    (hf : DataW.trod enc Tryz.prog W 0 (fun _ => true) true fuel 27 v.cells.toList = some x) :
    ∃ s i a n c L l y, v = .agg #[.int .i64 s, .bool i, .slice a n c, .int .i64 l, .float .f64 y] ∧ Rd W a n c (u32s L) ∧ (∀ j, L j < 4294967296) ∧ y < 18446744073709551616 ∧ (-9223372036854775808 ≤ l ∧ l ≤ 9223372036854775807) ∧ (-9223372036854775808 ≤ s ∧ s ≤ 9223372036854775807) := by
  obtain ⟨cs, rfl, -⟩ := okWide_struct Tryz.underlying27 hv
  obtain ⟨y0, y1, y2, y3, n, -, hlen, h0, h1, h2, h3⟩ := Go.Joins.trod_struct4 Tryz.underlying27 hf
  obtain ⟨l⟩ := cs
  have hl5 : l.length = 5 := hlen
  match l, hl5 with
  | [p, q, r, t, z], _ =>
    have e0 : DataW.trod enc Tryz.prog W 0 (fun _ => true) true n 3 [p] = some y0 := h0
    have e1 : DataW.trod enc Tryz.prog W 0 (fun _ => true) true n 24 [q, r] = some y1 := h1
    have e2 : DataW.trod enc Tryz.prog W 0 (fun _ => true) true n 3 [t] = some y2 := h2
    have e3 : DataW.trod enc Tryz.prog W 0 (fun _ => true) true n 25 [z] = some y3 := h3
    obtain ⟨s, rfl, hs⟩ := int_of_trod e0
    obtain ⟨lv, rfl, hlv⟩ := int_of_trod e2
    obtain ⟨y, rfl, hy⟩ := flo_of_trod e3
    obtain ⟨z0, z1, m, -, -, k0, k1⟩ := trod_struct2 Tryz.underlying24 e1
    have f1 : DataW.trod enc Tryz.prog W 0 (fun _ => true) true m 22 [r] = some z1 := k1
    have f0 : DataW.trod enc Tryz.prog W 0 (fun _ => true) true m 4 [q] = some z0 := k0
    obtain ⟨a, k, c, L, e, hr, hL⟩ := open_u32s f1
    obtain rfl : r = .slice a k c := by simpa using e
    obtain ⟨i, rfl⟩ : ∃ i, q = .bool i := by
      cases m with
      | zero => simp [DataW.trod] at f0
      | succ m =>
        simp only [DataW.trod, Tryz.underlying4] at f0
        cases q <;> simp at f0
        exact ⟨_, rfl⟩
    exact ⟨s, i, a, k, c, L, lv, y, rfl, hr, hL, hy, hlv, hs⟩
theorem value_stays {H : Type} {enc : TypeId × Value → H} {W W' : World} {v : Value} {d : DataW H} {p : List MemPlace} (sp : Nat → Bool)
    (h : DataW.Trod enc Tryz.prog W 0 (fun _ => true) true 27 v d p) (hs : ∀ x ∈ p, W.sameAt W' x) (hsp : ∀ x ∈ p, sp x.block = true) : DataW.Trod enc Tryz.prog W' 0 sp true 27 v d p :=
  WideElems.Trod_stays laidOut (by kernel_rfl) (of_decide_eq_true (by kernel_rfl)) h hs hsp
theorem own : ownKnob Tryz.prog.godebug = none := by kernel_rfl
theorem gn1 : Tryz.prog.globalNamed "math/bits.deBruijn64tab" = some 1 := by kernel_rfl
theorem gn4 : Tryz.prog.globalNamed "math/bits.deBruijn32tab" = some 4 := by kernel_rfl
theorem gt2 : (Tryz.prog.globals[2]?).map (·.type) = some 151 := by kernel_rfl
theorem gt4 : (Tryz.prog.globals[4]?).map (·.type) = some 163 := by kernel_rfl
theorem gt1 : (Tryz.prog.globals[1]?).map (·.type) = some 139 := by kernel_rfl
theorem size_of_var {W : World} {name : String} {g : Nat} {cs : Array Value} (hg : Tryz.prog.globalNamed name = some g) (h : W.var? Tryz.prog name = some cs) : g < W.heap.size := by
  unfold World.var? at h
  rw [hg] at h
  rcases Nat.lt_or_ge g W.heap.size with h' | h'
  · exact h'
  · simp only [Option.bind_some, Array.getElem?_eq_none h'] at h
    cases h
/-- WHAT A ROW's LIST GIVES. -/
theorem env_of {W : World} (hL : laidMetH Tryz.prog Rows.semiRulesRow.laid W) : Env W := by
  have h : laidMet Tryz.prog Rows.semiRulesRow.laid W := hL
  have h0 : Lib.TabIs Tryz.prog W "math/bits.deBruijn32tab" .u8 (Lib.deBruijn32tab.map Int.ofNat) := Lib.tabIs_of_head gn4 gt4 Tryz.underlying163 Tryz.underlying5 (by kernel_rfl) (by kernel_rfl) h
  have t1 := h.tail
  have t2 := t1.tail
  have h2 : Lib.TabIs Tryz.prog W "internal/strconv.uint64pow10" .u64 Lib.pow10Tab := Lib.tabIs_of_head g0 gt2 Tryz.underlying151 Tryz.underlying55 (by kernel_rfl) (by kernel_rfl) t2
  exact ⟨size_of_var gn4 h0, h2⟩
/-- THE LAW's END: it has only added blocks. -/
theorem post_below {H : Type} {enc : TypeId × Value → H} {f : Func} {s : ChangeSpec} {fresh handsOn again : Bool} {W W' : World} {args : Array Value} {v : Value} {ds gs : List (DataW H)} {before pa pv : List MemPlace}
    (hW : DataW.Whole enc Tryz.prog f.params.toList s.vars false W args.toList ds gs before)
    (hres : ∀ (b : Nat) (sp : Nat → Bool) (hd : Bool), DataW.TrodAll enc Tryz.prog W' b sp hd f.resultTypes.toList (v.resultList f.resultTypes.size) (s.fn H (ds ++ gs)).results [])
    (hargs : ∀ sp : Nat → Bool, (∀ p ∈ before, sp p.block = true) → DataW.TrodAll enc Tryz.prog W' 0 sp true f.params.toList args.toList (s.fn H (ds ++ gs)).args pa)
    (hvars : ∀ sp : Nat → Bool, (∀ p ∈ before, sp p.block = true) → DataW.TrodVars enc Tryz.prog W' sp s.vars (s.fn H (ds ++ gs)).vars pv)
    (hps : before = pa ++ pv) (hb : Below W.heap.size W W')
    (hok : ∀ (j : Nat) (t : TypeId) (r : Value), f.resultTypes[j]? = some t → (v.resultList f.resultTypes.size)[j]? = some r → Value.okWide Tryz.prog W' .any 0 t r) :
    s.post enc Tryz.prog f false fresh handsOn again W args v W' := by
  have hold : ∀ p ∈ before, (fun b => decide (b < W.heap.size)) p.block = true := fun p hp => by simpa using hW.lt p hp
  have hlt := hW.lt
  refine ⟨ds, gs, before, [], pa, pv, hW, hres _ _ _, hargs _ hold, hvars _ hold, World.keptBut_mono (fun p hp => ⟨hp, ?_⟩) (hb.frame (· ∈ before)), fun _ => ?_⟩
  · rw [hps, List.mem_append] at hp; exact Or.inr hp
  · obtain ⟨_, _, _, _, _, hz, _⟩ := hW
    refine ⟨hok, _, _, ([] ++ pa) ++ pv, ⟨[] ++ pa, pv, trodAll_append (hargs _ (fun _ _ => rfl)) (hres _ _ _), hvars _ (fun _ _ => rfl), rfl, ?_, fun h => by cases h⟩, ?_⟩
    · intro b off hp
      have hp' : MemPlace.cell b off ∈ before := by rw [hps]; simpa using hp
      rw [hb.frozen (p := ⟨b, off, none⟩) (hlt _ hp')]
      exact hz b off hp'
    · intro p hp _
      rw [hps]; simpa using hp
/-- A world that holds the listed variables: the one that the program's own first steps leave. -/
theorem door_met (os : Os) (args : Array Value) : laidMetH Tryz.prog Rows.semiRulesRow.laid ((World.doorLaid Tryz.prog 3000 os).forCall (fun _ _ => 0) ⟨#[], args, []⟩).memory :=
  laidMetH_of_parts3 (fuel := 8) (laidMet_of_run' 8 (by kernel_rfl) (by kernel_rfl)) (by kernel_rfl) (by kernel_rfl)
end Go.Proofs.YtjdbapkmaggllaaGreatDoor

namespace Go.Proofs.YtjdbapkmaggllaaGreatDoor
open Go.RowKit Fo
set_option maxRecDepth 100000

/-- A double is stored as any one cell. -/
theorem st_flo (w : World) (a : Addr) (x : Nat) (m : Mode) : (store a (.float .f64 x) m).run Tryz.prog w = stored Tryz.prog w a (.float .f64 x) m := run_store Tryz.prog w a _ m rfl
theorem ofnat_any (s : Int) (i : Bool) (a : Option Addr) (n c : Nat) (w : World) :
    Calls Tryz.prog 32 #[.int .i64 s, .agg #[.bool i, .slice a n c]] w fun e w' => e = .returned (.agg #[.int .i64 s, .bool i, .slice a n c, .int .i64 0, .float .f64 0]) ∧ Below w.heap.size w w' := by
  have HB := below2 w (.cells #[.bool i, .slice a n c] 24) (.cells #[.int .i64 s, .bool i, .slice a n c, .int .i64 0, .float .f64 0] 27)
  have hsf := st_flo
  go_enter Tryz.func32, Tryz.ntmps32
  go_wp2
  refine bodyPost_ret (v := .agg #[.int .i64 s, .bool i, .slice a n c, .int .i64 0, .float .f64 0]) (by simp [results, Tryz.results32, go_sem]) rfl ?_
  exact ⟨rfl, HB⟩
theorem oflevel_any (s l : Int) (w : World) :
    Calls Tryz.prog 35 #[.int .i64 s, .int .i64 l] w fun e w' => e = .returned (.agg #[.int .i64 s, .bool false, .slice none 0 0, .int .i64 l, .float .f64 0]) ∧ Below w.heap.size w w' := by
  have HB := (below_refl w).alloc (Nat.le_refl _) (.cells #[.int .i64 s, .bool false, .slice none 0 0, .int .i64 l, .float .f64 0] 27)
  have hsf := st_flo
  go_enter Tryz.func35, Tryz.ntmps35
  go_wp2
  refine bodyPost_ret (v := .agg #[.int .i64 s, .bool false, .slice none 0 0, .int .i64 l, .float .f64 0]) (by simp [results, Tryz.results35, go_sem]) rfl ?_
  exact ⟨rfl, HB⟩
theorem ofx_any (s : Int) (x : Nat) (w : World) :
    Calls Tryz.prog 36 #[.int .i64 s, .float .f64 x] w fun e w' => e = .returned (.agg #[.int .i64 s, .bool false, .slice none 0 0, .int .i64 0, .float .f64 x]) ∧ Below w.heap.size w w' := by
  have HB := (below_refl w).alloc (Nat.le_refl _) (.cells #[.int .i64 s, .bool false, .slice none 0 0, .int .i64 0, .float .f64 x] 27)
  have hsf := st_flo
  go_enter Tryz.func36, Tryz.ntmps36
  go_wp2
  refine bodyPost_ret (v := .agg #[.int .i64 s, .bool false, .slice none 0 0, .int .i64 0, .float .f64 x]) (by simp [results, Tryz.results36, go_sem]) rfl ?_
  exact ⟨rfl, HB⟩
theorem top_any (s : Int) (w : World) :
    Calls Tryz.prog 39 #[.int .i64 s] w fun e w' => e = .returned (.int .i64 (if s = 2 then 1 else 7)) ∧ w' = w := by
  by_cases h : s = 2
  · subst h
    go_enter Tryz.func39, Tryz.ntmps39
    go_wp2
    go_ret
    exact ⟨rfl, rfl⟩
  · have h1 : (s == 2) = false := by simp [h]
    rw [if_neg h]
    go_enter Tryz.func39, Tryz.ntmps39
    go_wp2
    go_ret
    exact ⟨rfl, rfl⟩
theorem weight_core (f : FuncId) (hf : f = 51 ∨ f = 52) (x v : Nat) (er : Int) (R : Bool) (w : World) (hx : x < 18446744073709551616) (hv : v < 18446744073709551616)
    (c : ∀ w, Calls Tryz.prog f #[.float .f64 x] w fun e w' => e = .returned (.tuple #[.float .f64 v, .int .i64 er]) ∧ w' = w)
    (h : (er = 0 ∧ decide (Fl.Fo.bitsOf v = Fl.Fo.bitsOf x) = R) ∨ (er = 16 ∧ R = false)) :
    Calls Tryz.prog 50 #[.func (.func f) #[] #[], .float .f64 x] w fun e w' => e = .returned (.bool R) ∧ w' = w := by
  have cs := Fl.same_any v x hv hx
  rcases h with ⟨rfl, h⟩ | ⟨rfl, rfl⟩
  · rw [h] at cs
    clear h
    rcases hf with rfl | rfl
    · go_enter Tryz.func50, Tryz.ntmps50
      go_wp2_with (first | (go_at_call 51; refine (c _).mono ?_; rintro e w' ⟨rfl, rfl⟩) | (go_at_call 73; refine (cs _).mono ?_; rintro e w' ⟨rfl, rfl⟩))
      go_ret
      exact ⟨rfl, rfl⟩
    · go_enter Tryz.func50, Tryz.ntmps50
      go_wp2_with (first | (go_at_call 52; refine (c _).mono ?_; rintro e w' ⟨rfl, rfl⟩) | (go_at_call 73; refine (cs _).mono ?_; rintro e w' ⟨rfl, rfl⟩))
      go_ret
      exact ⟨rfl, rfl⟩
  · rcases hf with rfl | rfl
    · go_enter Tryz.func50, Tryz.ntmps50
      go_wp2_with (go_at_call 51; refine (c _).mono ?_; rintro e w' ⟨rfl, rfl⟩)
      go_ret
      exact ⟨rfl, rfl⟩
    · go_enter Tryz.func50, Tryz.ntmps50
      go_wp2_with (go_at_call 52; refine (c _).mono ?_; rintro e w' ⟨rfl, rfl⟩)
      go_ret
      exact ⟨rfl, rfl⟩
end Go.Proofs.YtjdbapkmaggllaaGreatDoor
