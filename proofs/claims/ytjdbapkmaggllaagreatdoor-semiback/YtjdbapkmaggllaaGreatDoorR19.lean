/- From SemiBack's list of package variables to what its walk asks; a world that holds them. The small makers: ofNat, ofLevel, ofX, topLevel, isWeight. -/
import Derived.Test.YtjdbapkmaggllaaGreatDoorR17
import Derived.Test.YtjdbapkmaggllaaGreatDoorR18
import Derived.Stop.LaidErr
import Derived.MakeChecks
import Derived.Test.YtjdbapkmaggllaaGreatDoorR15
namespace Go.Proofs.YtjdbapkmaggllaaGreatDoor
open Go.ChangeShapes Go.WideShapes Go.ChangeAt Go.RowKit Fo
set_option maxRecDepth 100000

theorem gt5 : (Tryz.prog.globals[5]?).map (·.type) = some 95 := by kernel_rfl
theorem gt6 : (Tryz.prog.globals[6]?).map (·.type) = some 95 := by kernel_rfl
theorem laid_var {n nm : String} {d : DataW Unit} {r : List (String × DataW Unit)} {W : World} {g : Nat} {ms : Array (String × TypeId)}
    (h : laidMet Tryz.prog ((n, .iface nm d) :: r) W) (hg : Tryz.prog.globalNamed n = some g) (ht : (Tryz.prog.globals[g]?).map (·.type) = some 95) (hi : Tryz.prog.underlying 95 = some (.interface ms)) :
    ∃ tp p, W.var? Tryz.prog n = some #[.iface tp p] := by
  obtain ⟨ps, ⟨g0, t0, cs0, f0, p0, q0, hg0, ht0, hv0, hd0, _, e0⟩, _, hrows⟩ := h
  obtain rfl := Option.some.inj (hg.symm.trans hg0)
  obtain rfl := Option.some.inj (ht.symm.trans ht0)
  obtain ⟨f', u, v, hc, -, -⟩ := iface_of_trod hi hd0
  refine ⟨u, v, ?_⟩
  rw [hv0]
  obtain ⟨l⟩ := cs0
  have : l = [.iface u v] := hc
  rw [this]
/-- WHAT THE ROW's LIST GIVES. -/
theorem env_back {W : World} (hL : laidMetH Tryz.prog Rows.semiBackRow.laid W) (hS : W.ShapedOpen Tryz.prog) : Fl.Env W := by
  have h : laidMet Tryz.prog Rows.semiBackRow.laid W := hL
  have t1 := h.tail
  have h1 : Lib.TabIs Tryz.prog W "math/bits.deBruijn64tab" .u8 (Lib.deBruijn64tab.map Int.ofNat) := Lib.tabIs_of_head gn1 gt1 Tryz.underlying139 Tryz.underlying5 (by kernel_rfl) (by kernel_rfl) t1
  have t2 := t1.tail
  have h2 : Lib.TabIs Tryz.prog W "internal/strconv.uint64pow10" .u64 Lib.pow10Tab := Lib.tabIs_of_head g0 gt2 Tryz.underlying151 Tryz.underlying55 (by kernel_rfl) (by kernel_rfl) t2
  have t3 := t2.tail
  have h3 := laid_var t3 Fl.g5 gt6 Tryz.underlying95
  have t4 := t3.tail
  have h4 := laid_var t4 Fl.g4 gt5 Tryz.underlying95
  refine ⟨by obtain ⟨tp, p, hp⟩ := h3; exact size_of_var Fl.g5 hp, h2, ?_, Tryz.laysM145.s1_3 W hS, h4, h3⟩
  intro j hj
  have := h1.cell gn1 j (by simpa using hj)
  rw [this]
  simp only [List.getD_eq_getElem?_getD, List.getElem?_map]
  rw [List.getElem?_eq_getElem hj]; rfl
/-- A world that holds the listed variables. -/
theorem door_met_b (os : Os) (args : Array Value) : laidMetH Tryz.prog Rows.semiBackRow.laid ((World.doorLaid Tryz.prog 3000 os).forCall (fun _ _ => 0) ⟨#[], args, []⟩).memory :=
  laidMetH_of_parts3 (fuel := 8) (laidMet_of_run' 8 (by kernel_rfl) (by kernel_rfl)) (by kernel_rfl) (by kernel_rfl)
end Go.Proofs.YtjdbapkmaggllaaGreatDoor

namespace Go.Proofs.YtjdbapkmaggllaaGreatDoor
open Go.RowKit Fo
set_option maxRecDepth 100000

/-- A double is stored as any one cell. -/
theorem st_flo (w : World) (a : Addr) (x : Nat) (m : Mode) : (store a (.float .f64 x) m).run Tryz.prog w = stored Tryz.prog w a (.float .f64 x) m := run_store Tryz.prog w a _ m rfl
theorem ofnat_any (s : Int) (i : Bool) (a : Option Addr) (n c : Nat) (w : World) :
    Calls Tryz.prog 32 #[.int .i64 s, .agg #[.bool i, .slice a n c]] w fun e w' => e = .returned (.agg #[.int .i64 s, .bool i, .slice a n c, .int .i64 0, .float .f64 0]) ∧ Below w.heap.size w w' := by
  have HB := below2 w (.cells #[.bool i, .slice a n c] 24) (.cells #[.int .i64 s, .bool i, .slice a n c, .int .i64 0, .float .f64 0] 27)
  have hsf := st_flo
  go_enter Tryz.func32, Tryz.ntmps32
  go_wp2
  refine bodyPost_ret (v := .agg #[.int .i64 s, .bool i, .slice a n c, .int .i64 0, .float .f64 0]) (by simp [results, Tryz.results32, go_sem]) rfl ?_
  exact ⟨rfl, HB⟩
theorem oflevel_any (s l : Int) (w : World) :
    Calls Tryz.prog 35 #[.int .i64 s, .int .i64 l] w fun e w' => e = .returned (.agg #[.int .i64 s, .bool false, .slice none 0 0, .int .i64 l, .float .f64 0]) ∧ Below w.heap.size w w' := by
  have HB := (below_refl w).alloc (Nat.le_refl _) (.cells #[.int .i64 s, .bool false, .slice none 0 0, .int .i64 l, .float .f64 0] 27)
  have hsf := st_flo
  go_enter Tryz.func35, Tryz.ntmps35
  go_wp2
  refine bodyPost_ret (v := .agg #[.int .i64 s, .bool false, .slice none 0 0, .int .i64 l, .float .f64 0]) (by simp [results, Tryz.results35, go_sem]) rfl ?_
  exact ⟨rfl, HB⟩
theorem ofx_any (s : Int) (x : Nat) (w : World) :
    Calls Tryz.prog 36 #[.int .i64 s, .float .f64 x] w fun e w' => e = .returned (.agg #[.int .i64 s, .bool false, .slice none 0 0, .int .i64 0, .float .f64 x]) ∧ Below w.heap.size w w' := by
  have HB := (below_refl w).alloc (Nat.le_refl _) (.cells #[.int .i64 s, .bool false, .slice none 0 0, .int .i64 0, .float .f64 x] 27)
  have hsf := st_flo
  go_enter Tryz.func36, Tryz.ntmps36
  go_wp2
  refine bodyPost_ret (v := .agg #[.int .i64 s, .bool false, .slice none 0 0, .int .i64 0, .float .f64 x]) (by simp [results, Tryz.results36, go_sem]) rfl ?_
  exact ⟨rfl, HB⟩
theorem top_any (s : Int) (w : World) :
    Calls Tryz.prog 39 #[.int .i64 s] w fun e w' => e = .returned (.int .i64 (if s = 2 then 1 else 7)) ∧ w' = w := by
  by_cases h : s = 2
  · subst h
    go_enter Tryz.func39, Tryz.ntmps39
    go_wp2
    go_ret
    exact ⟨rfl, rfl⟩
  · have h1 : (s == 2) = false := by simp [h]
    rw [if_neg h]
    go_enter Tryz.func39, Tryz.ntmps39
    go_wp2
    go_ret
    exact ⟨rfl, rfl⟩
theorem weight_core (f : FuncId) (hf : f = 51 ∨ f = 52) (x v : Nat) (er : Int) (R : Bool) (w : World) (hx : x < 18446744073709551616) (hv : v < 18446744073709551616)
    (c : ∀ w, Calls Tryz.prog f #[.float .f64 x] w fun e w' => e = .returned (.tuple #[.float .f64 v, .int .i64 er]) ∧ w' = w)
    (h : (er = 0 ∧ decide (Fl.Fo.bitsOf v = Fl.Fo.bitsOf x) = R) ∨ (er = 16 ∧ R = false)) :
    Calls Tryz.prog 50 #[.func (.func f) #[] #[], .float .f64 x] w fun e w' => e = .returned (.bool R) ∧ w' = w := by
  have cs := Fl.same_any v x hv hx
  rcases h with ⟨rfl, h⟩ | ⟨rfl, rfl⟩
  · rw [h] at cs
    clear h
    rcases hf with rfl | rfl
    · go_enter Tryz.func50, Tryz.ntmps50
      go_wp2_with (first | (go_at_call 51; refine (c _).mono ?_; rintro e w' ⟨rfl, rfl⟩) | (go_at_call 73; refine (cs _).mono ?_; rintro e w' ⟨rfl, rfl⟩))
      go_ret
      exact ⟨rfl, rfl⟩
    · go_enter Tryz.func50, Tryz.ntmps50
      go_wp2_with (first | (go_at_call 52; refine (c _).mono ?_; rintro e w' ⟨rfl, rfl⟩) | (go_at_call 73; refine (cs _).mono ?_; rintro e w' ⟨rfl, rfl⟩))
      go_ret
      exact ⟨rfl, rfl⟩
  · rcases hf with rfl | rfl
    · go_enter Tryz.func50, Tryz.ntmps50
      go_wp2_with (go_at_call 51; refine (c _).mono ?_; rintro e w' ⟨rfl, rfl⟩)
      go_ret
      exact ⟨rfl, rfl⟩
    · go_enter Tryz.func50, Tryz.ntmps50
      go_wp2_with (go_at_call 52; refine (c _).mono ?_; rintro e w' ⟨rfl, rfl⟩)
      go_ret
      exact ⟨rfl, rfl⟩
end Go.Proofs.YtjdbapkmaggllaaGreatDoor
