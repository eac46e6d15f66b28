/- The small makers: ofNat, ofLevel, ofX, topLevel, isWeight. -/
import Derived.Test.YtjdbapkmaggllaaDoorVdf
namespace Go.Proofs.YtjdbapkmaggllaaDoor
open Go.RowKit Fo
set_option maxRecDepth 100000

/-- A double is stored as any one cell. -/
theorem st_flo (w : World) (a : Addr) (x : Nat) (m : Mode) : (store a (.float .f64 x) m).run Tryd.prog w = stored Tryd.prog w a (.float .f64 x) m := run_store Tryd.prog w a _ m rfl
theorem ofnat_any (s : Int) (i : Bool) (a : Option Addr) (n c : Nat) (w : World) :
    Calls Tryd.prog 20 #[.int .i64 s, .agg #[.bool i, .slice a n c]] w fun e w' => e = .returned (.agg #[.int .i64 s, .bool i, .slice a n c, .int .i64 0, .float .f64 0]) ∧ Below w.heap.size w w' := by
  have HB := below2 w (.cells #[.bool i, .slice a n c] 24) (.cells #[.int .i64 s, .bool i, .slice a n c, .int .i64 0, .float .f64 0] 27)
  have hsf := st_flo
  go_enter Tryd.func20, Tryd.ntmps20
  go_wp2
  refine bodyPost_ret (v := .agg #[.int .i64 s, .bool i, .slice a n c, .int .i64 0, .float .f64 0]) (by simp [results, Tryd.results20, go_sem]) rfl ?_
  exact ⟨rfl, HB⟩
theorem oflevel_any (s l : Int) (w : World) :
    Calls Tryd.prog 25 #[.int .i64 s, .int .i64 l] w fun e w' => e = .returned (.agg #[.int .i64 s, .bool false, .slice none 0 0, .int .i64 l, .float .f64 0]) ∧ Below w.heap.size w w' := by
  have HB := (below_refl w).alloc (Nat.le_refl _) (.cells #[.int .i64 s, .bool false, .slice none 0 0, .int .i64 l, .float .f64 0] 27)
  have hsf := st_flo
  go_enter Tryd.func25, Tryd.ntmps25
  go_wp2
  refine bodyPost_ret (v := .agg #[.int .i64 s, .bool false, .slice none 0 0, .int .i64 l, .float .f64 0]) (by simp [results, Tryd.results25, go_sem]) rfl ?_
  exact ⟨rfl, HB⟩
theorem ofx_any (s : Int) (x : Nat) (w : World) :
    Calls Tryd.prog 27 #[.int .i64 s, .float .f64 x] w fun e w' => e = .returned (.agg #[.int .i64 s, .bool false, .slice none 0 0, .int .i64 0, .float .f64 x]) ∧ Below w.heap.size w w' := by
  have HB := (below_refl w).alloc (Nat.le_refl _) (.cells #[.int .i64 s, .bool false, .slice none 0 0, .int .i64 0, .float .f64 x] 27)
  have hsf := st_flo
  go_enter Tryd.func27, Tryd.ntmps27
  go_wp2
  refine bodyPost_ret (v := .agg #[.int .i64 s, .bool false, .slice none 0 0, .int .i64 0, .float .f64 x]) (by simp [results, Tryd.results27, go_sem]) rfl ?_
  exact ⟨rfl, HB⟩
theorem top_any (s : Int) (w : World) :
    Calls Tryd.prog 26 #[.int .i64 s] w fun e w' => e = .returned (.int .i64 (if s = 2 then 1 else 7)) ∧ w' = w := by
  by_cases h : s = 2
  · subst h
    go_enter Tryd.func26, Tryd.ntmps26
    go_wp2
    go_ret
    exact ⟨rfl, rfl⟩
  · have h1 : (s == 2) = false := by simp [h]
    rw [if_neg h]
    go_enter Tryd.func26, Tryd.ntmps26
    go_wp2
    go_ret
    exact ⟨rfl, rfl⟩
theorem weight_core (f : FuncId) (hf : f = 35 ∨ f = 36) (x v : Nat) (er : Int) (R : Bool) (w : World) (hx : x < 18446744073709551616) (hv : v < 18446744073709551616)
    (c : ∀ w, Calls Tryd.prog f #[.float .f64 x] w fun e w' => e = .returned (.tuple #[.float .f64 v, .int .i64 er]) ∧ w' = w)
    (h : (er = 0 ∧ decide (Fl.Fo.bitsOf v = Fl.Fo.bitsOf x) = R) ∨ (er = 16 ∧ R = false)) :
    Calls Tryd.prog 34 #[.func (.func f) #[] #[], .float .f64 x] w fun e w' => e = .returned (.bool R) ∧ w' = w := by
  have cs := Fl.same_any v x hv hx
  rcases h with ⟨rfl, h⟩ | ⟨rfl, rfl⟩
  · rw [h] at cs
    clear h
    rcases hf with rfl | rfl
    · go_enter Tryd.func34, Tryd.ntmps34
      go_wp2_with (first | (go_at_call 35; refine (c _).mono ?_; rintro e w' ⟨rfl, rfl⟩) | (go_at_call 50; refine (cs _).mono ?_; rintro e w' ⟨rfl, rfl⟩))
      go_ret
      exact ⟨rfl, rfl⟩
    · go_enter Tryd.func34, Tryd.ntmps34
      go_wp2_with (first | (go_at_call 36; refine (c _).mono ?_; rintro e w' ⟨rfl, rfl⟩) | (go_at_call 50; refine (cs _).mono ?_; rintro e w' ⟨rfl, rfl⟩))
      go_ret
      exact ⟨rfl, rfl⟩
  · rcases hf with rfl | rfl
    · go_enter Tryd.func34, Tryd.ntmps34
      go_wp2_with (go_at_call 35; refine (c _).mono ?_; rintro e w' ⟨rfl, rfl⟩)
      go_ret
      exact ⟨rfl, rfl⟩
    · go_enter Tryd.func34, Tryd.ntmps34
      go_wp2_with (go_at_call 36; refine (c _).mono ?_; rintro e w' ⟨rfl, rfl⟩)
      go_ret
      exact ⟨rfl, rfl⟩
end Go.Proofs.YtjdbapkmaggllaaDoor
