/- SemiAsks, every way. -/
import Derived.Test.YtjdbapkmaggllaaGreatDoorS50
namespace Go.Proofs.YtjdbapkmaggllaaGreatDoor
open Go.RowKit Fo
set_option maxRecDepth 100000

theorem asks_all (s1 : Int) (i1 : Bool) (a1 : Option Addr) (n1 c1 : Nat) (L1 : Nat → Nat) (l1 : Int) (x1 : Nat) (s2 : Int) (i2 : Bool) (a2 : Option Addr) (n2 c2 : Nat) (L2 : Nat → Nat) (l2 : Int) (x2 : Nat) (sem : Int) (w : World) (henv : Env w)
    (hR1 : Rd w a1 n1 c1 (u32s L1)) (hL1 : ∀ j, L1 j < 4294967296) (hx1 : x1 < 18446744073709551616) (hl1 : -9223372036854775808 ≤ l1 ∧ l1 ≤ 9223372036854775807) (hs1 : -9223372036854775808 ≤ s1 ∧ s1 ≤ 9223372036854775807)
    (hR2 : Rd w a2 n2 c2 (u32s L2)) (hL2 : ∀ j, L2 j < 4294967296) (hx2 : x2 < 18446744073709551616) (hl2 : -9223372036854775808 ≤ l2 ∧ l2 ≤ 9223372036854775807) (hs2 : -9223372036854775808 ≤ s2 ∧ s2 ≤ 9223372036854775807) :
    Calls Tryz.prog 3 #[.agg #[.int .i64 s1, .bool i1, .slice a1 n1 c1, .int .i64 l1, .float .f64 x1], .agg #[.int .i64 s2, .bool i2, .slice a2 n2 c2, .int .i64 l2, .float .f64 x2], .int .i64 sem] w fun e w' => e = .returned (.bool true) ∧ Below w.heap.size w w' := by
  by_cases hn : n1 ≤ 60 ∧ n2 ≤ 60
  · have h1 : VIn w (.agg #[.int .i64 s1, .bool i1, .slice a1 n1 c1, .int .i64 l1, .float .f64 x1]) ⟨s1, i1, n1, L1, l1, x1⟩ := ⟨a1, c1, rfl, hR1, hL1, by show n1 ≤ 10000; omega, hx1, hl1, hs1⟩
    have h2 : VIn w (.agg #[.int .i64 s2, .bool i2, .slice a2 n2 c2, .int .i64 l2, .float .f64 x2]) ⟨s2, i2, n2, L2, l2, x2⟩ := ⟨a2, c2, rfl, hR2, hL2, by show n2 ≤ 10000; omega, hx2, hl2, hs2⟩
    revert h1 h2
    generalize eV1 : (⟨s1, i1, n1, L1, l1, x1⟩ : Vl) = V1
    generalize eV2 : (⟨s2, i2, n2, L2, l2, x2⟩ : Vl) = V2
    have hm : V1.n ≤ 60 ∧ V2.n ≤ 60 := by subst eV1 eV2; exact hn
    intro h1 h2
    refine asks_core w _ _ V1 V2 h1 h2 henv hm sem _ _ _ _ _ _ rfl rfl rfl rfl rfl rfl (fun h0 hs => ?_) (fun h0 hs => ?_)
    · have es := (err_ok h0).2.2
      exact (padd_short (k := 60) hs (den_short h1 hm.1 hs) (den_short h2 hm.2 (es ▸ hs))).le (by decide)
    · have es := (err_ok h0).2.2
      exact (pmul_short (k := 60) hs (den_short h1 hm.1 hs) (den_short h2 hm.2 (es ▸ hs))).le (by decide)
  · exact asks_big w ⟨s1, i1, n1, L1, l1, x1⟩ ⟨s2, i2, n2, L2, l2, x2⟩ a1 a2 c1 c2 sem henv hn
end Go.Proofs.YtjdbapkmaggllaaGreatDoor
