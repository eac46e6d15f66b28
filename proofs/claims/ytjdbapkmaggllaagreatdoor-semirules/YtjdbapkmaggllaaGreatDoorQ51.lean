/- SemiRules, every way. -/
import Derived.Test.YtjdbapkmaggllaaGreatDoorQ49
import Derived.Test.YtjdbapkmaggllaaGreatDoorQ50
namespace Go.Proofs.YtjdbapkmaggllaaGreatDoor
open Go.RowKit Fo
set_option maxRecDepth 100000

theorem rules_all (s1 : Int) (i1 : Bool) (a1 : Option Addr) (n1 c1 : Nat) (L1 : Nat → Nat) (l1 : Int) (x1 : Nat) (s2 : Int) (i2 : Bool) (a2 : Option Addr) (n2 c2 : Nat) (L2 : Nat → Nat) (l2 : Int) (x2 : Nat) (s3 : Int) (i3 : Bool) (a3 : Option Addr) (n3 c3 : Nat) (L3 : Nat → Nat) (l3 : Int) (x3 : Nat) (w : World) (henv : Env w)
    (hR1 : Rd w a1 n1 c1 (u32s L1)) (hL1 : ∀ j, L1 j < 4294967296) (hx1 : x1 < 18446744073709551616) (hl1 : -9223372036854775808 ≤ l1 ∧ l1 ≤ 9223372036854775807) (hs1 : -9223372036854775808 ≤ s1 ∧ s1 ≤ 9223372036854775807)
    (hR2 : Rd w a2 n2 c2 (u32s L2)) (hL2 : ∀ j, L2 j < 4294967296) (hx2 : x2 < 18446744073709551616) (hl2 : -9223372036854775808 ≤ l2 ∧ l2 ≤ 9223372036854775807) (hs2 : -9223372036854775808 ≤ s2 ∧ s2 ≤ 9223372036854775807)
    (hR3 : Rd w a3 n3 c3 (u32s L3)) (hL3 : ∀ j, L3 j < 4294967296) (hx3 : x3 < 18446744073709551616) (hl3 : -9223372036854775808 ≤ l3 ∧ l3 ≤ 9223372036854775807) (hs3 : -9223372036854775808 ≤ s3 ∧ s3 ≤ 9223372036854775807) :
    Calls Tryz.prog 4 #[.agg #[.int .i64 s1, .bool i1, .slice a1 n1 c1, .int .i64 l1, .float .f64 x1], .agg #[.int .i64 s2, .bool i2, .slice a2 n2 c2, .int .i64 l2, .float .f64 x2], .agg #[.int .i64 s3, .bool i3, .slice a3 n3 c3, .int .i64 l3, .float .f64 x3]] w fun e w' => e = .returned (.bool true) ∧ Below w.heap.size w w' := by
  by_cases hn : n1 ≤ 60 ∧ n2 ≤ 60 ∧ n3 ≤ 60
  · have h1 : VIn w (.agg #[.int .i64 s1, .bool i1, .slice a1 n1 c1, .int .i64 l1, .float .f64 x1]) ⟨s1, i1, n1, L1, l1, x1⟩ := ⟨a1, c1, rfl, hR1, hL1, by show n1 ≤ 10000; omega, hx1, hl1, hs1⟩
    have h2 : VIn w (.agg #[.int .i64 s2, .bool i2, .slice a2 n2 c2, .int .i64 l2, .float .f64 x2]) ⟨s2, i2, n2, L2, l2, x2⟩ := ⟨a2, c2, rfl, hR2, hL2, by show n2 ≤ 10000; omega, hx2, hl2, hs2⟩
    have h3 : VIn w (.agg #[.int .i64 s3, .bool i3, .slice a3 n3 c3, .int .i64 l3, .float .f64 x3]) ⟨s3, i3, n3, L3, l3, x3⟩ := ⟨a3, c3, rfl, hR3, hL3, by show n3 ≤ 10000; omega, hx3, hl3, hs3⟩
    revert h1 h2 h3
    generalize eV1 : (⟨s1, i1, n1, L1, l1, x1⟩ : Vl) = V1
    generalize eV2 : (⟨s2, i2, n2, L2, l2, x2⟩ : Vl) = V2
    generalize eV3 : (⟨s3, i3, n3, L3, l3, x3⟩ : Vl) = V3
    have hm : V1.n ≤ 60 ∧ V2.n ≤ 60 ∧ V3.n ≤ 60 := by subst eV1 eV2 eV3; exact hn
    intro h1 h2 h3
    by_cases m1 : mayV V1 = 0
    · by_cases m2 : mayV V2 = 0
      · by_cases m3 : mayV V3 = 0
        · by_cases e2 : V1.s = V2.s
          · by_cases e3 : V1.s = V3.s
            · cases hex : exV V1.s V1.x V2.x V3.x
              · exact rul_f w _ _ _ V1 V2 V3 h1 h2 h3 henv hm m1 m2 m3 e2.symm e3.symm hex
              · obtain ⟨x1, x2, x3⟩ := exP_of m1 m2 m3 e2.symm e3.symm hex
                exact rul_core w _ _ _ V1 V2 V3 h1 h2 h3 henv hm m1 m2 m3 (okP_of m1) x1 x2 x3 e2.symm e3.symm hex
            · exact rul_e w _ _ _ V1 V2 V3 h1 h2 h3 henv hm m1 m2 m3 e3 e2.symm
          · exact rul_d w _ _ _ V1 V2 V3 h1 h2 h3 henv hm m1 m2 m3 e2
        · exact rul_c w _ _ _ V1 V2 V3 h1 h2 h3 henv hm _ m1 m2 rfl m3
      · exact rul_b w _ _ _ V1 V2 V3 h1 h2 h3 henv hm _ m1 rfl m2
    · exact rul_a w _ _ _ V1 V2 V3 h1 h2 h3 henv hm _ rfl m1
  · exact rul_big w ⟨s1, i1, n1, L1, l1, x1⟩ ⟨s2, i2, n2, L2, l2, x2⟩ ⟨s3, i3, n3, L3, l3, x3⟩ a1 a2 a3 c1 c2 c3 henv hn
end Go.Proofs.YtjdbapkmaggllaaGreatDoor
