/- Contracts of exact and Exact, the program's and the document's own. -/
import Derived.Test.YtjdbapkmaggllaaGreatDoorS15
namespace Go.Proofs.YtjdbapkmaggllaaGreatDoor.Fl
open Go.RowKit Fo
set_option maxRecDepth 100000

namespace Fo
/-- Is a number that is not below 0 whole? -/
def wh (n p : Nat) : Bool := decide (f64 (val p / 2 ^ n) = p)
/-- May it stand in an exact sum? -/
def exB (n p : Nat) : Bool := decide (p = 9218868437227405312) || (decide (p ≤ 4787326403894837248) && wh n p)
def exOk (x : Nat) : Bool := inTo 9218868437227405312 x && exB 1074 (x % 9223372036854775808)
end Fo
theorem integral_num (nm : String) (way : Ieee.Toward) (x : Nat) (s : Bool) (m : Nat) (e : Int) (h : FloatKind.f64.decode x = .number s m e) :
    Extern.MathFloor.toIntegral nm way #[.float .f64 x] = pure (.float .f64 (FloatKind.f64.encode ((Ieee.Datum.number s m e).integral way))) := by
  delta Extern.MathFloor.toIntegral Extern.MathFloor.toIntegral.match_2
  dsimp only
  rw [dif_pos (show (#[Value.float FloatKind.f64 x] : Array Value).size = 1 from rfl)]
  delta Extern.MathFloor.toIntegral._sparseCasesOn_2 Extern.MathFloor.toIntegral._sparseCasesOn_3
  dsimp only [Array.getLit, List.getElem_toArray, List.getElem_cons_zero]
  rw [h]
theorem integral_fin (nm : String) (way : Ieee.Toward) (hw : way = .down ∨ way = .zero) (n x : Nat) (hn : n = 1074) (hx : x < 9218868437227405312) :
    Extern.MathFloor.toIntegral nm way #[.float .f64 x] = pure (.float .f64 (f64 (val x / 2 ^ n))) := by
  have h := floor_eq way hw x n hn hx
  obtain ⟨m, e, hr, -⟩ := read_fin x (by omega) (by omega)
  have hd : FloatKind.f64.decode x = Ieee.Datum.number (decide (9223372036854775808 ≤ x)) m (-1074 + (e : Int)) := hr
  rw [integral_num nm way x _ _ _ hd, ← hd, h]
theorem arch_trunc (n x : Nat) (hn : n = 1074) (hx : x < 9218868437227405312) (w : World) :
    (callFunc 147 #[.float .f64 x]).run Tryz.prog w = .ok (.value (.float .f64 (f64 (val x / 2 ^ n)))) w := by
  rw [run_callFunc_extern Tryz.func147 (by kernel_rfl) (by kernel_rfl) (by kernel_rfl) (e := Extern.MathFloor.toIntegral "math.archTrunc" .zero) (by kernel_rfl), integral_fin _ _ (Or.inr rfl) n x hn hx]
  rfl
theorem arch_floor (n x : Nat) (hn : n = 1074) (hx : x < 9218868437227405312) (w : World) :
    (callFunc 98 #[.float .f64 x]).run Tryz.prog w = .ok (.value (.float .f64 (f64 (val x / 2 ^ n)))) w := by
  rw [run_callFunc_extern Tryz.func98 (by kernel_rfl) (by kernel_rfl) (by kernel_rfl) (e := Extern.MathFloor.toIntegral "math.archFloor" .down) (by kernel_rfl), integral_fin _ _ (Or.inl rfl) n x hn hx]
  rfl
theorem trunc_core (x t : Nat) (w : World) (k : ∀ w, (callFunc 147 #[.float .f64 x]).run Tryz.prog w = .ok (.value (.float .f64 t)) w) :
    Calls Tryz.prog 131 #[.float .f64 x] w fun e w' => e = .returned (.float .f64 t) ∧ w' = w := by
  go_enter Tryz.func131, Tryz.ntmps131
  go_wp2
  go_ret
  exact ⟨rfl, rfl⟩
theorem floor_core (x t : Nat) (w : World) (k : ∀ w, (callFunc 98 #[.float .f64 x]).run Tryz.prog w = .ok (.value (.float .f64 t)) w) :
    Calls Tryz.prog 77 #[.float .f64 x] w fun e w' => e = .returned (.float .f64 t) ∧ w' = w := by
  go_enter Tryz.func77, Tryz.ntmps77
  go_wp2
  go_ret
  exact ⟨rfl, rfl⟩
theorem isinf_yes (w : World) : Calls Tryz.prog 86 #[.float .f64 9218868437227405312, .int .i64 1] w fun e w' => e = .returned (.bool true) ∧ w' = w := by
  have o : FloatKind.f64.format.order 9218868437227405312 9218868437227405311 = some .gt := by decide +kernel
  go_enter Tryz.func86, Tryz.ntmps86
  go_wp2
  go_ret
  exact ⟨rfl, rfl⟩
theorem isinf_not0 (p : Nat) (o : FloatKind.f64.format.order p 9218868437227405311 = some .lt ∨ FloatKind.f64.format.order p 9218868437227405311 = some .eq) (w : World) : Calls Tryz.prog 86 #[.float .f64 p, .int .i64 1] w fun e w' => e = .returned (.bool false) ∧ w' = w := by
  rcases o with o | o
  all_goals
    go_enter Tryz.func86, Tryz.ntmps86
    go_wp2
    go_ret
    exact ⟨rfl, rfl⟩
/-- How two numbers that are not below 0 stand. -/
theorem ord_pos (p q : Nat) (hp : p ≤ 9218868437227405312) (hq : q ≤ 9218868437227405312) : FloatKind.f64.format.order p q = some (compare (p : Int) (q : Int)) := by
  have k1 : key p = p := by unfold key; rw [if_pos (by omega)]
  have k2 : key q = q := by unfold key; rw [if_pos (by omega)]
  have n1 : isN p = false := by unfold isN; simp only [decide_eq_false_iff_not]; omega
  have n2 : isN q = false := by unfold isN; simp only [decide_eq_false_iff_not]; omega
  rw [ord_of p q (by omega) (by omega) n1 n2, k1, k2]
theorem ord_lt {p q : Nat} (hq : q ≤ 9218868437227405312) (h : p < q) : FloatKind.f64.format.order p q = some .lt := by
  rw [ord_pos p q (by omega) hq, cmp_of_lt (by omega)]
theorem ord_gt {p q : Nat} (hp : p ≤ 9218868437227405312) (h : q < p) : FloatKind.f64.format.order p q = some .gt := by
  rw [ord_pos p q hp (by omega), cmp_of_gt (by omega)]
theorem ord_eq {p q : Nat} (hp : p ≤ 9218868437227405312) (h : p = q) : FloatKind.f64.format.order p q = some .eq := by
  rw [ord_pos p q hp (by omega), cmp_of_eq (by omega)]
theorem isinf_not (p : Nat) (hp : p < 9218868437227405312) (w : World) : Calls Tryz.prog 86 #[.float .f64 p, .int .i64 1] w fun e w' => e = .returned (.bool false) ∧ w' = w := by
  refine isinf_not0 p ?_ w
  rcases Nat.lt_or_ge p 9218868437227405311 with h | h
  · exact Or.inl (ord_lt (by decide) h)
  · exact Or.inr (ord_eq (by omega) (by omega))

/-! exact -/
theorem whole_ord (n p : Nat) (hn : n = 1074) (hp : p ≤ 4787326403894837248) : f64 (val p / 2 ^ n) ≤ 4787326403894837248 ∧
    ((FloatKind.f64.format.order p (f64 (val p / 2 ^ n)) = some .lt ∧ wh n p = false) ∨ (FloatKind.f64.format.order p (f64 (val p / 2 ^ n)) = some .gt ∧ wh n p = false) ∨ (FloatKind.f64.format.order p (f64 (val p / 2 ^ n)) = some .eq ∧ wh n p = true)) := by
  have h1 := part_lt p 1099511627776 n hn (by decide) (by rw [f64_big]; exact hp)
  have h2 := (f64_le (val p / 2 ^ n) 1099511627776 (Nat.lt_of_le_of_lt h1 (by decide)) (by decide)).2 h1
  rw [f64_big] at h2
  refine ⟨h2, ?_⟩
  unfold wh
  rcases Nat.lt_trichotomy p (f64 (val p / 2 ^ n)) with h | h | h
  · exact Or.inl ⟨ord_lt (by omega) h, by simp only [decide_eq_false_iff_not]; omega⟩
  · exact Or.inr (Or.inr ⟨ord_eq (by omega) h, by simp only [decide_eq_true_eq]; omega⟩)
  · exact Or.inr (Or.inl ⟨ord_gt (by omega) h, by simp only [decide_eq_false_iff_not]; omega⟩)
theorem price_ok (x : Nat) (hx : x < 18446744073709551616) (h : inTo 9218868437227405312 x = true) : x % 9223372036854775808 ≤ 9218868437227405312 := (in_key _ x hx (by decide) h).2.2
end Go.Proofs.YtjdbapkmaggllaaGreatDoor.Fl
