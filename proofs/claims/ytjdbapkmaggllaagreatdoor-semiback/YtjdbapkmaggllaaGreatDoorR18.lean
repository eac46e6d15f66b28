/- What the package variables hold; contracts of IsInf, Signbit, TrailingZeros64, split, FormatUint, Text. -/
import Derived.Test.YtjdbapkmaggllaaGreatDoorR10
import Derived.Test.YtjdbapkmaggllaaGreatDoorR16
import Derived.Shelf.Spec.TrailingZeros
import Derived.Lib.LaidTab
import Derived.Below
namespace Go.Proofs.YtjdbapkmaggllaaGreatDoor.Fl
open Go.RowKit Fo
set_option maxRecDepth 100000

/-- What the calls read of the package variables. -/
structure Env (w : World) : Prop where
  sz : 7 ≤ w.heap.size
  t10 : Lib.TabIs Tryz.prog w "internal/strconv.uint64pow10" .u64 Lib.pow10Tab
  tz : TabAt 1 Lib.deBruijn64tab w
  ml : ∃ m, w.cell? ⟨3, 0, none⟩ = some (.int .i64 m)
  es : ∃ tp p, w.var? Tryz.prog "strconv.ErrSyntax" = some #[.iface tp p]
  er : ∃ tp p, w.var? Tryz.prog "strconv.ErrRange" = some #[.iface tp p]

theorem g2 : Tryz.prog.globalNamed "internal/strconv.uint64pow10" = some 2 := by kernel_rfl
theorem g4 : Tryz.prog.globalNamed "strconv.ErrSyntax" = some 5 := by kernel_rfl
theorem g5 : Tryz.prog.globalNamed "strconv.ErrRange" = some 6 := by kernel_rfl
theorem var_of_block {w w' : World} {name : String} {g : Nat} (hg : Tryz.prog.globalNamed name = some g) (h : w'.heap[g]? = w.heap[g]?) : w'.var? Tryz.prog name = w.var? Tryz.prog name := by
  unfold World.var?; rw [hg]; simp only [Option.bind_some, h]

theorem Env.below {w w' : World} (h : Env w) (hb : Below w.heap.size w w') : Env w' := by
  have hz := h.sz
  refine ⟨Nat.le_trans h.sz hb.size, ?_, ?_, ?_, ?_, ?_⟩
  · unfold Lib.TabIs; rw [var_of_block g2 (hb.block 2 (by omega))]; exact h.t10
  · intro j hj; rw [hb.cell (p := ⟨1, j, none⟩) (by show 1 < _; omega)]; exact h.tz j hj
  · obtain ⟨m, hm⟩ := h.ml; exact ⟨m, by rw [hb.cell (p := ⟨3, 0, none⟩) (by show 3 < _; omega)]; exact hm⟩
  · obtain ⟨tp, p, hp⟩ := h.es; exact ⟨tp, p, by rw [var_of_block g4 (hb.block 5 (by omega))]; exact hp⟩
  · obtain ⟨tp, p, hp⟩ := h.er; exact ⟨tp, p, by rw [var_of_block g5 (hb.block 6 (by omega))]; exact hp⟩

theorem drewN_fields (k : Nat) : ∀ w : World, (w.drewN k).heap = w.heap ∧ (w.drewN k).os = w.os ∧ (w.drewN k).tape = w.tape ∧ (w.drewN k).output = w.output := by
  induction k with
  | zero => intro w; exact ⟨rfl, rfl, rfl, rfl⟩
  | succ k ih => intro w; exact ih w.drew
theorem below_grow (w : World) (k : Nat) (os : Array Obj) : Below w.heap.size w (Sort.grow (w.drewN k) os) := by
  obtain ⟨h, h1, h2, h3⟩ := drewN_fields k w
  refine ⟨h1, h2, h3, ?_, ?_⟩
  · show w.heap.size ≤ ((w.drewN k).heap ++ os).size
    rw [h]; simp
  · intro j hj
    show ((w.drewN k).heap ++ os)[j]? = _
    rw [h, Array.getElem?_append_left hj]

theorem signbit_any (b : Nat) (hb : b < 18446744073709551616) (w : World) :
    Calls Tryz.prog 87 #[.float .f64 b] w fun e w' => e = .returned (.bool (decide (9223372036854775808 ≤ b))) ∧ w' = w := by
  have k32 := c32 b
  go_enter Tryz.func87, Tryz.ntmps87
  go_wp2
  go_ret
  exact ⟨ret_bool (by rw [Bool.eq_iff_iff]; simp only [decide_eq_true_eq, wrap64]; omega), rfl⟩

theorem key_inf_pos (b : Nat) (hb : b < 18446744073709551616) : (FloatKind.f64.format.order b 9218868437227405311 == some .gt) = decide (b = 9218868437227405312) := by
  have := ord_gt b 9218868437227405311 hb (by decide)
  have k1 : key 9218868437227405311 = 9218868437227405311 := by decide
  have n1 : isN 9218868437227405311 = false := by decide
  rw [n1, k1] at this
  refine this.trans ?_
  rw [Bool.eq_iff_iff]
  simp only [isN, key, Bool.and_eq_true, Bool.not_eq_true', decide_eq_false_iff_not, decide_eq_true_eq]
  constructor
  · rintro ⟨⟨h1, -⟩, h2⟩; replace h2 := of_decide_eq_true h2; split at h2 <;> omega
  · rintro rfl; decide
theorem isinf_pos (b : Nat) (hb : b < 18446744073709551616) (w : World) :
    Calls Tryz.prog 86 #[.float .f64 b, .int .i64 1] w fun e w' => e = .returned (.bool (decide (b = 9218868437227405312))) ∧ w' = w := by
  go_enter Tryz.func86, Tryz.ntmps86
  go_wp2
  go_ret
  exact ⟨ret_bool (key_inf_pos b hb), rfl⟩
/-- The other sign. -/
def flip (b : Nat) : Nat := if b < 9223372036854775808 then b + 9223372036854775808 else b - 9223372036854775808
theorem flip_lt (b : Nat) (hb : b < 18446744073709551616) : flip b < 18446744073709551616 := by unfold flip; split <;> omega
theorem neg_eq (b : Nat) (hb : b < 18446744073709551616) : Op.negFloat .f64 b = flip b := by
  show b ^^^ 9223372036854775808 = _
  unfold flip
  split
  · have e : b ^^^ 9223372036854775808 = b ||| 9223372036854775808 := by
      apply Nat.eq_of_testBit_eq
      intro i
      rw [Nat.testBit_xor, Nat.testBit_or]
      by_cases hi : i = 63
      · subst hi
        rw [Nat.testBit_lt_two_pow (show b < 2 ^ 63 by omega)]; decide
      · rw [show (9223372036854775808 : Nat) = 2 ^ 63 by rfl, Nat.testBit_two_pow_of_ne (Ne.symm hi)]; simp
    rw [e, Nat.or_comm]
    have := Nat.two_pow_add_eq_or_of_lt (i := 63) (b := b) (by omega) 1
    simp only [Nat.reducePow, Nat.mul_one] at this
    omega
  · obtain ⟨c, rfl⟩ : ∃ c, b = c + 9223372036854775808 := ⟨b - 9223372036854775808, by omega⟩
    have hc : c < 9223372036854775808 := by omega
    have e : c + 9223372036854775808 = c ||| 9223372036854775808 := by
      have := Nat.two_pow_add_eq_or_of_lt (i := 63) (b := c) (by omega) 1
      simp only [Nat.reducePow, Nat.mul_one] at this
      rw [Nat.or_comm]; omega
    rw [e]
    have e2 : (c ||| 9223372036854775808) ^^^ 9223372036854775808 = c := by
      apply Nat.eq_of_testBit_eq
      intro i
      rw [Nat.testBit_xor, Nat.testBit_or]
      by_cases hi : i = 63
      · subst hi
        rw [Nat.testBit_lt_two_pow (show c < 2 ^ 63 by omega)]; decide
      · rw [show (9223372036854775808 : Nat) = 2 ^ 63 by rfl, Nat.testBit_two_pow_of_ne (Ne.symm hi)]; simp
    rw [e2]; omega
theorem flip_inf (b : Nat) (hb : b < 18446744073709551616) : decide (flip b = 9218868437227405312) = decide (b = 18442240474082181120) := by
  rw [Bool.eq_iff_iff, decide_eq_true_eq, decide_eq_true_eq]
  unfold flip
  split <;> constructor <;> intro h <;> omega
theorem isinf_neg (b : Nat) (hb : b < 18446744073709551616) (w : World) :
    Calls Tryz.prog 86 #[.float .f64 b, .int .i64 (-1)] w fun e w' => e = .returned (.bool (decide (b = 18442240474082181120))) ∧ w' = w := by
  have hneg : Op.unary .neg (.float .f64 b) = pure (.float .f64 (flip b)) := by rw [← neg_eq b hb]; rfl
  go_enter Tryz.func86, Tryz.ntmps86
  go_wp2
  go_ret
  exact ⟨ret_bool (by rw [key_inf_pos _ (flip_lt b hb), flip_inf b hb]), rfl⟩

theorem tz_core (x k idx : Nat) (w : World) (hx0 : ((x : Int) == 0) = false)
    (key : IntKind.u64.wrap (bits BinOp.and IntKind.u64 (x : Int) (IntKind.u64.wrap (-(x : Int))) * 285870213051353865) / 288230376151711744 = (idx : Int))
    (hi : idx < 64) (hk : k < 64) (hcell : w.cell? ⟨1, idx, none⟩ = some (.int .u8 k)) :
    Calls Tryz.prog 108 #[.int .u64 x] w fun e w' => e = .returned (.int .i64 k) ∧ w' = w := by
  go_enter Tryz.func108, Tryz.ntmps108
  go_wp2_with (simp only [key])
  go_ret
  exact ⟨rfl, rfl⟩
/-- The lowest bit's place, of a number that is not 0. -/
theorem tz_any (x : Nat) (hx : x < 18446744073709551616) (h0 : x ≠ 0) (w : World) (hT : TabAt 1 Lib.deBruijn64tab w) :
    Calls Tryz.prog 108 #[.int .u64 x] w fun e w' => e = .returned (.int .i64 (Lib.ctz 64 x)) ∧ w' = w := by
  obtain ⟨hlow, hk⟩ := Lib.lowest_bit 64 x h0 hx
  obtain ⟨hi, htab⟩ := Lib.deBruijn64_at _ hk
  have hcell := hT _ hi
  rw [htab] at hcell
  exact tz_core x _ _ w (by simp; omega) (tz64_key x _ hx h0 hlow) hi hk hcell
end Go.Proofs.YtjdbapkmaggllaaGreatDoor.Fl
