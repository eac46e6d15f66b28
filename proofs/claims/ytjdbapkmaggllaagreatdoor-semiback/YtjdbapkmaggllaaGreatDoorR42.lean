/- Contracts of split, FormatUint and Text. The contract of Text: a number's text. -/
import Derived.Test.YtjdbapkmaggllaaGreatDoorR18
namespace Go.Proofs.YtjdbapkmaggllaaGreatDoor.Fl
open Go.RowKit Fo Go.Sort
set_option maxRecDepth 100000


theorem split_zero (b F E : Nat) (w : World) (hf : bits .and .u64 (b : Int) 4503599627370495 = (F : Int)) (he : bits .and .u64 ((b : Int) / 4503599627370496) 2047 = (E : Int)) (h0 : E = 0) (h1 : F = 0) :
    Calls Tryz.prog 88 #[.float .f64 b] w fun e w' => e = .returned (.tuple #[.int .u64 0, .int .i64 0]) ∧ w' = w := by
  have k32 := c32 b
  subst h0 h1
  simp only [Int.ofNat_zero] at hf he
  go_enter Tryz.func88, Tryz.ntmps88
  go_wp2
  go_ret2
  exact ⟨rfl, rfl⟩
theorem split_sub (b F E : Nat) (w : World) (hT : TabAt 1 Lib.deBruijn64tab w) (hf : bits .and .u64 (b : Int) 4503599627370495 = (F : Int)) (he : bits .and .u64 ((b : Int) / 4503599627370496) 2047 = (E : Int)) (h0 : E = 0) (h1 : F ≠ 0) (hF : F < 4503599627370496) :
    Calls Tryz.prog 88 #[.float .f64 b] w fun e w' => e = .returned (.tuple #[.int .u64 ((F / 2 ^ Lib.ctz 64 F : Nat) : Int), .int .i64 (1 - 1075 + Lib.ctz 64 F)]) ∧ w' = w := by
  have k32 := c32 b
  subst h0
  simp only [Int.ofNat_zero] at he
  have hz := tz_any F (by omega) h1 w hT
  have hk : Lib.ctz 64 F < 64 := (Lib.lowest_bit 64 F h1 (by omega)).2
  generalize Lib.ctz 64 F = Z at hz hk ⊢
  have hne : ((F : Int) == 0) = false := by simp; omega
  go_enter Tryz.func88, Tryz.ntmps88
  go_wp2_with (go_at_call 108; refine hz.mono ?_; rintro e w' ⟨rfl, rfl⟩)
  go_ret2
  exact ⟨rfl, rfl⟩
theorem split_norm (b F E : Nat) (w : World) (hT : TabAt 1 Lib.deBruijn64tab w) (hf : bits .and .u64 (b : Int) 4503599627370495 = (F : Int)) (he : bits .and .u64 ((b : Int) / 4503599627370496) 2047 = (E : Int)) (h0 : E ≠ 0) (hE : E < 2048) (hF : F < 4503599627370496)
    (hor : bits .or .u64 (F : Int) 4503599627370496 = ((F + 4503599627370496 : Nat) : Int)) :
    Calls Tryz.prog 88 #[.float .f64 b] w fun e w' => e = .returned (.tuple #[.int .u64 (((F + 4503599627370496) / 2 ^ Lib.ctz 64 (F + 4503599627370496) : Nat) : Int), .int .i64 (E - 1075 + Lib.ctz 64 (F + 4503599627370496))]) ∧ w' = w := by
  have k32 := c32 b
  obtain ⟨M, hM⟩ : ∃ M : Nat, M = F + 4503599627370496 := ⟨_, rfl⟩
  rw [← hM] at hor ⊢
  have h1 : M ≠ 0 := by omega
  have hM2 : M < 9007199254740992 := by omega
  clear hM
  have hz := tz_any M (by omega) h1 w hT
  have hk : Lib.ctz 64 M < 64 := (Lib.lowest_bit 64 M h1 (by omega)).2
  generalize Lib.ctz 64 M = Z at hz hk ⊢
  have hne : ((M : Int) == 0) = false := by simp; omega
  have hne2 : ((E : Int) == 0) = false := by simp; omega
  go_enter Tryz.func88, Tryz.ntmps88
  go_wp2_with (go_at_call 108; refine hz.mono ?_; rintro e w' ⟨rfl, rfl⟩)
  go_ret2
  exact ⟨rfl, rfl⟩

theorem holds_zero0 (w : World) (T : TypeId) (nd : Nat) (hs : nd ≤ 24) : Holds (fun (b : UInt8) => Value.int .u8 (b.toNat : Int)) (w.alloc (.cells Lib.zeros24 T)) w.heap.size 0 (Array.replicate nd (0 : UInt8)) := fun j hj => by
  have hj' : j < nd := by simpa using hj
  refine ⟨?_, World.frozen?_alloc_new _ _ _ _⟩
  rw [World.cell?_alloc_new, Lib.zeros24_at _ (by omega), getElem!_pos _ j hj]
  simp
theorem fin0 (w : World) (o : Obj) (dk : Array UInt8) (k : Nat) : ∃ os, (putRow (fun (b : UInt8) => Value.int .u8 (b.toNat : Int)) (w.alloc o) w.heap.size 0 dk).drewN k = grow (w.drewN k) os := by
  rw [alloc_eq_grow]
  obtain ⟨os', _, e⟩ := putRow_grow_new (fun (b : UInt8) => Value.int .u8 (b.toNat : Int)) w #[o] w.heap.size 0 dk (Nat.le_refl _)
  exact ⟨os', by rw [e]; rfl⟩

theorem fmtu_small (u : Nat) (hu : u < 100) (w : World) :
    Calls Tryz.prog 102 #[.int .u64 u, .int .i64 10] w fun e w' => e = .returned (.string ⟨(Lib.decDigits u).toArray⟩) ∧ w' = w := by
  go_enter Tryz.func102, Tryz.ntmps102
  go_wp2_with (go_at_call 116; refine (Tryz.internal_strconv_small u hu _).mono ?_; rintro e w' ⟨rfl, rfl⟩)
  go_ret
  exact ⟨rfl, rfl⟩
set_option maxHeartbeats 1000000 in
theorem fmtu_great (u : Nat) (hu : 100 ≤ u) (hu64 : u < 18446744073709551616) (w : World)
    (htab : Lib.TabIs Tryz.prog w "internal/strconv.uint64pow10" .u64 Lib.pow10Tab) :
    Calls Tryz.prog 102 #[.int .u64 u, .int .i64 10] w fun e w' => e = .returned (.string ⟨(Lib.decDigits u).toArray⟩) ∧ Below w.heap.size w w' := by
  have hu1 : 1 ≤ u := by omega
  have hnd20 : Lib.nDigits u ≤ 20 := by have := Lib.numDigits_eq u hu1 hu64; split at this <;> omega
  have hal : Tryz.prog.arrayLen 129 = 24 := by simp [Program.arrayLen, Tryz.underlying129]
  have hsl1 : ∀ W, (Instr.sliceAt 129 (.pointer (some ⟨w.heap.size, 0, none⟩)) none (some (.int .i64 (Lib.nDigits u : Int))) none).run Tryz.prog W = .ok (.slice (some ⟨w.heap.size, 0, none⟩) (Lib.nDigits u) 24) W := fun W => by
    rw [run_sliceAt_array_h W 129 ⟨w.heap.size, 0, none⟩ (by simp [Program.arrayLen, Program.elem, Tryz.underlying129]) .i64 (Lib.nDigits u : Int) (by omega) (by rw [hal]; omega)]
    go_simp
  have hH0 := holds_zero0 w 129 (Lib.nDigits u) (by omega)
  have hfmt := Tryz.internal_strconv_formatBase10 w.heap.size 0 24 u (Array.replicate (Lib.nDigits u) 0) (w.alloc (.cells Lib.zeros24 129)) hH0 (by rw [Array.size_replicate]; exact Lib.lt_pow_nDigits u) hu64 (by rw [Array.size_replicate]; omega)
  rw [Array.size_replicate] at hfmt
  have HH0 := Lib.hid hH0
  clear hH0 hal
  go_enter Tryz.func102, Tryz.ntmps102
  go_wp2_with (first
    | (go_at_call 117; refine (Tryz.internal_strconv_numDigits u hu1 hu64 _ (Lib.tabIs_alloc htab _)).mono ?_; rintro e w' ⟨rfl, rfl⟩))
  go_at_call 118
  refine hfmt.mono ?_
  rintro e w' ⟨rfl, k, v', dk, rfl, hF⟩
  have hcv : (convert 90 9 (.slice (some ⟨w.heap.size, 0, none⟩) (Lib.nDigits u) 24)).run Tryz.prog ((putRow (fun (b : UInt8) => Value.int .u8 (b.toNat : Int)) (w.alloc (.cells Lib.zeros24 129)) w.heap.size 0 dk).drewN k) = .ok (.string ⟨(Lib.decDigits u).toArray⟩) ((putRow (fun (b : UInt8) => Value.int .u8 (b.toNat : Int)) (w.alloc (.cells Lib.zeros24 129)) w.heap.size 0 dk).drewN k) := by
    have h := run_convert_bytes_back (P := Tryz.prog) ((putRow (fun (b : UInt8) => Value.int .u8 (b.toNat : Int)) (w.alloc (.cells Lib.zeros24 129)) w.heap.size 0 dk).drewN k) 90 9 5 ⟨w.heap.size, 0, none⟩ 24 (Lib.decDigits u) Tryz.underlying90 Tryz.underlying5 Tryz.underlying9 (fun j hj => by
      rw [Lib.row_is_numeral hF j hj, Lib.add_plain, World.cell?_drewN]
      exact cell?_putRow (fun (b : UInt8) => Value.int .u8 (b.toNat : Int)) _ w.heap.size 0 _ dk HH0.out (by rw [hF.size, Array.size_replicate]) j (by rw [hF.size]; rw [Lib.decDigits_length] at hj; exact hj))
    rw [Lib.decDigits_length] at h
    exact h
  go_wp2
  go_ret
  obtain ⟨os, eo⟩ := fin0 w (.cells Lib.zeros24 129) dk k
  refine ⟨rfl, ?_⟩
  exact eo ▸ below_grow w k os
theorem fmtu_any (u : Nat) (hu64 : u < 18446744073709551616) (w : World) (henv : Env w) :
    Calls Tryz.prog 81 #[.int .u64 u, .int .i64 10] w fun e w' => e = .returned (.string ⟨(Lib.decDigits u).toArray⟩) ∧ Below w.heap.size w w' := by
  have h : Calls Tryz.prog 102 #[.int .u64 u, .int .i64 10] w fun e w' => e = .returned (.string ⟨(Lib.decDigits u).toArray⟩) ∧ Below w.heap.size w w' := by
    by_cases hu : u < 100
    · exact (fmtu_small u hu w).mono fun e w' hh => ⟨hh.1, hh.2 ▸ Below.refl _ _⟩
    · exact fmtu_great u (by omega) hu64 w henv.t10
  go_enter Tryz.func81, Tryz.ntmps81
  go_wp2_with (go_at_call 102; refine h.mono ?_; rintro e w' ⟨rfl, hb⟩)
  go_ret
  exact ⟨rfl, hb⟩
end Go.Proofs.YtjdbapkmaggllaaGreatDoor.Fl

namespace Go.Proofs.YtjdbapkmaggllaaGreatDoor.Fl
open Go.RowKit Fo Go.Sort
set_option maxRecDepth 100000

namespace Fo
def frac (b : Nat) : Nat := b % 4503599627370496
def expf (b : Nat) : Nat := b / 4503599627370496 % 2048
def mant (b : Nat) : Nat := if expf b = 0 then frac b else frac b + 4503599627370496
def expo (b : Nat) : Int := if expf b = 0 then 1 - 1075 else expf b - 1075
/-- The odd mantissa, 0 of the zeros. -/
def spM (b : Nat) : Nat := if mant b = 0 then 0 else mant b / 2 ^ Lib.ctz 64 (mant b)
/-- The exponent to it. -/
def spE (b : Nat) : Int := if mant b = 0 then 0 else expo b + Lib.ctz 64 (mant b)
/-- A finite number's text. -/
def textFin (b : Nat) : List UInt8 := (if b < 9223372036854775808 then [] else [45]) ++ (Lib.decDigits (spM b) ++ (98 :: Lib.itoa (spE b)))
/-- A number's text. -/
def textOf (b : Nat) : List UInt8 := if isN b then [110, 97, 110] else if b = 9218868437227405312 then [105, 110, 102] else if b = 18442240474082181120 then [45, 105, 110, 102] else textFin b
theorem mant_lt (b : Nat) : mant b < 9007199254740992 := by unfold mant frac; split <;> omega
theorem spM_lt (b : Nat) : spM b < 9007199254740992 := by
  have := mant_lt b
  unfold spM; split
  · omega
  · exact Nat.lt_of_le_of_lt (Nat.div_le_self _ _) this
theorem spE_bd (b : Nat) : -1075 ≤ spE b ∧ spE b ≤ 1100 := by
  unfold spE; split
  · omega
  · rename_i h
    have := (Lib.lowest_bit 64 (mant b) h (by have := mant_lt b; omega)).2
    unfold expo expf; split <;> omega
end Fo

theorem split_any (b : Nat) (hb : b < 18446744073709551616) (w : World) (henv : Env w) :
    Calls Tryz.prog 88 #[.float .f64 b] w fun e w' => e = .returned (.tuple #[.int .u64 (spM b), .int .i64 (spE b)]) ∧ w' = w := by
  have hf : bits .and .u64 (b : Int) 4503599627370495 = (frac b : Int) := by
    have := u64_and_nat b 4503599627370495 hb (by omega)
    rw [nat_mask52] at this; exact this
  have he : bits .and .u64 ((b : Int) / 4503599627370496) 2047 = (expf b : Int) := by
    have := u64_and_nat (b / 4503599627370496) 2047 (by omega) (by omega)
    rw [nat_mask11] at this; exact this
  have hF : frac b < 4503599627370496 := by unfold frac; omega
  have hE : expf b < 2048 := by unfold expf; omega
  by_cases h0 : expf b = 0
  · have em : mant b = frac b := by unfold mant; rw [if_pos h0]
    by_cases h1 : frac b = 0
    · have e1 : spM b = 0 := by unfold spM; rw [if_pos (by omega)]
      have e2 : spE b = 0 := by unfold spE; rw [if_pos (by omega)]
      rw [e1, e2]
      exact split_zero b (frac b) (expf b) w hf he h0 h1
    · have e1 : spM b = frac b / 2 ^ Lib.ctz 64 (frac b) := by unfold spM; rw [if_neg (by omega), em]
      have e2 : spE b = 1 - 1075 + Lib.ctz 64 (frac b) := by unfold spE expo; rw [if_neg (by omega), em, if_pos h0]
      rw [e1, e2]
      exact split_sub b (frac b) (expf b) w henv.tz hf he h0 h1 hF
  · have em : mant b = frac b + 4503599627370496 := by unfold mant; rw [if_neg h0]
    have e1 : spM b = (frac b + 4503599627370496) / 2 ^ Lib.ctz 64 (frac b + 4503599627370496) := by unfold spM; rw [if_neg (by omega), em]
    have e2 : spE b = expf b - 1075 + Lib.ctz 64 (frac b + 4503599627370496) := by unfold spE expo; rw [if_neg (by omega), em, if_neg h0]
    rw [e1, e2]
    refine split_norm b (frac b) (expf b) w henv.tz hf he h0 hE hF ?_
    have := u64_or_nat (frac b) 4503599627370496 (by omega) (by omega)
    have e := Nat.two_pow_add_eq_or_of_lt (i := 52) (b := frac b) (by omega) 1
    simp only [Nat.reducePow, Nat.mul_one] at e
    rw [Nat.or_comm, ← e, Nat.add_comm] at this
    exact this

/-- Is it the infinity of this sign? -/
def infB (b : Nat) (s : Int) : Bool := if s = 1 then decide (b = 9218868437227405312) else decide (b = 18442240474082181120)
theorem isinf_any (b : Nat) (s : Int) (hb : b < 18446744073709551616) (hs : s = 1 ∨ s = -1) (w : World) :
    Calls Tryz.prog 86 #[.float .f64 b, .int .i64 s] w fun e w' => e = .returned (.bool (infB b s)) ∧ w' = w := by
  rcases hs with rfl | rfl
  · exact isinf_pos b hb w
  · exact isinf_neg b hb w
theorem text_nan (b : Nat) (hb : b < 18446744073709551616) (h : isN b = true) (w : World) :
    Calls Tryz.prog 57 #[.float .f64 b] w fun e w' => e = .returned (.string ⟨#[110, 97, 110]⟩) ∧ w' = w := by
  go_enter Tryz.func57, Tryz.ntmps57
  go_wp2_with (go_at_call 85; refine (isnan_any _ hb _).mono ?_; rintro e w' ⟨rfl, rfl⟩)
  go_ret
  exact ⟨rfl, rfl⟩
theorem text_inf (w : World) :
    Calls Tryz.prog 57 #[.float .f64 9218868437227405312] w fun e w' => e = .returned (.string ⟨#[105, 110, 102]⟩) ∧ w' = w := by
  have h : isN 9218868437227405312 = false := by decide
  have h1 : infB 9218868437227405312 1 = true := by decide
  go_enter Tryz.func57, Tryz.ntmps57
  go_wp2_with (first | (go_at_call 85; refine (isnan_any _ (by decide) _).mono ?_; rintro e w' ⟨rfl, rfl⟩) | (go_at_call 86; refine (isinf_any _ _ (by decide) (by decide) _).mono ?_; rintro e w' ⟨rfl, rfl⟩))
  go_ret
  exact ⟨rfl, rfl⟩
theorem text_ninf (w : World) :
    Calls Tryz.prog 57 #[.float .f64 18442240474082181120] w fun e w' => e = .returned (.string ⟨#[45, 105, 110, 102]⟩) ∧ w' = w := by
  have h : isN 18442240474082181120 = false := by decide
  have h1 : infB 18442240474082181120 1 = false := by decide
  have h2 : infB 18442240474082181120 (-1) = true := by decide
  go_enter Tryz.func57, Tryz.ntmps57
  go_wp2_with (first | (go_at_call 85; refine (isnan_any _ (by decide) _).mono ?_; rintro e w' ⟨rfl, rfl⟩) | (go_at_call 86; refine (isinf_any _ _ (by decide) (by decide) _).mono ?_; rintro e w' ⟨rfl, rfl⟩))
  go_ret
  exact ⟨rfl, rfl⟩
theorem dec_len (u : Nat) (hu : u < 18446744073709551616) : (Lib.decDigits u).length ≤ 20 := by
  rw [Lib.decDigits_length]
  by_cases h : u = 0
  · subst h; decide +kernel
  · have := Lib.numDigits_eq u (by omega) hu; split at this <;> omega
theorem itoa_len (n : Int) (h0 : -9223372036854775808 ≤ n) (h1 : n ≤ 9223372036854775807) : (Lib.itoa n).length ≤ 21 := by
  unfold Lib.itoa; split
  · have := dec_len n.natAbs (by omega)
    simp only [List.length_cons]; omega
  · have := dec_len n.toNat (by omega)
    omega
theorem itoa_env (n : Int) (h0 : -9223372036854775808 ≤ n) (h1 : n ≤ 9223372036854775807) (w : World) (henv : Env w) :
    Calls Tryz.prog 58 #[.int .i64 n] w fun e w' => e = .returned (.string ⟨(Lib.itoa n).toArray⟩) ∧ Below w.heap.size w w' :=
  (Tryz.strconv_Itoa n h0 h1 w henv.t10).mono fun _ _ hh => ⟨hh.1, by obtain ⟨k, os, rfl⟩ := hh.2; exact below_grow w k os⟩
theorem ba (a b : List UInt8) : (⟨a.toArray⟩ : ByteArray) ++ ⟨b.toArray⟩ = ⟨(a ++ b).toArray⟩ := by
  apply ByteArray.ext; simp [ByteArray.data_append]
theorem cat4 (s D I : List UInt8) : (⟨s.toArray⟩ : ByteArray) ++ ⟨D.toArray⟩ ++ ⟨([98] : List UInt8).toArray⟩ ++ ⟨I.toArray⟩ = ⟨(s ++ (D ++ (98 :: I))).toArray⟩ := by
  rw [ba, ba, ba]; simp
set_option maxHeartbeats 1000000 in
theorem text_core (b : Nat) (hb : b < 18446744073709551616) (h : isN b = false) (hi' : infB b 1 = false) (hj' : infB b (-1) = false) (w : World) (henv : Env w) (M : Nat) (E : Int) (D I : List UInt8) (hD : D.length ≤ 20) (hI : I.length ≤ 21) (s : Bool) (hs : decide (9223372036854775808 ≤ b) = s)
    (c39 : ∀ w, Env w → Calls Tryz.prog 88 #[.float .f64 b] w fun e w' => e = .returned (.tuple #[.int .u64 M, .int .i64 E]) ∧ w' = w)
    (c40 : ∀ w, Env w → Calls Tryz.prog 81 #[.int .u64 M, .int .i64 10] w fun e w' => e = .returned (.string ⟨D.toArray⟩) ∧ Below w.heap.size w w')
    (c41 : ∀ w, Env w → Calls Tryz.prog 58 #[.int .i64 E] w fun e w' => e = .returned (.string ⟨I.toArray⟩) ∧ Below w.heap.size w w') :
    Calls Tryz.prog 57 #[.float .f64 b] w fun e w' => e = .returned (.string ⟨((if s then [45] else []) ++ (D ++ (98 :: I))).toArray⟩) ∧ Below w.heap.size w w' := by
  cases s
  all_goals
    go_enter Tryz.func57, Tryz.ntmps57
    go_wp2_with (first
      | (go_at_call 85; refine (isnan_any _ hb _).mono ?_; rintro e w' ⟨rfl, rfl⟩)
      | (go_at_call 86; refine (isinf_any _ _ hb (by decide) _).mono ?_; rintro e w' ⟨rfl, rfl⟩)
      | (go_at_call 87; refine (signbit_any _ hb _).mono ?_; rintro e w' ⟨rfl, rfl⟩)
      | (go_at_call 88; refine (c39 _ henv).mono ?_; rintro e w' ⟨rfl, rfl⟩)
      | (go_at_call 81; refine (c40 _ henv).mono ?_; rintro e w1 ⟨rfl, hb1⟩)
      | (go_at_call 58; refine (c41 _ (henv.below hb1)).mono ?_; rintro e w2 ⟨rfl, hb2⟩))
  all_goals go_ret
  · exact ⟨congrArg (fun x => Ending.returned (.string x)) (cat4 [] D I), hb1.trans (hb2.mono hb1.size)⟩
  · exact ⟨congrArg (fun x => Ending.returned (.string x)) (cat4 [45] D I), hb1.trans (hb2.mono hb1.size)⟩
theorem text_any (b : Nat) (hb : b < 18446744073709551616) (w : World) (henv : Env w) :
    Calls Tryz.prog 57 #[.float .f64 b] w fun e w' => e = .returned (.string ⟨(textOf b).toArray⟩) ∧ Below w.heap.size w w' := by
  unfold textOf
  by_cases hn : isN b = true
  · rw [if_pos hn]
    exact (text_nan b hb hn w).mono fun _ _ hh => ⟨hh.1, hh.2 ▸ Below.refl _ _⟩
  rw [if_neg hn]
  by_cases hi : b = 9218868437227405312
  · rw [if_pos hi]; subst hi
    exact (text_inf w).mono fun _ _ hh => ⟨hh.1, hh.2 ▸ Below.refl _ _⟩
  rw [if_neg hi]
  by_cases hj : b = 18442240474082181120
  · rw [if_pos hj]; subst hj
    exact (text_ninf w).mono fun _ _ hh => ⟨hh.1, hh.2 ▸ Below.refl _ _⟩
  rw [if_neg hj]
  have hM := spM_lt b
  have hE := spE_bd b
  have := text_core b hb (by simpa using hn) (by simp only [infB, if_true]; simpa using hi) (by unfold infB; rw [if_neg (by decide)]; simpa using hj) w henv (spM b) (spE b) (Lib.decDigits (spM b)) (Lib.itoa (spE b))
    (dec_len _ (by omega)) (itoa_len _ (by omega) (by omega)) (decide (9223372036854775808 ≤ b)) rfl
    (fun w he => split_any b hb w he) (fun w he => fmtu_any _ (by omega) w he) (fun w he => itoa_env _ (by omega) (by omega) w he)
  refine this.mono fun _ _ hh => ⟨hh.1.trans ?_, hh.2⟩
  unfold textFin
  by_cases hl : b < 9223372036854775808
  · rw [if_pos hl, if_neg (by simp; omega)]
  · rw [if_neg hl, if_pos (by simp; omega)]
end Go.Proofs.YtjdbapkmaggllaaGreatDoor.Fl
