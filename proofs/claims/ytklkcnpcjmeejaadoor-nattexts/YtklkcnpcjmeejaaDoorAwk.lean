/- What the laws ask of the program besides: awake. -/
import Derived.Test.YtklkcnpcjmeejaaDoorTxt
import Derived.Test.YtklkcnpcjmeejaaDoorMln
import Derived.Test.YtklkcnpcjmeejaaDoorLaw
import Derived.Deep.RegionHeld3
namespace Go.Proofs.YtklkcnpcjmeejaaDoor
open Go.RowKit Fo
set_option maxRecDepth 100000

theorem text_big : otext (some (4294967296 * 4294967296)) = [49, 56, 52, 52, 54, 55, 52, 52, 48, 55, 51, 55, 48, 57, 53, 53, 49, 54, 49, 54] := by
  show Lib.decDigits 18446744073709551616 = _
  repeat rw [dec_big _ (by decide)]
  rw [Lib.decDigits_one (by decide)]
  decide
theorem text_zero : otext (some 0) = [48] := by
  show Lib.decDigits 0 = _
  rw [Lib.decDigits_one (by decide)]
  decide
theorem text_at (w : World) (v : Value) (X : Option Nat) (l : List UInt8) (h : NIn w v X) (henv : Env w) (hl : otext X = l) : Calls Tryd.prog 29 #[v] w fun e w' => e = .returned (.string ⟨l.toArray⟩) ∧ Below w.heap.size w w' := by
  rw [← hl]; exact text_any w v X h henv
theorem mul_at (w : World) (v1 v2 : Value) (X1 X2 X : Option Nat) (h1 : NIn w v1 X1) (h2 : NIn w v2 X2) (hb1 : ∀ N, X1 = some N → ln N ≤ 10000) (hb2 : ∀ N, X2 = some N → ln N ≤ 10000) (e : omul X1 X2 = X) :
    Calls Tryd.prog 14 #[v1, v2] w fun e w' => (∃ u, e = .returned u ∧ NOut w' u X) ∧ Below w.heap.size w w' := by
  rw [← e]; exact mul_any w v1 v2 X1 X2 h1 h2 hb1 hb2
theorem nin_inf (w : World) : NIn w (.agg #[.bool true, .slice none 0 0]) none := (nout_inf w).nin fun _ e => by cases e
theorem ln_big : ln (4294967296 * 4294967296) ≤ 100000 := Nat.le_trans (ln_le 3 _ (by decide)) (by decide)
theorem compare_at (w : World) (v1 v2 : Value) (X1 X2 : Option Nat) (q : Int) (h1 : NIn w v1 X1) (h2 : NIn w v2 X2) (e : ocmp X1 X2 = q) : Calls Tryd.prog 16 #[v1, v2] w fun e w' => e = .returned (.int .i64 q) ∧ Below w.heap.size w w' := by
  rw [← e]; exact compare_any w v1 v2 X1 X2 h1 h2
set_option maxHeartbeats 16000000 in
theorem awake_any (w : World) (henv : Env w) : Calls Tryd.prog 10 #[] w fun e w' => e = .returned (.bool true) ∧ Below w.heap.size w w' := by
  have HEnv : Hid (Env w) := henv
  have C21 : Hid (Calls Tryd.prog 21 #[.int .u64 4294967296] w fun e w' => (∃ u, e = .returned u ∧ NOut w' u (some 4294967296)) ∧ Below w.heap.size w w') := of_any 4294967296 (by decide) w
  clear henv
  go_enter Tryd.func10, Tryd.ntmps10
  go_wp2_with (go_at_call 21; fail)
  refine C21.out.mono ?_
  rintro e w1 ⟨⟨u1, rfl, o1⟩, b1⟩
  obtain ⟨i, a, n, c, rfl, -, -, -⟩ := o1.form
  have HB1 : Hid (Below w.heap.size w w1) := b1
  have O1 : Hid (NOut w1 (.agg #[.bool i, .slice a n c]) (some 4294967296)) := o1
  clear b1 o1 C21
  obtain ⟨W0, hW0⟩ : ∃ W0, W0 = w1.alloc (.cells #[.bool i, .slice a n c] 24) := ⟨_, rfl⟩
  have HB0 : Hid (Below w.heap.size w W0) := by rw [hW0]; exact HB1.out.alloc HB1.out.size _
  have Hg1 : Hid (W0.heap[w1.heap.size]? = some (.cells #[.bool i, .slice a n c] 24)) := by
    show W0.heap[w1.heap.size]? = _
    rw [hW0]; exact heap_alloc_new _ _
  have H1 : Hid (NIn W0 (.agg #[.bool i, .slice a n c]) (some 4294967296)) := by
    show NIn W0 _ _
    rw [hW0]
    exact (O1.out.below ((below_refl w1).alloc (Nat.le_refl _) _)).word (Nat.le_trans (ln_word (by decide)) (by decide))
  have HL : Hid (∀ N, some 4294967296 = some N → ln N ≤ 10000) := some_le (Nat.le_trans (ln_word (by decide)) (by decide))
  go_upto_region 2 with fail
  rw [← hW0]
  clear hW0 HB1 O1
  have HW : Below W0.heap.size W0 W0 := below_refl W0
  obtain ⟨x0, x1⟩ := box_cell Hg1.out HW
  have m0 : True := trivial
  go_region_held3 (fun w' => w'.cell? ⟨w1.heap.size, 0, none⟩ = some (.bool i) ∧ w'.cell? ⟨w1.heap.size, 1, none⟩ = some (.slice a n c)) (first | exact ⟨x0, x1⟩ | go_keep) (first
    | (clear m7; go_at_call 16; refine (compare_at _ _ _ none (some 4294967296) 1 (by exact nin_inf _) (by exact H1.out.below (by first | exact HW | exact HW.drew)) (by decide)).mono ?_; rintro e w9 ⟨rfl, b7⟩; replace HW := below_step (by first | exact HW | exact HW.drew) b7; clear b7; obtain ⟨x0, x1⟩ := box_cell Hg1.out HW; have m8 : True := trivial)
    | (clear m6; go_at_call 31; refine (inf_any _).mono ?_; rintro e w8 ⟨rfl, b6⟩; replace HW := below_step (by first | exact HW | exact HW.drew) b6; clear b6; obtain ⟨x0, x1⟩ := box_cell Hg1.out HW; have m7 : True := trivial)
    | (clear m5; go_at_call 29; refine (text_at _ _ (some 0) [48] (by exact Fo.NOut.word (by exact o5) (by rw [ln_zero]; decide)) (by exact HEnv.out.below (below_step HB0.out (by first | exact HW | exact HW.drew))) text_zero).mono ?_; rintro e w7 ⟨rfl, b5⟩; replace HW := below_step (by first | exact HW | exact HW.drew) b5; clear b5; obtain ⟨x0, x1⟩ := box_cell Hg1.out HW; have m6 : True := trivial)
    | (clear m4; go_at_call 14; refine (mul_at _ _ _ none (some 0) (some 0) (by exact nin_inf _) (by exact Fo.NOut.word (by exact o4) (by rw [ln_zero]; decide)) (fun _ e => by cases e) (some_le (by rw [ln_zero]; decide)) rfl).mono ?_; rintro e w6 ⟨⟨u5, rfl, o5⟩, b4⟩; replace HW := below_step (by first | exact HW | exact HW.drew) b4; clear b4; obtain ⟨x0, x1⟩ := box_cell Hg1.out HW; have m5 : True := trivial)
    | (clear m3; go_at_call 21; refine (of_any 0 (by decide) _).mono ?_; rintro e w5 ⟨⟨u4, rfl, o4⟩, b3⟩; replace HW := below_step (by first | exact HW | exact HW.drew) b3; clear b3; obtain ⟨x0, x1⟩ := box_cell Hg1.out HW; have m4 : True := trivial)
    | (clear m2; go_at_call 31; refine (inf_any _).mono ?_; rintro e w4 ⟨rfl, b2⟩; replace HW := below_step (by first | exact HW | exact HW.drew) b2; clear b2; obtain ⟨x0, x1⟩ := box_cell Hg1.out HW; have m3 : True := trivial)
    | (clear m1; go_at_call 29; refine (text_at _ _ (some (4294967296 * 4294967296)) _ (by exact Fo.NOut.word (by exact o2) ln_big) (by exact HEnv.out.below (below_step HB0.out (by first | exact HW | exact HW.drew))) text_big).mono ?_; rintro e w3 ⟨rfl, b1⟩; replace HW := below_step (by first | exact HW | exact HW.drew) b1; clear b1; obtain ⟨x0, x1⟩ := box_cell Hg1.out HW; have m2 : True := trivial)
    | (clear m0; go_at_call 14; refine (mul_at _ _ _ (some 4294967296) (some 4294967296) (some (4294967296 * 4294967296)) (by exact H1.out.below (by first | exact HW | exact HW.drew)) (by exact H1.out.below (by first | exact HW | exact HW.drew)) HL.out HL.out rfl).mono ?_; rintro e w2 ⟨⟨u2, rfl, o2⟩, b0⟩; replace HW := below_step (by first | exact HW | exact HW.drew) b0; clear b0; obtain ⟨x0, x1⟩ := box_cell Hg1.out HW; have m1 : True := trivial)
    | (go_at_call 99; fail))
  go_wp2
  go_ret
  exact ⟨rfl, below_step HB0.out HW⟩
end Go.Proofs.YtklkcnpcjmeejaaDoor
