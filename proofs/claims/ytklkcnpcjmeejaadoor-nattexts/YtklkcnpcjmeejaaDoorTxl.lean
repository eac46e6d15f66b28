/- NatTexts' walk. -/
import Derived.Test.YtklkcnpcjmeejaaDoorTxm
namespace Go.Proofs.YtklkcnpcjmeejaaDoor
open Go.RowKit Fo
set_option maxRecDepth 100000

theorem texts_big (i : Bool) (a : Option Addr) (n c : Nat) (l : List UInt8) (ab : Option Addr) (nb cb : Nat) (w : World) (henv : Env w) (hbig : 100 < n ∨ 800 < l.length ∨ 600 < nb) :
    Calls Tryd.prog 4 #[.agg #[.bool i, .slice a n c], .string ⟨l.toArray⟩, .slice ab nb cb] w fun e w' => e = .returned (.bool true) ∧ Below w.heap.size w w' := by
  have HEnv : Hid (Env w) := henv
  have HBig : Hid (100 < n ∨ 800 < l.length ∨ 600 < nb) := hbig
  clear henv hbig
  have hsz : (⟨l.toArray⟩ : ByteArray).size = l.length := by simp [ByteArray.size]
  obtain ⟨R, hR⟩ : ∃ R : Bool, R = decide (n ≤ 100) := ⟨_, rfl⟩
  have HRd : Hid (R = decide (n ≤ 100)) := hR
  clear hR
  go_enter Tryd.func4, Tryd.ntmps4
  go_wp2_with (go_at_call 9; fail)
  obtain ⟨W0, hW0⟩ : ∃ W0, W0 = ((w.alloc (.cells #[.bool i, .slice a n c] 24)).alloc (.cells #[.bool i, .slice a n c] 24)) := ⟨_, rfl⟩
  have HB0 : Hid (Below w.heap.size w W0) := by rw [hW0]; exact ((below_refl w).alloc (Nat.le_refl _) _).alloc ((below_refl w).alloc (Nat.le_refl _) _).size _
  have c9 : Calls Tryd.prog 9 #[.slice (some ⟨w.heap.size + 1, 0, none⟩) 1 1] W0 fun e w' => e = .returned (.bool R) ∧ w' = W0 := by
    have hg : W0.heap[w.heap.size + 1]? = some (.cells #[.bool i, .slice a n c] 24) := by
      rw [hW0, ← (show (w.alloc (.cells #[.bool i, .slice a n c] 24)).heap.size = w.heap.size + 1 by simp), heap_alloc_new]
    refine small_any (w.heap.size + 1) 1 (fun _ => a) (fun _ => n) (fun _ => c) W0 (by decide) (by decide) R (fun j hj => ?_) (fun h => ?_) (fun j _ h => ?_)
    · rw [cell_of_row W0 _ _ _ _ _ hg]
      match j, hj with
      | 0, _ => rfl
    · rw [HRd.out]; exact (decide_eq_true (h 0 (by decide))).symm
    · rw [HRd.out]; exact (decide_eq_false (by omega)).symm
  rw [← hW0]
  have CA := awake_any W0 (HEnv.out.below HB0.out)
  clear hW0
  refine c9.mono ?_
  rintro e w' ⟨rfl, hw⟩
  replace hw := hw.symm
  subst hw
  clear c9
  by_cases h1 : n ≤ 100
  · obtain rfl : R = true := by rw [HRd.out]; exact decide_eq_true h1
    by_cases h2 : 800 < l.length
    · have h2' : (800 : Int) < (l.length : Int) := by omega
      clear HBig
      go_wp2_with (go_at_call 10; refine CA.mono ?_; rintro e w1 ⟨rfl, b1⟩)
      go_ret
      exact ⟨rfl, below_step HB0.out b1⟩
    · have h2' : ¬ (800 : Int) < (l.length : Int) := by omega
      have h3' : (600 : Int) < (nb : Int) := by have := HBig.out; omega
      clear HBig
      go_wp2_with (go_at_call 10; refine CA.mono ?_; rintro e w1 ⟨rfl, b1⟩)
      go_ret
      exact ⟨rfl, below_step HB0.out b1⟩
  · obtain rfl : R = false := by rw [HRd.out]; exact decide_eq_false h1
    clear HBig
    go_wp2_with (go_at_call 10; refine CA.mono ?_; rintro e w1 ⟨rfl, b1⟩)
    go_ret
    exact ⟨rfl, below_step HB0.out b1⟩
set_option maxHeartbeats 16000000 in
theorem texts_core (i : Bool) (a : Option Addr) (n c : Nat) (L : Nat → Nat) (l : List UInt8) (ab : Option Addr) (nb cb : Nat) (Lb : Nat → Nat) (w : World) (henv : Env w) (hR : Rd w a n c (u32s L)) (hL : ∀ j, L j < 4294967296) (hRb : Rd w ab nb cb (u8s Lb)) (hLb : ∀ j, Lb j < 256) (hn : n ≤ 100) (hl : l.length ≤ 800) (hnb : nb ≤ 600) :
    Calls Tryd.prog 4 #[.agg #[.bool i, .slice a n c], .string ⟨l.toArray⟩, .slice ab nb cb] w fun e w' => e = .returned (.bool true) ∧ Below w.heap.size w w' := by
  have HEnv : Hid (Env w) := henv
  have HR : Hid (Rd w a n c (u32s L)) := hR
  have HRb : Hid (Rd w ab nb cb (u8s Lb)) := hRb
  have HL : Hid (∀ j, L j < 4294967296) := hL
  have HLb : Hid (∀ j, Lb j < 256) := hLb
  have hsz : (⟨l.toArray⟩ : ByteArray).size = l.length := by simp [ByteArray.size]
  have h2' : ¬ (800 : Int) < (l.length : Int) := by omega
  have h3' : ¬ (600 : Int) < (nb : Int) := by omega
  clear henv hR hRb hL hLb
  go_enter Tryd.func4, Tryd.ntmps4
  go_wp2_with (go_at_call 9; fail)
  obtain ⟨W0, hW0⟩ : ∃ W0, W0 = ((w.alloc (.cells #[.bool i, .slice a n c] 24)).alloc (.cells #[.bool i, .slice a n c] 24)) := ⟨_, rfl⟩
  have HB0 : Hid (Below w.heap.size w W0) := by rw [hW0]; exact ((below_refl w).alloc (Nat.le_refl _) _).alloc ((below_refl w).alloc (Nat.le_refl _) _).size _
  have HgA : Hid (W0.heap[w.heap.size]? = some (.cells #[.bool i, .slice a n c] 24)) := by
    show W0.heap[w.heap.size]? = _
    have h1 : Below (w.alloc (.cells #[.bool i, .slice a n c] 24)).heap.size (w.alloc (.cells #[.bool i, .slice a n c] 24)) W0 := by rw [hW0]; exact (below_refl _).alloc (Nat.le_refl _) _
    rw [h1.block w.heap.size (by simp)]; exact heap_alloc_new _ _
  have c9 : Calls Tryd.prog 9 #[.slice (some ⟨w.heap.size + 1, 0, none⟩) 1 1] W0 fun e w' => e = .returned (.bool true) ∧ w' = W0 := by
    have hg : W0.heap[w.heap.size + 1]? = some (.cells #[.bool i, .slice a n c] 24) := by
      rw [hW0, ← (show (w.alloc (.cells #[.bool i, .slice a n c] 24)).heap.size = w.heap.size + 1 by simp), heap_alloc_new]
    refine small_any (w.heap.size + 1) 1 (fun _ => a) (fun _ => n) (fun _ => c) W0 (by decide) (by decide) true (fun j hj => ?_) (fun h => rfl) (fun j _ h => ?_)
    · rw [cell_of_row W0 _ _ _ _ _ hg]
      match j, hj with
      | 0, _ => rfl
    · omega
  rw [← hW0]
  clear hW0
  refine c9.mono ?_
  rintro e w' ⟨rfl, hw⟩
  replace hw := hw.symm
  subst hw
  clear c9
  have CP : Hid (Calls Tryd.prog 23 #[.string ⟨l.toArray⟩] W0 fun e w' => (∃ u X q, e = .returned (.tuple #[u, .int .i64 q]) ∧ NOut w' u X ∧ PR l X q) ∧ Below W0.heap.size W0 w') := parse_any l W0
  go_wp2_with (go_at_call 23; fail)
  refine CP.out.mono ?_
  rintro e w1 ⟨⟨u1, X, q, rfl, hu, hq⟩, b1⟩
  obtain ⟨i1, a1, n1, c1, rfl, -, -, -⟩ := hu.form
  have HP1 : Hid (PR l X q) := hq
  obtain ⟨W1, hW1⟩ : ∃ W1, W1 = w1.alloc (.cells #[.bool i1, .slice a1 n1 c1] 24) := ⟨_, rfl⟩
  have HBa1 : Hid (Below w1.heap.size w1 W1) := by rw [hW1]; exact (below_refl w1).alloc (Nat.le_refl _) _
  have Hg1 : Hid (W1.heap[w1.heap.size]? = some (.cells #[.bool i1, .slice a1 n1 c1] 24)) := by
    show W1.heap[w1.heap.size]? = _
    rw [hW1]; exact heap_alloc_new _ _
  have HU1 : Hid (NOut W1 (.agg #[.bool i1, .slice a1 n1 c1]) X) := hu.below HBa1.out
  have HB1 : Hid (Below W0.heap.size W0 W1) := below_step b1 HBa1.out
  clear hu hq b1 CP
  have CP2 : Hid (Calls Tryd.prog 24 #[.string ⟨l.toArray⟩] W1 fun e w' => PRef w' e l ∧ Below W1.heap.size W1 w') := rparse_any l W1
  go_wp2_with (go_at_call 24; fail)
  rw [← hW1]
  clear hW1
  refine CP2.out.mono ?_
  rintro e w2 ⟨⟨u2, X2, q2, rfl, hu, hq⟩, b2⟩
  obtain ⟨rfl, rfl⟩ := pr_fun HP1.out hq
  obtain ⟨i2, a2, n2, c2, rfl, -, -, -⟩ := hu.form
  obtain ⟨W2, hW2⟩ : ∃ W2, W2 = w2.alloc (.cells #[.bool i2, .slice a2 n2 c2] 24) := ⟨_, rfl⟩
  have HBa2 : Hid (Below w2.heap.size w2 W2) := by rw [hW2]; exact (below_refl w2).alloc (Nat.le_refl _) _
  have Hg2 : Hid (W2.heap[w2.heap.size]? = some (.cells #[.bool i2, .slice a2 n2 c2] 24)) := by
    show W2.heap[w2.heap.size]? = _
    rw [hW2]; exact heap_alloc_new _ _
  have HU2 : Hid (NOut W2 (.agg #[.bool i2, .slice a2 n2 c2]) X2) := hu.below HBa2.out
  have HB12 : Hid (Below W1.heap.size W1 W2) := below_step b2 HBa2.out
  have HB2 : Hid (Below W0.heap.size W0 W2) := below_step HB1.out HB12.out
  clear hu hq b2 CP2
  obtain ⟨x0, x1⟩ := box_cell HgA.out HB2.out
  have CB : Hid (Calls Tryd.prog 25 #[.agg #[.bool i, .slice a n c]] W2 fun e w' => BOut W2 w' e i n L ∧ Below W2.heap.size W2 w') := bytes_any i a n c L W2 (HR.out.below (below_step HB0.out HB2.out)) HL.out
  rw [hW2] at x0 x1
  go_wp2_with (go_at_call 25; fail)
  rw [← hW2]
  clear hW2 x0 x1
  refine CB.out.mono ?_
  rintro e w3 ⟨⟨a3, m3, c3, F, q3, rfl, hO3, hBR⟩, b3⟩
  have HBR : Hid (BR i n L m3 F q3) := hBR
  have HF3 : Hid (Rd w3 a3 m3 c3 (u8s F)) := hO3.rd1
  have HB23 : Hid (Below W2.heap.size W2 w3) := b3
  have HB3 : Hid (Below W0.heap.size W0 w3) := below_step HB2.out b3
  clear hO3 hBR b3 CB
  obtain ⟨x0, x1⟩ := box_cell HgA.out HB3.out
  have CB2 : Hid (Calls Tryd.prog 26 #[.agg #[.bool i, .slice a n c]] w3 fun e w' => BOut w3 w' e i n L ∧ Below w3.heap.size w3 w') := rbytes_any i a n c L w3 (HR.out.below (below_step HB0.out HB3.out)) HL.out (by omega)
  go_wp2_with (go_at_call 26; fail)
  clear x0 x1
  refine CB2.out.mono ?_
  rintro e w4 ⟨⟨a4, m4, c4, F4, q4, rfl, hO4, hBR⟩, b4⟩
  obtain ⟨rfl, rfl, hFF⟩ := br_fun HBR.out hBR
  have HFF : Hid (∀ j, j < m4 → F4 j = F j) := hFF
  have HF4 : Hid (Rd w4 a4 m4 c4 (u8s F4)) := hO4.rd1
  have HB34 : Hid (Below w3.heap.size w3 w4) := b4
  have HB4 : Hid (Below W0.heap.size W0 w4) := below_step HB3.out b4
  clear hO4 hBR b4 CB2 hFF
  have CU : Hid (Calls Tryd.prog 27 #[.slice ab nb cb] w4 fun e w' => UOut w' e nb Lb ∧ Below w4.heap.size w4 w') := unb_any ab nb cb Lb w4 (HRb.out.below (below_step HB0.out HB4.out)) (by omega) HLb.out
  go_wp2_with (go_at_call 27; fail)
  refine CU.out.mono ?_
  rintro e w5 ⟨⟨u5, X5, r5, q5, rfl, hu, hq⟩, b5⟩
  obtain ⟨i5, a5, n5, c5, rfl, -, -, -⟩ := hu.form
  have HP5 : Hid (UR nb Lb X5 r5 q5) := hq
  obtain ⟨W5, hW5⟩ : ∃ W5, W5 = w5.alloc (.cells #[.bool i5, .slice a5 n5 c5] 24) := ⟨_, rfl⟩
  have HBa5 : Hid (Below w5.heap.size w5 W5) := by rw [hW5]; exact (below_refl w5).alloc (Nat.le_refl _) _
  have Hg5 : Hid (W5.heap[w5.heap.size]? = some (.cells #[.bool i5, .slice a5 n5 c5] 24)) := by
    show W5.heap[w5.heap.size]? = _
    rw [hW5]; exact heap_alloc_new _ _
  have HU5 : Hid (NOut W5 (.agg #[.bool i5, .slice a5 n5 c5]) X5) := hu.below HBa5.out
  have HB45 : Hid (Below w4.heap.size w4 W5) := below_step b5 HBa5.out
  have HB5 : Hid (Below W0.heap.size W0 W5) := below_step HB4.out HB45.out
  clear hu hq b5 CU
  have CU2 : Hid (Calls Tryd.prog 28 #[.slice ab nb cb] W5 fun e w' => UOut w' e nb Lb ∧ Below W5.heap.size W5 w') := runb_any ab nb cb Lb W5 (HRb.out.below (below_step HB0.out HB5.out)) (by omega) HLb.out
  go_wp2_with (go_at_call 28; fail)
  rw [← hW5]
  clear hW5
  refine CU2.out.mono ?_
  rintro e w6 ⟨⟨u6, X6, r6, q6, rfl, hu, hq⟩, b6⟩
  obtain ⟨rfl, rfl, rfl⟩ := ur_fun HP5.out hq
  obtain ⟨i6, a6, n6, c6, rfl, -, -, -⟩ := hu.form
  obtain ⟨W6, hW6⟩ : ∃ W6, W6 = w6.alloc (.cells #[.bool i6, .slice a6 n6 c6] 24) := ⟨_, rfl⟩
  have HBa6 : Hid (Below w6.heap.size w6 W6) := by rw [hW6]; exact (below_refl w6).alloc (Nat.le_refl _) _
  have Hg6 : Hid (W6.heap[w6.heap.size]? = some (.cells #[.bool i6, .slice a6 n6 c6] 24)) := by
    show W6.heap[w6.heap.size]? = _
    rw [hW6]; exact heap_alloc_new _ _
  have HU6 : Hid (NOut W6 (.agg #[.bool i6, .slice a6 n6 c6]) X6) := hu.below HBa6.out
  have HB56 : Hid (Below W5.heap.size W5 W6) := below_step b6 HBa6.out
  have HB6 : Hid (Below W0.heap.size W0 W6) := below_step HB5.out HB56.out
  clear hu hq b6 CU2
  have HB46 : Hid (Below w4.heap.size w4 W6) := below_step HB45.out HB56.out
  have HB36 : Hid (Below w3.heap.size w3 W6) := below_step HB34.out HB46.out
  have HB26 : Hid (Below W2.heap.size W2 W6) := below_step HB23.out HB36.out
  have HB16 : Hid (Below W1.heap.size W1 W6) := below_step HB12.out HB26.out
  obtain ⟨X, hX⟩ : ∃ X : Option Nat, Hid (X = if i then none else some (lv L n)) := ⟨_, rfl⟩
  obtain ⟨T, hT⟩ : ∃ T : List UInt8, Hid (T = bl F m4) := ⟨_, rfl⟩
  have HK : Hid (∀ w', Below W6.heap.size W6 w' → w'.cell? ⟨w.heap.size, 0, none⟩ = some (.bool i) ∧ w'.cell? ⟨w.heap.size, 1, none⟩ = some (.slice a n c) ∧ w'.cell? ⟨w1.heap.size, 0, none⟩ = some (.bool i1) ∧ w'.cell? ⟨w1.heap.size, 1, none⟩ = some (.slice a1 n1 c1) ∧ w'.cell? ⟨w2.heap.size, 0, none⟩ = some (.bool i2) ∧ w'.cell? ⟨w2.heap.size, 1, none⟩ = some (.slice a2 n2 c2) ∧ w'.cell? ⟨w5.heap.size, 0, none⟩ = some (.bool i5) ∧ w'.cell? ⟨w5.heap.size, 1, none⟩ = some (.slice a5 n5 c5) ∧ w'.cell? ⟨w6.heap.size, 0, none⟩ = some (.bool i6) ∧ w'.cell? ⟨w6.heap.size, 1, none⟩ = some (.slice a6 n6 c6) ∧ (convert 34 9 (.slice a3 m4 c3)).run Tryd.prog w' = .ok (.string ⟨T.toArray⟩) w' ∧ (convert 34 9 (.slice a4 m4 c4)).run Tryd.prog w' = .ok (.string ⟨T.toArray⟩) w') := by
    intro w' hw
    obtain ⟨k0, k1⟩ := box_cell HgA.out (below_step HB6.out hw)
    obtain ⟨k2, k3⟩ := box_cell Hg1.out (below_step HB16.out hw)
    obtain ⟨k4, k5⟩ := box_cell Hg2.out (below_step HB26.out hw)
    obtain ⟨k6, k7⟩ := box_cell Hg5.out (below_step HB56.out hw)
    obtain ⟨k8, k9⟩ := box_cell Hg6.out hw
    refine ⟨k0, k1, k2, k3, k4, k5, k6, k7, k8, k9, ?_, ?_⟩
    · rw [hT.out]; exact conv_any (HF3.out.below (below_step HB36.out hw)) (br_byte' HBR.out)
    · rw [hT.out, ← bl_congr HFF.out]; exact conv_any (HF4.out.below (below_step HB46.out hw)) (fun j hj => by rw [HFF.out j hj]; exact br_byte' HBR.out j hj)
  have HNA : Hid (NIn w (.agg #[.bool i, .slice a n c]) X) := ⟨i, a, n, c, L, rfl, HR.out, HL.out, by omega, hX.out⟩
  have HW : Below W6.heap.size W6 W6 := below_refl W6
  have HBw : Hid (Below w.heap.size w W6) := below_step HB0.out HB6.out
  have HS1 : Hid (NOut W6 (.agg #[.bool i1, .slice a1 n1 c1]) X2) := HU1.out.below HB16.out
  have HS2 : Hid (NOut W6 (.agg #[.bool i2, .slice a2 n2 c2]) X2) := HU2.out.below HB26.out
  have HS5 : Hid (NOut W6 (.agg #[.bool i5, .slice a5 n5 c5]) X6) := HU5.out.below HB56.out
  have HlX : Hid (∀ N, X2 = some N → ln N ≤ 1000000) := pr_ln HP1.out
  have HlU : Hid (∀ N, X6 = some N → ln N ≤ 1000000) := ur_ln HP5.out
  have m0 : True := trivial
  go_upto_region 9 with fail
  rw [← hW6]
  clear hW6
  go_region_held3 (fun w' => w'.cell? ⟨w.heap.size, 0, none⟩ = some (.bool i) ∧ w'.cell? ⟨w.heap.size, 1, none⟩ = some (.slice a n c) ∧ w'.cell? ⟨w1.heap.size, 0, none⟩ = some (.bool i1) ∧ w'.cell? ⟨w1.heap.size, 1, none⟩ = some (.slice a1 n1 c1) ∧ w'.cell? ⟨w2.heap.size, 0, none⟩ = some (.bool i2) ∧ w'.cell? ⟨w2.heap.size, 1, none⟩ = some (.slice a2 n2 c2) ∧ w'.cell? ⟨w5.heap.size, 0, none⟩ = some (.bool i5) ∧ w'.cell? ⟨w5.heap.size, 1, none⟩ = some (.slice a5 n5 c5) ∧ w'.cell? ⟨w6.heap.size, 0, none⟩ = some (.bool i6) ∧ w'.cell? ⟨w6.heap.size, 1, none⟩ = some (.slice a6 n6 c6) ∧ (convert 34 9 (.slice a3 m4 c3)).run Tryd.prog w' = .ok (.string ⟨T.toArray⟩) w' ∧ (convert 34 9 (.slice a4 m4 c4)).run Tryd.prog w' = .ok (.string ⟨T.toArray⟩) w') (first | exact HK.out _ HW | exact HK.out _ HW.drew) (first
    | (clear m4'; go_at_call 10; refine (awake_any _ (by exact HEnv.out.below (below_step HBw.out (by first | exact HW | exact HW.drew)))).mono ?_; rintro e z5 ⟨rfl, b5⟩; replace HW := below_step (by first | exact HW | exact HW.drew) b5; clear b5; have m5' : True := trivial)
    | (clear m3'; go_at_call 11; refine (same_true _ _ _ X6 (by exact HS5.out.below (by first | exact HW | exact HW.drew)) (by exact HU6.out.below (by first | exact HW | exact HW.drew)) HlU.out).mono ?_; rintro e z4 ⟨rfl, b4⟩; replace HW := below_step (by first | exact HW | exact HW.drew) b4; clear b4; have m4' : True := trivial)
    | (clear m2'; go_at_call 11; refine (same_true _ _ _ X2 (by exact HS1.out.below (by first | exact HW | exact HW.drew)) (by exact HS2.out.below (by first | exact HW | exact HW.drew)) HlX.out).mono ?_; rintro e z3 ⟨rfl, b3⟩; replace HW := below_step (by first | exact HW | exact HW.drew) b3; clear b3; have m3' : True := trivial)
    | (clear m1'; go_at_call 30; refine (rtext_any _ _ X (by exact ⟨i, a, n, c, L, rfl, HR.out.below (below_step HBw.out (by first | exact HW | exact HW.drew)), HL.out, by omega, hX.out⟩)).mono ?_; rintro e z2 ⟨rfl, b2⟩; replace HW := below_step (by first | exact HW | exact HW.drew) b2; clear b2; have m2' : True := trivial)
    | (clear m0; go_at_call 29; refine (text_any _ _ X (by exact HNA.out.below (below_step HBw.out (by first | exact HW | exact HW.drew))) (by exact HEnv.out.below (below_step HBw.out (by first | exact HW | exact HW.drew)))).mono ?_; rintro e z1 ⟨rfl, b1⟩; replace HW := below_step (by first | exact HW | exact HW.drew) b1; clear b1; have m1' : True := trivial)
    | (go_at_call 99; fail))
  go_wp2
  go_ret
  exact ⟨rfl, below_step HBw.out HW⟩
theorem texts_all (i : Bool) (a : Option Addr) (n c : Nat) (L : Nat → Nat) (l : List UInt8) (ab : Option Addr) (nb cb : Nat) (Lb : Nat → Nat) (w : World) (henv : Env w) (hR : Rd w a n c (u32s L)) (hL : ∀ j, L j < 4294967296) (hRb : Rd w ab nb cb (u8s Lb)) (hLb : ∀ j, Lb j < 256) :
    Calls Tryd.prog 4 #[.agg #[.bool i, .slice a n c], .string ⟨l.toArray⟩, .slice ab nb cb] w fun e w' => e = .returned (.bool true) ∧ Below w.heap.size w w' := by
  by_cases h : 100 < n ∨ 800 < l.length ∨ 600 < nb
  · exact texts_big i a n c l ab nb cb w henv h
  · exact texts_core i a n c L l ab nb cb Lb w henv hR hL hRb hLb (by omega) (by omega) (by omega)
end Go.Proofs.YtklkcnpcjmeejaaDoor
