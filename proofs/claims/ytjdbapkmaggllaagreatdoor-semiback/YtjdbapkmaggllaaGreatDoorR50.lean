/- Parse reads what Text wrote. -/
import Derived.Test.YtjdbapkmaggllaaGreatDoorR49
namespace Go.Proofs.YtjdbapkmaggllaaGreatDoor
open Go.RowKit Fo
set_option maxRecDepth 100000

set_option maxHeartbeats 8000000 in
theorem read_nat1 (w : World) (l : List UInt8) (P : Option Nat) (hl : otext P = l) (hlen : (otext P).length ≤ 700) : Calls Tryz.prog 59 #[.int .i64 1, .string ⟨l.toArray⟩] w fun e w' => (∃ u, e = .returned (.tuple #[u, .int .i64 0]) ∧ VOut w' u 1 P) ∧ Below w.heap.size w w' := by
  have hsf := st_flo
  obtain ⟨W0, hW0⟩ : ∃ W0, W0 = w.alloc (.cells #[.int .i64 0, .bool false, .slice none 0 0, .int .i64 0, .float .f64 0] 27) := ⟨_, rfl⟩
  have HB : Hid (Below w.heap.size w W0) := by rw [hW0]; exact below1 w _
  have SZ : Hid (w.heap.size < W0.heap.size) := by show w.heap.size < W0.heap.size; rw [hW0]; simp
  have Hg : Hid (W0.heap[w.heap.size]? = some (.cells #[.int .i64 0, .bool false, .slice none 0 0, .int .i64 0, .float .f64 0] 27)) := by show W0.heap[w.heap.size]? = _; rw [hW0]; exact heap_alloc_new _ _
  have C : Hid (∀ w, Calls Tryz.prog 90 #[.string ⟨l.toArray⟩] w fun e w' => (∃ u, e = .returned (.tuple #[u, .int .i64 0]) ∧ NOut w' u P) ∧ Below w.heap.size w w') := fun w => by rw [← hl]; exact nparse_back w P hlen
  clear hl hlen
  go_enter Tryz.func59, Tryz.ntmps59
  go_wp2_with (go_at_call 90; fail)
  rw [← hW0]
  clear hW0
  refine (C.out _).mono ?_
  rintro e w1 ⟨⟨u, rfl, o⟩, b⟩
  obtain ⟨i, a, n, c, rfl, -, -, -⟩ := o.form
  have HW : Below W0.heap.size W0 w1 := b
  have O : Hid (NOut w1 (.agg #[.bool i, .slice a n c]) P) := o
  clear o b C
  go_wp2_with (go_at_call 32; fail)
  refine (ofnat_any _ _ _ _ _ _).mono ?_
  rintro e w2 ⟨rfl, b⟩
  have O2 : Hid (NOut w2 (.agg #[.bool i, .slice a n c]) P) := (O.out.below (below1 _ _)).below b
  replace HW := below_step (HW.alloc HW.size _) b
  clear b O
  have hg2 := (HW.block w.heap.size SZ.out).trans Hg.out
  obtain ⟨⟨z0, z1, z2, z3, z4⟩, ⟨f0, f1, f2, f3, f4⟩, s0, s1, s2, s3, s4⟩ := box5_facts hg2
  have Hg2 : Hid (w2.heap[w.heap.size]? = _) := hg2
  clear hg2
  go_wp2
  refine bodyPost_ret (v := .tuple #[.agg #[.int .i64 1, .bool i, .slice a n c, .int .i64 0, .float .f64 0], .int .i64 0]) (by simp [results, Tryz.results59, go_sem, s0, s1, s2, s3, s4]) rfl ?_
  exact ⟨⟨_, rfl, Or.inl ⟨by decide, _, _, _, _, rfl, O2.out.set5 Hg2.out _ _ _ _ _⟩⟩, below_set5 (below_step HB.out HW) (Nat.le_refl _) _ _ _ _ _⟩
set_option maxHeartbeats 8000000 in
theorem read_nat3 (w : World) (l : List UInt8) (P : Option Nat) (hl : otext P = l) (hlen : (otext P).length ≤ 700) : Calls Tryz.prog 59 #[.int .i64 3, .string ⟨l.toArray⟩] w fun e w' => (∃ u, e = .returned (.tuple #[u, .int .i64 0]) ∧ VOut w' u 3 P) ∧ Below w.heap.size w w' := by
  have hsf := st_flo
  obtain ⟨W0, hW0⟩ : ∃ W0, W0 = w.alloc (.cells #[.int .i64 0, .bool false, .slice none 0 0, .int .i64 0, .float .f64 0] 27) := ⟨_, rfl⟩
  have HB : Hid (Below w.heap.size w W0) := by rw [hW0]; exact below1 w _
  have SZ : Hid (w.heap.size < W0.heap.size) := by show w.heap.size < W0.heap.size; rw [hW0]; simp
  have Hg : Hid (W0.heap[w.heap.size]? = some (.cells #[.int .i64 0, .bool false, .slice none 0 0, .int .i64 0, .float .f64 0] 27)) := by show W0.heap[w.heap.size]? = _; rw [hW0]; exact heap_alloc_new _ _
  have C : Hid (∀ w, Calls Tryz.prog 90 #[.string ⟨l.toArray⟩] w fun e w' => (∃ u, e = .returned (.tuple #[u, .int .i64 0]) ∧ NOut w' u P) ∧ Below w.heap.size w w') := fun w => by rw [← hl]; exact nparse_back w P hlen
  clear hl hlen
  go_enter Tryz.func59, Tryz.ntmps59
  go_wp2_with (go_at_call 90; fail)
  rw [← hW0]
  clear hW0
  refine (C.out _).mono ?_
  rintro e w1 ⟨⟨u, rfl, o⟩, b⟩
  obtain ⟨i, a, n, c, rfl, -, -, -⟩ := o.form
  have HW : Below W0.heap.size W0 w1 := b
  have O : Hid (NOut w1 (.agg #[.bool i, .slice a n c]) P) := o
  clear o b C
  go_wp2_with (go_at_call 32; fail)
  refine (ofnat_any _ _ _ _ _ _).mono ?_
  rintro e w2 ⟨rfl, b⟩
  have O2 : Hid (NOut w2 (.agg #[.bool i, .slice a n c]) P) := (O.out.below (below1 _ _)).below b
  replace HW := below_step (HW.alloc HW.size _) b
  clear b O
  have hg2 := (HW.block w.heap.size SZ.out).trans Hg.out
  obtain ⟨⟨z0, z1, z2, z3, z4⟩, ⟨f0, f1, f2, f3, f4⟩, s0, s1, s2, s3, s4⟩ := box5_facts hg2
  have Hg2 : Hid (w2.heap[w.heap.size]? = _) := hg2
  clear hg2
  go_wp2
  refine bodyPost_ret (v := .tuple #[.agg #[.int .i64 3, .bool i, .slice a n c, .int .i64 0, .float .f64 0], .int .i64 0]) (by simp [results, Tryz.results59, go_sem, s0, s1, s2, s3, s4]) rfl ?_
  exact ⟨⟨_, rfl, Or.inl ⟨by decide, _, _, _, _, rfl, O2.out.set5 Hg2.out _ _ _ _ _⟩⟩, below_set5 (below_step HB.out HW) (Nat.le_refl _) _ _ _ _ _⟩
set_option maxHeartbeats 8000000 in
theorem read_flo5 (w : World) (l : List UInt8) (x : Nat) (hl : Fl.Fo.textOf x = l) (hx : x ≤ 9218868437227405312) (henv : Fl.Env w) : Calls Tryz.prog 59 #[.int .i64 5, .string ⟨l.toArray⟩] w fun e w' => e = .returned (.tuple #[.agg #[.int .i64 5, .bool false, .slice none 0 0, .int .i64 0, .float .f64 x], .int .i64 0]) ∧ Below w.heap.size w w' := by
  have hsf := st_flo
  obtain ⟨W0, hW0⟩ : ∃ W0, W0 = w.alloc (.cells #[.int .i64 0, .bool false, .slice none 0 0, .int .i64 0, .float .f64 0] 27) := ⟨_, rfl⟩
  have HB : Hid (Below w.heap.size w W0) := by rw [hW0]; exact below1 w _
  have SZ : Hid (w.heap.size < W0.heap.size) := by show w.heap.size < W0.heap.size; rw [hW0]; simp
  have Hg : Hid (W0.heap[w.heap.size]? = some (.cells #[.int .i64 0, .bool false, .slice none 0 0, .int .i64 0, .float .f64 0] 27)) := by show W0.heap[w.heap.size]? = _; rw [hW0]; exact heap_alloc_new _ _
  have C : Hid (Calls Tryz.prog 91 #[.string ⟨l.toArray⟩] W0 fun e w' => e = .returned (.tuple #[.float .f64 x, .int .i64 0]) ∧ Below W0.heap.size W0 w') := by show Calls _ _ _ _ _; rw [← hl]; exact fparse_back W0 x hx (henv.below HB.out)
  clear hl hx henv
  go_enter Tryz.func59, Tryz.ntmps59
  go_wp2_with (go_at_call 91; fail)
  rw [← hW0]
  clear hW0
  refine C.out.mono ?_
  rintro e w1 ⟨rfl, b⟩
  have HW : Below W0.heap.size W0 w1 := b
  clear b C
  go_wp2_with (go_at_call 36; fail)
  refine (ofx_any _ _ _).mono ?_
  rintro e w2 ⟨rfl, b⟩
  replace HW := below_step HW b
  clear b
  have hg2 := (HW.block w.heap.size SZ.out).trans Hg.out
  obtain ⟨⟨z0, z1, z2, z3, z4⟩, ⟨f0, f1, f2, f3, f4⟩, s0, s1, s2, s3, s4⟩ := box5_facts hg2
  have Hg2 : Hid (w2.heap[w.heap.size]? = _) := hg2
  clear hg2
  go_wp2
  refine bodyPost_ret (v := .tuple #[.agg #[.int .i64 5, .bool false, .slice none 0 0, .int .i64 0, .float .f64 x], .int .i64 0]) (by simp [results, Tryz.results59, go_sem, s0, s1, s2, s3, s4]) rfl ?_
  exact ⟨rfl, below_set5 (below_step HB.out HW) (Nat.le_refl _) _ _ _ _ _⟩
set_option maxHeartbeats 8000000 in
theorem read_flo6 (w : World) (l : List UInt8) (x : Nat) (hl : Fl.Fo.textOf x = l) (hx : x ≤ 9218868437227405312) (henv : Fl.Env w) : Calls Tryz.prog 59 #[.int .i64 6, .string ⟨l.toArray⟩] w fun e w' => e = .returned (.tuple #[.agg #[.int .i64 6, .bool false, .slice none 0 0, .int .i64 0, .float .f64 x], .int .i64 0]) ∧ Below w.heap.size w w' := by
  have hsf := st_flo
  obtain ⟨W0, hW0⟩ : ∃ W0, W0 = w.alloc (.cells #[.int .i64 0, .bool false, .slice none 0 0, .int .i64 0, .float .f64 0] 27) := ⟨_, rfl⟩
  have HB : Hid (Below w.heap.size w W0) := by rw [hW0]; exact below1 w _
  have SZ : Hid (w.heap.size < W0.heap.size) := by show w.heap.size < W0.heap.size; rw [hW0]; simp
  have Hg : Hid (W0.heap[w.heap.size]? = some (.cells #[.int .i64 0, .bool false, .slice none 0 0, .int .i64 0, .float .f64 0] 27)) := by show W0.heap[w.heap.size]? = _; rw [hW0]; exact heap_alloc_new _ _
  have C : Hid (Calls Tryz.prog 91 #[.string ⟨l.toArray⟩] W0 fun e w' => e = .returned (.tuple #[.float .f64 x, .int .i64 0]) ∧ Below W0.heap.size W0 w') := by show Calls _ _ _ _ _; rw [← hl]; exact fparse_back W0 x hx (henv.below HB.out)
  clear hl hx henv
  go_enter Tryz.func59, Tryz.ntmps59
  go_wp2_with (go_at_call 91; fail)
  rw [← hW0]
  clear hW0
  refine C.out.mono ?_
  rintro e w1 ⟨rfl, b⟩
  have HW : Below W0.heap.size W0 w1 := b
  clear b C
  go_wp2_with (go_at_call 36; fail)
  refine (ofx_any _ _ _).mono ?_
  rintro e w2 ⟨rfl, b⟩
  replace HW := below_step HW b
  clear b
  have hg2 := (HW.block w.heap.size SZ.out).trans Hg.out
  obtain ⟨⟨z0, z1, z2, z3, z4⟩, ⟨f0, f1, f2, f3, f4⟩, s0, s1, s2, s3, s4⟩ := box5_facts hg2
  have Hg2 : Hid (w2.heap[w.heap.size]? = _) := hg2
  clear hg2
  go_wp2
  refine bodyPost_ret (v := .tuple #[.agg #[.int .i64 6, .bool false, .slice none 0 0, .int .i64 0, .float .f64 x], .int .i64 0]) (by simp [results, Tryz.results59, go_sem, s0, s1, s2, s3, s4]) rfl ?_
  exact ⟨rfl, below_set5 (below_step HB.out HW) (Nat.le_refl _) _ _ _ _ _⟩
set_option maxHeartbeats 8000000 in
theorem read_lev20 (w : World)  : Calls Tryz.prog 59 #[.int .i64 2, .string ⟨#[48]⟩] w fun e w' => e = .returned (.tuple #[.agg #[.int .i64 2, .bool false, .slice none 0 0, .int .i64 0, .float .f64 0], .int .i64 0]) ∧ Below w.heap.size w w' := by
  have hsf := st_flo
  obtain ⟨W0, hW0⟩ : ∃ W0, W0 = w.alloc (.cells #[.int .i64 0, .bool false, .slice none 0 0, .int .i64 0, .float .f64 0] 27) := ⟨_, rfl⟩
  have HB : Hid (Below w.heap.size w W0) := by rw [hW0]; exact below1 w _
  have SZ : Hid (w.heap.size < W0.heap.size) := by show w.heap.size < W0.heap.size; rw [hW0]; simp
  have Hg : Hid (W0.heap[w.heap.size]? = some (.cells #[.int .i64 0, .bool false, .slice none 0 0, .int .i64 0, .float .f64 0] 27)) := by show W0.heap[w.heap.size]? = _; rw [hW0]; exact heap_alloc_new _ _
  have hb : ((⟨#[48]⟩ : ByteArray)[0]'(by decide)).toNat = 48 := rfl
  go_enter Tryz.func59, Tryz.ntmps59
  go_wp2_with (go_at_call 35; fail)
  rw [← hW0]
  clear hW0
  refine (oflevel_any _ _ _).mono ?_
  rintro e w1 ⟨rfl, b⟩
  have HW : Below W0.heap.size W0 w1 := b
  clear b
  have hg2 := (HW.block w.heap.size SZ.out).trans Hg.out
  obtain ⟨⟨z0, z1, z2, z3, z4⟩, ⟨f0, f1, f2, f3, f4⟩, s0, s1, s2, s3, s4⟩ := box5_facts hg2
  have Hg2 : Hid (w1.heap[w.heap.size]? = _) := hg2
  clear hg2
  go_wp2
  refine bodyPost_ret (v := .tuple #[.agg #[.int .i64 2, .bool false, .slice none 0 0, .int .i64 0, .float .f64 0], .int .i64 0]) (by simp [results, Tryz.results59, go_sem, s0, s1, s2, s3, s4]) rfl ?_
  exact ⟨rfl, below_set5 (below_step HB.out HW) (Nat.le_refl _) _ _ _ _ _⟩
set_option maxHeartbeats 8000000 in
theorem read_lev21 (w : World)  : Calls Tryz.prog 59 #[.int .i64 2, .string ⟨#[49]⟩] w fun e w' => e = .returned (.tuple #[.agg #[.int .i64 2, .bool false, .slice none 0 0, .int .i64 1, .float .f64 0], .int .i64 0]) ∧ Below w.heap.size w w' := by
  have hsf := st_flo
  obtain ⟨W0, hW0⟩ : ∃ W0, W0 = w.alloc (.cells #[.int .i64 0, .bool false, .slice none 0 0, .int .i64 0, .float .f64 0] 27) := ⟨_, rfl⟩
  have HB : Hid (Below w.heap.size w W0) := by rw [hW0]; exact below1 w _
  have SZ : Hid (w.heap.size < W0.heap.size) := by show w.heap.size < W0.heap.size; rw [hW0]; simp
  have Hg : Hid (W0.heap[w.heap.size]? = some (.cells #[.int .i64 0, .bool false, .slice none 0 0, .int .i64 0, .float .f64 0] 27)) := by show W0.heap[w.heap.size]? = _; rw [hW0]; exact heap_alloc_new _ _
  have hb : ((⟨#[49]⟩ : ByteArray)[0]'(by decide)).toNat = 49 := rfl
  go_enter Tryz.func59, Tryz.ntmps59
  go_wp2_with (go_at_call 35; fail)
  rw [← hW0]
  clear hW0
  refine (oflevel_any _ _ _).mono ?_
  rintro e w1 ⟨rfl, b⟩
  have HW : Below W0.heap.size W0 w1 := b
  clear b
  have hg2 := (HW.block w.heap.size SZ.out).trans Hg.out
  obtain ⟨⟨z0, z1, z2, z3, z4⟩, ⟨f0, f1, f2, f3, f4⟩, s0, s1, s2, s3, s4⟩ := box5_facts hg2
  have Hg2 : Hid (w1.heap[w.heap.size]? = _) := hg2
  clear hg2
  go_wp2
  refine bodyPost_ret (v := .tuple #[.agg #[.int .i64 2, .bool false, .slice none 0 0, .int .i64 1, .float .f64 0], .int .i64 0]) (by simp [results, Tryz.results59, go_sem, s0, s1, s2, s3, s4]) rfl ?_
  exact ⟨rfl, below_set5 (below_step HB.out HW) (Nat.le_refl _) _ _ _ _ _⟩
set_option maxHeartbeats 8000000 in
theorem read_lev40 (w : World)  : Calls Tryz.prog 59 #[.int .i64 4, .string ⟨#[48]⟩] w fun e w' => e = .returned (.tuple #[.agg #[.int .i64 4, .bool false, .slice none 0 0, .int .i64 0, .float .f64 0], .int .i64 0]) ∧ Below w.heap.size w w' := by
  have hsf := st_flo
  obtain ⟨W0, hW0⟩ : ∃ W0, W0 = w.alloc (.cells #[.int .i64 0, .bool false, .slice none 0 0, .int .i64 0, .float .f64 0] 27) := ⟨_, rfl⟩
  have HB : Hid (Below w.heap.size w W0) := by rw [hW0]; exact below1 w _
  have SZ : Hid (w.heap.size < W0.heap.size) := by show w.heap.size < W0.heap.size; rw [hW0]; simp
  have Hg : Hid (W0.heap[w.heap.size]? = some (.cells #[.int .i64 0, .bool false, .slice none 0 0, .int .i64 0, .float .f64 0] 27)) := by show W0.heap[w.heap.size]? = _; rw [hW0]; exact heap_alloc_new _ _
  have hb : ((⟨#[48]⟩ : ByteArray)[0]'(by decide)).toNat = 48 := rfl
  go_enter Tryz.func59, Tryz.ntmps59
  go_wp2_with (go_at_call 35; fail)
  rw [← hW0]
  clear hW0
  refine (oflevel_any _ _ _).mono ?_
  rintro e w1 ⟨rfl, b⟩
  have HW : Below W0.heap.size W0 w1 := b
  clear b
  have hg2 := (HW.block w.heap.size SZ.out).trans Hg.out
  obtain ⟨⟨z0, z1, z2, z3, z4⟩, ⟨f0, f1, f2, f3, f4⟩, s0, s1, s2, s3, s4⟩ := box5_facts hg2
  have Hg2 : Hid (w1.heap[w.heap.size]? = _) := hg2
  clear hg2
  go_wp2
  refine bodyPost_ret (v := .tuple #[.agg #[.int .i64 4, .bool false, .slice none 0 0, .int .i64 0, .float .f64 0], .int .i64 0]) (by simp [results, Tryz.results59, go_sem, s0, s1, s2, s3, s4]) rfl ?_
  exact ⟨rfl, below_set5 (below_step HB.out HW) (Nat.le_refl _) _ _ _ _ _⟩
set_option maxHeartbeats 8000000 in
theorem read_lev41 (w : World)  : Calls Tryz.prog 59 #[.int .i64 4, .string ⟨#[49]⟩] w fun e w' => e = .returned (.tuple #[.agg #[.int .i64 4, .bool false, .slice none 0 0, .int .i64 1, .float .f64 0], .int .i64 0]) ∧ Below w.heap.size w w' := by
  have hsf := st_flo
  obtain ⟨W0, hW0⟩ : ∃ W0, W0 = w.alloc (.cells #[.int .i64 0, .bool false, .slice none 0 0, .int .i64 0, .float .f64 0] 27) := ⟨_, rfl⟩
  have HB : Hid (Below w.heap.size w W0) := by rw [hW0]; exact below1 w _
  have SZ : Hid (w.heap.size < W0.heap.size) := by show w.heap.size < W0.heap.size; rw [hW0]; simp
  have Hg : Hid (W0.heap[w.heap.size]? = some (.cells #[.int .i64 0, .bool false, .slice none 0 0, .int .i64 0, .float .f64 0] 27)) := by show W0.heap[w.heap.size]? = _; rw [hW0]; exact heap_alloc_new _ _
  have hb : ((⟨#[49]⟩ : ByteArray)[0]'(by decide)).toNat = 49 := rfl
  go_enter Tryz.func59, Tryz.ntmps59
  go_wp2_with (go_at_call 35; fail)
  rw [← hW0]
  clear hW0
  refine (oflevel_any _ _ _).mono ?_
  rintro e w1 ⟨rfl, b⟩
  have HW : Below W0.heap.size W0 w1 := b
  clear b
  have hg2 := (HW.block w.heap.size SZ.out).trans Hg.out
  obtain ⟨⟨z0, z1, z2, z3, z4⟩, ⟨f0, f1, f2, f3, f4⟩, s0, s1, s2, s3, s4⟩ := box5_facts hg2
  have Hg2 : Hid (w1.heap[w.heap.size]? = _) := hg2
  clear hg2
  go_wp2
  refine bodyPost_ret (v := .tuple #[.agg #[.int .i64 4, .bool false, .slice none 0 0, .int .i64 1, .float .f64 0], .int .i64 0]) (by simp [results, Tryz.results59, go_sem, s0, s1, s2, s3, s4]) rfl ?_
  exact ⟨rfl, below_set5 (below_step HB.out HW) (Nat.le_refl _) _ _ _ _ _⟩
set_option maxHeartbeats 8000000 in
theorem read_lev42 (w : World)  : Calls Tryz.prog 59 #[.int .i64 4, .string ⟨#[50]⟩] w fun e w' => e = .returned (.tuple #[.agg #[.int .i64 4, .bool false, .slice none 0 0, .int .i64 2, .float .f64 0], .int .i64 0]) ∧ Below w.heap.size w w' := by
  have hsf := st_flo
  obtain ⟨W0, hW0⟩ : ∃ W0, W0 = w.alloc (.cells #[.int .i64 0, .bool false, .slice none 0 0, .int .i64 0, .float .f64 0] 27) := ⟨_, rfl⟩
  have HB : Hid (Below w.heap.size w W0) := by rw [hW0]; exact below1 w _
  have SZ : Hid (w.heap.size < W0.heap.size) := by show w.heap.size < W0.heap.size; rw [hW0]; simp
  have Hg : Hid (W0.heap[w.heap.size]? = some (.cells #[.int .i64 0, .bool false, .slice none 0 0, .int .i64 0, .float .f64 0] 27)) := by show W0.heap[w.heap.size]? = _; rw [hW0]; exact heap_alloc_new _ _
  have hb : ((⟨#[50]⟩ : ByteArray)[0]'(by decide)).toNat = 50 := rfl
  go_enter Tryz.func59, Tryz.ntmps59
  go_wp2_with (go_at_call 35; fail)
  rw [← hW0]
  clear hW0
  refine (oflevel_any _ _ _).mono ?_
  rintro e w1 ⟨rfl, b⟩
  have HW : Below W0.heap.size W0 w1 := b
  clear b
  have hg2 := (HW.block w.heap.size SZ.out).trans Hg.out
  obtain ⟨⟨z0, z1, z2, z3, z4⟩, ⟨f0, f1, f2, f3, f4⟩, s0, s1, s2, s3, s4⟩ := box5_facts hg2
  have Hg2 : Hid (w1.heap[w.heap.size]? = _) := hg2
  clear hg2
  go_wp2
  refine bodyPost_ret (v := .tuple #[.agg #[.int .i64 4, .bool false, .slice none 0 0, .int .i64 2, .float .f64 0], .int .i64 0]) (by simp [results, Tryz.results59, go_sem, s0, s1, s2, s3, s4]) rfl ?_
  exact ⟨rfl, below_set5 (below_step HB.out HW) (Nat.le_refl _) _ _ _ _ _⟩
set_option maxHeartbeats 8000000 in
theorem read_lev43 (w : World)  : Calls Tryz.prog 59 #[.int .i64 4, .string ⟨#[51]⟩] w fun e w' => e = .returned (.tuple #[.agg #[.int .i64 4, .bool false, .slice none 0 0, .int .i64 3, .float .f64 0], .int .i64 0]) ∧ Below w.heap.size w w' := by
  have hsf := st_flo
  obtain ⟨W0, hW0⟩ : ∃ W0, W0 = w.alloc (.cells #[.int .i64 0, .bool false, .slice none 0 0, .int .i64 0, .float .f64 0] 27) := ⟨_, rfl⟩
  have HB : Hid (Below w.heap.size w W0) := by rw [hW0]; exact below1 w _
  have SZ : Hid (w.heap.size < W0.heap.size) := by show w.heap.size < W0.heap.size; rw [hW0]; simp
  have Hg : Hid (W0.heap[w.heap.size]? = some (.cells #[.int .i64 0, .bool false, .slice none 0 0, .int .i64 0, .float .f64 0] 27)) := by show W0.heap[w.heap.size]? = _; rw [hW0]; exact heap_alloc_new _ _
  have hb : ((⟨#[51]⟩ : ByteArray)[0]'(by decide)).toNat = 51 := rfl
  go_enter Tryz.func59, Tryz.ntmps59
  go_wp2_with (go_at_call 35; fail)
  rw [← hW0]
  clear hW0
  refine (oflevel_any _ _ _).mono ?_
  rintro e w1 ⟨rfl, b⟩
  have HW : Below W0.heap.size W0 w1 := b
  clear b
  have hg2 := (HW.block w.heap.size SZ.out).trans Hg.out
  obtain ⟨⟨z0, z1, z2, z3, z4⟩, ⟨f0, f1, f2, f3, f4⟩, s0, s1, s2, s3, s4⟩ := box5_facts hg2
  have Hg2 : Hid (w1.heap[w.heap.size]? = _) := hg2
  clear hg2
  go_wp2
  refine bodyPost_ret (v := .tuple #[.agg #[.int .i64 4, .bool false, .slice none 0 0, .int .i64 3, .float .f64 0], .int .i64 0]) (by simp [results, Tryz.results59, go_sem, s0, s1, s2, s3, s4]) rfl ?_
  exact ⟨rfl, below_set5 (below_step HB.out HW) (Nat.le_refl _) _ _ _ _ _⟩
set_option maxHeartbeats 8000000 in
theorem read_lev44 (w : World)  : Calls Tryz.prog 59 #[.int .i64 4, .string ⟨#[52]⟩] w fun e w' => e = .returned (.tuple #[.agg #[.int .i64 4, .bool false, .slice none 0 0, .int .i64 4, .float .f64 0], .int .i64 0]) ∧ Below w.heap.size w w' := by
  have hsf := st_flo
  obtain ⟨W0, hW0⟩ : ∃ W0, W0 = w.alloc (.cells #[.int .i64 0, .bool false, .slice none 0 0, .int .i64 0, .float .f64 0] 27) := ⟨_, rfl⟩
  have HB : Hid (Below w.heap.size w W0) := by rw [hW0]; exact below1 w _
  have SZ : Hid (w.heap.size < W0.heap.size) := by show w.heap.size < W0.heap.size; rw [hW0]; simp
  have Hg : Hid (W0.heap[w.heap.size]? = some (.cells #[.int .i64 0, .bool false, .slice none 0 0, .int .i64 0, .float .f64 0] 27)) := by show W0.heap[w.heap.size]? = _; rw [hW0]; exact heap_alloc_new _ _
  have hb : ((⟨#[52]⟩ : ByteArray)[0]'(by decide)).toNat = 52 := rfl
  go_enter Tryz.func59, Tryz.ntmps59
  go_wp2_with (go_at_call 35; fail)
  rw [← hW0]
  clear hW0
  refine (oflevel_any _ _ _).mono ?_
  rintro e w1 ⟨rfl, b⟩
  have HW : Below W0.heap.size W0 w1 := b
  clear b
  have hg2 := (HW.block w.heap.size SZ.out).trans Hg.out
  obtain ⟨⟨z0, z1, z2, z3, z4⟩, ⟨f0, f1, f2, f3, f4⟩, s0, s1, s2, s3, s4⟩ := box5_facts hg2
  have Hg2 : Hid (w1.heap[w.heap.size]? = _) := hg2
  clear hg2
  go_wp2
  refine bodyPost_ret (v := .tuple #[.agg #[.int .i64 4, .bool false, .slice none 0 0, .int .i64 4, .float .f64 0], .int .i64 0]) (by simp [results, Tryz.results59, go_sem, s0, s1, s2, s3, s4]) rfl ?_
  exact ⟨rfl, below_set5 (below_step HB.out HW) (Nat.le_refl _) _ _ _ _ _⟩
set_option maxHeartbeats 8000000 in
theorem read_lev45 (w : World)  : Calls Tryz.prog 59 #[.int .i64 4, .string ⟨#[53]⟩] w fun e w' => e = .returned (.tuple #[.agg #[.int .i64 4, .bool false, .slice none 0 0, .int .i64 5, .float .f64 0], .int .i64 0]) ∧ Below w.heap.size w w' := by
  have hsf := st_flo
  obtain ⟨W0, hW0⟩ : ∃ W0, W0 = w.alloc (.cells #[.int .i64 0, .bool false, .slice none 0 0, .int .i64 0, .float .f64 0] 27) := ⟨_, rfl⟩
  have HB : Hid (Below w.heap.size w W0) := by rw [hW0]; exact below1 w _
  have SZ : Hid (w.heap.size < W0.heap.size) := by show w.heap.size < W0.heap.size; rw [hW0]; simp
  have Hg : Hid (W0.heap[w.heap.size]? = some (.cells #[.int .i64 0, .bool false, .slice none 0 0, .int .i64 0, .float .f64 0] 27)) := by show W0.heap[w.heap.size]? = _; rw [hW0]; exact heap_alloc_new _ _
  have hb : ((⟨#[53]⟩ : ByteArray)[0]'(by decide)).toNat = 53 := rfl
  go_enter Tryz.func59, Tryz.ntmps59
  go_wp2_with (go_at_call 35; fail)
  rw [← hW0]
  clear hW0
  refine (oflevel_any _ _ _).mono ?_
  rintro e w1 ⟨rfl, b⟩
  have HW : Below W0.heap.size W0 w1 := b
  clear b
  have hg2 := (HW.block w.heap.size SZ.out).trans Hg.out
  obtain ⟨⟨z0, z1, z2, z3, z4⟩, ⟨f0, f1, f2, f3, f4⟩, s0, s1, s2, s3, s4⟩ := box5_facts hg2
  have Hg2 : Hid (w1.heap[w.heap.size]? = _) := hg2
  clear hg2
  go_wp2
  refine bodyPost_ret (v := .tuple #[.agg #[.int .i64 4, .bool false, .slice none 0 0, .int .i64 5, .float .f64 0], .int .i64 0]) (by simp [results, Tryz.results59, go_sem, s0, s1, s2, s3, s4]) rfl ?_
  exact ⟨rfl, below_set5 (below_step HB.out HW) (Nat.le_refl _) _ _ _ _ _⟩
set_option maxHeartbeats 8000000 in
theorem read_lev46 (w : World)  : Calls Tryz.prog 59 #[.int .i64 4, .string ⟨#[54]⟩] w fun e w' => e = .returned (.tuple #[.agg #[.int .i64 4, .bool false, .slice none 0 0, .int .i64 6, .float .f64 0], .int .i64 0]) ∧ Below w.heap.size w w' := by
  have hsf := st_flo
  obtain ⟨W0, hW0⟩ : ∃ W0, W0 = w.alloc (.cells #[.int .i64 0, .bool false, .slice none 0 0, .int .i64 0, .float .f64 0] 27) := ⟨_, rfl⟩
  have HB : Hid (Below w.heap.size w W0) := by rw [hW0]; exact below1 w _
  have SZ : Hid (w.heap.size < W0.heap.size) := by show w.heap.size < W0.heap.size; rw [hW0]; simp
  have Hg : Hid (W0.heap[w.heap.size]? = some (.cells #[.int .i64 0, .bool false, .slice none 0 0, .int .i64 0, .float .f64 0] 27)) := by show W0.heap[w.heap.size]? = _; rw [hW0]; exact heap_alloc_new _ _
  have hb : ((⟨#[54]⟩ : ByteArray)[0]'(by decide)).toNat = 54 := rfl
  go_enter Tryz.func59, Tryz.ntmps59
  go_wp2_with (go_at_call 35; fail)
  rw [← hW0]
  clear hW0
  refine (oflevel_any _ _ _).mono ?_
  rintro e w1 ⟨rfl, b⟩
  have HW : Below W0.heap.size W0 w1 := b
  clear b
  have hg2 := (HW.block w.heap.size SZ.out).trans Hg.out
  obtain ⟨⟨z0, z1, z2, z3, z4⟩, ⟨f0, f1, f2, f3, f4⟩, s0, s1, s2, s3, s4⟩ := box5_facts hg2
  have Hg2 : Hid (w1.heap[w.heap.size]? = _) := hg2
  clear hg2
  go_wp2
  refine bodyPost_ret (v := .tuple #[.agg #[.int .i64 4, .bool false, .slice none 0 0, .int .i64 6, .float .f64 0], .int .i64 0]) (by simp [results, Tryz.results59, go_sem, s0, s1, s2, s3, s4]) rfl ?_
  exact ⟨rfl, below_set5 (below_step HB.out HW) (Nat.le_refl _) _ _ _ _ _⟩
set_option maxHeartbeats 8000000 in
theorem read_lev47 (w : World)  : Calls Tryz.prog 59 #[.int .i64 4, .string ⟨#[55]⟩] w fun e w' => e = .returned (.tuple #[.agg #[.int .i64 4, .bool false, .slice none 0 0, .int .i64 7, .float .f64 0], .int .i64 0]) ∧ Below w.heap.size w w' := by
  have hsf := st_flo
  obtain ⟨W0, hW0⟩ : ∃ W0, W0 = w.alloc (.cells #[.int .i64 0, .bool false, .slice none 0 0, .int .i64 0, .float .f64 0] 27) := ⟨_, rfl⟩
  have HB : Hid (Below w.heap.size w W0) := by rw [hW0]; exact below1 w _
  have SZ : Hid (w.heap.size < W0.heap.size) := by show w.heap.size < W0.heap.size; rw [hW0]; simp
  have Hg : Hid (W0.heap[w.heap.size]? = some (.cells #[.int .i64 0, .bool false, .slice none 0 0, .int .i64 0, .float .f64 0] 27)) := by show W0.heap[w.heap.size]? = _; rw [hW0]; exact heap_alloc_new _ _
  have hb : ((⟨#[55]⟩ : ByteArray)[0]'(by decide)).toNat = 55 := rfl
  go_enter Tryz.func59, Tryz.ntmps59
  go_wp2_with (go_at_call 35; fail)
  rw [← hW0]
  clear hW0
  refine (oflevel_any _ _ _).mono ?_
  rintro e w1 ⟨rfl, b⟩
  have HW : Below W0.heap.size W0 w1 := b
  clear b
  have hg2 := (HW.block w.heap.size SZ.out).trans Hg.out
  obtain ⟨⟨z0, z1, z2, z3, z4⟩, ⟨f0, f1, f2, f3, f4⟩, s0, s1, s2, s3, s4⟩ := box5_facts hg2
  have Hg2 : Hid (w1.heap[w.heap.size]? = _) := hg2
  clear hg2
  go_wp2
  refine bodyPost_ret (v := .tuple #[.agg #[.int .i64 4, .bool false, .slice none 0 0, .int .i64 7, .float .f64 0], .int .i64 0]) (by simp [results, Tryz.results59, go_sem, s0, s1, s2, s3, s4]) rfl ?_
  exact ⟨rfl, below_set5 (below_step HB.out HW) (Nat.le_refl _) _ _ _ _ _⟩
theorem read_back (w : World) (s : Int) (P : Option Nat) (l : List UInt8) (h : okP s P) (hs : (s = 1 ∨ s = 3) → Short 60 P) (henv : Fl.Env w) (hl : vtx s P = l) :
    Calls Tryz.prog 59 #[.int .i64 s, .string ⟨l.toArray⟩] w fun e w' => (∃ u, e = .returned (.tuple #[u, .int .i64 0]) ∧ VOut w' u s P) ∧ Below w.heap.size w w' := by
  unfold vtx at hl
  rcases h with h | ⟨h, k, rfl, hk⟩ | ⟨h, x, rfl, hx⟩
  · rw [if_pos h] at hl
    have := short_text (hs h)
    rcases h with rfl | rfl
    · exact read_nat1 w l P hl this
    · exact read_nat3 w l P hl this
  · rw [if_neg (by omega), if_neg (by omega)] at hl
    have hout : ∀ w' : World, VOut w' (.agg #[.int .i64 s, .bool false, .slice none 0 0, .int .i64 (k : Int), .float .f64 0]) s (some k) := fun w' => Or.inr (Or.inl ⟨h, k, rfl, hk, rfl⟩)
    have k7 : k ≤ 7 := by unfold topL at hk; split at hk <;> omega
    rw [show ((some k : Option Nat).getD 0) = k from rfl, itoa_low k k7] at hl
    subst hl
    rcases h with rfl | rfl
    · match k, hk with
      | 0, _ => exact (read_lev20 w).mono fun e w' ⟨he, b⟩ => ⟨⟨_, he, hout w'⟩, b⟩
      | 1, _ => exact (read_lev21 w).mono fun e w' ⟨he, b⟩ => ⟨⟨_, he, hout w'⟩, b⟩
      | j + 2, hk => exact absurd hk (by show ¬ j + 2 ≤ 1; omega)
    · match k, hk with
      | 0, _ => exact (read_lev40 w).mono fun e w' ⟨he, b⟩ => ⟨⟨_, he, hout w'⟩, b⟩
      | 1, _ => exact (read_lev41 w).mono fun e w' ⟨he, b⟩ => ⟨⟨_, he, hout w'⟩, b⟩
      | 2, _ => exact (read_lev42 w).mono fun e w' ⟨he, b⟩ => ⟨⟨_, he, hout w'⟩, b⟩
      | 3, _ => exact (read_lev43 w).mono fun e w' ⟨he, b⟩ => ⟨⟨_, he, hout w'⟩, b⟩
      | 4, _ => exact (read_lev44 w).mono fun e w' ⟨he, b⟩ => ⟨⟨_, he, hout w'⟩, b⟩
      | 5, _ => exact (read_lev45 w).mono fun e w' ⟨he, b⟩ => ⟨⟨_, he, hout w'⟩, b⟩
      | 6, _ => exact (read_lev46 w).mono fun e w' ⟨he, b⟩ => ⟨⟨_, he, hout w'⟩, b⟩
      | 7, _ => exact (read_lev47 w).mono fun e w' ⟨he, b⟩ => ⟨⟨_, he, hout w'⟩, b⟩
      | j + 8, hk => exact absurd hk (by show ¬ j + 8 ≤ 7; omega)
  · rw [if_neg (by omega), if_pos h] at hl
    have hout : ∀ w' : World, VOut w' (.agg #[.int .i64 s, .bool false, .slice none 0 0, .int .i64 0, .float .f64 x]) s (some x) := fun w' => Or.inr (Or.inr ⟨h, x, rfl, hx, rfl⟩)
    have x7 : x ≤ 9218868437227405312 := by unfold topX at hx; split at hx <;> omega
    rcases h with rfl | rfl
    · exact (read_flo5 w l x hl x7 henv).mono fun e w' ⟨he, b⟩ => ⟨⟨_, he, hout w'⟩, b⟩
    · exact (read_flo6 w l x hl x7 henv).mono fun e w' ⟨he, b⟩ => ⟨⟨_, he, hout w'⟩, b⟩
set_option maxHeartbeats 8000000 in
theorem vparse_back (w : World) (s : Int) (P : Option Nat) (l : List UInt8) (hss : isSem s) (h : okP s P) (hs : (s = 1 ∨ s = 3) → Short 60 P) (henv : Fl.Env w) (hl : vtx s P = l) : Calls Tryz.prog 31 #[.int .i64 s, .string ⟨l.toArray⟩] w fun e w' => (∃ u, e = .returned (.tuple #[u, .int .i64 0]) ∧ VOut w' u s P) ∧ Below w.heap.size w w' := by
  have hsf := st_flo
  obtain ⟨W0, hW0⟩ : ∃ W0, W0 = w.alloc (.cells #[.int .i64 0, .bool false, .slice none 0 0, .int .i64 0, .float .f64 0] 27) := ⟨_, rfl⟩
  have HB : Hid (Below w.heap.size w W0) := by rw [hW0]; exact below1 w _
  have SZ : Hid (w.heap.size < W0.heap.size) := by show w.heap.size < W0.heap.size; rw [hW0]; simp
  have Hg : Hid (W0.heap[w.heap.size]? = some (.cells #[.int .i64 0, .bool false, .slice none 0 0, .int .i64 0, .float .f64 0] 27)) := by show W0.heap[w.heap.size]? = _; rw [hW0]; exact heap_alloc_new _ _
  have hlen : ¬ (700 : Int) < (l.length : Int) := by have := vtx_len h hs; rw [hl] at this; omega
  have HSS : Hid (isSem s) := hss
  have HO : Hid (okP s P) := h
  have HS : Hid ((s = 1 ∨ s = 3) → Short 60 P) := hs
  have HEnv : Hid (Fl.Env w) := henv
  have HL : Hid (vtx s P = l) := hl
  clear hss h hs henv hl
  go_enter Tryz.func31, Tryz.ntmps31
  go_wp2_with (go_at_call 8; fail)
  rw [← hW0]
  clear hW0
  refine (vzero_any s _ HSS.out).mono ?_
  rintro e w1 ⟨⟨u, rfl, o⟩, b⟩
  obtain ⟨s0, i0, a0, n0, c0, l0, x0, rfl⟩ := o.form
  have HW : Below W0.heap.size W0 w1 := b
  clear o b
  go_wp2_with (go_at_call 59; fail)
  refine (read_back _ s P l HO.out HS.out (by exact HEnv.out.below (below_step HB.out (HW.alloc HW.size _))) HL.out).mono ?_
  rintro e w2 ⟨⟨u, rfl, o⟩, b⟩
  obtain ⟨s3, i3, a3, n3, c3, l3, x3, rfl⟩ := o.form
  have O : Hid (VOut w2 (.agg #[.int .i64 s3, .bool i3, .slice a3 n3 c3, .int .i64 l3, .float .f64 x3]) s P) := o
  replace HW := below_step (HW.alloc HW.size _) b
  clear o b
  obtain ⟨V, hv, mv, -, -⟩ := O.out.ok (fun h => (HS.out h).le (by decide))
  have HV : Hid (VIn _ _ V) := hv
  have MV : Hid (mayV V = 0) := mv
  clear hv mv
  go_wp2_with (go_at_call 21; fail)
  obtain ⟨W3, hW3⟩ : ∃ W3, W3 = w2.alloc (.cells #[.int .i64 s3, .bool i3, .slice a3 n3 c3, .int .i64 l3, .float .f64 x3] 27) := ⟨_, rfl⟩
  rw [← hW3]
  have hg3 : W3.heap[w2.heap.size]? = some (.cells #[.int .i64 s3, .bool i3, .slice a3 n3 c3, .int .i64 l3, .float .f64 x3] 27) := by rw [hW3]; exact heap_alloc_new _ _
  have b3 : Below w2.heap.size w2 W3 := by rw [hW3]; exact below1 _ _
  have O3 : Hid (VOut W3 _ s P) := O.out.below b3
  replace HV : Hid (VIn W3 _ V) := HV.out.below b3
  replace HW := below_step HW b3
  clear hW3 b3 O
  refine (vmay_at _ _ V 0 (by exact HV.out) MV.out).mono ?_
  rintro e w4 ⟨rfl, b⟩
  obtain ⟨p0, p1, p2, p3, p4⟩ := box5 hg3 b
  have O4 : Hid (VOut w4 _ s P) := O3.out.below b
  replace HW := below_step HW b
  clear hg3 b O3
  have hg2 := (HW.block w.heap.size SZ.out).trans Hg.out
  obtain ⟨⟨z0, z1, z2, z3, z4⟩, ⟨f0, f1, f2, f3, f4⟩, q0, q1, q2, q3, q4⟩ := box5_facts hg2
  have Hg2 : Hid (w4.heap[w.heap.size]? = _) := hg2
  clear hg2
  go_wp2
  refine bodyPost_ret (v := .tuple #[.agg #[.int .i64 s3, .bool i3, .slice a3 n3 c3, .int .i64 l3, .float .f64 x3], .int .i64 0]) (by simp [results, Tryz.results31, go_sem, q0, q1, q2, q3, q4]) rfl ?_
  exact ⟨⟨_, rfl, O4.out.set5 Hg2.out _ _ _ _ _⟩, below_set5 (below_step HB.out HW) (Nat.le_refl _) _ _ _ _ _⟩
end Go.Proofs.YtjdbapkmaggllaaGreatDoor
