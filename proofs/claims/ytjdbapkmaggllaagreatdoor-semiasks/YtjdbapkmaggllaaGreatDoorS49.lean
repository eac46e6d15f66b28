/- Two answers of one worth are alike, field by field. -/
import Derived.Test.YtjdbapkmaggllaaGreatDoorS44
namespace Go.Proofs.YtjdbapkmaggllaaGreatDoor
open Go.RowKit Fo
set_option maxRecDepth 100000

set_option maxHeartbeats 8000000 in
theorem fields_eq (s : Int) (i : Bool) (a1 a2 : Option Addr) (n c1 c2 : Nat) (l : Int) (x : Nat) (hx : x < 18446744073709551616) (L : Nat → Nat) (w : World) (h1 : Rd w a1 n c1 (u32s L)) (h2 : Rd w a2 n c2 (u32s L)) (hn : n ≤ 1000000) :
    Calls Tryz.prog 20 #[.agg #[.int .i64 s, .bool i, .slice a1 n c1, .int .i64 l, .float .f64 x], .agg #[.int .i64 s, .bool i, .slice a2 n c2, .int .i64 l, .float .f64 x]] w fun e w' => e = .returned (.bool true) ∧ Below w.heap.size w w' := by
  have hsm := Fl.rsame_any x x hx hx
  simp only [decide_true] at hsm
  have hii : (i != i) = false := by cases i <;> rfl
  have hss : (s != s) = false := by simp
  have hll : (l != l) = false := by simp
  go_enter Tryz.func20, Tryz.ntmps20
  go_wp2_with (go_at_call 48; refine (hsm _).mono ?_; rintro e w' ⟨rfl, hw⟩; replace hw := hw.symm; subst hw)
  obtain ⟨W5, hW5⟩ : ∃ W5, W5 = ((w.alloc (.cells #[.int .i64 s, .bool i, .slice a1 n c1, .int .i64 l, .float .f64 x] 27)).alloc (.cells #[.int .i64 s, .bool i, .slice a2 n c2, .int .i64 l, .float .f64 x] 27)) := ⟨_, rfl⟩
  rw [← hW5]
  have HB : Hid (Below w.heap.size w W5) := by rw [hW5]; exact below2 w _ _
  have Hg1 : Hid (W5.heap[w.heap.size]? = some (.cells #[.int .i64 s, .bool i, .slice a1 n c1, .int .i64 l, .float .f64 x] 27)) := by show W5.heap[_]? = _; rw [hW5]; exact heap_1st w _ _
  have Hg2 : Hid (W5.heap[w.heap.size + 1]? = some (.cells #[.int .i64 s, .bool i, .slice a2 n c2, .int .i64 l, .float .f64 x] 27)) := by show W5.heap[_]? = _; rw [hW5]; exact heap_2nd w _ _
  have H1 : Hid (Rd W5 a1 n c1 (u32s L)) := by show Rd W5 _ _ _ _; rw [hW5]; exact h1.below (below2 w _ _)
  have H2 : Hid (Rd W5 a2 n c2 (u32s L)) := by show Rd W5 _ _ _ _; rw [hW5]; exact h2.below (below2 w _ _)
  clear hW5 h1 h2 hsm
  go_loopw [5] (fun v wr => ∃ k : Nat, k ≤ n ∧ v = .int .i64 k ∧ Hid (Below W5.heap.size W5 wr)) (fun v _ => n - (intOf v).toNat)
  case atStart => exact ⟨0, Nat.zero_le _, rfl, below_refl _⟩
  case round =>
    obtain ⟨k, hk, rfl, HW⟩ := hrel
    rename World => wr
    have p2 : wr.cell? ⟨w.heap.size, 2, none⟩ = some (.slice a1 n c1) := block_cell Hg1.out HW.out
    have q2 : wr.cell? ⟨w.heap.size + 1, 2, none⟩ = some (.slice a2 n c2) := block_cell Hg2.out HW.out
    by_cases hlt : k < n
    · obtain ⟨ga, oa, rfl, hca⟩ := (H1.out.below HW.out).at (by omega)
      obtain ⟨gb, ob, rfl, hcb⟩ := (H2.out.below HW.out).at (by omega)
      have hck := hca k hlt
      have hdk := hcb k hlt
      unfold u32s at hck hdk
      have j1 : (0 : Int) ≤ (k : Int) := by omega
      have j2 : (k : Int) < (n : Int) := by omega
      have hnn : (((L k : Nat) : Int) != ((L k : Nat) : Int)) = false := by simp
      clear hca hcb H1 H2 Hg1 Hg2
      go_wp2
      go_quiet (fail)
      go_wp2
      go_roundw
      case rel => exact ⟨k + 1, by omega, by go_num, below_drewN HW.out _⟩
      case measure => simp [intOf]; omega
    · obtain rfl : k = n := by omega
      clear H1 H2 Hg1 Hg2
      go_wp2
      go_ret
      exact ⟨rfl, below_step HB.out HW.out⟩
/-- Two answers of one worth are alike. -/
theorem fields_out (w : World) (v1 v2 : Value) (s : Int) (P : Option Nat) (h1 : VOut w v1 s P) (h2 : VOut w v2 s P) (hP : (s = 1 ∨ s = 3) → Short 1000000 P) : Calls Tryz.prog 20 #[v1, v2] w fun e w' => e = .returned (.bool true) ∧ Below w.heap.size w w' := by
  rcases h1 with ⟨hs, i1, a1, n1, c1, rfl, h1⟩ | ⟨hs, l1, e1, hl1, rfl⟩ | ⟨hs, x1, e1, hx1, rfl⟩
  · rcases h2 with ⟨-, i2, a2, n2, c2, rfl, h2⟩ | ⟨hs2, -⟩ | ⟨hs2, -⟩
    · rcases h1 with ⟨rfl, a1', c1', e1, hc1⟩ | ⟨N, a1', c1', rfl, e1, r1⟩
      · rcases h2 with ⟨-, a2', c2', e2, hc2⟩ | ⟨N, a2', c2', h, -⟩
        · simp at e1 e2
          obtain ⟨rfl, rfl, rfl, rfl⟩ := e1
          obtain ⟨rfl, rfl, rfl, rfl⟩ := e2
          exact fields_eq s true a1 a2 0 c1 c2 0 0 (by decide) (fun _ => 0) w (Rd.empty _ _ _ hc1 _) (Rd.empty _ _ _ hc2 _) (by decide)
        · cases h
      · rcases h2 with ⟨h, -⟩ | ⟨M, a2', c2', h, e2, r2⟩
        · cases h
        · obtain rfl := Option.some.inj h
          simp at e1 e2
          obtain ⟨rfl, rfl, rfl, rfl⟩ := e1
          obtain ⟨rfl, rfl, rfl, rfl⟩ := e2
          exact fields_eq s false a1 a2 _ c1 c2 0 0 (by decide) _ w r1 r2 (hP hs N rfl)
    · omega
    · omega
  · rcases h2 with ⟨hs2, -⟩ | ⟨-, l2, e2, -, rfl⟩ | ⟨hs2, -⟩
    · omega
    · obtain rfl : l1 = l2 := Option.some.inj (e1.symm.trans e2)
      exact fields_eq s false none none 0 0 0 l1 0 (by decide) (fun _ => 0) w (Rd.empty _ _ _ (by decide) _) (Rd.empty _ _ _ (by decide) _) (by decide)
    · omega
  · rcases h2 with ⟨hs2, -⟩ | ⟨hs2, -⟩ | ⟨-, x2, e2, -, rfl⟩
    · omega
    · omega
    · obtain rfl : x1 = x2 := Option.some.inj (e1.symm.trans e2)
      exact fields_eq s false none none 0 0 0 0 x1 (by unfold topX at hx1; split at hx1 <;> omega) (fun _ => 0) w (Rd.empty _ _ _ (by decide) _) (Rd.empty _ _ _ (by decide) _) (by decide)
theorem fields_at (w : World) (v1 v2 : Value) (r s : Int) (P : Option Nat) (h1 : VR w v1 r s P) (h2 : VR w v2 r s P) (hP : r = 0 → (s = 1 ∨ s = 3) → Short 1000000 P) : Calls Tryz.prog 20 #[v1, v2] w fun e w' => e = .returned (.bool true) ∧ Below w.heap.size w w' := by
  rcases h1 with ⟨h0, h1⟩ | ⟨h0, rfl⟩
  · rcases h2 with ⟨-, h2⟩ | ⟨h, -⟩
    · exact fields_out w v1 v2 s P h1 h2 (hP h0)
    · exact absurd h0 h
  · rcases h2 with ⟨h, -⟩ | ⟨-, rfl⟩
    · exact absurd h h0
    · exact fields_eq 0 false none none 0 0 0 0 0 (by decide) (fun _ => 0) w (Rd.empty _ _ _ (by decide) _) (Rd.empty _ _ _ (by decide) _) (by decide)
end Go.Proofs.YtjdbapkmaggllaaGreatDoor
