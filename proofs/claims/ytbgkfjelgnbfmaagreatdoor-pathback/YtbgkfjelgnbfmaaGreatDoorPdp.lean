/- How deep a path is. -/
import Derived.Test.YtbgkfjelgnbfmaaGreatDoorPow
namespace Go.Proofs.YtbgkfjelgnbfmaaGreatDoor
open Go.RowKit Fo
set_option maxRecDepth 100000
set_option linter.unusedSimpArgs false
set_option linter.unusedVariables false

def pbox (x : PV) : Obj := (.cells #[.int .i64 x.kind, .string x.label, .slice x.a x.len x.cap, .int .i64 x.lo, .int .i64 x.hi] 25)
theorem PAt.of_pbox {w : World} {b : Nat} {x : PV} (h : w.heap[b]? = some (pbox x)) : PAt w b 0 x :=
  ⟨by rw [cell_of_row _ _ _ _ _ _ h]; rfl, by rw [cell_of_row _ _ _ _ _ _ h]; rfl, by rw [cell_of_row _ _ _ _ _ _ h]; rfl, by rw [cell_of_row _ _ _ _ _ _ h]; rfl, by rw [cell_of_row _ _ _ _ _ _ h]; rfl⟩
namespace Fo
theorem deeps_take (ks : List PT) (i : Nat) (h : i < ks.length) : deeps (ks.take (i + 1)) = max (deeps (ks.take i)) (deep ks[i]) := by
  induction ks generalizing i with
  | nil => simp at h
  | cons t ts ih =>
    cases i with
    | zero => simp [deeps]
    | succ i =>
      simp only [List.take_succ_cons, deeps, List.getElem_cons_succ]
      rw [ih i (by simpa using h)]
      omega
theorem deeps_le (ks : List PT) (i : Nat) : deeps (ks.take i) ≤ deeps ks := by
  induction ks generalizing i with
  | nil => simp
  | cons t ts ih =>
    cases i with
    | zero => simp [deeps]
    | succ i => simp only [List.take_succ_cons, deeps]; have := ih i; omega
end Fo
/-- A tree's contract: what one in memory opens to. -/
theorem open_tree {F : Nat → Prop} {w : World} {x : PV} {k : Int} {l : List UInt8} {ks : List PT} {lo hi : Int} (h : IsP F w x (.mk k l ks lo hi)) :
    x.kind = k ∧ x.label = ⟨l.toArray⟩ ∧ x.lo = lo ∧ x.hi = hi ∧ x.len = ks.length ∧ ∃ V, PRow F w x.a ks.length x.cap V ∧ ∀ (j : Nat) (h : j < ks.length), IsP F w (V j) ks[j] := by
  obtain ⟨V, ks', e, hl, hr, hk⟩ := h.inv
  injection e with e1 e2 e3 e4 e5
  subst e3
  exact ⟨e1.symm, by rw [e2], e4.symm, e5.symm, hl.symm, V, by rw [hl]; exact hr, hk⟩
set_option maxHeartbeats 4000000 in
theorem levels_any (t : PT) : ∀ (F : Nat → Prop) (w : World) (x : PV) (m : Nat), IsP F w x t → 1 ≤ m → m ≤ 1000 → Calls Tryz.prog 34 #[x.v, .int .i64 m] w fun e w' => e = .returned (.int .i64 ((min (deep t) m : Nat) : Int)) ∧ Below w.heap.size w w' := by
  induction t using PT.ind with
  | h k l ks lo hi ih =>
    intro F w x m hp hm1 hm2
    obtain ⟨q1, q2, q3, q4, q5, V, hr, hk⟩ := open_tree hp
    have HIH : Hid (∀ t ∈ ks, ∀ (F : Nat → Prop) (w : World) (x : PV) (m : Nat), IsP F w x t → 1 ≤ m → m ≤ 1000 → Calls Tryz.prog 34 #[x.v, .int .i64 m] w fun e w' => e = .returned (.int .i64 ((min (deep t) m : Nat) : Int)) ∧ Below w.heap.size w w') := ih
    have HK : Hid (∀ (j : Nat) (h : j < ks.length), IsP F w (V j) ks[j]) := hk
    have hd : deep (.mk k l ks lo hi) = 1 + deeps ks := by rw [deep]
    rw [hd]
    obtain ⟨kind, label, a, len, cap, lo', hi'⟩ := x
    unfold PV.v
    simp only at q1 q2 q3 q4 q5 hr ⊢
    subst q5
    have HR : Hid (PRow F w a ks.length cap V) := hr
    have hl1 := hr.1
    have hl2 := hr.2.1
    clear ih hk hp hd hr q1 q2 q3 q4
    obtain ⟨W1, hW1⟩ : ∃ W1, W1 = w.alloc (.cells #[.int .i64 kind, .string label, .slice a ks.length cap, .int .i64 lo', .int .i64 hi'] 25) := ⟨_, rfl⟩
    have HBW1 : Hid (Below w.heap.size w W1) := by rw [hW1]; exact below1 w _
    have HGW1 : Hid (W1.heap[w.heap.size]? = some (.cells #[.int .i64 kind, .string label, .slice a ks.length cap, .int .i64 lo', .int .i64 hi'] 25)) := by show W1.heap[_]? = _; rw [hW1]; exact heap_new1 w _
    go_enter Tryz.func34, Tryz.ntmps34
    go_wp2
    rw [← hW1]
    clear hW1
    go_loopw [5, 11] (fun v5 v11 wr => ∃ i : Nat, i ≤ ks.length ∧ v5 = .int .i64 ((min (deeps (ks.take i)) (m - 1) : Nat) : Int) ∧ v11 = .int .i64 i ∧ Hid (Below w.heap.size w wr)) (fun _ v _ => ks.length - (intOf v).toNat)
    case atStart => exact ⟨0, Nat.zero_le _, by simp [deeps], rfl, HBW1.out⟩
    case round =>
      obtain ⟨i, hi, rfl, rfl, HB⟩ := hrel
      rename World => wr
      by_cases hlt : i < ks.length
      · obtain ⟨b, off, rfl, -, hc⟩ := HR.out.2.2.resolve_left (by omega)
        have hP := (hc i hlt).of_block (HB.out.block b (hc i hlt).lt)
        have HKI : Hid (IsP F wr (V i) ks[i]) := (HK.out i hlt).kp (Kp.of_below (F := fun _ => False) HB.out) (fun _ _ h => h) fun _ _ h => h
        have hmem : ks[i] ∈ ks := List.getElem_mem hlt
        have HT : Hid (deeps (ks.take (i + 1)) = max (deeps (ks.take i)) (deep ks[i])) := deeps_take ks i hlt
        have HIi : Hid (∀ (F : Nat → Prop) (w : World) (x : PV) (m : Nat), IsP F w x ks[i] → 1 ≤ m → m ≤ 1000 → Calls Tryz.prog 34 #[x.v, .int .i64 m] w fun e w' => e = .returned (.int .i64 ((min (deep ks[i]) m : Nat) : Int)) ∧ Below w.heap.size w w') := HIH.out _ hmem
        clear hc hmem HBW1 HGW1
        generalize ks[i] = ti at HKI HT HIi
        obtain ⟨y, hy⟩ : ∃ y, y = V i := ⟨_, rfl⟩
        rw [← hy] at hP HKI
        clear hy
        obtain ⟨c0, c1, c2, c3, c4⟩ := hP
        obtain ⟨k0, k1, k2, k3, k4, k5, k6⟩ := y
        simp only at c0 c1 c2 c3 c4
        have j1 : (0 : Int) ≤ (i : Int) := by omega
        have j2 : (i : Int) < (ks.length : Int) := by omega
        obtain ⟨dd, hdd⟩ : ∃ dd : Nat, dd = min (deeps (ks.take i)) (m - 1) := ⟨_, rfl⟩
        rw [← hdd]
        have HDD : Hid (dd = min (deeps (ks.take i)) (m - 1)) := hdd
        clear hdd
        by_cases hq : dd = m - 1
        · have hq' : ((dd : Int) == (m : Int) - 1) = true := by simp; omega
          go_wp2
          go_ret
          refine ⟨ret_int ?_, HB.out.alloc HB.out.size _⟩
          have h9 := HT.out
          have hle := deeps_le ks (i + 1)
          have := HDD.out
          omega
        · have hq' : ((dd : Int) == (m : Int) - 1) = false := by simp; omega
          go_wp2_with (go_at_call 34; fail)
          rw [show (m : Int) - 1 = ((m - 1 : Nat) : Int) by omega]
          refine (HIi.out F _ ⟨k0, k1, k2, k3, k4, k5, k6⟩ (m - 1) (HKI.out.bel (below1 _ _)) (by have := HDD.out; omega) (by omega)).mono ?_
          rintro e w2 ⟨rfl, b2⟩
          have HB2 : Hid (Below w.heap.size w w2) := below_step (below_step HB.out (below1 _ _)) b2
          clear b2
          go_wp2
          refine ⟨⟨i + 1, by omega, ?_, by simp, HB2.out⟩, by simp [intOf]; omega⟩
          rw [HT.out]
          have := HDD.out
          congr 1
          split <;> omega
      · have hn : i = ks.length := by omega
        subst hn
        go_wp2
        go_ret
        exact ⟨ret_int (by omega), HB.out⟩
theorem deep_any (t : PT) (F : Nat → Prop) (w : World) (x : PV) (hp : IsP F w x t) : Calls Tryz.prog 20 #[x.v] w fun e w' => e = .returned (.int .i64 ((min (deep t) 41 : Nat) : Int)) ∧ Below w.heap.size w w' := by
  have HP : Hid (IsP F w x t) := hp
  clear hp
  obtain ⟨kind, label, a, len, cap, lo', hi'⟩ := x
  unfold PV.v
  go_enter Tryz.func20, Tryz.ntmps20
  go_wp2_with (go_at_call 34; fail)
  refine (levels_any t F _ ⟨kind, label, a, len, cap, lo', hi'⟩ 41 (HP.out.bel (below1 _ _)) (by omega) (by omega)).mono ?_
  rintro e w2 ⟨rfl, b2⟩
  have HB2 : Hid (Below w.heap.size w w2) := below_step (below1 _ _) b2
  clear b2
  go_wp2
  go_ret
  exact ⟨rfl, HB2.out⟩
end Go.Proofs.YtbgkfjelgnbfmaaGreatDoor
