/- What is wrong with a path; how great it is. -/
import Derived.Test.YtbgkfjelgnbfmaaGreatDoorPdp
import Derived.Deep.RegionHeld3
import Derived.Laws.EntriesVeiled
import Derived.Shelf.Abstract
namespace Go.Proofs.YtbgkfjelgnbfmaaGreatDoor
open Go.RowKit Fo
set_option maxRecDepth 100000
set_option linter.unusedSimpArgs false
set_option linter.unusedVariables false

namespace Fo
def anyK (V : Nat → PV) (k : Int) : Nat → Bool
  | 0 => false
  | n + 1 => anyK V k n || decide ((V n).kind = k)
theorem anyK_false {V : Nat → PV} {k : Int} : ∀ {n : Nat}, anyK V k n = false → ∀ j, j < n → (V j).kind ≠ k
  | n + 1, h, j, hj => by
    unfold anyK at h
    simp only [Bool.or_eq_false_iff, decide_eq_false_iff_not] at h
    by_cases e : j = n
    · subst e; exact h.2
    · exact anyK_false h.1 j (by omega)
theorem anyK_kids {F : Nat → Prop} {w : World} {V : Nat → PV} {k : Int} {ks : List PT} (hk : ∀ (j : Nat) (h : j < ks.length), IsP F w (V j) ks[j]) : anyK V k ks.length = ks.any (fun t => decide (t.kind = k)) := by
  have hkk : ∀ (j : Nat) (h : j < ks.length), (V j).kind = ks[j].kind := fun j h => by
    have h0 := hk j h
    generalize ks[j] = t at h0
    cases h0
    rfl
  have gen : ∀ n, n ≤ ks.length → anyK V k n = (ks.take n).any (fun t => decide (t.kind = k)) := by
    intro n
    induction n with
    | zero => intro _; simp [anyK]
    | succ n ih =>
      intro h
      rw [List.take_succ_eq_append_getElem (by omega), List.any_append, ← ih (by omega), anyK, hkk n (by omega)]
      simp
  have := gen ks.length (Nat.le_refl _)
  rwa [List.take_length] at this
end Fo
theorem fnv_may1 (cap : Array Value) : ∀ w, (callFunc 89 cap).run Tryz.prog w = .ok (.enter 89 cap) w := enters_of Tryz.func89 (by kernel_rfl) rfl cap
set_option maxHeartbeats 4000000 in
theorem mk1_any (w : World) (y : PV) (bk : Nat) (k : Int) (h : w.heap[bk]? = some (.cells #[.int .i64 k] 3)) : Calls Tryz.prog 89 #[y.v, .pointer (some ⟨bk, 0, none⟩)] w fun e w' => e = .returned (.bool (decide (y.kind = k))) ∧ Below w.heap.size w w' := by
  obtain ⟨k0, k1, k2, k3, k4, k5, k6⟩ := y
  unfold PV.v
  simp only
  obtain ⟨W1, hW1⟩ : ∃ W1, W1 = w.alloc (.cells #[.int .i64 k0, .string k1, .slice k2 k3 k4, .int .i64 k5, .int .i64 k6] 25) := ⟨_, rfl⟩
  have HBW1 : Hid (Below w.heap.size w W1) := by rw [hW1]; exact below1 w _
  have HGW1 : Hid (W1.heap[w.heap.size]? = some (.cells #[.int .i64 k0, .string k1, .slice k2 k3 k4, .int .i64 k5, .int .i64 k6] 25)) := by show W1.heap[_]? = _; rw [hW1]; exact heap_new1 w _
  have hk : (w.alloc (.cells #[.int .i64 k0, .string k1, .slice k2 k3 k4, .int .i64 k5, .int .i64 k6] 25)).cell? ⟨bk, 0, none⟩ = some (.int .i64 k) := by rw [World.cell?_of_block ((below1 w _).block bk (lt_of_heap h)), cell_of_row _ _ _ _ _ _ h]; rfl
  by_cases hq : k0 = k
  · subst hq
    have hq' : (k0 == k0) = true := by simp
    have hd : decide (k0 = k0) = true := by simp
    rw [hd]
    go_enter Tryz.func89, Tryz.ntmps89
    go_wp2
    go_ret
    exact ⟨rfl, below1 w _⟩
  · have hq' : (k0 == k) = false := by simp [hq]
    have hd : decide (k0 = k) = false := by simp [hq]
    rw [hd]
    go_enter Tryz.func89, Tryz.ntmps89
    go_wp2
    go_ret
    exact ⟨ret_bool (by first | rfl | simp [hq]), below1 w _⟩
set_option maxHeartbeats 4000000 in
theorem ixf_any (F : Nat → Prop) (w : World) (a : Option Addr) (n cap : Nat) (V : Nat → PV) (hr : PRow F w a n cap V) (bk : Nat) (k : Int) (h : w.heap[bk]? = some (.cells #[.int .i64 k] 3)) :
    Calls Tryz.prog 97 #[.slice a n cap, .func (.func 89) #[] #[.pointer (some ⟨bk, 0, none⟩)]] w fun e w' => (∃ r : Int, e = .returned (.int .i64 r) ∧ ((anyK V k n = true → 0 ≤ r) ∧ (anyK V k n = false → r = -1))) ∧ Below w.heap.size w w' := by
  have HR : Hid (PRow F w a n cap V) := hr
  have HB0 : Hid (w.heap[bk]? = some (.cells #[.int .i64 k] 3)) := h
  have hl1 := hr.1
  have hl2 := hr.2.1
  have hfn := fnv_may1 #[.pointer (some ⟨bk, 0, none⟩)]
  clear hr h
  go_enter Tryz.func97, Tryz.ntmps97
  go_wp2
  go_loopw [8] (fun v8 wr => ∃ i : Nat, i ≤ n ∧ v8 = .int .i64 i ∧ Hid (Below w.heap.size w wr) ∧ Hid (anyK V k i = false)) (fun v _ => n - (intOf v).toNat)
  case atStart => exact ⟨0, Nat.zero_le _, rfl, below_refl w, rfl⟩
  case round =>
    obtain ⟨i, hi, rfl, HB, HA⟩ := hrel
    rename World => wr
    by_cases hlt : i < n
    · obtain ⟨b, off, rfl, -, hc⟩ := HR.out.2.2.resolve_left (by omega)
      have hP := (hc i hlt).of_block (HB.out.block b (hc i hlt).lt)
      have HV : Hid (anyK V k (i + 1) = (anyK V k i || decide ((V i).kind = k))) := rfl
      clear hc
      obtain ⟨y, hy⟩ : ∃ y, y = V i := ⟨_, rfl⟩
      rw [← hy] at hP HV
      clear hy
      obtain ⟨c0, c1, c2, c3, c4⟩ := hP
      obtain ⟨k0, k1, k2, k3, k4, k5, k6⟩ := y
      simp only at c0 c1 c2 c3 c4
      have j1 : (0 : Int) ≤ (i : Int) := by omega
      have j2 : (i : Int) < (n : Int) := by omega
      have HK2 : Hid (wr.heap[bk]? = some (.cells #[.int .i64 k] 3)) := (HB.out.block bk (lt_of_heap HB0.out)).trans HB0.out
      go_wp2_with (go_at_call 89; fail)
      refine (mk1_any wr ⟨k0, k1, k2, k3, k4, k5, k6⟩ bk k HK2.out).mono ?_
      rintro e w2 ⟨rfl, b2⟩
      have HB2 : Hid (Below w.heap.size w w2) := below_step HB.out b2
      clear b2
      by_cases hq : k0 = k
      · have hd : decide (k0 = k) = true := by simp [hq]
        have HV2 : Hid (anyK V k (i + 1) = true) := by show _ = _; rw [HV.out, HA.out]; simpa using hq
        simp only [hd]
        go_wp2
        go_ret
        refine ⟨⟨_, rfl, fun _ => by omega, fun hf => ?_⟩, HB2.out⟩
        exfalso
        have : anyK V k n = true := by
          have gen : ∀ m, i + 1 ≤ m → anyK V k m = true := by
            intro m hm
            induction m with
            | zero => omega
            | succ m ih =>
              by_cases e : m = i
              · subst e; exact HV2.out
              · unfold anyK; rw [ih (by omega)]; rfl
          exact gen n (by omega)
        rw [this] at hf; cases hf
      · have hd : decide (k0 = k) = false := by simp [hq]
        have HV2 : Hid (anyK V k (i + 1) = false) := by show _ = _; rw [HV.out, HA.out]; simpa using hq
        simp only [hd]
        go_wp2
        exact ⟨⟨i + 1, by omega, by simp, HB2.out, HV2.out⟩, by simp [intOf]; omega⟩
    · have hn : i = n := by omega
      subst hn
      go_wp2
      go_ret
      exact ⟨⟨_, rfl, fun h => (by rw [HA.out] at h; cases h), fun _ => rfl⟩, HB.out⟩
set_option maxHeartbeats 4000000 in
theorem ctf_any (F : Nat → Prop) (w : World) (a : Option Addr) (n cap : Nat) (V : Nat → PV) (hr : PRow F w a n cap V) (bk : Nat) (k : Int) (h : w.heap[bk]? = some (.cells #[.int .i64 k] 3)) :
    Calls Tryz.prog 88 #[.slice a n cap, .func (.func 89) #[] #[.pointer (some ⟨bk, 0, none⟩)]] w fun e w' => e = .returned (.bool (anyK V k n)) ∧ Below w.heap.size w w' := by
  have hc := ixf_any F w a n cap V hr bk k h
  obtain ⟨q, hq⟩ : ∃ q, q = anyK V k n := ⟨_, rfl⟩
  rw [← hq] at hc ⊢
  have HC : Hid (Calls _ _ _ _ _) := hc
  clear hq hc
  go_enter Tryz.func88, Tryz.ntmps88
  go_wp2_with (go_at_call 97; fail)
  refine HC.out.mono ?_
  rintro e w2 ⟨⟨r, rfl, hr1, hr2⟩, b2⟩
  have HB2 : Hid (Below w.heap.size w w2) := b2
  clear b2
  cases q
  · have hr' : r = -1 := hr2 rfl
    subst hr'
    clear hr1 hr2
    go_wp2
    go_ret
    exact ⟨by first | rfl | simp, HB2.out⟩
  · have hr' : r ≥ 0 := hr1 rfl
    clear hr1 hr2
    go_wp2
    go_ret
    exact ⟨ret_bool (by first | rfl | simp [hr']), HB2.out⟩
set_option maxHeartbeats 8000000 in
theorem mhk_any (F : Nat → Prop) (w : World) (V : Nat → PV) (ks : List PT) (a : Option Addr) (cap : Nat) (k : Int) (hr : PRow F w a ks.length cap V) (hk : ∀ (j : Nat) (h : j < ks.length), IsP F w (V j) ks[j]) :
    Calls Tryz.prog 75 #[.int .i64 k, .slice a ks.length cap] w fun e w' => e = .returned (.bool (kidsOK k ks)) ∧ Below w.heap.size w w' := by
  have hmf : ∀ (fn : Fn) (first cap : Array Value) (w : World), (Instr.makeFunc fn first cap).run Tryz.prog w = .ok (.func fn first cap) w := fun _ _ _ _ => rfl
  have ha := anyK_kids (k := k) hk
  have HR : Hid (PRow F w a ks.length cap V) := hr
  clear hk hr
  obtain ⟨n, hn⟩ : ∃ n, n = ks.length := ⟨_, rfl⟩
  obtain ⟨q, hq⟩ : ∃ q, q = anyK V k n := ⟨_, rfl⟩
  have HQ : Hid (q = anyK V k n) := hq
  have hko : kidsOK k ks = if k = 1 ∨ k = 2 ∨ k = 3 then decide (n = 0) else if k = 4 ∨ k = 5 then decide (2 ≤ n) && !q else if k = 6 ∨ k = 7 ∨ k = 8 ∨ k = 9 then decide (n = 1) else false := by
    unfold kidsOK
    rw [hn, hq, hn, ha]
  rw [hko, ← hn]
  rw [← hn] at HR
  clear hko hq ha hn
  obtain ⟨W1, hW1⟩ : ∃ W1, W1 = w.alloc (.cells #[.int .i64 k] 3) := ⟨_, rfl⟩
  have HB1 : Hid (Below w.heap.size w W1) := by rw [hW1]; exact below1 w _
  have HG1 : Hid (W1.heap[w.heap.size]? = some (.cells #[.int .i64 k] 3)) := by show W1.heap[_]? = _; rw [hW1]; exact heap_new1 w _
  by_cases e1 : k = 1
  · subst e1
    by_cases hz : n = 0
    · have hz' : ((n : Int) == 0) = true := by simp; omega
      go_enter Tryz.func75, Tryz.ntmps75
      go_wp2
      go_ret
      exact ⟨ret_bool (by simp [hz]), below1 w _⟩
    · have hz' : ((n : Int) == 0) = false := by simp; omega
      go_enter Tryz.func75, Tryz.ntmps75
      go_wp2
      go_ret
      exact ⟨ret_bool (by simp [hz]), below1 w _⟩
  by_cases e2 : k = 2
  · subst e2
    by_cases hz : n = 0
    · have hz' : ((n : Int) == 0) = true := by simp; omega
      go_enter Tryz.func75, Tryz.ntmps75
      go_wp2
      go_ret
      exact ⟨ret_bool (by simp [hz]), below1 w _⟩
    · have hz' : ((n : Int) == 0) = false := by simp; omega
      go_enter Tryz.func75, Tryz.ntmps75
      go_wp2
      go_ret
      exact ⟨ret_bool (by simp [hz]), below1 w _⟩
  by_cases e3 : k = 3
  · subst e3
    by_cases hz : n = 0
    · have hz' : ((n : Int) == 0) = true := by simp; omega
      go_enter Tryz.func75, Tryz.ntmps75
      go_wp2
      go_ret
      exact ⟨ret_bool (by simp [hz]), below1 w _⟩
    · have hz' : ((n : Int) == 0) = false := by simp; omega
      go_enter Tryz.func75, Tryz.ntmps75
      go_wp2
      go_ret
      exact ⟨ret_bool (by simp [hz]), below1 w _⟩
  by_cases e6 : k = 6
  · subst e6
    by_cases hz : n = 1
    · have hz' : ((n : Int) == 1) = true := by simp; omega
      go_enter Tryz.func75, Tryz.ntmps75
      go_wp2
      go_ret
      exact ⟨ret_bool (by simp [hz]), below1 w _⟩
    · have hz' : ((n : Int) == 1) = false := by simp; omega
      go_enter Tryz.func75, Tryz.ntmps75
      go_wp2
      go_ret
      exact ⟨ret_bool (by simp [hz]), below1 w _⟩
  by_cases e7 : k = 7
  · subst e7
    by_cases hz : n = 1
    · have hz' : ((n : Int) == 1) = true := by simp; omega
      go_enter Tryz.func75, Tryz.ntmps75
      go_wp2
      go_ret
      exact ⟨ret_bool (by simp [hz]), below1 w _⟩
    · have hz' : ((n : Int) == 1) = false := by simp; omega
      go_enter Tryz.func75, Tryz.ntmps75
      go_wp2
      go_ret
      exact ⟨ret_bool (by simp [hz]), below1 w _⟩
  by_cases e8 : k = 8
  · subst e8
    by_cases hz : n = 1
    · have hz' : ((n : Int) == 1) = true := by simp; omega
      go_enter Tryz.func75, Tryz.ntmps75
      go_wp2
      go_ret
      exact ⟨ret_bool (by simp [hz]), below1 w _⟩
    · have hz' : ((n : Int) == 1) = false := by simp; omega
      go_enter Tryz.func75, Tryz.ntmps75
      go_wp2
      go_ret
      exact ⟨ret_bool (by simp [hz]), below1 w _⟩
  by_cases e9 : k = 9
  · subst e9
    by_cases hz : n = 1
    · have hz' : ((n : Int) == 1) = true := by simp; omega
      go_enter Tryz.func75, Tryz.ntmps75
      go_wp2
      go_ret
      exact ⟨ret_bool (by simp [hz]), below1 w _⟩
    · have hz' : ((n : Int) == 1) = false := by simp; omega
      go_enter Tryz.func75, Tryz.ntmps75
      go_wp2
      go_ret
      exact ⟨ret_bool (by simp [hz]), below1 w _⟩
  by_cases e4 : k = 4
  · subst e4
    by_cases hz : 2 ≤ n
    · have hz' : (n : Int) ≥ 2 := by omega
      go_enter Tryz.func75, Tryz.ntmps75
      go_wp2_with (go_at_call 88; fail)
      rw [← hW1]
      clear hW1
      refine (ctf_any F W1 a n cap V (HR.out.kp (Kp.of_below (F := fun _ => False) HB1.out) (fun _ _ h => h) fun _ _ h => h) w.heap.size 4 HG1.out).mono ?_
      rw [← HQ.out]
      rintro e w2 ⟨rfl, b2⟩
      have HB2 : Hid (Below w.heap.size w w2) := below_step HB1.out b2
      clear b2
      cases q
      · skip
        go_wp2
        go_ret
        exact ⟨ret_bool (by simp [hz]), HB2.out⟩
      · skip
        go_wp2
        go_ret
        exact ⟨ret_bool (by simp [hz]), HB2.out⟩
    · have hz' : ¬ (n : Int) ≥ 2 := by omega
      go_enter Tryz.func75, Tryz.ntmps75
      go_wp2
      go_ret
      exact ⟨ret_bool (by simp [hz]), below1 w _⟩
  by_cases e5 : k = 5
  · subst e5
    by_cases hz : 2 ≤ n
    · have hz' : (n : Int) ≥ 2 := by omega
      go_enter Tryz.func75, Tryz.ntmps75
      go_wp2_with (go_at_call 88; fail)
      rw [← hW1]
      clear hW1
      refine (ctf_any F W1 a n cap V (HR.out.kp (Kp.of_below (F := fun _ => False) HB1.out) (fun _ _ h => h) fun _ _ h => h) w.heap.size 5 HG1.out).mono ?_
      rw [← HQ.out]
      rintro e w2 ⟨rfl, b2⟩
      have HB2 : Hid (Below w.heap.size w w2) := below_step HB1.out b2
      clear b2
      cases q
      · skip
        go_wp2
        go_ret
        exact ⟨ret_bool (by simp [hz]), HB2.out⟩
      · skip
        go_wp2
        go_ret
        exact ⟨ret_bool (by simp [hz]), HB2.out⟩
    · have hz' : ¬ (n : Int) ≥ 2 := by omega
      go_enter Tryz.func75, Tryz.ntmps75
      go_wp2
      go_ret
      exact ⟨ret_bool (by simp [hz]), below1 w _⟩
  have f1 : (k == 1) = false := by simp [e1]
  have f2 : (k == 2) = false := by simp [e2]
  have f3 : (k == 3) = false := by simp [e3]
  have f4 : (k == 4) = false := by simp [e4]
  have f5 : (k == 5) = false := by simp [e5]
  have f6 : (k == 6) = false := by simp [e6]
  have f7 : (k == 7) = false := by simp [e7]
  have f8 : (k == 8) = false := by simp [e8]
  have f9 : (k == 9) = false := by simp [e9]
  go_enter Tryz.func75, Tryz.ntmps75
  go_wp2
  go_ret
  exact ⟨ret_bool (by simp [e1, e2, e3, e4, e5, e6, e7, e8, e9]), below1 w _⟩
end Go.Proofs.YtbgkfjelgnbfmaaGreatDoor
