/- The contract of the document's own Dot. -/
import Derived.Test.YtchdflbnelcjbaaD
namespace Go.Proofs.Ytchdflbnelcjbaa
open Go.RowKit Fo
set_option maxRecDepth 100000

theorem max_two (x y : Nat) (hx : x ≤ 9218868437227405312) (hy : y ≤ 9218868437227405312) : Builtin.max2 (.float .f64 x) (.float .f64 y) = pure (.float .f64 (max x y)) := by
  rcases Nat.lt_trichotomy x y with h | h | h
  · simp only [Builtin.max2, ord_lt hy h]
    rw [Nat.max_eq_right (by omega)]
  · subst h
    simp only [Builtin.max2, ord_eq hx rfl]
    rw [Nat.max_self, ite_self]
  · simp only [Builtin.max2, ord_gt hx h]
    rw [Nat.max_eq_left (by omega)]
theorem run_max (x y : Nat) (hx : x ≤ 9218868437227405312) (hy : y ≤ 9218868437227405312) (ts : Array TypeId) (t : TypeId) (w : World) :
    (Builtin.max_ ts t #[.float .f64 x, .float .f64 y]).run Try.prog w = .ok (.float .f64 (max x y)) w := by
  have h : Builtin.max_ ts t #[.float .f64 x, .float .f64 y] = List.foldlM Builtin.max2 (.float .f64 x) [.float .f64 y] := rfl
  rw [h, List.foldlM_cons, max_two x y hx hy]
  rfl
theorem rdot_core (b1 off1 cap1 b2 off2 cap2 n : Nat) (w : World) (hn : 1 ≤ n) (hn2 : n ≤ 4000) (X Y B : Nat → Nat) (ok : Nat → Bool) (TV : Nat → Nat → Nat) (TE : Nat → Nat → Int) (V : Nat) (E : Int) (hX : ∀ j, X j < 18446744073709551616) (hY : ∀ j, Y j < 18446744073709551616)
    (hB : ∀ j, B j ≤ 9218868437227405312) (hTV : ∀ j, TV (X j) (Y j) ≤ 9218868437227405312)
    (hB0 : B 0 = 0) (hc : ∀ j, j < n → w.cell? ⟨b1, off1 + j, none⟩ = some (.float .f64 (X j))) (hd : ∀ j, j < n → w.cell? ⟨b2, off2 + j, none⟩ = some (.float .f64 (Y j)))
    (c : ∀ a b, a < 18446744073709551616 → b < 18446744073709551616 → ∀ w, Calls Try.prog 10 #[.float .f64 a, .float .f64 b] w fun e w' => e = .returned (.tuple #[.float .f64 (TV a b), .int .i64 (TE a b)]) ∧ w' = w)
    (hok : ∀ k, (ok k = true → max (B k) (TV (X k) (Y k)) = B (k + 1) ∧ TE (X k) (Y k) = 0) ∧ (ok k = false → TE (X k) (Y k) = 16))
    (hT : (∀ j, j < n → ok j = true) → B n = V ∧ 0 = E) (hF : ∀ j, j < n → ok j = false → 0 = V ∧ 16 = E) :
    Calls Try.prog 17 #[.slice (some ⟨b1, off1, none⟩) n cap1, .slice (some ⟨b2, off2, none⟩) n cap2] w fun r w' => r = .returned (.tuple #[.float .f64 V, .int .i64 E]) ∧ Below w.heap.size w w' := by
  have HT : Hid ((∀ j, j < n → ok j = true) → B n = V ∧ 0 = E) := hT
  have HF : Hid (∀ j, j < n → ok j = false → 0 = V ∧ 16 = E) := hF
  have HO : Hid (∀ k, (ok k = true → max (B k) (TV (X k) (Y k)) = B (k + 1) ∧ TE (X k) (Y k) = 0) ∧ (ok k = false → TE (X k) (Y k) = 16)) := hok
  have hb1 : b1 < w.heap.size := World.block_lt_of_cell? w _ (hc 0 (by omega))
  have hb2 : b2 < w.heap.size := World.block_lt_of_cell? w _ (hd 0 (by omega))
  clear hT hF hok
  go_enter Try.func17, Try.ntmps17
  go_wp2
  go_loopw [6, 7] (fun m i wr => ∃ k : Nat, k ≤ n ∧ i = .int .i64 k ∧ m = .float .f64 (B k) ∧ Hid (Below w.heap.size w wr) ∧ Hid (∀ j, j < k → ok j = true)) (fun _ i _ => n - (intOf i).toNat)
  case atStart => exact ⟨0, Nat.zero_le _, rfl, by rw [hB0], Below.refl _ _, fun j hj => absurd hj (by omega)⟩
  case round =>
    obtain ⟨k, hk, rfl, rfl, HB, HK⟩ := hrel
    rename World => wr
    by_cases hlt : k < n
    · have hck : wr.cell? ⟨b1, off1 + k, none⟩ = some (.float .f64 (X k)) := (HB.out.cell hb1).trans (hc k hlt)
      have hdk : wr.cell? ⟨b2, off2 + k, none⟩ = some (.float .f64 (Y k)) := (HB.out.cell hb2).trans (hd k hlt)
      have hXk := hX k
      have hYk := hY k
      have hBk := hB k
      have hTk := hTV k
      have HO1 := HO.out k
      have i1 : (0 : Int) ≤ (k : Int) := by omega
      have i2 : (k : Int) < (n : Int) := by omega
      cases ho : ok k
      · have e1 := HO1.2 ho
        have HE : Hid (0 = V ∧ 16 = E) := HF.out k hlt ho
        clear HF HT HO HO1 hc hd hX hY hB hTV ho HK
        go_wp2
        go_quiet ((go_at_call 10; exact Calls.quiet_of_same (c _ _ (by assumption) (by assumption) _)))
        go_wp2
        go_ret2
        exact ⟨ret_two HE.out.1 HE.out.2, below_drewN HB.out _⟩
      · have e1 := (HO1.1 ho).2
        have HE : Hid (max (B k) (TV (X k) (Y k)) = B (k + 1)) := (HO1.1 ho).1
        have HK' : Hid (∀ j, j < k + 1 → ok j = true) := fun j hj => by
          by_cases e : j = k
          · subst e; exact ho
          · exact HK.out j (by omega)
        clear HF HT HO HO1 hc hd hX hY hB hTV ho HK
        go_wp2
        go_quiet ((go_at_call 10; exact Calls.quiet_of_same (c _ _ (by assumption) (by assumption) _)))
        have hm := run_max (B k) (TV (X k) (Y k)) (by assumption) (by assumption)
        go_wp2
        go_roundw
        case rel => exact ⟨k + 1, by omega, by go_num, float_eq HE.out, below_drewN HB.out _, HK'⟩
        case measure => simp [intOf]; omega
    · obtain rfl : k = n := by omega
      have HE : Hid (B k = V ∧ 0 = E) := HT.out HK.out
      clear HF HT HO hc hd hX hY hB hTV HK c
      go_wp2
      go_ret2
      exact ⟨ret_two HE.out.1 HE.out.2, HB.out⟩
namespace Fo
def dtOk (X Y : Nat → Nat) (n m : Nat) : Bool := decide (n = m) && allB (fun j => tmOk (X j) (Y j)) n
def dtV (X Y : Nat → Nat) (n m : Nat) : Nat := if dtOk X Y n m then dotV X Y n else 0
def dtE (X Y : Nat → Nat) (n m : Nat) : Int := if dtOk X Y n m then 0 else 16
end Fo
theorem times_k (X Y : Nat → Nat) (k : Nat) : (tmOk (X k) (Y k) = true → max (dotV X Y k) (tm (X k) (Y k)) = dotV X Y (k + 1) ∧ tmE (X k) (Y k) = 0) ∧ (tmOk (X k) (Y k) = false → tmE (X k) (Y k) = 16) := by
  refine ⟨fun e => ⟨rfl, ?_⟩, fun e => ?_⟩
  · unfold tmE; rw [e]; rfl
  · unfold tmE; rw [e]; rfl
theorem dot_ne (a1 : Option Addr) (n cap1 : Nat) (a2 : Option Addr) (m cap2 : Nat) (w : World) (h : n ≠ m) :
    Calls Try.prog 16 #[.slice a1 n cap1, .slice a2 m cap2] w fun r w' => r = .returned (.tuple #[.float .f64 0, .int .i64 16]) ∧ Below w.heap.size w w' := by
  have h1 : ((n : Int) != (m : Int)) = true := by simp; omega
  have hB := Below.refl w.heap.size w
  go_enter Try.func16, Try.ntmps16
  go_wp2
  go_ret2
  exact ⟨rfl, hB⟩
theorem dot_none (a1 : Option Addr) (cap1 : Nat) (a2 : Option Addr) (cap2 : Nat) (w : World) :
    Calls Try.prog 16 #[.slice a1 0 cap1, .slice a2 0 cap2] w fun r w' => r = .returned (.tuple #[.float .f64 0, .int .i64 0]) ∧ Below w.heap.size w w' := by
  have hB := Below.refl w.heap.size w
  go_enter Try.func16, Try.ntmps16
  go_wp2
  go_loop [6, 17] (fun m i => i = .int .i64 0 ∧ m = .float .f64 0) (fun _ _ => 0)
  case atStart => exact ⟨rfl, rfl⟩
  case round =>
    obtain ⟨rfl, rfl⟩ := hrel
    go_wp2
    go_ret2
    exact ⟨rfl, hB⟩
theorem dot_any (a1 : Option Addr) (n cap1 : Nat) (a2 : Option Addr) (m cap2 : Nat) (w : World) (X Y : Nat → Nat) (hn : n ≤ 4000) (h1 : Sl w a1 n cap1 X) (h2 : Sl w a2 m cap2 Y) :
    Calls Try.prog 16 #[.slice a1 n cap1, .slice a2 m cap2] w fun r w' => r = .returned (.tuple #[.float .f64 (dtV X Y n m), .int .i64 (dtE X Y n m)]) ∧ Below w.heap.size w w' := by
  obtain ⟨-, -, hX, hs1⟩ := h1
  obtain ⟨-, -, hY, hs2⟩ := h2
  by_cases hne : n = m
  · subst hne
    have hd0 : decide (n = n) = true := by simp
    by_cases h0 : n = 0
    · subst h0; exact dot_none a1 cap1 a2 cap2 w
    rcases hs1 with h | ⟨b1, off1, rfl, hc⟩
    · exact absurd h h0
    rcases hs2 with h | ⟨b2, off2, rfl, hd⟩
    · exact absurd h h0
    refine dot_core b1 off1 cap1 b2 off2 cap2 n w (by omega) hn X Y (dotV X Y) (fun j => tmOk (X j) (Y j)) tm tmE _ _ hX hY (fun j => by have := dot_top X Y hX hY j; omega) (fun j => by have := tm_le (X j) (Y j) (hX j) (hY j); omega) rfl hc hd times_any (times_k X Y) (fun hall => ?_) (fun j hj hno => ?_)
    · have : dtOk X Y n n = true := by unfold dtOk; rw [hd0, (allB_iff _ n).2 hall]; rfl
      unfold dtV dtE; rw [this]; exact ⟨rfl, rfl⟩
    · have : dtOk X Y n n = false := by unfold dtOk; rw [allB_false _ j hno n hj, Bool.and_false]
      unfold dtV dtE; rw [this]; exact ⟨rfl, rfl⟩
  · have : dtOk X Y n m = false := by unfold dtOk; rw [decide_eq_false hne]; rfl
    unfold dtV dtE; rw [this]
    exact dot_ne a1 n cap1 a2 m cap2 w hne
theorem rdot_ne (a1 : Option Addr) (n cap1 : Nat) (a2 : Option Addr) (m cap2 : Nat) (w : World) (h : n ≠ m) :
    Calls Try.prog 17 #[.slice a1 n cap1, .slice a2 m cap2] w fun r w' => r = .returned (.tuple #[.float .f64 0, .int .i64 16]) ∧ Below w.heap.size w w' := by
  have h1 : ((n : Int) != (m : Int)) = true := by simp; omega
  have hB := Below.refl w.heap.size w
  go_enter Try.func17, Try.ntmps17
  go_wp2
  go_ret2
  exact ⟨rfl, hB⟩
theorem rdot_none (a1 : Option Addr) (cap1 : Nat) (a2 : Option Addr) (cap2 : Nat) (w : World) :
    Calls Try.prog 17 #[.slice a1 0 cap1, .slice a2 0 cap2] w fun r w' => r = .returned (.tuple #[.float .f64 0, .int .i64 0]) ∧ Below w.heap.size w w' := by
  have hB := Below.refl w.heap.size w
  go_enter Try.func17, Try.ntmps17
  go_wp2
  go_loop [6, 7] (fun m i => i = .int .i64 0 ∧ m = .float .f64 0) (fun _ _ => 0)
  case atStart => exact ⟨rfl, rfl⟩
  case round =>
    obtain ⟨rfl, rfl⟩ := hrel
    go_wp2
    go_ret2
    exact ⟨rfl, hB⟩
theorem rdot_any (a1 : Option Addr) (n cap1 : Nat) (a2 : Option Addr) (m cap2 : Nat) (w : World) (X Y : Nat → Nat) (hn : n ≤ 4000) (h1 : Sl w a1 n cap1 X) (h2 : Sl w a2 m cap2 Y) :
    Calls Try.prog 17 #[.slice a1 n cap1, .slice a2 m cap2] w fun r w' => r = .returned (.tuple #[.float .f64 (dtV X Y n m), .int .i64 (dtE X Y n m)]) ∧ Below w.heap.size w w' := by
  obtain ⟨-, -, hX, hs1⟩ := h1
  obtain ⟨-, -, hY, hs2⟩ := h2
  by_cases hne : n = m
  · subst hne
    have hd0 : decide (n = n) = true := by simp
    by_cases h0 : n = 0
    · subst h0; exact rdot_none a1 cap1 a2 cap2 w
    rcases hs1 with h | ⟨b1, off1, rfl, hc⟩
    · exact absurd h h0
    rcases hs2 with h | ⟨b2, off2, rfl, hd⟩
    · exact absurd h h0
    refine rdot_core b1 off1 cap1 b2 off2 cap2 n w (by omega) hn X Y (dotV X Y) (fun j => tmOk (X j) (Y j)) tm tmE _ _ hX hY (fun j => by have := dot_top X Y hX hY j; omega) (fun j => by have := tm_le (X j) (Y j) (hX j) (hY j); omega) rfl hc hd rtimes_any (times_k X Y) (fun hall => ?_) (fun j hj hno => ?_)
    · have : dtOk X Y n n = true := by unfold dtOk; rw [hd0, (allB_iff _ n).2 hall]; rfl
      unfold dtV dtE; rw [this]; exact ⟨rfl, rfl⟩
    · have : dtOk X Y n n = false := by unfold dtOk; rw [allB_false _ j hno n hj, Bool.and_false]
      unfold dtV dtE; rw [this]; exact ⟨rfl, rfl⟩
  · have : dtOk X Y n m = false := by unfold dtOk; rw [decide_eq_false hne]; rfl
    unfold dtV dtE; rw [this]
    exact rdot_ne a1 n cap1 a2 m cap2 w hne
end Go.Proofs.Ytchdflbnelcjbaa
