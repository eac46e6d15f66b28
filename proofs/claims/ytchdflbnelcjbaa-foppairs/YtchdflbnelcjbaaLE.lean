/- The walk of FopExact: it answers true at every list of numbers, place and choice. -/
import Derived.Test.YtchdflbnelcjbaaLD
import Derived.Deep.RegionHeld3
namespace Go.Proofs.Ytchdflbnelcjbaa
open Go.RowKit Fo
set_option maxRecDepth 100000

namespace Fo
/-- Cells that hold a list of integers. -/
def Si (w : World) (a : Option Addr) (n cap : Nat) (L : Nat → Int) : Prop :=
  n ≤ cap ∧ cap ≤ 9223372036854775807 ∧ (∀ j, -9223372036854775808 ≤ L j ∧ L j ≤ 9223372036854775807) ∧ (n = 0 ∨ ∃ b off : Nat, a = some ⟨b, off, none⟩ ∧ ∀ j, j < n → w.cell? ⟨b, off + j, none⟩ = some (.int .i64 (L j)))
theorem Si.below {w w1 : World} {a : Option Addr} {n cap : Nat} {L : Nat → Int} (h : Si w a n cap L) (hb : Below w.heap.size w w1) : Si w1 a n cap L := by
  obtain ⟨h1, h2, h3, h4⟩ := h
  refine ⟨h1, h2, h3, ?_⟩
  rcases h4 with h4 | ⟨b, off, e, hc⟩
  · exact Or.inl h4
  · refine Or.inr ⟨b, off, e, fun j hj => ?_⟩
    have hlt : b < w.heap.size := World.block_lt_of_cell? w _ (hc j hj)
    rw [hb.cell hlt]; exact hc j hj
theorem FR.congr {B : Nat} {w : World} {v : Value} {n : Nat} {X Z : Nat → Nat} (h : FR B w v n X) (hZ : ∀ j, Z j < 18446744073709551616) (e : ∀ j, j < n → X j = Z j) : FR B w v n Z := by
  refine ⟨hZ, ?_⟩
  have : fl Z n = fl X n := by
    apply List.ext_getElem?
    intro j
    by_cases hj : j < n
    · rw [fl_get X n j hj, fl_get Z n j hj, e j hj]
    · rw [List.getElem?_eq_none (by rw [fl_len]; omega), List.getElem?_eq_none (by rw [fl_len]; omega)]
  rw [this]; exact h.2
end Fo
theorem exact_out (a1 : Option Addr) (n cap1 : Nat) (k : Int) (i : Bool) (w : World) (h : 200 < n) :
    Calls Try.prog 6 #[.slice a1 n cap1, .int .i64 k, .bool i] w fun r w' => r = .returned (.bool true) ∧ Below w.heap.size w w' := by
  have h1 : ¬ (n : Int) ≤ 200 := by omega
  go_enter Try.func6, Try.ntmps6
  go_wp2_with (go_at_call 14; refine (awake_true _).mono ?_; rintro e w' ⟨rfl, hb⟩)
  go_ret
  exact ⟨rfl, hb⟩
theorem f64_any (m : Nat) (h : m ≤ 1099511627776) : f64 m ≤ 4787326403894837248 := by
  have := (f64_le m 1099511627776 (by omega) (by decide)).2 h
  rw [f64_big] at this; exact this
theorem grown_le0 {w w1 : World} {o : Obj} {row : Option Nat} (h : (w.alloc o).drew.grownBy w1 row) : w.heap.size ≤ w1.heap.size := by
  have h1 : (w.alloc o).heap.size ≤ w1.heap.size := h.size
  simp at h1
  omega
theorem below_made {w w1 : World} {m c : Nat} (h : (w.alloc (.cells #[] 22)).drew.grownBy w1 (Value.slice (some ⟨w.heap.size, 0, none⟩) m c).ownBlock) : Below w.heap.size w w1 :=
  ((below_refl w).alloc (Nat.le_refl _) _).drew.grown h (by show w.heap.size ≤ (w.alloc _).heap.size; simp) (fun k hk => by
    have : w.heap.size = k := by simpa [Value.ownBlock] using hk
    omega)
theorem Fo.Sl.congr {w : World} {a : Option Addr} {n cap : Nat} {X Z : Nat → Nat} (h : Sl w a n cap X) (hZ : ∀ j, Z j < 18446744073709551616) (e : ∀ j, j < n → X j = Z j) : Sl w a n cap Z := by
  obtain ⟨h1, h2, h3, h4⟩ := h
  refine ⟨h1, h2, hZ, ?_⟩
  rcases h4 with h4 | ⟨b, off, ea, hc⟩
  · exact Or.inl h4
  · exact Or.inr ⟨b, off, ea, fun j hj => by rw [← e j hj]; exact hc j hj⟩
theorem Fo.Sl.head {w : World} {a : Option Addr} {n cap : Nat} {X : Nat → Nat} (h : Sl w a n cap X) (p : Nat) (hp : p ≤ n) : Sl w a p cap X := by
  obtain ⟨h1, h2, h3, h4⟩ := h
  refine ⟨by omega, h2, h3, ?_⟩
  rcases h4 with h4 | ⟨b, off, ea, hc⟩
  · exact Or.inl (by omega)
  · exact Or.inr ⟨b, off, ea, fun j hj => hc j (by omega)⟩
theorem Fo.Sl.tail {w : World} {b off : Nat} {n cap : Nat} {X Y : Nat → Nat} (h : Sl w (some ⟨b, off, none⟩) n cap X) (p m c : Nat) (hp : p + m = n) (hc : p + c = cap) (hY : ∀ j, Y j = X (p + j)) : Sl w (some ⟨b, off + p, none⟩) m c Y := by
  obtain ⟨h1, h2, h3, h4⟩ := h
  refine ⟨by omega, by omega, fun j => by rw [hY]; exact h3 _, ?_⟩
  rcases h4 with h4 | ⟨b', off', ea, hcell⟩
  · exact Or.inl (by omega)
  · obtain ⟨rfl, rfl⟩ : b = b' ∧ off = off' := by simpa using ea
    exact Or.inr ⟨b, off + p, rfl, fun j hj => by rw [hY, Nat.add_assoc]; exact hcell (p + j) (by omega)⟩
theorem Fo.Sl.empty (w : World) (a : Option Addr) (cap : Nat) (hcap : cap ≤ 9223372036854775807) (Y : Nat → Nat) (hY : ∀ j, Y j < 18446744073709551616) : Sl w a 0 cap Y := ⟨Nat.zero_le _, hcap, hY, Or.inl rfl⟩
/-- append, the list behind it given by name; where it is not empty. -/
theorem wpList_app1 {ops : Array Oper} {rest : List Oper} {o : Oper} {a : Act} {w : World} {Q : Exit → Act → World → Prop} (hgd : o.guard = none) (s x : Operand)
    (ho : o.op = .call { callee := .builtin .append, args := #[s, x], argTypes := #[30, 30] }) (hty : o.type = 30)
    {B : Nat} {v : Value} {n : Nat} {X : Nat → Nat} (h : FR B w v n X) (hB : B ≤ w.heap.size) {ad : Option Addr} {m c : Nat} {Y : Nat → Nat} (hs : Sl w ad m c Y) (N : Nat) (hN : n + m = N) (hnm : N ≤ 4000) (h0 : 0 < N)
    (Z : Nat → Nat) (hZ : ∀ j, Z j < 18446744073709551616) (eZ : ∀ j, j < N → cat X n Y j = Z j)
    (e1 : a.eval s = v) (e2 : a.eval x = .slice ad m c)
    (hk : ∀ g c' w', FR B w' (.slice (some ⟨g, 0, none⟩) N c') N Z → Sl w' (some ⟨g, 0, none⟩) N c' Z → w.grownBy w' v.ownBlock → (∀ j, j < N → w'.cell? ⟨g, j, none⟩ = some (.float .f64 (Z j))) → wpList Try.prog ops Q rest (a.put o.dst (.slice (some ⟨g, 0, none⟩) N c')) w') : wpList Try.prog ops Q (o :: rest) a w := by
  refine wpList_app hgd s x ho hty h hB hs N hN hnm e1 e2 fun a' c' w' h1 h2 h3 => ?_
  have h1' := h1.congr hZ eZ
  have h2' := h2.congr hZ eZ
  rcases h1'.2.2 with ⟨e, h0'⟩ | ⟨g, cap, cur, e, -⟩
  · omega
  · obtain ⟨rfl, rfl⟩ : a' = some ⟨g, 0, none⟩ ∧ c' = cap := by simpa using e
    refine hk g c' w' h1' h2' h3 (fun j hj => ?_)
    obtain ⟨-, -, -, hn | ⟨b, off, eb, hc⟩⟩ := h2'
    · omega
    · obtain ⟨rfl, rfl⟩ : g = b ∧ 0 = off := by simpa using eb
      have := hc j hj
      rwa [Nat.zero_add] at this
theorem step_app1 {ops : Array Oper} {o : Oper} {a : Act} {w : World} {K : Act → World → Prop} {Q : Exit → Act → World → Prop} {E : Prop} (hgd : o.guard = none) (s x : Operand)
    (ho : o.op = .call { callee := .builtin .append, args := #[s, x], argTypes := #[30, 30] }) (hty : o.type = 30)
    {B : Nat} {v : Value} {n : Nat} {X : Nat → Nat} (h : FR B w v n X) (hB : B ≤ w.heap.size) {ad : Option Addr} {m c : Nat} {Y : Nat → Nat} (hs : Sl w ad m c Y) (N : Nat) (hN : n + m = N) (hnm : N ≤ 4000)
    (Z : Nat → Nat) (hZ : ∀ j, Z j < 18446744073709551616) (eZ : ∀ j, j < N → cat X n Y j = Z j)
    (e1 : a.eval s = v) (e2 : a.eval x = .slice ad m c)
    (hk : ∀ a' c' w', FR B w' (.slice a' N c') N Z → Sl w' a' N c' Z → w.grownBy w' v.ownBlock → K (a.put o.dst (.slice a' N c')) w') :
    if Region.wanted o (yielded ops a.tmps) = true then Oper.wp Try.prog o a w K Q else E :=
  step_app hgd s x ho hty h hB hs N hN hnm e1 e2 fun a' c' w' h1 h2 h3 => hk a' c' w' (h1.congr hZ eZ) (h2.congr hZ eZ) h3
namespace Fo
/-- What the law looks at behind its loop: the list and what is wanted. -/
def EndOk (M : Nat → Nat) (n : Nat) (iB : Bool) (N : Nat) (X : Nat → Nat) (W : Nat) : Prop :=
  (iB = false ∧ N = n ∧ (∀ j, X j = f64 (M j)) ∧ W = f64 (sumN M n)) ∨ (iB = true ∧ N = n + 1 ∧ (∀ j, X j = if j < n then f64 (M j) else 9218868437227405312) ∧ W = 9218868437227405312)
/-- What its calls answer there. -/
def Tail (N : Nat) (X : Nat → Nat) (W p : Nat) : Prop :=
  ∃ (C D : Nat) (Y Z : Nat → Nat), C < 18446744073709551616 ∧ D < 18446744073709551616 ∧ (∀ j, Y j = X (p + j)) ∧ (∀ j, Z j < 18446744073709551616) ∧ (∀ j, j < N → cat Y (N - p) X j = Z j) ∧ FloatKind.f64.format.order W W = some .eq ∧
    (∀ w1 a cap, Sl w1 a N cap X → Calls Try.prog 18 #[.slice a N cap] w1 fun r w' => r = .returned (.tuple #[.float .f64 W, .int .i64 0]) ∧ w' = w1) ∧
    (∀ w1 a cap, Sl w1 a N cap Z → Calls Try.prog 18 #[.slice a N cap] w1 fun r w' => r = .returned (.tuple #[.float .f64 W, .int .i64 0]) ∧ w' = w1) ∧
    (∀ w1 a cap, Sl w1 a p cap X → Calls Try.prog 18 #[.slice a p cap] w1 fun r w' => r = .returned (.tuple #[.float .f64 C, .int .i64 0]) ∧ w' = w1) ∧
    (∀ w1 a cap, Sl w1 a (N - p) cap Y → Calls Try.prog 18 #[.slice a (N - p) cap] w1 fun r w' => r = .returned (.tuple #[.float .f64 D, .int .i64 0]) ∧ w' = w1) ∧
    (∀ w1, Calls Try.prog 11 #[.float .f64 C, .float .f64 D] w1 fun r w' => r = .returned (.tuple #[.float .f64 W, .int .i64 0]) ∧ w' = w1) ∧
    (∀ w1 a cap, Sl w1 a N cap X → Calls Try.prog 20 #[.slice a N cap] w1 fun r w' => r = .returned (.bool true) ∧ w' = w1)
end Fo
theorem turn_any (k0 : Int) (k : Nat) : ∃ p : Nat, p ≤ k ∧ ((k0.tmod ((k : Int) + 1) = (p : Int)) ∨ (∃ q : Int, k0.tmod ((k : Int) + 1) = q ∧ q < 0 ∧ -(k : Int) ≤ q ∧ q + (k : Int) + 1 = (p : Int))) := by
  have h1 := Int.tmod_lt_of_pos k0 (show (0 : Int) < (k : Int) + 1 by omega)
  have h2 : -((k : Int) + 1) < k0.tmod ((k : Int) + 1) := by
    have := Int.tmod_lt_of_pos (-k0) (show (0 : Int) < (k : Int) + 1 by omega)
    rw [Int.neg_tmod] at this
    omega
  by_cases h : k0.tmod ((k : Int) + 1) < 0
  · exact ⟨(k0.tmod ((k : Int) + 1) + k + 1).toNat, by omega, Or.inr ⟨_, rfl, h, by omega, by omega⟩⟩
  · exact ⟨(k0.tmod ((k : Int) + 1)).toNat, by omega, Or.inl (by omega)⟩
set_option maxHeartbeats 8000000 in
theorem ex_core (a0 : Option Addr) (n cap1 : Nat) (k0 : Int) (iB : Bool) (w : World) (hn : n ≤ 200) (L : Nat → Int) (M : Nat → Nat) (hs : Si w a0 n cap1 L)
    (hM : ∀ j, 0 ≤ L j → L j ≤ 1099511627776 → L j = M j) (hM2 : ∀ j, M j ≤ 1099511627776)
    (HTL : Hid (∀ (N : Nat) (X : Nat → Nat) (W : Nat), EndOk M n iB N X W → ∀ p, p ≤ N → Tail N X W p)) :
    Calls Try.prog 6 #[.slice a0 n cap1, .int .i64 k0, .bool iB] w fun r w' => r = .returned (.bool true) ∧ Below w.heap.size w w' := by
  have HS : Hid (Si w a0 n cap1 L) := hs
  have hF64 : ∀ j, f64 (M j) ≤ 4787326403894837248 := fun j => f64_any _ (hM2 j)
  clear hs
  go_enter Try.func6, Try.ntmps6
  go_wp2
  go_loopw [7, 8, 9] (fun vn vx vi wr => ∃ (k : Nat) (s : Nat) (a : Option Addr) (c : Nat), k ≤ n ∧ vi = .int .i64 k ∧ vn = .int .i64 s ∧ vx = .slice a k c ∧ s ≤ k * 1099511627776 ∧ Hid (s = sumN M k) ∧ Hid (Below w.heap.size w wr) ∧ Hid (FR w.heap.size wr (.slice a k c) k (fun j => f64 (M j)))) (fun _ _ vi _ => n - (intOf vi).toNat)
  case atStart => exact ⟨0, 0, none, 0, Nat.zero_le _, rfl, rfl, rfl, by omega, rfl, below_refl _, (FR.nil _ _).congr (fun j => by have := hF64 j; omega) (fun j hj => absurd hj (by omega))⟩
  case round =>
    obtain ⟨k, s, ax, cx, hk, rfl, rfl, rfl, hsk, HSum, HB, HF⟩ := hrel
    rename World => wr
    by_cases hlt : k < n
    · obtain ⟨-, -, hL, h0 | ⟨b, off, rfl, hc⟩⟩ := HS.out.below HB.out
      · omega
      have hck := hc k hlt
      clear hc
      by_cases hlo : L k < 0
      · clear HF HSum hM hM2 hF64 HS
        go_wp2_with (go_at_call 14; refine (awake_true _).mono ?_; rintro e w' ⟨rfl, hb⟩)
        go_ret
        exact ⟨rfl, below_step HB.out hb⟩
      by_cases hhi : 1099511627776 < L k
      · clear HF HSum hM hM2 hF64 HS
        go_wp2_with (go_at_call 14; refine (awake_true _).mono ?_; rintro e w' ⟨rfl, hb⟩)
        go_ret
        exact ⟨rfl, below_step HB.out hb⟩
      have hMk := hM k (by omega) (by omega)
      rw [hMk] at hck hlo hhi
      have h2k := hM2 k
      have hFk := hF64 k
      have hfo : floatOfInt .f64 ((M k : Nat) : Int) = f64 (M k) := rfl
      have HM : Hid (sumN M (k + 1) = sumN M k + M k) := rfl
      have HC : Hid (∀ j, j < k + 1 → cat (fun j => f64 (M j)) k (fun _ => f64 (M k)) j = f64 (M j)) := fun j hj => by
        unfold cat; split
        · rfl
        · rw [show j = k by omega]
      have HZ : Hid (∀ j, f64 (M j) < 18446744073709551616) := fun j => by have := hF64 j; omega
      have hFlt : f64 (M k) < 18446744073709551616 := by omega
      have hle : w.heap.size ≤ (wr.alloc (.cells #[.float .f64 (f64 (M k))] 22)).heap.size := by have := HB.out.size; simp; omega
      have HLE : Hid (w.heap.size ≤ (wr.alloc (.cells #[.float .f64 (f64 (M k))] 22)).heap.size) := hle
      clear hM hM2 hF64 HS hL hMk hle
      go_wp2_with (at_builtin; refine wpList_app rfl _ _ rfl rfl (HF.out.alloc _) HLE.out (sl_one wr (f64 (M k)) hFlt) (k + 1) rfl (by omega) rfl rfl ?_; intro a2 c2 w2 hF2 hS2 hG2)
      go_roundw
      case rel =>
        refine ⟨k + 1, s + M k, a2, c2, by omega, by go_num, by go_num, rfl, by omega, ?_, (HB.out.alloc HB.out.size _).grown hG2 HLE.out HF.out.row, hF2.congr HZ.out HC.out⟩
        rw [HSum.out]; exact HM.out.symm
      case measure => simp [intOf]; omega
    · obtain rfl : k = n := by omega
      clear HS hM
      have HX : Hid (∀ j, f64 (M j) < 18446744073709551616) := fun j => by have := hF64 j; omega
      clear hF64 hM2
      cases iB
      · have HT := HTL.out k (fun j => f64 (M j)) (f64 (sumN M k)) (Or.inl ⟨rfl, rfl, fun _ => rfl, rfl⟩)
        rw [← HSum.out] at HT
        have HFF := HF.out
        obtain ⟨X, hXd⟩ : ∃ X : Nat → Nat, X = fun j => f64 (M j) := ⟨_, rfl⟩
        rw [← hXd] at HT HFF
        have HXl : Hid (∀ j, X j < 18446744073709551616) := by rw [hXd]; exact HX.out
        clear hXd HX HF HTL HSum
        have hfo : floatOfInt .f64 ((s : Nat) : Int) = f64 s := rfl
        generalize f64 s = W at HT hfo
        obtain ⟨p, hp, hq⟩ := turn_any k0 k
        obtain ⟨C, D, Y, Z, hC, hD, hY, hZl, hZe, oW, cX, cZ, cC, cD, c11, c20⟩ := HT p hp
        clear HT
        have HYl : Hid (∀ j, Y j < 18446744073709551616) := fun j => by rw [hY]; exact HXl.out _
        have HYd : Hid (∀ j, Y j = X (p + j)) := hY
        have HZl : Hid (∀ j, Z j < 18446744073709551616) := hZl
        have HZe : Hid (∀ j, j < k → cat Y (k - p) X j = Z j) := hZe
        have HYe : Hid (∀ m j, j < m → cat (fun _ => 0) 0 Y j = Y j) := fun m j _ => by rw [cat_zero]
        clear hY hZl hZe
        rcases HFF.2.2 with ⟨e, h0⟩ | ⟨g, cap, cur, e, -⟩
        · obtain ⟨rfl, rfl⟩ : ax = none ∧ cx = 0 := by simpa using (by injection e with e1 e2 e3; exact ⟨e1, e3⟩ : ax = none ∧ cx = 0)
          subst h0
          obtain rfl : p = 0 := by omega
          have HSl : Hid (Sl wr none 0 0 X) := Sl.empty _ _ _ (by decide) _ HXl.out
          have HS1 : Hid (Sl wr none 0 0 Y) := Sl.empty _ _ _ (by decide) _ HYl.out
          rw [Nat.sub_self] at cD HZe
          have hq0 : k0.tmod (0 + 1) = 0 := by simp
          clear hq HYd HFF
          go_wp2_with (go_at_call 18; refine (cX _ _ _ (by exact HSl.out)).mono ?_; rintro e w' ⟨rfl, hw⟩; replace hw := hw.symm; subst hw)
          go_region_held3 (fun _ => True) (trivial) (first
            | (go_at_call 18; refine (cZ _ _ _ (by exact hS5)).mono ?_; rintro e w' ⟨rfl, hw⟩; replace hw := hw.symm; subst hw)
            | (refine step_app1 (by rfl) _ _ (by rfl) (by rfl) (by exact hF4) (by exact grown_le0 hG4) (by exact HSl.out.below (below_made hG4)) 0 (by omega) (by omega) Z HZl.out HZe.out (by rfl) (by rfl) ?_; intro a5 k5 w5 hF5 hS5 hG5)
            | (refine step_app1 (by rfl) _ _ (by rfl) (by rfl) (FR.drew (FR.made _ wr (Nat.le_refl _))) (by simp) (HS1.out.below ((below_refl wr).alloc (Nat.le_refl _) _).drew) 0 (by omega) (by omega) Y HYl.out (HYe.out _) (by rfl) (by rfl) ?_; intro a4 k4 w4 hF4 hS4 hG4))
          have HB5 : Hid (Below wr.heap.size wr w5) := (below_made hG4).grown hG5 (grown_le0 hG4) hF4.row
          clear hF4 hF5 hS4 hS5 hG4 hG5 cX cZ HZl HZe HYe
          go_wp2_with (go_at_call 18; fail)
          refine (cC _ _ _ (by exact HSl.out.below HB5.out)).mono ?_
          rintro e w6 ⟨rfl, hw⟩; replace hw := hw.symm; subst hw
          go_wp2_with (go_at_call 18; fail)
          refine (cD _ _ _ (by exact HS1.out.below HB5.out)).mono ?_
          rintro e w7 ⟨rfl, hw⟩; replace hw := hw.symm; subst hw
          clear cC cD
          go_wp2_with (first | (go_at_call 11; refine (c11 _).mono ?_; rintro e w' ⟨rfl, hw⟩; replace hw := hw.symm; subst hw) | (go_at_call 20; refine (c20 _ _ _ (by exact HSl.out.below HB5.out)).mono ?_; rintro e w' ⟨rfl, hw⟩; replace hw := hw.symm; subst hw) | (go_at_call 14; refine (awake_true _).mono ?_; rintro e w8 ⟨rfl, hb⟩))
          go_ret
          exact ⟨rfl, below_step (below_step HB.out HB5.out) hb⟩
        obtain ⟨rfl, rfl⟩ : ax = some ⟨g, 0, none⟩ ∧ cx = cap := by simpa using e
        obtain ⟨a', c', e', hSl⟩ := HFF.sl
        obtain ⟨rfl, rfl⟩ : some ⟨g, 0, none⟩ = a' ∧ cx = c' := by simpa using e'
        have HSl : Hid (Sl wr (some ⟨g, 0, none⟩) k cx X) := hSl
        have hkc : k ≤ cx := hSl.1
        have hcx : cx ≤ 9223372036854775807 := hSl.2.1
        clear hSl e e' HFF
        have i1 : (0 : Int) ≤ (p : Int) := by omega
        have i2 : (p : Int) ≤ (k : Int) := by omega
        have i3 : (p : Int) ≤ (cx : Int) := by omega
        by_cases hcp : cx = p
        · obtain rfl : p = k := by omega
          obtain rfl : cx = p := hcp
          have HS1 : Hid (Sl wr (some ⟨g, 0, none⟩) 0 0 Y) := Sl.empty _ _ _ (by decide) _ HYl.out
          have HS2 : Hid (Sl wr (some ⟨g, 0, none⟩) cx cx X) := HSl.out
          rw [Nat.sub_self] at cD HZe
          rcases hq with hq | ⟨q, hq, q1, q2, q3⟩
          · clear HYd
            go_wp2_with (go_at_call 18; refine (cX _ _ _ (by exact HSl.out)).mono ?_; rintro e w' ⟨rfl, hw⟩; replace hw := hw.symm; subst hw)
            go_region_held3 (fun _ => True) (trivial) (first
              | (go_at_call 18; refine (cZ _ _ _ (by exact hS5)).mono ?_; rintro e w' ⟨rfl, hw⟩; replace hw := hw.symm; subst hw)
              | (refine step_app1 (by rfl) _ _ (by rfl) (by rfl) (by exact hF4) (by exact grown_le0 hG4) (by exact HS2.out.below (below_made hG4)) cx (by omega) (by omega) Z HZl.out HZe.out (by rfl) (by rfl) ?_; intro a5 k5 w5 hF5 hS5 hG5)
              | (refine step_app1 (by rfl) _ _ (by rfl) (by rfl) (FR.drew (FR.made _ wr (Nat.le_refl _))) (by simp) (HS1.out.below ((below_refl wr).alloc (Nat.le_refl _) _).drew) 0 (by omega) (by omega) Y HYl.out (HYe.out _) (by rfl) (by rfl) ?_; intro a4 k4 w4 hF4 hS4 hG4))
            have HB5 : Hid (Below wr.heap.size wr w5) := (below_made hG4).grown hG5 (grown_le0 hG4) hF4.row
            clear hF4 hF5 hS4 hS5 hG4 hG5 cX cZ HZl HZe HYe
            go_wp2_with (go_at_call 18; fail)
            refine (cC _ _ _ (by exact HS2.out.below HB5.out)).mono ?_
            rintro e w6 ⟨rfl, hw⟩; replace hw := hw.symm; subst hw
            go_wp2_with (go_at_call 18; fail)
            refine (cD _ _ _ (by exact HS1.out.below HB5.out)).mono ?_
            rintro e w7 ⟨rfl, hw⟩; replace hw := hw.symm; subst hw
            clear cC cD
            go_wp2_with (first | (go_at_call 11; refine (c11 _).mono ?_; rintro e w' ⟨rfl, hw⟩; replace hw := hw.symm; subst hw) | (go_at_call 20; refine (c20 _ _ _ (by exact HSl.out.below HB5.out)).mono ?_; rintro e w' ⟨rfl, hw⟩; replace hw := hw.symm; subst hw) | (go_at_call 14; refine (awake_true _).mono ?_; rintro e w8 ⟨rfl, hb⟩))
            go_ret
            exact ⟨rfl, below_step (below_step HB.out HB5.out) hb⟩
          · clear HYd
            go_wp2_with (go_at_call 18; refine (cX _ _ _ (by exact HSl.out)).mono ?_; rintro e w' ⟨rfl, hw⟩; replace hw := hw.symm; subst hw)
            go_region_held3 (fun _ => True) (trivial) (first
              | (go_at_call 18; refine (cZ _ _ _ (by exact hS5)).mono ?_; rintro e w' ⟨rfl, hw⟩; replace hw := hw.symm; subst hw)
              | (refine step_app1 (by rfl) _ _ (by rfl) (by rfl) (by exact hF4) (by exact grown_le0 hG4) (by exact HS2.out.below (below_made hG4)) cx (by omega) (by omega) Z HZl.out HZe.out (by rfl) (by rfl) ?_; intro a5 k5 w5 hF5 hS5 hG5)
              | (refine step_app1 (by rfl) _ _ (by rfl) (by rfl) (FR.drew (FR.made _ wr (Nat.le_refl _))) (by simp) (HS1.out.below ((below_refl wr).alloc (Nat.le_refl _) _).drew) 0 (by omega) (by omega) Y HYl.out (HYe.out _) (by rfl) (by rfl) ?_; intro a4 k4 w4 hF4 hS4 hG4))
            have HB5 : Hid (Below wr.heap.size wr w5) := (below_made hG4).grown hG5 (grown_le0 hG4) hF4.row
            clear hF4 hF5 hS4 hS5 hG4 hG5 cX cZ HZl HZe HYe
            go_wp2_with (go_at_call 18; fail)
            refine (cC _ _ _ (by exact HS2.out.below HB5.out)).mono ?_
            rintro e w6 ⟨rfl, hw⟩; replace hw := hw.symm; subst hw
            go_wp2_with (go_at_call 18; fail)
            refine (cD _ _ _ (by exact HS1.out.below HB5.out)).mono ?_
            rintro e w7 ⟨rfl, hw⟩; replace hw := hw.symm; subst hw
            clear cC cD
            go_wp2_with (first | (go_at_call 11; refine (c11 _).mono ?_; rintro e w' ⟨rfl, hw⟩; replace hw := hw.symm; subst hw) | (go_at_call 20; refine (c20 _ _ _ (by exact HSl.out.below HB5.out)).mono ?_; rintro e w' ⟨rfl, hw⟩; replace hw := hw.symm; subst hw) | (go_at_call 14; refine (awake_true _).mono ?_; rintro e w8 ⟨rfl, hb⟩))
            go_ret
            exact ⟨rfl, below_step (below_step HB.out HB5.out) hb⟩
        · have HS1 : Hid (Sl wr (some ⟨g, p, none⟩) (k - p) (cx - p) Y) := by
            have := HSl.out.tail p (k - p) (cx - p) (by omega) (by omega) HYd.out
            rwa [Nat.zero_add] at this
          have HS2 : Hid (Sl wr (some ⟨g, 0, none⟩) p cx X) := HSl.out.head p hp
          rcases hq with hq | ⟨q, hq, q1, q2, q3⟩
          · clear HYd
            go_wp2_with (go_at_call 18; refine (cX _ _ _ (by exact HSl.out)).mono ?_; rintro e w' ⟨rfl, hw⟩; replace hw := hw.symm; subst hw)
            go_region_held3 (fun _ => True) (trivial) (first
              | (go_at_call 18; refine (cZ _ _ _ (by exact hS5)).mono ?_; rintro e w' ⟨rfl, hw⟩; replace hw := hw.symm; subst hw)
              | (refine step_app1 (by rfl) _ _ (by rfl) (by rfl) (by exact hF4) (by exact grown_le0 hG4) (by exact HS2.out.below (below_made hG4)) k (by omega) (by omega) Z HZl.out HZe.out (by rfl) (by rfl) ?_; intro a5 k5 w5 hF5 hS5 hG5)
              | (refine step_app1 (by rfl) _ _ (by rfl) (by rfl) (FR.drew (FR.made _ wr (Nat.le_refl _))) (by simp) (HS1.out.below ((below_refl wr).alloc (Nat.le_refl _) _).drew) (k - p) (by omega) (by omega) Y HYl.out (HYe.out _) (by rfl) (by rfl) ?_; intro a4 k4 w4 hF4 hS4 hG4))
            have HB5 : Hid (Below wr.heap.size wr w5) := (below_made hG4).grown hG5 (grown_le0 hG4) hF4.row
            clear hF4 hF5 hS4 hS5 hG4 hG5 cX cZ HZl HZe HYe
            go_wp2_with (go_at_call 18; fail)
            refine (cC _ _ _ (by exact HS2.out.below HB5.out)).mono ?_
            rintro e w6 ⟨rfl, hw⟩; replace hw := hw.symm; subst hw
            go_wp2_with (go_at_call 18; fail)
            refine (cD _ _ _ (by exact HS1.out.below HB5.out)).mono ?_
            rintro e w7 ⟨rfl, hw⟩; replace hw := hw.symm; subst hw
            clear cC cD
            go_wp2_with (first | (go_at_call 11; refine (c11 _).mono ?_; rintro e w' ⟨rfl, hw⟩; replace hw := hw.symm; subst hw) | (go_at_call 20; refine (c20 _ _ _ (by exact HSl.out.below HB5.out)).mono ?_; rintro e w' ⟨rfl, hw⟩; replace hw := hw.symm; subst hw) | (go_at_call 14; refine (awake_true _).mono ?_; rintro e w8 ⟨rfl, hb⟩))
            go_ret
            exact ⟨rfl, below_step (below_step HB.out HB5.out) hb⟩
          · clear HYd
            go_wp2_with (go_at_call 18; refine (cX _ _ _ (by exact HSl.out)).mono ?_; rintro e w' ⟨rfl, hw⟩; replace hw := hw.symm; subst hw)
            go_region_held3 (fun _ => True) (trivial) (first
              | (go_at_call 18; refine (cZ _ _ _ (by exact hS5)).mono ?_; rintro e w' ⟨rfl, hw⟩; replace hw := hw.symm; subst hw)
              | (refine step_app1 (by rfl) _ _ (by rfl) (by rfl) (by exact hF4) (by exact grown_le0 hG4) (by exact HS2.out.below (below_made hG4)) k (by omega) (by omega) Z HZl.out HZe.out (by rfl) (by rfl) ?_; intro a5 k5 w5 hF5 hS5 hG5)
              | (refine step_app1 (by rfl) _ _ (by rfl) (by rfl) (FR.drew (FR.made _ wr (Nat.le_refl _))) (by simp) (HS1.out.below ((below_refl wr).alloc (Nat.le_refl _) _).drew) (k - p) (by omega) (by omega) Y HYl.out (HYe.out _) (by rfl) (by rfl) ?_; intro a4 k4 w4 hF4 hS4 hG4))
            have HB5 : Hid (Below wr.heap.size wr w5) := (below_made hG4).grown hG5 (grown_le0 hG4) hF4.row
            clear hF4 hF5 hS4 hS5 hG4 hG5 cX cZ HZl HZe HYe
            go_wp2_with (go_at_call 18; fail)
            refine (cC _ _ _ (by exact HS2.out.below HB5.out)).mono ?_
            rintro e w6 ⟨rfl, hw⟩; replace hw := hw.symm; subst hw
            go_wp2_with (go_at_call 18; fail)
            refine (cD _ _ _ (by exact HS1.out.below HB5.out)).mono ?_
            rintro e w7 ⟨rfl, hw⟩; replace hw := hw.symm; subst hw
            clear cC cD
            go_wp2_with (first | (go_at_call 11; refine (c11 _).mono ?_; rintro e w' ⟨rfl, hw⟩; replace hw := hw.symm; subst hw) | (go_at_call 20; refine (c20 _ _ _ (by exact HSl.out.below HB5.out)).mono ?_; rintro e w' ⟨rfl, hw⟩; replace hw := hw.symm; subst hw) | (go_at_call 14; refine (awake_true _).mono ?_; rintro e w8 ⟨rfl, hb⟩))
            go_ret
            exact ⟨rfl, below_step (below_step HB.out HB5.out) hb⟩
      · obtain ⟨N, hN⟩ : ∃ N, k + 1 = N := ⟨_, rfl⟩
        have HT := HTL.out N (fun j => if j < k then f64 (M j) else 9218868437227405312) 9218868437227405312 (Or.inr ⟨rfl, hN.symm, fun _ => rfl, rfl⟩)
        have HFF : Hid (FR w.heap.size wr (.slice ax k cx) k (fun j => if j < k then f64 (M j) else 9218868437227405312)) := HF.out.congr (fun j => by split; exact HX.out j; decide) (fun j hj => by rw [if_pos hj])
        obtain ⟨X, hXd⟩ : ∃ X : Nat → Nat, X = fun j => if j < k then f64 (M j) else 9218868437227405312 := ⟨_, rfl⟩
        rw [← hXd] at HT HFF
        have HXl : Hid (∀ j, X j < 18446744073709551616) := HFF.out.1
        have HXk : Hid (X (N - 1) = 9218868437227405312) := show X (N - 1) = 9218868437227405312 by rw [hXd, show N - 1 = k by omega]; simp
        have HXe : Hid (∀ j, j < N → cat X k (fun _ => 9218868437227405312) j = X j) := fun j hj => by
          unfold cat; split
          · rfl
          · rw [show j = N - 1 by omega]; exact HXk.out.symm
        have hle : w.heap.size ≤ (wr.alloc (.cells #[.float .f64 9218868437227405312] 22)).heap.size := by have := HB.out.size; simp; omega
        have HLE : Hid (w.heap.size ≤ (wr.alloc (.cells #[.float .f64 9218868437227405312] 22)).heap.size) := hle
        clear hle
        clear hXd HX HF HTL HSum
        have hfo : floatOfInt .f64 ((s : Nat) : Int) = f64 s := rfl
        generalize f64 s = W0 at hfo
        obtain ⟨p, hp, hq⟩ := turn_any k0 N
        obtain ⟨C, D, Y, Z, hC, hD, hY, hZl, hZe, oW, cX, cZ, cC, cD, c11, c20⟩ := HT p hp
        clear HT
        have HYl : Hid (∀ j, Y j < 18446744073709551616) := fun j => by rw [hY]; exact HXl.out _
        have HYd : Hid (∀ j, Y j = X (p + j)) := hY
        have HZl : Hid (∀ j, Z j < 18446744073709551616) := hZl
        have HZe : Hid (∀ j, j < N → cat Y (N - p) X j = Z j) := hZe
        have HYe : Hid (∀ m j, j < m → cat (fun _ => 0) 0 Y j = Y j) := fun m j _ => by rw [cat_zero]
        clear hY hZl hZe
        rcases hq with hq | ⟨q, hq, q1, q2, q3⟩
        · go_wp2_with (first
            | (go_at_call 22; refine (rof_inf _).mono ?_; rintro e w' ⟨rfl, hw⟩; replace hw := hw.symm; subst hw)
            | (go_at_call 18; fail)
            | (at_builtin; refine wpList_app1 rfl _ _ rfl rfl (HFF.out.alloc _) HLE.out (sl_one wr 9218868437227405312 (by decide)) N (by omega) (by omega) (by omega) X HXl.out HXe.out rfl rfl ?_; intro g cx w3 hF3 hS3 hG3 hc3; have hcl := hc3 (N - 1) (by omega); rw [HXk.out] at hcl; clear hc3))
          have HB3 : Hid (Below w.heap.size w w3) := (HB.out.alloc HB.out.size _).grown hG3 HLE.out HFF.out.row
          have HSl : Hid (Sl w3 (some ⟨g, 0, none⟩) N cx X) := hS3
          have hkc : N ≤ cx := hS3.1
          have hcx : cx ≤ 9223372036854775807 := hS3.2.1
          clear hS3 hF3 hG3 HFF HXe HXk hcl HLE
          have i1 : (0 : Int) ≤ (p : Int) := by omega
          have i2 : (p : Int) ≤ (N : Int) := by omega
          have i3 : (p : Int) ≤ (cx : Int) := by omega
          by_cases hcp : cx = p
          · obtain rfl : p = N := by omega
            obtain rfl : cx = p := hcp
            have HS1 : Hid (Sl w3 (some ⟨g, 0, none⟩) 0 0 Y) := Sl.empty _ _ _ (by decide) _ HYl.out
            have HS2 : Hid (Sl w3 (some ⟨g, 0, none⟩) cx cx X) := HSl.out
            rw [Nat.sub_self] at cD HZe
            clear HYd
            refine (cX _ _ _ (by exact HSl.out)).mono ?_
            rintro e w' ⟨rfl, hw⟩; replace hw := hw.symm; subst hw
            go_wp2
            go_region_held3 (fun _ => True) (trivial) (first
              | (go_at_call 18; refine (cZ _ _ _ (by exact hS5)).mono ?_; rintro e w' ⟨rfl, hw⟩; replace hw := hw.symm; subst hw)
              | (refine step_app1 (by rfl) _ _ (by rfl) (by rfl) (by exact hF4) (by exact grown_le0 hG4) (by exact HS2.out.below (below_made hG4)) cx (by omega) (by omega) Z HZl.out HZe.out (by rfl) (by rfl) ?_; intro a5 k5 w5 hF5 hS5 hG5)
              | (refine step_app1 (by rfl) _ _ (by rfl) (by rfl) (FR.drew (FR.made _ w3 (Nat.le_refl _))) (by simp) (HS1.out.below ((below_refl w3).alloc (Nat.le_refl _) _).drew) 0 (by omega) (by omega) Y HYl.out (HYe.out _) (by rfl) (by rfl) ?_; intro a4 k4 w4 hF4 hS4 hG4))
            have HB5 : Hid (Below w3.heap.size w3 w5) := (below_made hG4).grown hG5 (grown_le0 hG4) hF4.row
            clear hF4 hF5 hS4 hS5 hG4 hG5 cX cZ HZl HZe HYe
            go_wp2_with (go_at_call 18; fail)
            refine (cC _ _ _ (by exact HS2.out.below HB5.out)).mono ?_
            rintro e w6 ⟨rfl, hw⟩; replace hw := hw.symm; subst hw
            go_wp2_with (go_at_call 18; fail)
            refine (cD _ _ _ (by exact HS1.out.below HB5.out)).mono ?_
            rintro e w7 ⟨rfl, hw⟩; replace hw := hw.symm; subst hw
            clear cC cD
            go_wp2_with (first | (go_at_call 11; refine (c11 _).mono ?_; rintro e w' ⟨rfl, hw⟩; replace hw := hw.symm; subst hw) | (go_at_call 20; refine (c20 _ _ _ (by exact HSl.out.below HB5.out)).mono ?_; rintro e w' ⟨rfl, hw⟩; replace hw := hw.symm; subst hw) | (go_at_call 14; refine (awake_true _).mono ?_; rintro e w8 ⟨rfl, hb⟩))
            go_ret
            exact ⟨rfl, below_step (below_step HB3.out HB5.out) hb⟩
          · have HS1 : Hid (Sl w3 (some ⟨g, p, none⟩) (N - p) (cx - p) Y) := by
              have := HSl.out.tail p (N - p) (cx - p) (by omega) (by omega) HYd.out
              rwa [Nat.zero_add] at this
            have HS2 : Hid (Sl w3 (some ⟨g, 0, none⟩) p cx X) := HSl.out.head p hp
            clear HYd
            refine (cX _ _ _ (by exact HSl.out)).mono ?_
            rintro e w' ⟨rfl, hw⟩; replace hw := hw.symm; subst hw
            go_wp2
            go_region_held3 (fun _ => True) (trivial) (first
              | (go_at_call 18; refine (cZ _ _ _ (by exact hS5)).mono ?_; rintro e w' ⟨rfl, hw⟩; replace hw := hw.symm; subst hw)
              | (refine step_app1 (by rfl) _ _ (by rfl) (by rfl) (by exact hF4) (by exact grown_le0 hG4) (by exact HS2.out.below (below_made hG4)) N (by omega) (by omega) Z HZl.out HZe.out (by rfl) (by rfl) ?_; intro a5 k5 w5 hF5 hS5 hG5)
              | (refine step_app1 (by rfl) _ _ (by rfl) (by rfl) (FR.drew (FR.made _ w3 (Nat.le_refl _))) (by simp) (HS1.out.below ((below_refl w3).alloc (Nat.le_refl _) _).drew) (N - p) (by omega) (by omega) Y HYl.out (HYe.out _) (by rfl) (by rfl) ?_; intro a4 k4 w4 hF4 hS4 hG4))
            have HB5 : Hid (Below w3.heap.size w3 w5) := (below_made hG4).grown hG5 (grown_le0 hG4) hF4.row
            clear hF4 hF5 hS4 hS5 hG4 hG5 cX cZ HZl HZe HYe
            go_wp2_with (go_at_call 18; fail)
            refine (cC _ _ _ (by exact HS2.out.below HB5.out)).mono ?_
            rintro e w6 ⟨rfl, hw⟩; replace hw := hw.symm; subst hw
            go_wp2_with (go_at_call 18; fail)
            refine (cD _ _ _ (by exact HS1.out.below HB5.out)).mono ?_
            rintro e w7 ⟨rfl, hw⟩; replace hw := hw.symm; subst hw
            clear cC cD
            go_wp2_with (first | (go_at_call 11; refine (c11 _).mono ?_; rintro e w' ⟨rfl, hw⟩; replace hw := hw.symm; subst hw) | (go_at_call 20; refine (c20 _ _ _ (by exact HSl.out.below HB5.out)).mono ?_; rintro e w' ⟨rfl, hw⟩; replace hw := hw.symm; subst hw) | (go_at_call 14; refine (awake_true _).mono ?_; rintro e w8 ⟨rfl, hb⟩))
            go_ret
            exact ⟨rfl, below_step (below_step HB3.out HB5.out) hb⟩
        · go_wp2_with (first
            | (go_at_call 22; refine (rof_inf _).mono ?_; rintro e w' ⟨rfl, hw⟩; replace hw := hw.symm; subst hw)
            | (go_at_call 18; fail)
            | (at_builtin; refine wpList_app1 rfl _ _ rfl rfl (HFF.out.alloc _) HLE.out (sl_one wr 9218868437227405312 (by decide)) N (by omega) (by omega) (by omega) X HXl.out HXe.out rfl rfl ?_; intro g cx w3 hF3 hS3 hG3 hc3; have hcl := hc3 (N - 1) (by omega); rw [HXk.out] at hcl; clear hc3))
          have HB3 : Hid (Below w.heap.size w w3) := (HB.out.alloc HB.out.size _).grown hG3 HLE.out HFF.out.row
          have HSl : Hid (Sl w3 (some ⟨g, 0, none⟩) N cx X) := hS3
          have hkc : N ≤ cx := hS3.1
          have hcx : cx ≤ 9223372036854775807 := hS3.2.1
          clear hS3 hF3 hG3 HFF HXe HXk hcl HLE
          have i1 : (0 : Int) ≤ (p : Int) := by omega
          have i2 : (p : Int) ≤ (N : Int) := by omega
          have i3 : (p : Int) ≤ (cx : Int) := by omega
          by_cases hcp : cx = p
          · obtain rfl : p = N := by omega
            obtain rfl : cx = p := hcp
            have HS1 : Hid (Sl w3 (some ⟨g, 0, none⟩) 0 0 Y) := Sl.empty _ _ _ (by decide) _ HYl.out
            have HS2 : Hid (Sl w3 (some ⟨g, 0, none⟩) cx cx X) := HSl.out
            rw [Nat.sub_self] at cD HZe
            clear HYd
            refine (cX _ _ _ (by exact HSl.out)).mono ?_
            rintro e w' ⟨rfl, hw⟩; replace hw := hw.symm; subst hw
            go_wp2
            go_region_held3 (fun _ => True) (trivial) (first
              | (go_at_call 18; refine (cZ _ _ _ (by exact hS5)).mono ?_; rintro e w' ⟨rfl, hw⟩; replace hw := hw.symm; subst hw)
              | (refine step_app1 (by rfl) _ _ (by rfl) (by rfl) (by exact hF4) (by exact grown_le0 hG4) (by exact HS2.out.below (below_made hG4)) cx (by omega) (by omega) Z HZl.out HZe.out (by rfl) (by rfl) ?_; intro a5 k5 w5 hF5 hS5 hG5)
              | (refine step_app1 (by rfl) _ _ (by rfl) (by rfl) (FR.drew (FR.made _ w3 (Nat.le_refl _))) (by simp) (HS1.out.below ((below_refl w3).alloc (Nat.le_refl _) _).drew) 0 (by omega) (by omega) Y HYl.out (HYe.out _) (by rfl) (by rfl) ?_; intro a4 k4 w4 hF4 hS4 hG4))
            have HB5 : Hid (Below w3.heap.size w3 w5) := (below_made hG4).grown hG5 (grown_le0 hG4) hF4.row
            clear hF4 hF5 hS4 hS5 hG4 hG5 cX cZ HZl HZe HYe
            go_wp2_with (go_at_call 18; fail)
            refine (cC _ _ _ (by exact HS2.out.below HB5.out)).mono ?_
            rintro e w6 ⟨rfl, hw⟩; replace hw := hw.symm; subst hw
            go_wp2_with (go_at_call 18; fail)
            refine (cD _ _ _ (by exact HS1.out.below HB5.out)).mono ?_
            rintro e w7 ⟨rfl, hw⟩; replace hw := hw.symm; subst hw
            clear cC cD
            go_wp2_with (first | (go_at_call 11; refine (c11 _).mono ?_; rintro e w' ⟨rfl, hw⟩; replace hw := hw.symm; subst hw) | (go_at_call 20; refine (c20 _ _ _ (by exact HSl.out.below HB5.out)).mono ?_; rintro e w' ⟨rfl, hw⟩; replace hw := hw.symm; subst hw) | (go_at_call 14; refine (awake_true _).mono ?_; rintro e w8 ⟨rfl, hb⟩))
            go_ret
            exact ⟨rfl, below_step (below_step HB3.out HB5.out) hb⟩
          · have HS1 : Hid (Sl w3 (some ⟨g, p, none⟩) (N - p) (cx - p) Y) := by
              have := HSl.out.tail p (N - p) (cx - p) (by omega) (by omega) HYd.out
              rwa [Nat.zero_add] at this
            have HS2 : Hid (Sl w3 (some ⟨g, 0, none⟩) p cx X) := HSl.out.head p hp
            clear HYd
            refine (cX _ _ _ (by exact HSl.out)).mono ?_
            rintro e w' ⟨rfl, hw⟩; replace hw := hw.symm; subst hw
            go_wp2
            go_region_held3 (fun _ => True) (trivial) (first
              | (go_at_call 18; refine (cZ _ _ _ (by exact hS5)).mono ?_; rintro e w' ⟨rfl, hw⟩; replace hw := hw.symm; subst hw)
              | (refine step_app1 (by rfl) _ _ (by rfl) (by rfl) (by exact hF4) (by exact grown_le0 hG4) (by exact HS2.out.below (below_made hG4)) N (by omega) (by omega) Z HZl.out HZe.out (by rfl) (by rfl) ?_; intro a5 k5 w5 hF5 hS5 hG5)
              | (refine step_app1 (by rfl) _ _ (by rfl) (by rfl) (FR.drew (FR.made _ w3 (Nat.le_refl _))) (by simp) (HS1.out.below ((below_refl w3).alloc (Nat.le_refl _) _).drew) (N - p) (by omega) (by omega) Y HYl.out (HYe.out _) (by rfl) (by rfl) ?_; intro a4 k4 w4 hF4 hS4 hG4))
            have HB5 : Hid (Below w3.heap.size w3 w5) := (below_made hG4).grown hG5 (grown_le0 hG4) hF4.row
            clear hF4 hF5 hS4 hS5 hG4 hG5 cX cZ HZl HZe HYe
            go_wp2_with (go_at_call 18; fail)
            refine (cC _ _ _ (by exact HS2.out.below HB5.out)).mono ?_
            rintro e w6 ⟨rfl, hw⟩; replace hw := hw.symm; subst hw
            go_wp2_with (go_at_call 18; fail)
            refine (cD _ _ _ (by exact HS1.out.below HB5.out)).mono ?_
            rintro e w7 ⟨rfl, hw⟩; replace hw := hw.symm; subst hw
            clear cC cD
            go_wp2_with (first | (go_at_call 11; refine (c11 _).mono ?_; rintro e w' ⟨rfl, hw⟩; replace hw := hw.symm; subst hw) | (go_at_call 20; refine (c20 _ _ _ (by exact HSl.out.below HB5.out)).mono ?_; rintro e w' ⟨rfl, hw⟩; replace hw := hw.symm; subst hw) | (go_at_call 14; refine (awake_true _).mono ?_; rintro e w8 ⟨rfl, hb⟩))
            go_ret
            exact ⟨rfl, below_step (below_step HB3.out HB5.out) hb⟩
end Go.Proofs.Ytchdflbnelcjbaa
