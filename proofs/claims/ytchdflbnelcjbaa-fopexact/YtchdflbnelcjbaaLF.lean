/- What the calls of FopExact answer: sums of whole numbers in whatever order and groups; sums with infinity. -/
import Derived.Test.YtchdflbnelcjbaaLE
namespace Go.Proofs.Ytchdflbnelcjbaa
open Go.RowKit Fo
set_option maxRecDepth 100000

namespace Fo
theorem sumN_add (L : Nat → Nat) (p : Nat) : ∀ m, sumN L (p + m) = sumN L p + sumN (fun j => L (p + j)) m
  | 0 => rfl
  | m + 1 => by
    rw [← Nat.add_assoc, sumN, sumN, sumN_add L p m, Nat.add_assoc]
theorem sumN_congr {L K : Nat → Nat} : ∀ m, (∀ j, j < m → L j = K j) → sumN L m = sumN K m
  | 0, _ => rfl
  | m + 1, h => by rw [sumN, sumN, sumN_congr m (fun j hj => h j (by omega)), h m (by omega)]
theorem sumN_turn (M : Nat → Nat) (N p : Nat) (hp : p ≤ N) : sumN (cat (fun j => M (p + j)) (N - p) M) N = sumN M N := by
  have h1 := sumN_add (cat (fun j => M (p + j)) (N - p) M) (N - p) p
  have h2 : sumN (cat (fun j => M (p + j)) (N - p) M) (N - p) = sumN (fun j => M (p + j)) (N - p) := sumN_congr _ fun j hj => by unfold cat; rw [if_pos hj]
  have h3 : sumN (fun j => cat (fun j => M (p + j)) (N - p) M (N - p + j)) p = sumN M p := sumN_congr _ fun j hj => by
    unfold cat; rw [if_neg (by omega), show N - p + j - (N - p) = j by omega]
  have h4 := sumN_add M p (N - p)
  rw [show N - p + p = N by omega] at h1
  rw [show p + (N - p) = N by omega] at h4
  omega
theorem sumN_le (M : Nat → Nat) (h : ∀ j, M j ≤ 1099511627776) : ∀ k, sumN M k ≤ k * 1099511627776
  | 0 => Nat.zero_le _
  | k + 1 => by have := sumN_le M h k; have := h k; rw [sumN]; omega
theorem ex_f64 (n m : Nat) (hn : n = 1074) (hm : m ≤ 1099511627776) : exB n (f64 m % 9223372036854775808) = true := by
  have h1 := f64_any m hm
  unfold exB wh
  rw [show f64 m % 9223372036854775808 = f64 m by omega, f64_part m n hn (by omega)]
  simp [h1]
theorem exOk_f64 (m : Nat) (hm : m ≤ 1099511627776) : exOk (f64 m) = true := by
  have h1 := f64_any m hm
  unfold exOk
  rw [in_of _ _ (by decide) (show f64 m ≤ 9218868437227405312 by omega), ex_f64 _ m rfl hm]; rfl
theorem exOk_inf : exOk 9218868437227405312 = true := by
  unfold exOk exB
  rw [in_of _ _ (by decide) (Nat.le_refl _)]
  simp
end Fo
/-- Lists of prices: what Path answers. -/
theorem path_all (X : Nat → Nat) (n V : Nat) (hn : n ≤ 4000) (hp : ∀ j, j < n → inTo 9218868437227405312 (X j) = true) (hV : pathV X n = V) (w1 : World) (a : Option Addr) (cap : Nat) (h : Sl w1 a n cap X) :
    Calls Try.prog 18 #[.slice a n cap] w1 fun r w' => r = .returned (.tuple #[.float .f64 V, .int .i64 0]) ∧ w' = w1 := by
  have h1 := path_any a n cap w1 X hn h
  have hk : pthOk X n = true := (allB_iff _ n).2 hp
  unfold pthV pthE at h1
  rw [hk, hV] at h1
  exact h1
theorem tail_of (N : Nat) (X : Nat → Nat) (W p : Nat) (hN : N ≤ 201) (hp : p ≤ N) (hX : ∀ j, X j ≤ 9218868437227405312) (hW : W ≤ 9218868437227405312)
    (h1 : pathV X N = W) (h2 : pathV (cat (fun j => X (p + j)) (N - p) X) N = W) (h3 : ps (pathV X p) (pathV (fun j => X (p + j)) (N - p)) = W) (h4 : ∀ j, exOk (X j) = true) : Tail N X W p := by
  have hin : ∀ j, inTo 9218868437227405312 (X j) = true := fun j => in_of _ _ (by decide) (hX j)
  have hl : ∀ j, X j < 18446744073709551616 := fun j => by have := hX j; omega
  have hC := path_top X hl p
  have hD := path_top (fun j => X (p + j)) (fun j => hl _) (N - p)
  refine ⟨pathV X p, pathV (fun j => X (p + j)) (N - p), fun j => X (p + j), cat (fun j => X (p + j)) (N - p) X, by omega, by omega, fun _ => rfl, cat_lt _ (fun j => hl _) hl, fun _ _ => rfl, ord_eq hW rfl,
    path_all X N W (by omega) (fun j _ => hin j) h1, path_all _ N W (by omega) (fun j _ => ?_) h2, path_all X p _ (by omega) (fun j _ => hin j) rfl, path_all _ (N - p) _ (by omega) (fun j _ => hin _) rfl, fun w1 => ?_, fun w1 a cap h => ?_⟩
  · unfold cat; split
    · exact hin _
    · exact hin _
  · have := plus_any (pathV X p) (pathV (fun j => X (p + j)) (N - p)) (by omega) (by omega) w1
    have hk : psE (pathV X p) (pathV (fun j => X (p + j)) (N - p)) = 0 := by
      unfold psE psOk; rw [in_of _ _ (by decide) hC, in_of _ _ (by decide) hD]; rfl
    rw [h3, hk] at this
    exact this
  · have := exacts_any a N cap w1 X (by omega) h
    rw [show exAll X N = true from (allB_iff _ N).2 fun j _ => h4 j] at this
    exact this
theorem tail_any (M : Nat → Nat) (n : Nat) (iB : Bool) (hn : n ≤ 200) (hM : ∀ j, M j ≤ 1099511627776) (N : Nat) (X : Nat → Nat) (W : Nat) (h : EndOk M n iB N X W) (p : Nat) (hp : p ≤ N) : Tail N X W p := by
  have hF : ∀ j, f64 (M j) ≤ 4787326403894837248 := fun j => f64_any _ (hM j)
  rcases h with ⟨-, rfl, hX, rfl⟩ | ⟨-, rfl, hX, rfl⟩
  · have hs := sumN_le M hM N
    have hs1 := sumN_le M hM p
    have hs2 := sumN_le (fun j => M (p + j)) (fun j => hM _) (N - p)
    have ha := sumN_add M p (N - p)
    rw [show p + (N - p) = N by omega] at ha
    have hW : f64 (sumN M N) ≤ 9218868437227405312 := by have := f64_lt (sumN M N) (by omega); omega
    have e1 : pathV X p = f64 (sumN M p) := path_whole X M p (fun j _ => hX j) (by omega)
    have e2 : pathV (fun j => X (p + j)) (N - p) = f64 (sumN (fun j => M (p + j)) (N - p)) := path_whole _ _ (N - p) (fun j _ => hX _) (by omega)
    refine tail_of N X _ p (by omega) hp (fun j => by rw [hX]; have := hF j; omega) hW (path_whole X M N (fun j _ => hX j) (by omega)) ?_ ?_ (fun j => by rw [hX]; exact exOk_f64 _ (hM j))
    · rw [← sumN_turn M N p hp]
      refine path_whole _ _ N (fun j _ => ?_) (by rw [sumN_turn M N p hp]; omega)
      unfold cat; split
      · exact hX _
      · exact hX _
    · rw [e1, e2, ps_whole _ _ (by omega), ha]
  · have hX1 : ∀ j, X j ≤ 9218868437227405312 := fun j => by
      rw [hX]; split
      · have := hF j; omega
      · exact Nat.le_refl _
    have hin : ∀ j, inTo 9218868437227405312 (X j) = true := fun j => in_of _ _ (by decide) (hX1 j)
    have hl : ∀ j, X j < 18446744073709551616 := fun j => by have := hX1 j; omega
    have hXn : X n = 9218868437227405312 := by rw [hX, if_neg (by omega)]
    refine tail_of (n + 1) X _ p (by omega) hp hX1 (Nat.le_refl _) (path_infs X hl (n + 1) n (fun j _ => hin j) (by omega) hXn) ?_ ?_ (fun j => ?_)
    · by_cases hpn : p ≤ n
      · refine path_infs _ (cat_lt _ (fun j => hl _) hl) (n + 1) (n - p) (fun j _ => ?_) (by omega) ?_
        · unfold cat; split
          · exact hin _
          · exact hin _
        · unfold cat; rw [if_pos (by omega)]; show X (p + (n - p)) = _; rw [show p + (n - p) = n by omega]; exact hXn
      · obtain rfl : p = n + 1 := by omega
        refine path_infs _ (cat_lt _ (fun j => hl _) hl) (n + 1) n (fun j _ => ?_) (by omega) ?_
        · unfold cat; split
          · exact hin _
          · exact hin _
        · unfold cat; rw [if_neg (by omega), show n - (n + 1 - (n + 1)) = n by omega]; exact hXn
    · by_cases hpn : p ≤ n
      · rw [path_infs (fun j => X (p + j)) (fun j => hl _) (n + 1 - p) (n - p) (fun j _ => hin _) (by omega) (by show X (p + (n - p)) = _; rw [show p + (n - p) = n by omega]; exact hXn)]
        exact (ps_inf _ (path_top X hl p)).1
      · obtain rfl : p = n + 1 := by omega
        rw [path_infs X hl (n + 1) n (fun j _ => hin j) (by omega) hXn, Nat.sub_self]
        exact (ps_zero 9218868437227405312 (by decide) (in_of _ _ (by decide) (Nat.le_refl _))).1
    · rw [hX]; split
      · exact exOk_f64 _ (hM j)
      · exact exOk_inf
theorem exact_law (a0 : Option Addr) (n cap1 : Nat) (L : Nat → Int) (k0 : Int) (iB : Bool) (w : World) (hs : Si w a0 n cap1 L) :
    Calls Try.prog 6 #[.slice a0 n cap1, .int .i64 k0, .bool iB] w fun r w' => r = .returned (.bool true) ∧ Below w.heap.size w w' := by
  by_cases hn : 200 < n
  · exact exact_out a0 n cap1 k0 iB w hn
  · exact ex_core a0 n cap1 k0 iB w (by omega) L (fun j => min (L j).toNat 1099511627776) hs (fun j h1 h2 => by
      show L j = ((min (L j).toNat 1099511627776 : Nat) : Int)
      omega) (fun j => Nat.min_le_right _ _) (tail_any _ n iB (by omega) (fun j => Nat.min_le_right _ _))
theorem exact_all (a0 : Option Addr) (n cap1 : Nat) (L : Nat → Int) (k0 : Int) (iB : Bool) (w : World) (hs : Si w a0 n cap1 L) (_ : -9223372036854775808 ≤ k0 ∧ k0 ≤ 9223372036854775807) :
    Calls Try.prog 6 #[.slice a0 n cap1, .int .i64 k0, .bool iB] w fun r w' => r = .returned (.bool true) ∧ Below w.heap.size w w' := exact_law a0 n cap1 L k0 iB w hs
end Go.Proofs.Ytchdflbnelcjbaa
