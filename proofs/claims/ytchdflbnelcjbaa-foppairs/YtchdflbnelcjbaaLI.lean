/- FopPairs, at every two lists. -/
import Derived.Test.YtchdflbnelcjbaaLH
import Derived.Test.YtchdflbnelcjbaaLG
namespace Go.Proofs.Ytchdflbnelcjbaa
open Go.RowKit Fo
set_option maxRecDepth 100000

theorem turn_at (X Y : Nat → Nat) (n p : Nat) (hp : p < n) (j : Nat) (hj : j < n) : ∃ i, i < n ∧ cat (fun j => Y (p + j)) (n - p) Y j = Y i ∧ cat (fun j => X (p + j)) (n - p) X j = X i := by
  unfold cat
  by_cases h : j < n - p
  · exact ⟨p + j, by omega, by rw [if_pos h], by rw [if_pos h]⟩
  · exact ⟨j - (n - p), by omega, by rw [if_neg h], by rw [if_neg h]⟩
theorem turn_back (X Y : Nat → Nat) (n p : Nat) (hp : p < n) (i : Nat) (hi : i < n) : ∃ j, j < n ∧ cat (fun j => Y (p + j)) (n - p) Y j = Y i ∧ cat (fun j => X (p + j)) (n - p) X j = X i := by
  unfold cat
  by_cases h : p ≤ i
  · refine ⟨i - p, by omega, ?_, ?_⟩
    · rw [if_pos (by omega)]; show Y (p + (i - p)) = Y i; rw [show p + (i - p) = i by omega]
    · rw [if_pos (by omega)]; show X (p + (i - p)) = X i; rw [show p + (i - p) = i by omega]
  · refine ⟨i + (n - p), by omega, ?_, ?_⟩
    · rw [if_neg (by omega), show i + (n - p) - (n - p) = i by omega]
    · rw [if_neg (by omega), show i + (n - p) - (n - p) = i by omega]
theorem pairs_all (a1 : Option Addr) (n cap1 : Nat) (X : Nat → Nat) (a2 : Option Addr) (m cap2 : Nat) (Y : Nat → Nat) (k0 : Int) (w : World) (h1 : Sl w a1 n cap1 X) (h2 : Sl w a2 m cap2 Y) (_ : -9223372036854775808 ≤ k0 ∧ k0 ≤ 9223372036854775807) :
    Calls Try.prog 7 #[.slice a1 n cap1, .slice a2 m cap2, .int .i64 k0] w fun r w' => r = .returned (.bool true) ∧ Below w.heap.size w w' := by
  by_cases hn : 200 < n
  · exact pairs_out a1 n cap1 a2 m cap2 k0 w (Or.inl hn)
  by_cases hne : n = m
  · subst hne
    by_cases hz : n = 0
    · exact pairs_out a1 n cap1 a2 n cap2 k0 w (Or.inr ⟨by omega, Or.inr hz⟩)
    have hX := h1.2.2.1
    have hY := h2.2.2.1
    have hd := dot_any a1 n cap1 a2 n cap2 w X Y (by omega) h1 h2
    have g1 := h1
    have g2 := h2
    obtain ⟨-, -, -, h0 | ⟨b1, off1, rfl, hc1⟩⟩ := h1
    · omega
    obtain ⟨-, -, -, h0 | ⟨b2, off2, rfl, hc2⟩⟩ := h2
    · omega
    unfold dtV dtE at hd
    cases hk : dtOk X Y n n
    · rw [hk] at hd
      exact pairs_bad b1 off1 cap1 b2 off2 cap2 n k0 w (by omega) (by omega) (fun w1 e => by subst e; exact hd)
    · rw [hk] at hd
      have hk' := hk
      unfold dtOk at hk'
      rw [Bool.and_eq_true] at hk'
      have hall := (allB_iff _ n).1 hk'.2
      have htop := dot_top X Y hX hY n
      refine pairs_core b1 off1 cap1 b2 off2 cap2 n k0 w (by omega) (by omega) X Y (dotV X Y n) tm tmE (by omega) g1 g2 hX hY (fun w1 e => by subst e; exact hd) times_any (fun j => decide (tm (X j) (Y j) = dotV X Y n)) ?_ (fun j hj => ?_) (fun p hp => ?_)
      · obtain ⟨j, hj, e⟩ := dot_mem X Y n (by omega)
        exact anyB_of _ j (by simp [e]) n hj
      · have hge := dot_ge X Y n j hj
        have hE : tmE (X j) (Y j) = 0 := by unfold tmE; rw [hall j hj]; rfl
        refine ⟨hE, ?_⟩
        by_cases e : tm (X j) (Y j) = dotV X Y n
        · exact Or.inl ⟨by simp [e], ord_eq (by omega) e⟩
        · exact Or.inr ⟨by simp [e], ord_lt (by omega) (by omega)⟩
      · refine ⟨cat (fun j => Y (p + j)) (n - p) Y, cat (fun j => X (p + j)) (n - p) X, cat_lt _ (fun j => hY _) hY, cat_lt _ (fun j => hX _) hX, fun _ _ => rfl, fun _ _ => rfl, fun a c1 b c2 w1 s1 s2 => ?_⟩
        have h3 := dot_any a n c1 b n c2 w1 _ _ (by omega) s1 s2
        have hv := dot_turn X Y (cat (fun j => Y (p + j)) (n - p) Y) (cat (fun j => X (p + j)) (n - p) X) n (fun j hj => turn_at X Y n p hp j hj) (fun i hi => turn_back X Y n p hp i hi)
        have ho : dtOk (cat (fun j => Y (p + j)) (n - p) Y) (cat (fun j => X (p + j)) (n - p) X) n n = true := by
          unfold dtOk
          rw [hk'.1, Bool.true_and]
          refine (allB_iff _ n).2 fun j hj => ?_
          obtain ⟨i, hi, e1, e2⟩ := turn_at X Y n p hp j hj
          show tmOk (cat (fun j => Y (p + j)) (n - p) Y j) (cat (fun j => X (p + j)) (n - p) X j) = true
          rw [e1, e2, tmOk_comm]; exact hall i hi
        unfold dtV dtE at h3
        rw [ho, hv] at h3
        exact h3
  · exact pairs_out a1 n cap1 a2 m cap2 k0 w (Or.inr ⟨by omega, Or.inl hne⟩)
end Go.Proofs.Ytchdflbnelcjbaa
