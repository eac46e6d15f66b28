/- Paths, written: bare, Text. -/
import Derived.Test.YtbgkfjelgnbfmaaGreatDoorPtx
namespace Go.Proofs.YtbgkfjelgnbfmaaGreatDoor
open Go.RowKit Fo
set_option maxRecDepth 100000
set_option linter.unusedSimpArgs false
set_option linter.unusedVariables false

namespace Fo
/-- Texts of paths that are not too great are not too long. -/
theorem tx_len (t : PT) : ck t = 0 → sz t ≤ 60 → ((tx t).length : Int) + 1 ≤ 64 * sz t ∧ 1 ≤ sz t ∧ (t.kind = 5 → ((tx t).length : Int) + 65 ≤ 64 * sz t) ∧ (t.kind = 4 → ((tx t).length : Int) + 65 ≤ 64 * sz t) := by
  induction t using PT.ind with
  | h k l ks lo hi ih =>
    intro hc hs
    obtain ⟨ha, hk⟩ := ck_mk hc
    have hsum : ∀ (us : List PT) (n : Int), (∀ u ∈ us, u ∈ ks) → 0 ≤ n → szs us n ≤ 60 → n ≤ szs us n ∧ (∀ u ∈ us, sz u ≤ 60) ∧ ∀ (s : UInt8) (m : Nat), m ≤ 3 → ((txr s m us).length : Int) ≤ 64 * (szs us n - n) := by
      intro us
      induction us with
      | nil => intro n _ h0 h; rw [szs] at h ⊢; refine ⟨Int.le_refl _, fun u hu => (by cases hu), fun s m _ => by rw [txr]; simp⟩
      | cons u us ihs =>
        intro n hm h0 h
        rw [szs] at h ⊢
        have hub := sz_bounds u
        unfold M40 at h hub ⊢
        obtain ⟨a1, a2, a3⟩ := ihs (min (n + sz u) 1099511627776) (fun v hv => hm v (by simp [hv])) (by omega) h
        have hmin : min (n + sz u) 1099511627776 = n + sz u := by omega
        rw [hmin] at h a1 a3 ⊢
        have hu60 : sz u ≤ 60 := by omega
        obtain ⟨b1, b2, b3, b4⟩ := ih u (hm u (by simp)) (hk u (hm u (by simp))) hu60
        refine ⟨by omega, fun v hv => ?_, fun s m hm3 => ?_⟩
        · rcases List.mem_cons.1 hv with rfl | hv
          · exact hu60
          · exact a2 v hv
        · rw [txr_cons]
          have := a3 s m hm3
          have hw : ((win m u).length : Int) + 1 ≤ 64 * sz u := by
            unfold win brk
            split
            · rename_i hb
              have hb' : bnd u.kind < m := by simpa using hb
              rcases bnd_lt3 u with ⟨-, h4 | h5⟩ | ⟨h3, -⟩
              · have := b4 h4; simp; omega
              · have := b3 h5; simp; omega
              · omega
            · omega
          simp only [List.length_cons, List.length_append]
          omega
    have hbig : 0 ≤ szs ks 0 := (szs_bounds ks 0 (fun u _ => sz_bounds u) (Int.le_refl _) (by decide)).1
    have hs' := hs
    rw [sz] at hs' ⊢
    rcases shapes ha with ⟨rfl, rfl⟩ | ⟨c, rfl, l1, l2⟩ | ⟨c, h2, hne⟩ | ⟨c, u, rfl⟩ | ⟨rfl, ⟨u, rfl⟩, b1, b2, b3⟩
    · rw [tx]
      simp [headT, szk, PT.kind]
    · have hn : (nameT l).length ≤ 62 := by
        unfold nameT
        split
        · omega
        · have := esc_len l; simp; omega
      rw [tx]
      rcases c with rfl | rfl
      · simp [headT, szk, PT.kind]; omega
      · simp [headT, szk, PT.kind]; omega
    · have hk45 : szk k (szs ks 0) lo hi = min (szs ks 0 + 1) M40 := by
        unfold szk
        rw [if_neg (by omega), if_pos (by omega)]
      rw [hk45] at hs' ⊢
      unfold M40 at hs' ⊢
      obtain ⟨a1, a2, a3⟩ := hsum ks 0 (fun u hu => hu) (Int.le_refl _) (by omega)
      have hx : ∀ (s : UInt8) (m : Nat), m ≤ 3 → ((txs s m ks).length : Int) + 1 ≤ 64 * szs ks 0 := fun s m hm => by
        have := a3 s m hm
        cases ks with
        | nil => simp at h2
        | cons v vs => rw [txr_cons] at this; rw [txs_cons]; simp at this ⊢; omega
      rw [tx]
      rcases c with rfl | rfl
      · have := hx 47 2 (by omega)
        simp [headT, PT.kind]; omega
      · have := hx 124 1 (by omega)
        simp [headT, PT.kind]; omega
    · have hkk : sz u ≤ 60 → ((win 3 u).length : Int) + 1 ≤ 64 * sz u ∧ 1 ≤ sz u := fun hu60 => by
        obtain ⟨b1, b2, b3, b4⟩ := ih u (by simp) (hk u (by simp)) hu60
        refine ⟨?_, b2⟩
        unfold win brk
        split
        · rename_i hb
          have hb' : bnd u.kind < 3 := by simpa using hb
          rcases bnd_lt3 u with ⟨-, h4 | h5⟩ | ⟨h3, -⟩
          · have := b4 h4; simp; omega
          · have := b3 h5; simp; omega
          · omega
        · omega
      have hss : szs [u] 0 = min (0 + sz u) M40 := by rw [szs, szs]
      have hub := sz_bounds u
      rw [hss] at hs' ⊢
      rw [tx, txs_cons 0 3]
      unfold M40 at *
      rcases c with rfl | rfl | rfl
      · simp only [szk, M40] at hs' ⊢
        simp at hs'
        have := hkk (by omega)
        simp [headT, PT.kind, txr]; omega
      · simp only [szk, M40] at hs' ⊢
        simp at hs'
        have := hkk (by omega)
        simp [headT, PT.kind, txr]; omega
      · simp only [szk, M40] at hs' ⊢
        simp at hs'
        have := hkk (by omega)
        simp [headT, PT.kind, txr]; omega
    · have hss : szs [u] 0 = min (0 + sz u) M40 := by rw [szs, szs]
      have hub := sz_bounds u
      have ht1 : 1 ≤ timesN lo hi := by
        unfold timesN M40
        split <;> omega
      have hpr : sz u ≤ 60 → sz u ≤ prodN (timesN lo hi) (sz u) := fun h => by
        unfold prodN
        split
        · unfold M40; omega
        · calc sz u = 1 * sz u := by omega
            _ ≤ timesN lo hi * sz u := Int.mul_le_mul_of_nonneg_right ht1 hub.1
      have hpr2 : 60 < sz u → 60 < prodN (timesN lo hi) (sz u) := fun h => by
        unfold prodN
        split
        · unfold M40; omega
        · have : 1 * sz u ≤ timesN lo hi * sz u := Int.mul_le_mul_of_nonneg_right ht1 hub.1
          omega
      rw [hss] at hs' ⊢
      have hmin : min (0 + sz u) M40 = sz u := by unfold M40 at *; omega
      rw [hmin] at hs' ⊢
      have hk9 : szk 9 (sz u) lo hi = min (prodN (timesN lo hi) (sz u) + 3) M40 := rfl
      rw [hk9] at hs' ⊢
      unfold M40 at hs' hub ⊢
      have hu60 : sz u ≤ 60 := by
        rcases Int.lt_or_le 60 (sz u) with h | h
        · have := hpr2 h; omega
        · exact h
      have hp := hpr hu60
      obtain ⟨c1, c2, c3, c4⟩ := ih u (by simp) (hk u (by simp)) hu60
      have hw : ((win 3 u).length : Int) + 1 ≤ 64 * sz u := by
        unfold win brk
        split
        · rename_i hb
          have hb' : bnd u.kind < 3 := by simpa using hb
          rcases bnd_lt3 u with ⟨-, h4 | h5⟩ | ⟨h3, -⟩
          · have := c4 h4; simp; omega
          · have := c3 h5; simp; omega
          · omega
        · omega
      have hrl : (repT lo hi).length ≤ 5 := by unfold repT dg; split <;> simp
      rw [tx, txs_cons 0 3]
      have hht : headT 9 l (txs 47 2 [u]) (txs 124 1 [u]) (win 3 u ++ txr 0 3 []) lo hi = win 3 u ++ repT lo hi := by rw [txr]; simp [headT]
      rw [hht]
      simp only [PT.kind, List.length_append]
      refine ⟨by omega, by omega, fun h => by omega, fun h => by omega⟩
end Fo
end Go.Proofs.YtbgkfjelgnbfmaaGreatDoor
