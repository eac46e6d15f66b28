/- What was written is read as it was: on lists of bytes. -/
import Derived.Test.YtklkcnpcjmeejaaDoorUnb
import Derived.Test.YtklkcnpcjmeejaaDoorByt
import Derived.Test.YtklkcnpcjmeejaaDoorDcl
namespace Go.Proofs.YtklkcnpcjmeejaaDoor
open Go.RowKit Fo
set_option maxRecDepth 100000

theorem dec_len : ∀ k N, 1 ≤ k → N < 10 ^ k → (Lib.decDigits N).length ≤ k
  | 0, _, h, _ => by omega
  | k + 1, N, _, h => by
    by_cases hN : N < 10
    · rw [Lib.decDigits_one hN]; simp
    · rw [dec_big N hN, List.length_append, List.length_singleton]
      have hk : 1 ≤ k := by
        rcases Nat.eq_zero_or_pos k with h0 | h0
        · rw [h0] at h; omega
        · exact h0
      have := dec_len k (N / 10) hk (by rw [Nat.pow_succ] at h; omega)
      omega
theorem val_bound (L : Nat → Nat) (n : Nat) (hL : ∀ j, L j < 4294967296) : lv L n < 10 ^ (10 * n) := by
  refine Nat.lt_of_lt_of_le (lv_lt n fun j _ => hL j) ?_
  rw [Nat.pow_mul]
  exact Nat.pow_le_pow_left (by decide) n
theorem text_len (X : Option Nat) (k : Nat) (hk : 3 ≤ k) (h : ∀ N, X = some N → N < 10 ^ k) : (otext X).length ≤ k := by
  cases X with
  | none => exact hk
  | some N => exact dec_len k N (by omega) (h N rfl)
theorem pr_text {X X' : Option Nat} {q : Int} (h : (otext X).length ≤ 700) (hp : PR (otext X) X' q) : X' = X ∧ q = 0 := by
  rcases hp with h1 | h1 | h1 | h1
  · omega
  · cases X with
    | none => exact h1.2.2
    | some N => exact absurd (h1.2.1 ▸ dec_dec N) inf_not_dec
  · cases X with
    | none => exact absurd rfl h1.2.1
    | some N => exact absurd (dec_dec N) h1.2.2.1
  · cases X with
    | none => exact absurd h1.2.1 inf_not_dec
    | some N =>
      refine ⟨?_, h1.2.2.2⟩
      rw [h1.2.2.1]
      exact congrArg some (dec_dv N)
theorem pr_nought {X X' : Option Nat} {q : Int} (h : (otext X).length ≤ 699) (hp : PR (48 :: otext X) X' q) : q = 16 := by
  have hne : otext X ≠ [] := by
    cases X with
    | none => simp [otext]
    | some N => exact dec_ne N
  have hnd : ¬ decT (48 :: otext X) := fun hd => by
    rcases hd.2.1 with h1 | h1
    · exact h1 rfl
    · exact hne (by simpa using h1)
  have hl : (48 :: otext X).length ≤ 700 := by simp; omega
  rcases hp with h1 | h1 | h1 | h1
  · omega
  · exact absurd (congrArg (fun l => l.head?) h1.2.1) (by simp)
  · exact h1.2.2.2.2
  · exact absurd h1.2.1 hnd
theorem dgt_bnat (L G : Nat → Nat) (n k : Nat) (hk : k < n) (hL : L k < 4294967296) (hG : ∀ j, j < 1 + 4 * n → G j = bnat L n j) : dgt (fun j => G (1 + j)) k = L k := by
  have hr : ∀ r, r < 4 → G (1 + (4 * k + r)) = L k / 256 ^ r % 256 := fun r hr => by
    rw [hG _ (by omega)]
    unfold bnat
    rw [if_neg (by omega), show (1 + (4 * k + r) - 1) / 4 = k by omega, show (1 + (4 * k + r) - 1) % 4 = r by omega]
  have h0 := hr 0 (by decide)
  have h1 := hr 1 (by decide)
  have h2 := hr 2 (by decide)
  have h3 := hr 3 (by decide)
  simp only [dgt, pv]
  rw [h0, h1, h2, h3]
  generalize L k = x at hL
  simp
  omega
theorem uval_bnat (L G : Nat → Nat) (n : Nat) (hL : ∀ j, L j < 4294967296) (hG : ∀ j, j < 1 + 4 * n → G j = bnat L n j) : G 0 = n ∧ uval G = lv L n := by
  have h0 : G 0 = n := by rw [hG 0 (by omega)]; rfl
  refine ⟨h0, ?_⟩
  unfold uval
  rw [h0]
  exact lv_congr n fun k hk => dgt_bnat L G n k hk (hL k) hG
theorem ur_back {i : Bool} {n m mb : Nat} {L F G : Nat → Nat} {X' : Option Nat} {n' q' : Int} (hL : ∀ j, L j < 4294967296) (hn : n ≤ 64) (hb : BR i n L m F 0) (hG : ∀ j, j < m → G j = F j) (hu : UR (m + mb) G X' n' q') :
    X' = (if i then none else some (lv L n)) ∧ n' = (m : Int) ∧ q' = 0 := by
  rcases hb with hb | hb | hb | hb
  · exact absurd hb.2.2 (by decide)
  · obtain ⟨-, rfl, rfl, h255, -⟩ := hb
    have hg : G 0 = 255 := (hG 0 (by omega)).trans h255
    rcases hu with hu | hu | hu | hu | hu
    · omega
    · exact ⟨hu.2.2.1, hu.2.2.2.1, hu.2.2.2.2⟩
    · exact absurd hg hu.2.1
    · omega
    · omega
  · exact absurd hb.2.2.2.2 (by decide)
  · obtain ⟨hm, rfl, -, rfl, rfl, -⟩ := hb
    obtain ⟨g0, gv⟩ := uval_bnat L G n hL hG
    have hln : ln (lv L n) = n := ln_of L n (fun j _ => hL j) (by
      unfold mayB at hm
      rw [if_neg (by decide)] at hm
      simpa using hm)
    rw [← gv, ← g0] at hln
    rcases hu with hu | hu | hu | hu | hu
    · omega
    · omega
    · have := hu.2.2.1; omega
    · exact absurd hln hu.2.2.1
    · refine ⟨?_, ?_, hu.2.2.2.2.2⟩
      · rw [hu.2.2.2.1, gv]; rfl
      · rw [hu.2.2.2.2.1, g0]
/-- What is answered may be. -/
theorem nout_may {w : World} {v : Value} {X : Option Nat} (h : NOut w v X) : Calls Tryd.prog 19 #[v] w fun e w' => e = .returned (.bool true) ∧ Below w.heap.size w w' := by
  rcases h with ⟨rfl, a, c, rfl, hc⟩ | ⟨N, a, c, rfl, rfl, hr⟩
  · exact may_any true a 0 c (fun _ => 0) w (Rd.empty _ _ _ hc _) (fun _ => by show 0 < 4294967296; decide)
  · have h1 := may_any false a (ln N) c (dg N) w hr (dg_lt N)
    have : mayB false (ln N) (dg N) = true := by
      unfold mayB
      rw [if_neg (by decide)]
      rcases Nat.eq_zero_or_pos (ln N) with h0 | h0
      · simp [h0]
      · have := top_ne N h0
        simp [this]
    rw [this] at h1
    exact h1
end Go.Proofs.YtklkcnpcjmeejaaDoor
