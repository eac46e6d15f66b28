/- PathGrows: chains; Fwd. -/
import Derived.Test.YtbgkfjelgnbfmaaGreatDoorPb6
namespace Go.Proofs.YtbgkfjelgnbfmaaGreatDoor
open Go.RowKit Fo
set_option maxRecDepth 100000
set_option linter.unusedSimpArgs false
set_option linter.unusedVariables false

namespace Fo
theorem isp_one {F : Nat → Prop} {w : World} (k : Int) (b : Nat) (x : PV) (t : PT) (T : TypeId) (hg : w.heap[b]? = some (.cells #[.int .i64 x.kind, .string x.label, .slice x.a x.len x.cap, .int .i64 x.lo, .int .i64 x.hi] T)) (hx : IsP F w x t) (hF : F b) : IsP F w ⟨k, ⟨#[]⟩, some ⟨b, 0, none⟩, 1, 1, 0, 0⟩ (.mk k [] [t] 0 0) := by
  refine IsP.mk (F := F) (w := w) ⟨k, ⟨#[]⟩, some ⟨b, 0, none⟩, 1, 1, 0, 0⟩ (fun j => x) [t] rfl ⟨Nat.le_refl _, by show (1 : Nat) ≤ _; omega, Or.inr ⟨b, 0, rfl, hF, fun j hj => ?_⟩⟩ fun j hj => ?_
  · have hj : j < 1 := hj
    obtain rfl : j = 0 := by omega
    exact ⟨by rw [cell_of_row _ _ _ _ _ _ hg]; rfl, by rw [cell_of_row _ _ _ _ _ _ hg]; rfl, by rw [cell_of_row _ _ _ _ _ _ hg]; rfl, by rw [cell_of_row _ _ _ _ _ _ hg]; rfl, by rw [cell_of_row _ _ _ _ _ _ hg]; rfl⟩
  · have hj : j < 1 := hj
    obtain rfl : j = 0 := by omega
    exact hx
theorem box5_cells {w w' : World} {g : Nat} {x0 x1 x2 x3 x4 : Value} {t : TypeId} (hg : w.heap[g]? = some (.cells #[x0, x1, x2, x3, x4] t)) (hb : Below w.heap.size w w') :
    w'.cell? ⟨g, 0, none⟩ = some x0 ∧ w'.cell? ⟨g, 1, none⟩ = some x1 ∧ w'.cell? ⟨g, 2, none⟩ = some x2 ∧ w'.cell? ⟨g, 3, none⟩ = some x3 ∧ w'.cell? ⟨g, 4, none⟩ = some x4 :=
  (box5_facts ((hb.block _ (lt_of_heap hg)).trans hg)).1
def chain (k : Int) : Nat → PT
  | 0 => .mk 2 [97] [] 0 0
  | i + 1 => .mk k [] [chain k i] 0 0
theorem chain_deep (k : Int) : ∀ i, deep (chain k i) = i + 1
  | 0 => by rw [chain, deep, deeps]
  | i + 1 => by
    have := chain_deep k i
    rw [chain, deep, deeps, deeps]; omega
theorem chain_ck {k : Int} (hk : k = 6 ∨ k = 7 ∨ k = 8) : ∀ i, ck (chain k i) = 0
  | 0 => by rw [chain]; decide +kernel
  | i + 1 => by
    have ih := chain_ck hk i
    have ha : alone k [] [chain k i] 0 0 = 0 := by
      unfold alone kidsOK edge
      rcases hk with rfl | rfl | rfl <;> simp
    rw [chain, ck, ha, if_neg (by decide), cks, ih, if_neg (by decide), cks]
theorem chain_szk {k : Int} (hk : k = 6 ∨ k = 7 ∨ k = 8) (i : Nat) : sz (chain k (i + 1)) = if k = 6 then min (min (sz (chain k i)) M40 + 1) M40 else if k = 7 then min (2 * min (sz (chain k i)) M40 + 2) M40 else min (min (sz (chain k i)) M40 + 2) M40 := by
  rw [chain, sz, szs, szs, Int.zero_add]
  unfold szk
  rcases hk with rfl | rfl | rfl <;> simp
theorem chain_sz {k : Int} (hk : k = 6 ∨ k = 7 ∨ k = 8) : ∀ i, i ≤ 31 → 1 ≤ sz (chain k i) ∧ sz (chain k i) + 2 ≤ ((3 * 2 ^ i : Nat) : Int)
  | 0, _ => by rw [chain]; decide +kernel
  | i + 1, h => by
    obtain ⟨h1, h2⟩ := chain_sz hk i (by omega)
    have hp : 2 ^ i ≤ 2 ^ 30 := Nat.pow_le_pow_right (by decide) (by omega)
    have hs : 2 ^ (i + 1) = 2 ^ i * 2 := Nat.pow_succ 2 i
    rw [chain_szk hk i, hs]
    generalize 2 ^ i = P at *
    have hp : P ≤ 1073741824 := hp
    generalize sz (chain k i) = S at *
    unfold M40
    rcases hk with rfl | rfl | rfl
    · rw [if_pos rfl]; omega
    · rw [if_neg (by decide), if_pos rfl]; omega
    · rw [if_neg (by decide), if_neg (by decide)]; omega
theorem chain_lt {k : Int} (hk : k = 6 ∨ k = 7 ∨ k = 8) (i : Nat) (hi : i ≤ 30) : sz (chain k i) < sz (chain k (i + 1)) := by
  obtain ⟨h1, h2⟩ := chain_sz hk i (by omega)
  have hp : 2 ^ i ≤ 2 ^ 30 := Nat.pow_le_pow_right (by decide) (by omega)
  rw [chain_szk hk i]
  generalize 2 ^ i = P at *
  have hp : P ≤ 1073741824 := hp
  generalize sz (chain k i) = S at *
  unfold M40
  rcases hk with rfl | rfl | rfl
  · rw [if_pos rfl]; omega
  · rw [if_neg (by decide), if_pos rfl]; omega
  · rw [if_neg (by decide), if_neg (by decide)]; omega
theorem chain_szD {k : Int} (i : Nat) (hi : i ≤ 31) : szD (chain k i) = sz (chain k i) := by
  unfold szD; rw [chain_deep, if_neg (by omega)]
theorem chain_tx {k : Int} (hk : k = 6 ∨ k = 7 ∨ k = 8) (i : Nat) : tx (chain k i) ≠ [] := fun h => by
  have := okH_tx (chain k i) (chain_ck hk i)
  rw [h] at this; cases this
theorem chain_chk {k : Int} (hk : k = 6 ∨ k = 7 ∨ k = 8) (i : Nat) : chk (chain k i) = if 20 ≤ i then 4 else if 60 < sz (chain k i) then 5 else 0 := by
  unfold chk
  rw [chain_deep, chain_ck hk i]
  by_cases h : 20 ≤ i
  · rw [if_pos (by omega), if_pos h]
  · rw [if_neg (by omega), if_neg (by decide), if_neg h]
end Fo
set_option maxHeartbeats 4000000 in
theorem fwd_any (w : World) (s : ByteArray) : Calls Tryz.prog 19 #[.string s] w fun e w' => e = .returned (PV.v ⟨2, s, none, 0, 0, 0, 0⟩) ∧ Below w.heap.size w w' := by
  go_enter Tryz.func19, Tryz.ntmps19
  go_wp2
  obtain ⟨W3, hW3⟩ : ∃ W3, W3 = w.alloc (.cells #[.int .i64 2, .string s, .slice none 0 0, .int .i64 0, .int .i64 0] 25) := ⟨_, rfl⟩
  have hb : Below w.heap.size w W3 := by rw [hW3]; exact below1 w _
  have hg1 : W3.heap[w.heap.size]? = some (.cells #[.int .i64 2, .string s, .slice none 0 0, .int .i64 0, .int .i64 0] 25) := by rw [hW3]; exact heap_new1 w _
  rw [← hW3]
  clear hW3
  have r0 := cell_of_row _ _ 0 _ _ _ hg1
  have r1 := cell_of_row _ _ 1 _ _ _ hg1
  have r2 := cell_of_row _ _ 2 _ _ _ hg1
  have r3 := cell_of_row _ _ 3 _ _ _ hg1
  have r4 := cell_of_row _ _ 4 _ _ _ hg1
  simp only [List.getElem?_toArray, List.getElem?_cons_zero, List.getElem?_cons_succ] at r0 r1 r2 r3 r4
  refine bodyPost_ret (v := PV.v ⟨2, s, none, 0, 0, 0, 0⟩) (by unfold PV.v; simp [results, Tryz.results19, go_sem, r0, r1, r2, r3, r4]) rfl ?_
  exact ⟨rfl, hb⟩
end Go.Proofs.YtbgkfjelgnbfmaaGreatDoor
