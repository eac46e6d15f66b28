/- The document's own OfNat and Add. -/
import Derived.Test.YtjdbapkmaggllaaGreatDoorS03
namespace Go.Proofs.YtjdbapkmaggllaaGreatDoor
open Go.RowKit Fo
set_option maxRecDepth 100000

theorem Fo.Rd.off {w : World} {a : Option Addr} {n c : Nat} {L : Nat → Nat} {g : Nat} {i : Bool} {a0 : Option Addr} {n0 c0 : Nat} {t : TypeId} (h : Rd w a n c (u32s L)) (hg : w.heap[g]? = some (.cells #[.bool i, .slice a0 n0 c0] t)) (o : Nat) (u : Value) : Rd (w.setCell ⟨g, o, none⟩ u) a n c (u32s L) := by
  obtain ⟨h1, h2, h3⟩ := h
  refine ⟨h1, h2, ?_⟩
  rcases h3 with h3 | ⟨b, off, rfl, hc⟩
  · exact Or.inl h3
  · refine Or.inr ⟨b, off, rfl, fun j hj => ?_⟩
    have hcj := hc j hj
    by_cases e : b = g
    · exfalso
      subst e
      unfold u32s at hcj
      simp only [World.cell?, hg] at hcj
      match hoj : off + j with
      | 0 => rw [hoj] at hcj; simp at hcj
      | 1 => rw [hoj] at hcj; simp at hcj
      | k + 2 => rw [hoj] at hcj; simp at hcj
    · rw [World.cell?_of_block (w := w) (Below.heap_setCell w ⟨g, o, none⟩ u b e)]
      exact hcj
theorem set_block {w : World} {g : Nat} {x y u : Value} {t : TypeId} (hg : w.heap[g]? = some (.cells #[x, y] t)) : (w.setCell ⟨g, 0, none⟩ u).heap[g]? = some (.cells #[u, y] t) := by
  simp [World.setCell, Array.getElem?_modify, hg]
/-- A variable of a struct of two cells: it may be read and written. -/
theorem box_facts {w : World} {g : Nat} {x y : Value} {t : TypeId} (hg : w.heap[g]? = some (.cells #[x, y] t)) :
    w.cell? ⟨g, 0, none⟩ = some x ∧ w.cell? ⟨g, 1, none⟩ = some y ∧ w.frozen? ⟨g, 0, none⟩ = false ∧ w.frozen? ⟨g, 1, none⟩ = false ∧ (∀ u, (w.setCell ⟨g, 0, none⟩ u).cell? ⟨g, 0, none⟩ = some u) ∧ (∀ u v, ((w.setCell ⟨g, 0, none⟩ u).setCell ⟨g, 1, none⟩ v).cell? ⟨g, 1, none⟩ = some v) := by
  have h0 : w.cell? ⟨g, 0, none⟩ = some x := by simp [World.cell?, hg]
  have h1 : w.cell? ⟨g, 1, none⟩ = some y := by simp [World.cell?, hg]
  exact ⟨h0, h1, by simp [World.frozen?, hg], by simp [World.frozen?, hg], fun u => World.cell?_setCell_same' w _ u (by rw [h0]; rfl), fun u v => World.cell?_setCell_same' _ _ v (by simp [h1, go_sem])⟩
theorem Fo.NOut.set {w : World} {g : Nat} {i0 : Bool} {a0 : Option Addr} {n0 c0 : Nat} {t : TypeId} {u : Value} {X : Option Nat} (h : NOut w u X) (hg : w.heap[g]? = some (.cells #[.bool i0, .slice a0 n0 c0] t)) (i : Bool) (y : Value) : NOut ((w.setCell ⟨g, 0, none⟩ (.bool i)).setCell ⟨g, 1, none⟩ y) u X := by
  rcases h with h | ⟨N, a, c, h1, h2, h3⟩
  · exact Or.inl h
  · exact Or.inr ⟨N, a, c, h1, h2, (h3.off hg 0 (.bool i)).off (set_block hg) 1 y⟩
theorem Fo.NIn.bound {w : World} {v : Value} {N : Nat} (h : NIn w v (some N)) : ln N ≤ 100000 := by
  obtain ⟨i, a, n, c, L, -, -, hL, hn, hX⟩ := h
  cases i
  · obtain rfl : N = lv L n := by simpa using hX
    exact Nat.le_trans (ln_le n _ (lv_lt n (fun j _ => hL j))) hn
  · cases hX
/-- The result of a call that a function hands on in a variable of its own. -/
theorem below_set {w w2 : World} {g : Nat} (h : Below w.heap.size w w2) (hg : w.heap.size ≤ g) (u v : Value) : Below w.heap.size w ((w2.setCell ⟨g, 0, none⟩ u).setCell ⟨g, 1, none⟩ v) := (h.setCell hg u).setCell hg v
theorem of_lv (m : Nat) : lv (fun j => if j = 0 then m % 4294967296 else m / 4294967296) 2 = m := by
  simp [lv]; omega
theorem of_in (m : Nat) (hm : m < 18446744073709551616) (w : World) : NIn ((w.alloc (.cells #[.bool false, .slice none 0 0] 24)).alloc (.cells #[.int .u32 ((m : Int) % 4294967296), .int .u32 ((m : Int) / 4294967296)] 66)) (.agg #[.bool false, .slice (some ⟨w.heap.size + 1, 0, none⟩) 2 2]) (some m) := by
  refine ⟨false, _, 2, 2, fun j => if j = 0 then m % 4294967296 else m / 4294967296, rfl, ⟨by decide, by decide, Or.inr ⟨_, _, rfl, fun j hj => ?_⟩⟩, fun j => ?_, by decide, by rw [of_lv m]; rfl⟩
  · have h : ((w.alloc (.cells #[.bool false, .slice none 0 0] 24)).alloc (.cells #[.int .u32 ((m : Int) % 4294967296), .int .u32 ((m : Int) / 4294967296)] 66)).heap[w.heap.size + 1]? = some (.cells #[.int .u32 ((m : Int) % 4294967296), .int .u32 ((m : Int) / 4294967296)] 66) := heap_2nd w _ _
    unfold u32s
    match j, hj with
    | 0, _ => exact (box_facts h).1.trans (by simp)
    | 1, _ => exact (box_facts h).2.1.trans (by simp)
  · show (if j = 0 then m % 4294967296 else m / 4294967296) < 4294967296
    split <;> omega
theorem rof_any (m : Nat) (hm : m < 18446744073709551616) (w : World) : Calls Tryz.prog 40 #[.int .u64 m] w fun e w' => (∃ u, e = .returned u ∧ NOut w' u (some m)) ∧ Below w.heap.size w w' := by
  have hsh : (m : Int) >>> 32 = ((m / 4294967296 : Nat) : Int) := by
    rw [Int.shiftRight_eq_div_pow]; omega
  have hlo : IntKind.u32.wrap (m : Int) = ((m % 4294967296 : Nat) : Int) := by rw [IntKind.wrap_u32]; omega
  have hhi : IntKind.u32.wrap (((m / 4294967296 : Nat) : Int)) = ((m / 4294967296 : Nat) : Int) := by rw [IntKind.wrap_u32]; omega
  go_enter Tryz.func40, Tryz.ntmps40
  go_wp2_with (go_at_call 62; fail)
  refine (clean_any _ _ (some m) (of_in m hm w)).mono ?_
  rintro e w2 ⟨⟨u, rfl, hu⟩, hB⟩
  have hg : w2.heap[w.heap.size]? = some (.cells #[.bool false, .slice none 0 0] 24) := (hB.block _ (by simp; omega)).trans (heap_1st w _ _)
  obtain ⟨b0, b1, b2, b3, b4, b5⟩ := box_facts hg
  have HB : Hid (Below w.heap.size w w2) := below_step (below2 w _ _) hB
  have HU : Hid (NOut w2 u (some m)) := hu
  obtain ⟨i, a, n, c, rfl, hnc, hcc, -⟩ := hu.form
  have HG : Hid (w2.heap[w.heap.size]? = some (.cells #[.bool false, .slice none 0 0] 24)) := hg
  clear hg hB hsh hlo hhi
  go_wp2
  refine bodyPost_ret (v := .agg #[.bool i, .slice a n c]) (by simp [results, Tryz.results40, go_sem, b4, b5]) rfl ⟨⟨_, rfl, HU.out.set HG.out i _⟩, below_set HB.out (Nat.le_refl _) _ _⟩
end Go.Proofs.YtjdbapkmaggllaaGreatDoor
