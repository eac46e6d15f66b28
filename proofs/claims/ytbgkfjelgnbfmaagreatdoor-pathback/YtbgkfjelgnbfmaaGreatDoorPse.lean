/- Parse. -/
import Derived.Test.YtbgkfjelgnbfmaaGreatDoorPrt
namespace Go.Proofs.YtbgkfjelgnbfmaaGreatDoor
open Go.RowKit Fo
set_option maxRecDepth 100000
set_option linter.unusedSimpArgs false
set_option linter.unusedVariables false

namespace Fo
/-- What Parse answers. -/
def parM (s : List UInt8) : PT × Int := if 4000 < s.length then (PT.zero, 5) else match readM s with | .ok t => (t, 0) | .error _ => (PT.zero, 3)
end Fo
set_option maxHeartbeats 8000000 in
theorem parse_any (C : BailSays) (w : World) (s : List UInt8) (lo : Nat) (henv : EnvP lo w) : Calls Tryz.prog 9 #[.string (str s)] w fun e w' => (∃ x F, e = .returned (.tuple #[x.v, .int .i64 (parM s).2]) ∧ IsP F w' x (parM s).1) ∧ Below w.heap.size w w' := by
  have hmf : ∀ (fn : Fn) (first cap : Array Value) (w : World), (Instr.makeFunc fn first cap).run Tryz.prog w = .ok (.func fn first cap) w := fun _ _ _ _ => rfl
  have hsz := str_size s
  by_cases hl : 4000 < s.length
  · have hl' : (4000 : Int) < (s.length : Int) := by omega
    have HV : Hid (parM s = (PT.zero, 5)) := by show _ = _; unfold parM; rw [if_pos hl]
    generalize parM s = M at HV
    generalize str s = S at hsz
    obtain ⟨W2, hW2⟩ : ∃ W2, W2 = (w.alloc (.cells #[.string S] 9)).alloc (.cells #[.int .i64 0, .string ⟨#[]⟩, .slice none 0 0, .int .i64 0, .int .i64 0] 25) := ⟨_, rfl⟩
    have HB2 : Hid (Below w.heap.size w W2) := by rw [hW2]; exact (below1 w _).alloc (by simp) _
    have hg2 : W2.heap[w.heap.size + 1]? = some (.cells #[.int .i64 0, .string ⟨#[]⟩, .slice none 0 0, .int .i64 0, .int .i64 0] 25) := by
      rw [hW2]
      have := heap_new1 (w.alloc (.cells #[.string S] 9)) (.cells #[.int .i64 0, .string ⟨#[]⟩, .slice none 0 0, .int .i64 0, .int .i64 0] 25)
      simpa using this
    clear henv
    go_enter Tryz.func9, Tryz.ntmps9
    go_wp2
    rw [← hW2]
    clear hW2
    have r0 := cell_of_row _ _ 0 _ _ _ hg2
    have r1 := cell_of_row _ _ 1 _ _ _ hg2
    have r2 := cell_of_row _ _ 2 _ _ _ hg2
    have r3 := cell_of_row _ _ 3 _ _ _ hg2
    have r4 := cell_of_row _ _ 4 _ _ _ hg2
    simp only [List.getElem?_toArray, List.getElem?_cons_zero, List.getElem?_cons_succ] at r0 r1 r2 r3 r4
    refine bodyPost_ret (v := .tuple #[.agg #[.int .i64 0, .string ⟨#[]⟩, .slice none 0 0, .int .i64 0, .int .i64 0], .int .i64 5]) (by simp [results, Tryz.results9, go_sem, r0, r1, r2, r3, r4]) rfl ?_
    rw [HV.out]
    exact ⟨⟨PV.zero, fun _ => False, rfl, IsP.zero _ _⟩, HB2.out⟩
  · have hl' : ¬ (4000 : Int) < (s.length : Int) := by omega
    have HM : Hid (parM s = match readM s with | .ok t => (t, 0) | .error _ => (PT.zero, 3)) := by show _ = _; unfold parM; rw [if_neg hl]
    have HVT : Hid (rdT s = (parM s).1) := by
      show _ = _
      rw [HM.out]
      unfold rdT
      cases readM s <;> rfl
    have HVR : Hid ((rdR s = .ret ∧ (parM s).2 = 0) ∨ ∃ a, rdR s = .bail 3 a ∧ (parM s).2 = 3) := by
      show _ ∨ _
      rw [HM.out]
      unfold rdR
      cases readM s with
      | ok t => exact Or.inl ⟨rfl, rfl⟩
      | error n => exact Or.inr ⟨_, rfl, rfl⟩
    have HPLAY : Hid (∀ (bs bq : Nat) (hne : bs ≠ bq) (F : Nat → Prop) (w1 : World), Below w.heap.size w w1 → PrS s bs bq F w1 PT.zero → Plays Tryz.prog 24 #[.pointer (some ⟨bs, 0, none⟩), .pointer (some ⟨bq, 0, none⟩)] w1 (Fins (PrS s bs bq) F w1 (rdR s) (rdT s))) := fun bs bq hne F w1 hb hx => par1_plays C s (by omega) bs bq hne lo F w1 (henv.below hb) hx
    generalize hS : str s = S at hsz
    have HS : Hid (str s = S) := hS
    clear henv hl hS HM
    generalize parM s = M at HVT HVR
    obtain ⟨M1, M2⟩ := M
    obtain ⟨W3, hW3⟩ : ∃ W3, W3 = ((w.alloc (.cells #[.string S] 9)).alloc (.cells #[.int .i64 0, .string ⟨#[]⟩, .slice none 0 0, .int .i64 0, .int .i64 0] 25)).alloc (.cells #[.int .i64 0, .string ⟨#[]⟩, .slice none 0 0, .int .i64 0, .int .i64 0] 25) := ⟨_, rfl⟩
    have hb3 : Below w.heap.size w W3 := by rw [hW3]; exact ((below1 w _).alloc (by simp) _).alloc (by simp <;> omega) _
    have hg0 : W3.heap[w.heap.size]? = some (.cells #[.string S] 9) := by rw [hW3]; exact heap_new3 w _ _ _
    have hg1 : W3.heap[w.heap.size + 1]? = some (.cells #[.int .i64 0, .string ⟨#[]⟩, .slice none 0 0, .int .i64 0, .int .i64 0] 25) := by
      rw [hW3]
      have := heap_new2 (w.alloc (.cells #[.string S] 9)) (.cells #[.int .i64 0, .string ⟨#[]⟩, .slice none 0 0, .int .i64 0, .int .i64 0] 25) (.cells #[.int .i64 0, .string ⟨#[]⟩, .slice none 0 0, .int .i64 0, .int .i64 0] 25)
      simpa using this
    have hg2 : W3.heap[w.heap.size + 1 + 1]? = some (.cells #[.int .i64 0, .string ⟨#[]⟩, .slice none 0 0, .int .i64 0, .int .i64 0] 25) := by
      rw [hW3]
      have := heap_new1 ((w.alloc (.cells #[.string S] 9)).alloc (.cells #[.int .i64 0, .string ⟨#[]⟩, .slice none 0 0, .int .i64 0, .int .i64 0] 25)) (.cells #[.int .i64 0, .string ⟨#[]⟩, .slice none 0 0, .int .i64 0, .int .i64 0] 25)
      simpa using this
    have hz3 : W3.heap.size = w.heap.size + 3 := by rw [hW3]; simp
    have HB3 : Hid (Below w.heap.size w W3) := hb3
    have HG1 : Hid (W3.heap[w.heap.size + 1]? = some (.cells #[.int .i64 0, .string ⟨#[]⟩, .slice none 0 0, .int .i64 0, .int .i64 0] 25)) := hg1
    have HZ3 : Hid (W3.heap.size = w.heap.size + 3) := hz3
    have HX : Hid (PrS s w.heap.size (w.heap.size + 1 + 1) (fun b => b = w.heap.size ∨ b = w.heap.size + 1 + 1) W3 PT.zero) := by
      refine ⟨by rw [HS.out]; exact hg0, ⟨PV.zero, hg2, IsP.zero _ _⟩, Or.inl rfl, Or.inr rfl, fun b hb => by rcases hb with h | h <;> omega⟩
    clear hb3 hg0 hg1 hg2 hz3
    go_enter Tryz.func9, Tryz.ntmps9
    go_wp2_with (go_at_call 23; fail)
    rw [← hW3]
    clear hW3
    refine (C.catches (prs_st s w.heap.size (w.heap.size + 1 + 1)) _ W3 PT.zero (rdT s) _ _ (rdR s) (fnv_par1 _ _) HX.out (fun w1 hb hx => HPLAY.out _ _ (by omega) _ w1 (HB3.out.trans (hb.mono HB3.out.size)) hx)).mono ?_
    rintro e w4 ⟨G, hl, he⟩
    have HL : Hid (Lft (PrS s w.heap.size (w.heap.size + 1 + 1)) (fun b => b = w.heap.size ∨ b = w.heap.size + 1 + 1) W3 (rdT s) G w4) := hl
    obtain ⟨-, ⟨x, h2, h3⟩, -⟩ := hl.1
    obtain ⟨x0, x1, x2, x3, x4, x5, x6⟩ := x
    have HG4 : Hid (w4.heap[w.heap.size + 1 + 1]? = some (.cells #[.int .i64 x0, .string x1, .slice x2 x3 x4, .int .i64 x5, .int .i64 x6] 25)) := h2
    have HI4 : Hid (IsP (fun b => G b ∧ b ≠ w.heap.size ∧ b ≠ w.heap.size + 1 + 1) w4 ⟨x0, x1, x2, x3, x4, x5, x6⟩ M1) := by
      have h := h3
      rw [HVT.out] at h
      exact h
    have HR4 : Hid (w4.heap[w.heap.size + 1]? = some (.cells #[.int .i64 0, .string ⟨#[]⟩, .slice none 0 0, .int .i64 0, .int .i64 0] 25)) := hl.2.2.heap HG1.out (fun h => by rcases h with h | h <;> omega)
    have HNG : Hid (¬ G (w.heap.size + 1)) := fun h => by
      have h1 := hl.2.1 _ h
      have h2 := HZ3.out
      rcases h1 with (h1 | h1) | h1 <;> omega
    have HB4 : Hid (Below w.heap.size w w4) := HB3.out.trans (hl.2.2.below HB3.out.size fun b hb h => by rcases h with h | h <;> omega)
    have he' : ∃ a, e = .returned (.tuple #[.int .i64 M2, .int .i64 a]) := by
      rcases HVR.out with ⟨h1, h2⟩ | ⟨a, h1, h2⟩
      · rw [h1] at he
        have h2' : M2 = 0 := h2
        subst h2'
        exact ⟨0, he⟩
      · rw [h1] at he
        have h2' : M2 = 3 := h2
        subst h2'
        exact ⟨a, he⟩
    obtain ⟨a, rfl⟩ := he'
    clear he hl h2 h3 HL HG1 HX HPLAY HVR HVT HB3 HZ3
    have c0 := cell_of_row _ _ 0 _ _ _ HG4.out
    have c1 := cell_of_row _ _ 1 _ _ _ HG4.out
    have c2 := cell_of_row _ _ 2 _ _ _ HG4.out
    have c3 := cell_of_row _ _ 3 _ _ _ HG4.out
    have c4 := cell_of_row _ _ 4 _ _ _ HG4.out
    simp only [List.getElem?_toArray, List.getElem?_cons_zero, List.getElem?_cons_succ] at c0 c1 c2 c3 c4
    obtain ⟨⟨z0, z1, z2, z3, z4⟩, ⟨f0, f1, f2, f3, f4⟩, g0, g1, g2, g3, g4⟩ := box5_facts HR4.out
    have HRX := HR4.out
    go_wp2
    obtain ⟨hs6, hs7⟩ := st5 HRX (.int .i64 x0) (.string x1) (.slice x2 x3 x4) (.int .i64 x5) (.int .i64 x6)
    generalize (((((w4.setCell ⟨w.heap.size + 1, 0, none⟩ (.int .i64 x0)).setCell ⟨w.heap.size + 1, 1, none⟩ (.string x1)).setCell ⟨w.heap.size + 1, 2, none⟩ (.slice x2 x3 x4)).setCell ⟨w.heap.size + 1, 3, none⟩ (.int .i64 x5)).setCell ⟨w.heap.size + 1, 4, none⟩ (.int .i64 x6)) = W10 at hs6 hs7 ⊢
    have r0 := cell_of_row _ _ 0 _ _ _ hs6
    have r1 := cell_of_row _ _ 1 _ _ _ hs6
    have r2 := cell_of_row _ _ 2 _ _ _ hs6
    have r3 := cell_of_row _ _ 3 _ _ _ hs6
    have r4 := cell_of_row _ _ 4 _ _ _ hs6
    simp only [List.getElem?_toArray, List.getElem?_cons_zero, List.getElem?_cons_succ] at r0 r1 r2 r3 r4
    refine bodyPost_ret (v := .tuple #[.agg #[.int .i64 x0, .string x1, .slice x2 x3 x4, .int .i64 x5, .int .i64 x6], .int .i64 M2]) (by simp [results, Tryz.results9, go_sem, r0, r1, r2, r3, r4]) rfl ?_
    refine ⟨⟨⟨x0, x1, x2, x3, x4, x5, x6⟩, _, rfl, HI4.out.kp (F' := fun _ => True) hs7 (fun b hb h => by have h : b = w.heap.size + 1 := h; subst h; exact HNG.out hb.1) fun _ _ _ => trivial⟩, HB4.out.trans (hs7.below HB4.out.size fun b hb h => by have h : b = w.heap.size + 1 := h; omega)⟩
end Go.Proofs.YtbgkfjelgnbfmaaGreatDoor
