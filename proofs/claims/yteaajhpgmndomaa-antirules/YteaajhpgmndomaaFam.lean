/- Zero, One, Len, Sets, Has of families. -/
import Derived.Test.YteaajhpgmndomaaPlu
namespace Go.Proofs.Yteaajhpgmndomaa
open Go.RowKit Fo
set_option maxRecDepth 100000

set_option maxHeartbeats 4000000 in
theorem zero_any (w : World) : Calls Try.prog 30 #[] w fun e w' => (∃ u, e = .returned u ∧ FV w' u []) ∧ Below w.heap.size w w' := by
  go_enter Try.func30, Try.ntmps30
  go_wp2
  refine bodyPost_ret (v := .agg #[.slice none 0 0]) (by simp [results, Try.results30, go_sem]) rfl ?_
  exact ⟨⟨_, rfl, fv_empty _⟩, below1 w _⟩
set_option maxHeartbeats 4000000 in
theorem one_any (w : World) : Calls Try.prog 29 #[] w fun e w' => (∃ u, e = .returned u ∧ FV w' u [[]]) ∧ Below w.heap.size w w' := by
  obtain ⟨W, hW⟩ : ∃ W, W = (((w.alloc (.cells #[.slice (some ⟨w.heap.size + 1 + 1, 0, none⟩) 1 1] 27)).alloc (.cells #[] 3)).alloc (.cells #[.slice (some ⟨w.heap.size + 1, 0, none⟩) 0 0] 23)) := ⟨_, rfl⟩
  have hb : Below w.heap.size w W := by rw [hW]; exact ((below1 w _).alloc (by simp) _).alloc (by simp; omega) _
  have h2 : W.heap[w.heap.size + 1 + 1]? = some (.cells #[.slice (some ⟨w.heap.size + 1, 0, none⟩) 0 0] 23) := by
    rw [hW]
    have := heap_new1 ((w.alloc (.cells #[.slice (some ⟨w.heap.size + 1 + 1, 0, none⟩) 1 1] 27)).alloc (.cells #[] 3)) (.cells #[.slice (some ⟨w.heap.size + 1, 0, none⟩) 0 0] 23)
    simpa using this
  have HFV : Hid (FV W (.agg #[.slice (some ⟨w.heap.size + 1 + 1, 0, none⟩) 1 1]) [[]]) := by
    refine ⟨some ⟨w.heap.size + 1 + 1, 0, none⟩, 1, fun _ => .slice (some ⟨w.heap.size + 1, 0, none⟩) 0 0, rfl, row_rd h2 (by decide : 1 ≤ 1000) (fun j hj => ?_), fun j hj => ?_, Or.inr ⟨_, _, _, _, rfl, h2⟩, (by decide : 1 ≤ 5000), fun j hj => ?_, fun a ha => ?_⟩
    · have hj' : j < 1 := hj
      obtain rfl : j = 0 := by omega
      rfl
    · have hj' : j < 1 := hj
      obtain rfl : j = 0 := by omega
      exact ⟨some ⟨w.heap.size + 1, 0, none⟩, 0, rfl, Rd.empty _ _ _ (by decide) _, Or.inl rfl⟩
    · have hj' : j < 1 := hj
      obtain rfl : j = 0 := by omega
      exact Nat.zero_le _
    · rw [List.mem_singleton.1 ha]; exact List.Pairwise.nil
  have HB : Hid (Below w.heap.size w W) := hb
  rw [hW] at HFV HB
  clear hW hb h2
  go_enter Try.func29, Try.ntmps29
  go_wp2
  refine bodyPost_ret (v := .agg #[.slice (some ⟨w.heap.size + 1 + 1, 0, none⟩) 1 1]) (by simp [results, Try.results29, go_sem]) rfl ?_
  exact ⟨⟨_, rfl, HFV.out⟩, HB.out⟩
set_option maxHeartbeats 4000000 in
theorem len_any (w : World) (v : Value) (F : List (List Int)) (n : Int) (h : FV w v F) (hn : (F.length : Int) = n) : Calls Try.prog 16 #[v] w fun e w' => e = .returned (.int .i64 n) ∧ Below w.heap.size w w' := by
  obtain ⟨a, c, V, rfl, -⟩ := h
  subst hn
  go_enter Try.func16, Try.ntmps16
  go_wp2
  go_ret
  exact ⟨rfl, below1 w _⟩
/-- The closure of Has. -/
theorem hasc_any (w : World) (p : Addr) (va vb : Value) (A B : List Int) (R : Bool) (hc : w.cell? p = some vb) (hA : IsL w va A) (hB : IsL w vb B) (rA : Rise A) (rB : Rise B) (hR : R = true ↔ sub A B) :
    Calls Try.prog 41 #[va, .pointer (some p)] w fun e w' => e = .returned (.bool R) ∧ Drw w w' := by
  have HC := ispart_any w va vb A B R hA hB rA rB hR
  obtain ⟨a, c, rfl, -⟩ := hA
  obtain ⟨b, d, rfl, -⟩ := hB
  clear hR rA rB
  go_enter Try.func41, Try.ntmps41
  go_wp2_with (go_at_call 42; fail)
  refine HC.mono ?_
  rintro e w' ⟨rfl, hw⟩
  clear HC
  go_wp2
  go_ret
  exact ⟨rfl, hw⟩
theorem eg41 : ∀ args w, (callFunc 41 args).run Try.prog w = .ok (.enter 41 args) w := enters_of Try.func41 (by kernel_rfl) rfl
set_option maxHeartbeats 4000000 in
theorem has_any (w : World) (v s : Value) (F : List (List Int)) (S : List Int) (R : Bool) (h : FV w v F) (hs : IsL w s S) (hl : S.length ≤ 1000000) (hR : R = true ↔ Fo.has F S) :
    Calls Try.prog 20 #[v, s] w fun e w' => e = .returned (.bool R) ∧ Below w.heap.size w w' := by
  have HF : Hid (FV w v F) := h
  have HS : Hid (IsL w s S) := hs
  have HR : Hid (R = true ↔ Fo.has F S) := hR
  obtain ⟨a, c, V, rfl, hrd, hset, -, hl1, -, hrise⟩ := h
  have HFF : Hid (∀ a, a ∈ F → Rise a) := hrise
  have HRd : Hid (Rd w a F.length c V) := hrd
  have HSet : Hid (∀ j, j < F.length → SetIn w (V j) (gs F j)) := hset
  have hc1 := hrd.1
  have hb1 : Below w.heap.size w (w.alloc (.cells #[.slice a F.length c] 27)) := below1 w _
  obtain ⟨W1, hW1⟩ : ∃ W1, W1 = w.alloc (.cells #[.slice a F.length c] 27) := ⟨_, rfl⟩
  have h0 : W1.heap[w.heap.size]? = some (.cells #[.slice a F.length c] 27) := by rw [hW1]; exact heap_new1 w _
  have f0 : W1.cell? ⟨w.heap.size, 0, none⟩ = some (.slice a F.length c) := by rw [cell_of_row _ _ _ _ _ _ h0]; rfl
  rw [← hW1] at hb1
  have HB1 : Hid (Below w.heap.size w W1) := hb1
  have HS1 : Hid (W1.heap.size = w.heap.size + 1) := by show _ = _; rw [hW1]; simp
  clear hrd hset hs hR hb1 h0 hrise
  go_enter Try.func20, Try.ntmps20
  have hmf : ∀ (fn : Fn) (first cap : Array Value) (w : World), (Instr.makeFunc fn first cap).run Try.prog w = .ok (.func fn first cap) w := fun _ _ _ _ => rfl
  go_wp2_with (go_at_call 14; fail)
  rw [← hW1]
  clear hW1
  refine (sorted_all W1 s S (HS.out.below HB1.out) (by omega)).mono ?_
  rintro e w2 ⟨⟨u, X, rfl, hu, hx, hxs, -, -⟩, b2⟩
  obtain ⟨ua, uc, rfl, -⟩ := id hu
  have HU : Hid (SetIn w2 (.slice ua X.length uc) X) := hu
  have HX : Hid (Rise X ∧ Fo.sub X S ∧ Fo.sub S X) := ⟨hx, hxs⟩
  have HB2 : Hid (Below w.heap.size w w2) := below_step HB1.out b2
  have f2 : w2.cell? ⟨w.heap.size, 0, none⟩ = some (.slice a F.length c) := by rw [b2.cell (by show w.heap.size < _; rw [HS1.out]; omega)]; exact f0
  have hl2 : w.heap.size < w2.heap.size := by have := b2.size; have := HS1.out; omega
  have hne2 : ¬ (w.heap.size = w2.heap.size) := by omega
  clear hu hx hxs b2 f0
  go_wp2_with (go_at_call 40; fail)
  obtain ⟨W3, hW3⟩ : ∃ W3, W3 = w2.alloc (.cells #[.slice ua X.length uc] 23) := ⟨_, rfl⟩
  have hb3 : Below w2.heap.size w2 W3 := by rw [hW3]; exact below1 w2 _
  have h3 : W3.heap[w2.heap.size]? = some (.cells #[.slice ua X.length uc] 23) := by rw [hW3]; exact heap_new1 w2 _
  have hc3 : W3.cell? ⟨w2.heap.size, 0, none⟩ = some (.slice ua X.length uc) := by rw [cell_of_row _ _ _ _ _ _ h3]; rfl
  have HBW3 : Hid (Below w.heap.size w W3) := below_step HB2.out hb3
  rw [← hW3]
  clear hW3
  have hmain : Calls Try.prog 40 #[.slice a F.length c, .func (.func 41) #[] #[.pointer (some ⟨w2.heap.size, 0, none⟩)]] W3 fun e w' => e = .returned (.bool R) ∧ Drw W3 w' := by
    by_cases hz : F.length = 0
    · have hF0 : F = [] := List.length_eq_zero_iff.1 hz
      have hRf : R = false := by
        cases R
        · rfl
        · have := HR.out.1 rfl; rw [hF0] at this; exact absurd this (has_nil S)
      rw [hz, hRf]
      refine (Try.slices_ContainsFunc_empty (α := Int) a c _ W3).mono ?_
      rintro e w' ⟨rfl, rfl⟩
      exact ⟨rfl, Drw.refl _⟩
    obtain ⟨fb, fo, rfl, hcell⟩ := HRd.out.at (by omega)
    let α := { p : Value × List Int // SetIn W3 p.1 p.2 ∧ Rise p.2 }
    have : Inhabited α := ⟨⟨(.slice none 0 0, []), ⟨none, 0, rfl, Rd.empty _ _ _ (by decide) _, Or.inl rfl⟩, List.Pairwise.nil⟩⟩
    let enc : α → Value := fun p => p.1.1
    let pr : α → Bool := fun p => subB p.1.2 X
    have hp : PredAt Try.prog 41 #[.pointer (some ⟨w2.heap.size, 0, none⟩)] enc pr W3 := fun W x hb => by
      refine (hasc_any W ⟨w2.heap.size, 0, none⟩ x.1.1 (.slice ua X.length uc) x.1.2 X (subB x.1.2 X) ?_ (x.2.1.isL.below hb) ((HU.out.isL.below hb3).below hb) x.2.2 HX.out.1 subB_iff).mono ?_
      · rw [hb.cell (lt_of_heap h3)]; exact hc3
      · rintro e w' ⟨he, hw⟩; exact ⟨he, hw⟩
    have hfs : ∀ j (h : j < F.length), SetIn W3 (V j) (gs F j) ∧ Rise (gs F j) := fun j h => ⟨(HSet.out j h).below HBW3.out, HFF.out _ (by rw [gs_get h]; exact List.getElem_mem _)⟩
    let zs : List α := List.ofFn (n := F.length) fun j => ⟨(V j, gs F j), hfs j j.2⟩
    have hzl : zs.length = F.length := by simp [zs]
    have hzj : ∀ j (h : j < F.length), zs[j]! = ⟨(V j, gs F j), hfs j h⟩ := fun j h => by
      rw [getElem!_pos zs j (by omega)]; simp [zs]
    refine (Try.slices_ContainsFunc enc pr 41 #[.pointer (some ⟨w2.heap.size, 0, none⟩)] eg41 fb fo F.length c zs W3 hp (by omega) (by omega) (fun j hj => ?_)).mono ?_
    · have hj' : j < F.length := by omega
      rw [hzj j hj', (below_step HB2.out hb3).cell (World.block_lt_of_cell? w _ (hcell j hj'))]
      exact hcell j hj'
    · rintro e w' ⟨rfl, hw⟩
      refine ⟨ret_bool ?_, hw⟩
      rw [← hzl, List.take_length]
      cases R
      · rw [List.any_eq_false]
        intro x hx
        obtain ⟨j, hj, rfl⟩ := List.mem_iff_getElem.1 hx
        have hj' : j < F.length := by omega
        have e : zs[j] = ⟨(V j, gs F j), hfs j hj'⟩ := by rw [← hzj j hj', getElem!_pos zs j hj]
        rw [e]
        show ¬ subB (gs F j) X = true
        intro h
        have := HR.out.2 ⟨gs F j, by rw [gs_get hj']; exact List.getElem_mem _, fun z hz => HX.out.2.1 z (subB_iff.1 h z hz)⟩
        cases this
      · obtain ⟨g, hg, hs⟩ := HR.out.1 rfl
        obtain ⟨j, hj, rfl⟩ := gs_mem.1 hg
        rw [List.any_eq_true]
        refine ⟨zs[j]'(by omega), List.getElem_mem _, ?_⟩
        have e : zs[j]'(by omega) = ⟨(V j, gs F j), hfs j hj⟩ := by rw [← hzj j hj, getElem!_pos zs j (by omega)]
        rw [e]
        exact subB_iff.2 fun z hz => HX.out.2.2 z (hs z hz)
  have HMain : Hid (Calls Try.prog 40 #[.slice a F.length c, .func (.func 41) #[] #[.pointer (some ⟨w2.heap.size, 0, none⟩)]] W3 fun e w' => e = .returned (.bool R) ∧ Drw W3 w') := hmain
  clear hmain h3 hc3 hb3
  refine HMain.out.mono ?_
  rintro e w4 ⟨rfl, hw4⟩
  have HB4 : Hid (Below w.heap.size w w4) := below_step HBW3.out hw4.below
  clear hw4 HMain
  go_wp2
  go_ret
  exact ⟨rfl, HB4.out⟩
end Go.Proofs.Yteaajhpgmndomaa
