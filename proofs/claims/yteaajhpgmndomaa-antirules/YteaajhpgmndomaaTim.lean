/- Times: the walk. -/
import Derived.Test.YteaajhpgmndomaaTmq
namespace Go.Proofs.Yteaajhpgmndomaa
open Go.RowKit Fo
set_option maxRecDepth 100000

namespace Fo
theorem rise_sub_len : ∀ {a b : List Int}, Rise a → sub a b → a.length ≤ b.length
  | [], b, _, _ => Nat.zero_le _
  | x :: a, b, hr, hs => by
    unfold Rise at hr
    rw [List.pairwise_cons] at hr
    have hx := hs x (List.mem_cons_self ..)
    have hpos := List.length_pos_of_mem hx
    have ih := rise_sub_len (a := a) (b := b.erase x) hr.2 fun y hy => (List.mem_erase_of_ne (fun e => by have := hr.1 y hy; omega)).2 (hs y (List.mem_cons_of_mem _ hy))
    rw [List.length_erase_of_mem hx] at ih
    rw [List.length_cons]
    omega
end Fo
set_option maxHeartbeats 16000000 in
theorem times_any (w : World) (v1 v2 : Value) (F G R : List (List Int)) (b : Int) (h1 : FV w v1 F) (h2 : FV w v2 G) (hF : Fam F) (hG : Fam G) (hR : FamOf (unionsL F G) R) (hs1 : ∀ j, j < F.length → (gs F j).length ≤ 5000) (hs2 : ∀ j, j < G.length → (gs G j).length ≤ 5000) :
    Calls Try.prog 24 #[v1, v2, .int .i64 b] w fun e w' => BudP R b w e w' := by
  have HF1 : Hid (FV w v1 F) := h1
  have HF2 : Hid (FV w v2 G) := h2
  have HFF : Hid (Fam F) := hF
  have HFG : Hid (Fam G) := hG
  have HFR : Hid (FamOf (unionsL F G) R) := hR
  obtain ⟨a1, c1, V1, rfl, -, -, -, hl1, hn1, -⟩ := h1
  obtain ⟨a2, c2, V2, rfl, -, -, -, hl2, hn2, -⟩ := h2
  have HN1 : Hid (∀ a, a ∈ F → a.length ≤ 5000) := fun a ha => by
    obtain ⟨j, hj, rfl⟩ := gs_mem.1 ha
    exact hs1 j hj
  have HN2 : Hid (∀ a, a ∈ G → a.length ≤ 5000) := fun a ha => by
    obtain ⟨j, hj, rfl⟩ := gs_mem.1 ha
    exact hs2 j hj
  obtain ⟨W4, hW4⟩ : ∃ W4, W4 = (((w.alloc (.cells #[.slice a1 F.length c1] 27)).alloc (.cells #[.slice a2 G.length c2] 27)).alloc (.cells #[.slice none 0 0] 27)).alloc (.cells #[.int .i64 0] 28) := ⟨_, rfl⟩
  have hb4 : Below w.heap.size w W4 := by rw [hW4]; exact (((below1 w _).alloc (by simp) _).alloc (by simp; omega) _).alloc (by simp; omega) _
  have hs4 : W4.heap.size = w.heap.size + 4 := by rw [hW4]; simp
  have hh := heap4 w (.cells #[.slice a1 F.length c1] 27) (.cells #[.slice a2 G.length c2] 27) (.cells #[.slice none 0 0] 27) (.cells #[.int .i64 0] 28)
  rw [← hW4] at hh
  have HB4 : Hid (Below w.heap.size w W4) := hb4
  have HS4 : Hid (W4.heap.size = w.heap.size + 4) := hs4
  have HH : Hid (_ ∧ _ ∧ _ ∧ _) := hh
  have hmf : ∀ (fn : Fn) (first cap : Array Value) (w : World), (Instr.makeFunc fn first cap).run Try.prog w = .ok (.func fn first cap) w := fun _ _ _ _ => rfl
  obtain ⟨most, hmost⟩ : ∃ most, most = min b 5000 := ⟨_, rfl⟩
  clear hF hG hR hn1 hn2 hs1 hs2 hb4 hs4 hh
  go_enter_defers Try.func24, Try.ntmps24
  go_wp2_with (go_at_call 32; fail)
  rw [← hW4, ← hmost]
  clear hW4
  obtain ⟨z, hz⟩ : ∃ z, z = w.heap.size := ⟨_, rfl⟩
  have hz4 : z + 4 = W4.heap.size := by rw [hz]; exact HS4.out.symm
  have HZ : Hid (z = w.heap.size) := hz
  rw [← hz] at HH ⊢
  clear hz
  have HMost : Hid (most = min b 5000) := hmost
  clear hmost
  refine (newKeeper_any W4 most).mono ?_
  rintro e w1 ⟨hres, b1⟩
  have e0 : w1.heap[z]? = some (.cells #[.slice a1 F.length c1] 27) := (b1.block _ (by omega)).trans HH.out.1
  have e1 : w1.heap[z + 1]? = some (.cells #[.slice a2 G.length c2] 27) := (b1.block _ (by omega)).trans HH.out.2.1
  have e2 : w1.heap[z + 1 + 1]? = some (.cells #[.slice none 0 0] 27) := (b1.block _ (by omega)).trans HH.out.2.2.1
  have e3 : w1.heap[z + 1 + 1 + 1]? = some (.cells #[.int .i64 0] 28) := (b1.block _ (by omega)).trans HH.out.2.2.2
  have HE0 : Hid (w1.heap[z]? = some (.cells #[.slice a1 F.length c1] 27)) := e0
  have HE1 : Hid (w1.heap[z + 1]? = some (.cells #[.slice a2 G.length c2] 27)) := e1
  have HE2 : Hid (w1.heap[z + 1 + 1]? = some (.cells #[.slice none 0 0] 27)) := e2
  have HE3 : Hid (w1.heap[z + 1 + 1 + 1]? = some (.cells #[.int .i64 0] 28)) := e3
  have HB1 : Hid (Below w.heap.size w w1) := below_step HB4.out b1
  have HZ1 : Hid (z + 4 ≤ w1.heap.size) := by show _ ≤ _; rw [hz4]; exact b1.size
  have HF0 : Hid (∀ b, b < w.heap.size + 4 → b < W4.heap.size) := fun b hb => by rw [← HZ.out] at hb; omega
  rcases hres with ⟨F1, kp, rfl, hm0, hki, hF1⟩ | ⟨he, hm0⟩
  · have HKI : Hid (KIn F1 w1 kp most []) := hki
    have HF1l : Hid (∀ b, F1 b → z + 4 ≤ b) := fun b hb => by have := hF1 b hb; omega
    obtain ⟨kb, rfl⟩ : ∃ kb, kp = .pointer (some ⟨kb, 0, none⟩) := by obtain ⟨kb, _, _, _, _, _, _, e, _⟩ := hki; exact ⟨kb, e⟩
    have HM0 : Hid (0 ≤ most) := hm0
    have c0 : w1.cell? ⟨z, 0, none⟩ = some (.slice a1 F.length c1) := by rw [cell_of_row _ _ _ _ _ _ e0]; rfl
    have c1' : w1.cell? ⟨z + 1, 0, none⟩ = some (.slice a2 G.length c2) := by rw [cell_of_row _ _ _ _ _ _ e1]; rfl
    clear hki hF1 hm0 b1 e0 e1 e2 e3 hz4
    have hF1w : ∀ b, b < w.heap.size → ¬ F1 b := fun b hb h => by have := HF1l.out b h; rw [← HZ.out] at hb; omega
    have HLF : Hid (LIO F1 w1 (.slice a1 F.length c1) F) := (HF1.out.lio hF1w).below HB1.out
    have HLG : Hid (LIO F1 w1 (.slice a2 G.length c2) G) := (HF2.out.lio hF1w).below HB1.out
    have HM5 : Hid (most ≤ 5000) := by show _ ≤ _; rw [HMost.out]; omega
    have HCell : Hid (∀ (C : Nat → Prop) w', (∀ b, C b → z + 4 ≤ b) → Kp C w1 w' → w'.cell? ⟨z, 0, none⟩ = some (.slice a1 F.length c1) ∧ w'.cell? ⟨z + 1, 0, none⟩ = some (.slice a2 G.length c2)) := fun C w' hC hk =>
      ⟨hk.cell c0 fun h => by have h1 := hC _ h; have h2 : z + 4 ≤ z := h1; omega, hk.cell c1' fun h => by have h1 := hC _ h; have h2 : z + 4 ≤ z + 1 := h1; omega⟩
    obtain ⟨U0, hU0⟩ := unl_ex HFF.out HFG.out
    have HAll : Hid (∀ U, UnL (outL F G) (outL G F) U → (adds (adds (adds [] (inL F G)) (inL G F)) U).length = R.length) := fun U hU => by
      rw [← adds_append [] (inL F G), ← adds_append]; exact prod_len HFF.out HFG.out hU HFR.out
    have HU0 : Hid (UnL (outL F G) (outL G F) U0) := hU0
    have HFinP : Hid (∀ wp, (z + 1 + 1 + 1 < wp.heap.size ∧ wp.heap[z + 1 + 1]? = some (.cells #[.slice none 0 0] 27) ∧ wp.heap[z + 1 + 1 + 1]? = some (.cells #[.int .i64 0] 28) ∧ Below w.heap.size w wp ∧ most < (R.length : Int)) → BudP R b w (.returned (.tuple #[.agg #[.slice none 0 0], .int .i64 10])) (wp.setCell ⟨z + 1 + 1 + 1, 0, none⟩ (.int .i64 10))) := fun wp ⟨_, _, _, hb, hlt⟩ =>
      bud_no (by rw [← HMost.out]; exact hlt) (hb.setCell (p := ⟨z + 1 + 1 + 1, 0, none⟩) (by show w.heap.size ≤ z + 1 + 1 + 1; rw [← HZ.out]; omega) _)
    have HPan : Hid (∀ (C : Nat → Prop) w', (∀ b, C b → z + 4 ≤ b) → Kp C w1 w' → most < (R.length : Int) → (z + 1 + 1 + 1 < w'.heap.size ∧ w'.heap[z + 1 + 1]? = some (.cells #[.slice none 0 0] 27) ∧ w'.heap[z + 1 + 1 + 1]? = some (.cells #[.int .i64 0] 28) ∧ Below w.heap.size w w' ∧ most < (R.length : Int))) := fun C w' hC hk hlt =>
      ⟨by have := hk.size; have := HZ1.out; omega, hk.heap HE2.out fun h => by have := hC _ h; omega, hk.heap HE3.out fun h => by have := hC _ h; omega, HB1.out.trans (hk.below HB1.out.size fun b hb h => by have := hC b h; rw [← HZ.out] at hb; omega), hlt⟩
    clear hF1w hU0
    go_wp2
    go_upto_region 3 with fail
    refine wp_swap [{ v := .iface 28 (.int .i64 10), recovered := false }] (fun wp => z + 1 + 1 + 1 < wp.heap.size ∧ wp.heap[z + 1 + 1]? = some (.cells #[.slice none 0 0] 27) ∧ wp.heap[z + 1 + 1 + 1]? = some (.cells #[.int .i64 0] 28) ∧ Below w.heap.size w wp ∧ most < (R.length : Int)) (fun a' w' hpq => ?_) ?_
    · obtain ⟨-, h6, h7, hd, hfin⟩ := hpq
      have c2' : w'.cell? ⟨z + 1 + 1, 0, none⟩ = some (.slice none 0 0) := by rw [cell_of_row _ _ _ _ _ _ hfin.2.1]; rfl
      have c3 : w'.cell? ⟨z + 1 + 1 + 1, 0, none⟩ = some (.int .i64 0) := by rw [cell_of_row _ _ _ _ _ _ hfin.2.2.1]; rfl
      have z3 := frz_of hfin.2.2.1 0
      have HFin := HFinP.out w' hfin
      obtain ⟨tm, df⟩ := a'
      dsimp only at h6 h7 hd
      subst hd
      clear hfin
      refine leaves_cons (f := 46) (args := #[.pointer (some ⟨z + 1 + 1 + 1, 0, none⟩)]) (by simp) (by simp [go_sem]) ?_
      refine (catchT_err ⟨z + 1 + 1 + 1, 0, none⟩ _ [] _ c3 z3).mono ?_
      rintro e u' w'' ⟨rfl, rfl, rfl⟩
      simp at h6 h7
      simp [Leaves, settle, results, Try.results24, go_sem, c2', c3, h6, h7]
      exact HFin
    have hci := c0
    have hcj := c1'
    refine wp_region_held_drew (S := (fun w' => w'.cell? ⟨z, 0, none⟩ = some (.slice a1 F.length c1) ∧ w'.cell? ⟨z + 1, 0, none⟩ = some (.slice a2 G.length c2))) (by kernel_rfl) ?_ (fun hHeld => ?_)
    · (try dsimp only); exact ⟨hci, hcj⟩
    refine wpAnyH_take (i := 0) (oi := { dst := some 15, op := Op.move (Operand.tmp 8), type := 51, pos := "anti.go:58", after := #[], guard := none }) (v := ?vu29) rfl (by kernel_rfl) (by kernel_rfl) (by kernel_rfl) (fun _ _ _ h => pq_put (by decide) (by decide) h) (Or.inl ⟨by rfl, ?hyu29⟩) (by assumption) ?restu29
    case hyu29 => (intro w' hSw; (try dsimp only at hSw); obtain ⟨hq1, hq2⟩ := hSw; go_simp; (try with_reducible rfl))
    try simp only [Act.put, List.setIfInBounds_toArray, List.set_cons_zero, List.set_cons_succ]
    refine wpAnyH_take (i := 1) (oi := { dst := some 16, op := Op.fieldAddr 27 (Operand.tmp 3) 0, type := 0, pos := "anti.go:58", after := #[], guard := none }) (v := ?vu30) rfl (by kernel_rfl) (by kernel_rfl) (by kernel_rfl) (fun _ _ _ h => pq_put (by decide) (by decide) h) (Or.inl ⟨by rfl, ?hyu30⟩) (by assumption) ?restu30
    case hyu30 => (intro w' hSw; (try dsimp only at hSw); obtain ⟨hq1, hq2⟩ := hSw; go_simp; (try with_reducible rfl))
    try simp only [Act.put, List.setIfInBounds_toArray, List.set_cons_zero, List.set_cons_succ]
    refine wpAnyH_take (i := 2) (oi := { dst := some 17, op := Op.load 22 (Operand.tmp 16), type := 22, pos := "anti.go:58", after := #[{ on := 1, ground := Ground.data }], guard := none }) (v := ?vu31) rfl (by kernel_rfl) (by kernel_rfl) (by kernel_rfl) (fun _ _ _ h => pq_put (by decide) (by decide) h) (Or.inl ⟨by rfl, ?hyu31⟩) (by assumption) ?restu31
    case hyu31 => (intro w' hSw; (try dsimp only at hSw); obtain ⟨hq1, hq2⟩ := hSw; go_simp; (try with_reducible rfl))
    try simp only [Act.put, List.setIfInBounds_toArray, List.set_cons_zero, List.set_cons_succ]
    refine wpAnyH_take (i := 3) (oi := { dst := some 18, op := Op.fieldAddr 27 (Operand.tmp 4) 0, type := 0, pos := "anti.go:58", after := #[], guard := none }) (v := ?vu32) rfl (by kernel_rfl) (by kernel_rfl) (by kernel_rfl) (fun _ _ _ h => pq_put (by decide) (by decide) h) (Or.inl ⟨by rfl, ?hyu32⟩) (by assumption) ?restu32
    case hyu32 => (intro w' hSw; (try dsimp only at hSw); obtain ⟨hq1, hq2⟩ := hSw; go_simp; (try with_reducible rfl))
    try simp only [Act.put, List.setIfInBounds_toArray, List.set_cons_zero, List.set_cons_succ]
    refine wpAnyH_take (i := 4) (oi := { dst := some 19, op := Op.load 22 (Operand.tmp 18), type := 22, pos := "anti.go:58", after := #[{ on := 3, ground := Ground.data }], guard := none }) (v := ?vu33) rfl (by kernel_rfl) (by kernel_rfl) (by kernel_rfl) (fun _ _ _ h => pq_put (by decide) (by decide) h) (Or.inl ⟨by rfl, ?hyu33⟩) (by assumption) ?restu33
    case hyu33 => (intro w' hSw; (try dsimp only at hSw); obtain ⟨hq1, hq2⟩ := hSw; go_simp; (try with_reducible rfl))
    try simp only [Act.put, List.setIfInBounds_toArray, List.set_cons_zero, List.set_cons_succ]
    refine wpAnyH_take (i := 6) (oi := { dst := some 21, op := Op.move (Operand.tmp 8), type := 51, pos := "anti.go:58", after := #[], guard := none }) (v := ?vu34) rfl (by kernel_rfl) (by kernel_rfl) (by kernel_rfl) (fun _ _ _ h => pq_put (by decide) (by decide) h) (Or.inl ⟨by rfl, ?hyu34⟩) (by assumption) ?restu34
    case hyu34 => (intro w' hSw; (try dsimp only at hSw); obtain ⟨hq1, hq2⟩ := hSw; go_simp; (try with_reducible rfl))
    try simp only [Act.put, List.setIfInBounds_toArray, List.set_cons_zero, List.set_cons_succ]
    refine wpAnyH_take (i := 7) (oi := { dst := some 22, op := Op.fieldAddr 27 (Operand.tmp 4) 0, type := 0, pos := "anti.go:58", after := #[], guard := none }) (v := ?vu35) rfl (by kernel_rfl) (by kernel_rfl) (by kernel_rfl) (fun _ _ _ h => pq_put (by decide) (by decide) h) (Or.inl ⟨by rfl, ?hyu35⟩) (by assumption) ?restu35
    case hyu35 => (intro w' hSw; (try dsimp only at hSw); obtain ⟨hq1, hq2⟩ := hSw; go_simp; (try with_reducible rfl))
    try simp only [Act.put, List.setIfInBounds_toArray, List.set_cons_zero, List.set_cons_succ]
    refine wpAnyH_take (i := 8) (oi := { dst := some 23, op := Op.load 22 (Operand.tmp 22), type := 22, pos := "anti.go:58", after := #[{ on := 7, ground := Ground.data }], guard := none }) (v := ?vu36) rfl (by kernel_rfl) (by kernel_rfl) (by kernel_rfl) (fun _ _ _ h => pq_put (by decide) (by decide) h) (Or.inl ⟨by rfl, ?hyu36⟩) (by assumption) ?restu36
    case hyu36 => (intro w' hSw; (try dsimp only at hSw); obtain ⟨hq1, hq2⟩ := hSw; go_simp; (try with_reducible rfl))
    try simp only [Act.put, List.setIfInBounds_toArray, List.set_cons_zero, List.set_cons_succ]
    refine wpAnyH_take (i := 9) (oi := { dst := some 24, op := Op.fieldAddr 27 (Operand.tmp 3) 0, type := 0, pos := "anti.go:58", after := #[], guard := none }) (v := ?vu37) rfl (by kernel_rfl) (by kernel_rfl) (by kernel_rfl) (fun _ _ _ h => pq_put (by decide) (by decide) h) (Or.inl ⟨by rfl, ?hyu37⟩) (by assumption) ?restu37
    case hyu37 => (intro w' hSw; (try dsimp only at hSw); obtain ⟨hq1, hq2⟩ := hSw; go_simp; (try with_reducible rfl))
    try simp only [Act.put, List.setIfInBounds_toArray, List.set_cons_zero, List.set_cons_succ]
    refine wpAnyH_take (i := 10) (oi := { dst := some 25, op := Op.load 22 (Operand.tmp 24), type := 22, pos := "anti.go:58", after := #[{ on := 9, ground := Ground.data }], guard := none }) (v := ?vu38) rfl (by kernel_rfl) (by kernel_rfl) (by kernel_rfl) (fun _ _ _ h => pq_put (by decide) (by decide) h) (Or.inl ⟨by rfl, ?hyu38⟩) (by assumption) ?restu38
    case hyu38 => (intro w' hSw; (try dsimp only at hSw); obtain ⟨hq1, hq2⟩ := hSw; go_simp; (try with_reducible rfl))
    try simp only [Act.put, List.setIfInBounds_toArray, List.set_cons_zero, List.set_cons_succ]
    refine wpAnyH_ready (rs := [5]) (by kernel_rfl) (by simp) ?_
    refine AllReadyH.cons (o := { dst := some 20, op := Op.call { callee := Callee.value (Operand.func 47), args := #[Operand.tmp 15, Operand.tmp 17, Operand.tmp 19], argTypes := #[51, 22, 22] }, type := 22, pos := "anti.go:58", after := #[{ on := 0, ground := Ground.data }, { on := 2, ground := Ground.data }, { on := 4, ground := Ground.data }], guard := none }) rfl (fun K hK => ?_) AllReadyH.nil
    go_simp
    go_at_call 47
    refine (absorb_any F1 w1.drew _ _ _ most [] F G (HKI.out.frame (Kp.of_below (F := fun _ => False) (below_refl w1).drew) fun _ _ h => h) (HLF.out.below (below_refl w1).drew) (HLG.out.below (below_refl w1).drew) HFF.out.1 HFG.out.1 (fun a ha => by have := HN1.out a ha; omega) (fun a ha => by have := HN2.out a ha; omega) hl1 hl2 HM5.out (by simpa using HM0.out)).mono ?_
    rintro e w3 ⟨hres, hk3⟩
    have hk3' : Kp F1 w1 w3 := ⟨hk3.os, hk3.tape, hk3.output, hk3.size, hk3.block⟩
    rcases hres with ⟨u3, V3, F3, rfl, hle3, hki3, hF3, hO3, hset3, hown3⟩ | ⟨he, hgt⟩
    case inr =>
      unfold pB at he
      subst he
      refine ⟨rfl, rfl, rfl, rfl, HPan.out F1 w3 HF1l.out hk3' ?_⟩
      have := HAll.out U0 HU0.out
      have := adds_len U0 (adds (adds [] (inL F G)) (inL G F))
      have := adds_len (inL G F) (adds [] (inL F G))
      omega
    obtain ⟨ua, uc, rfl, -⟩ := id hO3.rd
    have HK3 : Hid (Kp F1 w1 w3) := hk3'
    have HKI3 : Hid (KIn F3 w3 (.pointer (some ⟨kb, 0, none⟩)) most (adds [] (inL F G))) := hki3
    have HF3 : Hid (∀ b, F3 b → F1 b ∨ w1.heap.size ≤ b) := hF3
    have HF3l : Hid (∀ b, F3 b → z + 4 ≤ b) := fun b hb => (hF3 b hb).elim (HF1l.out b) fun q => Nat.le_trans HZ1.out q
    have HLe3 : Hid (((adds [] (inL F G)).length : Int) ≤ most) := hle3
    have HLO3 : Hid (LIO F3 w3 (.slice ua (outL F G).length uc) (outL F G)) := ⟨ua, uc, V3, rfl, hO3.rdo hown3, hset3⟩
    have HLF3 : Hid (LIO F3 w3 (.slice a1 F.length c1) F) := HLF.out.step hk3' fun b hb h => (hF3 b h).elim id fun q => absurd hb (Nat.not_lt.2 q)
    have HLG3 : Hid (LIO F3 w3 (.slice a2 G.length c2) G) := HLG.out.step hk3' fun b hb h => (hF3 b h).elim id fun q => absurd hb (Nat.not_lt.2 q)
    have hcc3 := HCell.out F1 w3 HF1l.out hk3'
    have hv1 := hO3.rd1.1
    have hv2 := hO3.rd1.2.1
    clear hk3 hk3' hki3 hF3 hO3 hset3 hown3 hle3
    refine hK.out _ _ ?_ (fun hHeldB => ?_)
    · (try dsimp only); exact hcc3
    clear hK K hHeld
    have hHeld := hHeldB
    clear hHeldB
    try simp only [Act.put, List.setIfInBounds_toArray, List.set_cons_zero, List.set_cons_succ]
    refine wpAnyH_ready (rs := [11]) (by kernel_rfl) (by simp) ?_
    refine AllReadyH.cons (o := { dst := some 26, op := Op.call { callee := Callee.value (Operand.func 47), args := #[Operand.tmp 21, Operand.tmp 23, Operand.tmp 25], argTypes := #[51, 22, 22] }, type := 22, pos := "anti.go:58", after := #[{ on := 6, ground := Ground.data }, { on := 8, ground := Ground.data }, { on := 10, ground := Ground.data }, { on := 5, ground := Ground.chain }], guard := none }) rfl (fun K hK => ?_) AllReadyH.nil
    go_simp
    go_at_call 47
    refine (absorb_any F3 w3 _ _ _ most (adds [] (inL F G)) G F HKI3.out HLG3.out HLF3.out HFG.out.1 HFF.out.1 (fun a ha => by have := HN2.out a ha; omega) (fun a ha => by have := HN1.out a ha; omega) hl2 hl1 HM5.out HLe3.out).mono ?_
    rintro e w4 ⟨hres, hk4⟩
    have hk14 : Kp (fun b => z + 4 ≤ b) w1 w4 := (HK3.out.mono fun b _ h => HF1l.out b h).trans hk4 fun b _ h => HF3l.out b h
    rcases hres with ⟨u4, V4, F4, rfl, hle4, hki4, hF4, hO4, hset4, hown4⟩ | ⟨he, hgt⟩
    case inr =>
      unfold pB at he
      subst he
      refine ⟨rfl, rfl, rfl, rfl, HPan.out _ w4 (fun _ h => h) hk14 ?_⟩
      have := HAll.out U0 HU0.out
      have := adds_len U0 (adds (adds [] (inL F G)) (inL G F))
      omega
    obtain ⟨ya, yc, rfl, -⟩ := id hO4.rd
    have HK4 : Hid (Kp (fun b => z + 4 ≤ b) w1 w4) := hk14
    have HKI4 : Hid (KIn F4 w4 (.pointer (some ⟨kb, 0, none⟩)) most (adds (adds [] (inL F G)) (inL G F))) := hki4
    have HF4l : Hid (∀ b, F4 b → z + 4 ≤ b) := fun b hb => (hF4 b hb).elim (HF3l.out b) fun q => Nat.le_trans HZ1.out (Nat.le_trans HK3.out.size q)
    have HLe4 : Hid (((adds (adds [] (inL F G)) (inL G F)).length : Int) ≤ most) := hle4
    have HLO4 : Hid (LIO F4 w4 (.slice ya (outL G F).length yc) (outL G F)) := ⟨ya, yc, V4, rfl, hO4.rdo hown4, hset4⟩
    have HLP4 : Hid (LIO F4 w4 (.slice ua (outL F G).length uc) (outL F G)) := HLO3.out.step hk4 fun b hb h => (hF4 b h).elim id fun q => by omega
    have hcc4 := HCell.out _ w4 (fun _ h => h) hk14
    have hy1 := hO4.rd1.1
    have hy2 := hO4.rd1.2.1
    clear hk4 hk14 hki4 hF4 hO4 hset4 hown4 hle4
    refine hK.out _ _ ?_ (fun hHeldB => ?_)
    · (try dsimp only); exact hcc4
    clear hK K hHeld
    have hHeld := hHeldB
    clear hHeldB
    try simp only [Act.put, List.setIfInBounds_toArray, List.set_cons_zero, List.set_cons_succ]
    refine wpAnyH_take (i := 12) (oi := { dst := some 9, op := Op.assign (Operand.tmp 20), type := 22, pos := "anti.go:58", after := #[{ on := 5, ground := Ground.data }, { on := 11, ground := Ground.chain }, { on := 0, ground := Ground.phase }, { on := 1, ground := Ground.phase }, { on := 2, ground := Ground.phase }, { on := 3, ground := Ground.phase }, { on := 4, ground := Ground.phase }, { on := 5, ground := Ground.phase }, { on := 6, ground := Ground.textOnly Departure.lateStores }, { on := 7, ground := Ground.textOnly Departure.lateStores }, { on := 8, ground := Ground.textOnly Departure.lateStores }, { on := 9, ground := Ground.textOnly Departure.lateStores }, { on := 10, ground := Ground.textOnly Departure.lateStores }, { on := 11, ground := Ground.textOnly Departure.lateStoresUnsure }], guard := none }) (v := ?vu39) rfl (by kernel_rfl) (by kernel_rfl) (by kernel_rfl) (fun _ _ _ h => pq_put (by decide) (by decide) h) (Or.inl ⟨by rfl, ?hyu39⟩) (by assumption) ?restu39
    case hyu39 => (intro w' hSw; (try dsimp only at hSw); obtain ⟨hq1, hq2⟩ := hSw; go_simp; (try with_reducible rfl))
    try simp only [Act.put, List.setIfInBounds_toArray, List.set_cons_zero, List.set_cons_succ]
    refine wpAnyH_take (i := 13) (oi := { dst := some 10, op := Op.assign (Operand.tmp 26), type := 22, pos := "anti.go:58", after := #[{ on := 11, ground := Ground.data }, { on := 12, ground := Ground.chain }, { on := 0, ground := Ground.phase }, { on := 1, ground := Ground.phase }, { on := 2, ground := Ground.phase }, { on := 3, ground := Ground.phase }, { on := 4, ground := Ground.phase }, { on := 5, ground := Ground.phase }, { on := 6, ground := Ground.phase }, { on := 7, ground := Ground.phase }, { on := 8, ground := Ground.phase }, { on := 9, ground := Ground.phase }, { on := 10, ground := Ground.phase }, { on := 11, ground := Ground.phase }, { on := 12, ground := Ground.phase }], guard := none }) (v := ?vu40) rfl (by kernel_rfl) (by kernel_rfl) (by kernel_rfl) (fun _ _ _ h => pq_put (by decide) (by decide) h) (Or.inl ⟨by rfl, ?hyu40⟩) (by assumption) ?restu40
    case hyu40 => (intro w' hSw; (try dsimp only at hSw); obtain ⟨hq1, hq2⟩ := hSw; go_simp; (try with_reducible rfl))
    try simp only [Act.put, List.setIfInBounds_toArray, List.set_cons_zero, List.set_cons_succ]
    refine wpAnyH_done (by kernel_rfl) ?_ _
    (try dsimp only)
    clear hHeld hcc3 hcc4 hci hcj c0 c1' HLF3 HLG3 HKI3 HLO3 HLF HLG HKI
    go_wp2_with (go_at_call 48; fail)
    refine (addUnions_any F4 w4 _ _ _ most _ (outL F G) (outL G F) HKI4.out HLP4.out HLO4.out (fun a ha => HFF.out.1 a (mem_outL.1 ha).1) (fun a ha => HFG.out.1 a (mem_outL.1 ha).1) (fun a ha => HN1.out a (mem_outL.1 ha).1) (fun a ha => HN2.out a (mem_outL.1 ha).1) (by have := outL_len F G; omega) (by have := outL_len G F; omega) HM5.out HLe4.out).mono ?_
    rintro e w5 ⟨U, hU, hres, hk5⟩
    have hk15 : Kp (fun b => z + 4 ≤ b) w1 w5 := HK4.out.trans hk5 fun b _ h => HF4l.out b h
    have HLen : Hid ((adds (adds (adds [] (inL F G)) (inL G F)) U).length = R.length) := HAll.out U hU
    rcases hres with ⟨rfl, hle, hki⟩ | ⟨he, hgt⟩
    · have HKI5 : Hid (KIn (newF F4 w4 w5) w5 (.pointer (some ⟨kb, 0, none⟩)) most (adds (adds (adds [] (inL F G)) (inL G F)) U)) := hki
      have HLe : Hid ((R.length : Int) ≤ most) := by show _ ≤ _; rw [← HLen.out]; exact hle
      have HK15 : Hid (Kp (fun b => z + 4 ≤ b) w1 w5) := hk15
      have HFam : Hid (∀ L', L'.Perm (adds (adds (adds [] (inL F G)) (inL G F)) U) → L'.Pairwise (fun a b => ¬ lessL b a) → L' = R) := fun L' h1 h2 => by
        rw [← adds_append [] (inL F G), ← adds_append] at h1
        exact famOf_fun (prod_fam HFF.out HFG.out hU h1 h2) HFR.out
      have HX : Hid (∀ x, x ∈ adds (adds (adds [] (inL F G)) (inL G F)) U → x.length ≤ 10000 ∧ Rise x) := fun x hx => by
        rcases adds_mem hx with h | h
        · rcases adds_mem h with h | h
          · rcases adds_mem h with h | h
            · cases h
            · have := HN1.out x (mem_inL.1 h).1; exact ⟨by omega, HFF.out.1 x (mem_inL.1 h).1⟩
          · have := HN2.out x (mem_inL.1 h).1; exact ⟨by omega, HFG.out.1 x (mem_inL.1 h).1⟩
        · obtain ⟨p, q, hp, hq, hxs, -⟩ := hU.of x h
          have h1 := HN1.out p (mem_outL.1 hp).1
          have h2 := HN2.out q (mem_outL.1 hq).1
          have hr := hU.rise x h
          have := rise_sub_len hr hxs
          rw [List.length_append] at this
          exact ⟨by omega, hr⟩
      have HF5l : Hid (∀ b, newF F4 w4 w5 b → z + 4 ≤ b) := fun b hb => by
        rcases hb with h | h
        · exact HF4l.out b h
        · have := h.1; have := HK4.out.size; have := HZ1.out; omega
      clear hU hle hki hk5 hk15 HKI4 HLP4 HLO4
      go_wp2_with (go_at_call 34; fail)
      refine (family_any _ w5 _ most (adds (adds (adds [] (inL F G)) (inL G F)) U) HKI5.out (by rw [HLen.out]; have := HLe.out; have := HM5.out; omega) (fun x hx => (HX.out x hx).1) fun x hx => (HX.out x hx).2).mono ?_
      rintro e w6 ⟨⟨L', u, rfl, hp5, hso5, hfv⟩, hk6⟩
      obtain rfl : L' = R := HFam.out L' hp5 hso5
      have HK6 : Hid (Kp (fun b => z + 4 ≤ b) w1 w6) := HK15.out.trans hk6 fun b hb h => HF5l.out b h
      obtain ⟨fa, fc, Vf, rfl, hfrest⟩ := id hfv
      have e2 : w6.heap[z + 1 + 1]? = some (.cells #[.slice none 0 0] 27) := HK6.out.heap HE2.out (by omega)
      have e3 : w6.heap[z + 1 + 1 + 1]? = some (.cells #[.int .i64 0] 28) := HK6.out.heap HE3.out (by omega)
      have c2' : w6.cell? ⟨z + 1 + 1, 0, none⟩ = some (.slice none 0 0) := by rw [cell_of_row _ _ _ _ _ _ e2]; rfl
      have c3 : w6.cell? ⟨z + 1 + 1 + 1, 0, none⟩ = some (.int .i64 0) := by rw [cell_of_row _ _ _ _ _ _ e3]; rfl
      have z2 := frz_of e2 0
      have z3 := frz_of e3 0
      have HFin : Hid (BudP L' b w (.returned (.tuple #[.agg #[.slice fa L'.length fc], .int .i64 0])) (((w6.setCell ⟨z + 1 + 1, 0, none⟩ (.slice fa L'.length fc)).setCell ⟨z + 1 + 1 + 1, 0, none⟩ (.int .i64 0)).setCell ⟨z + 1 + 1 + 1, 0, none⟩ (.int .i64 0))) := by
        have g1 : FV (w6.setCell ⟨z + 1 + 1, 0, none⟩ (.slice fa L'.length fc)) (.agg #[.slice fa L'.length fc]) L' := hfv.put e2 _
        have x3 : (w6.setCell ⟨z + 1 + 1, 0, none⟩ (.slice fa L'.length fc)).heap[z + 1 + 1 + 1]? = some (.cells #[.int .i64 0] 28) := by
          rw [Below.heap_setCell _ _ _ _ (by show z + 1 + 1 + 1 ≠ z + 1 + 1; omega)]; exact e3
        have g2 := g1.putE (j := 0) x3 (by decide) (by decide) (.int .i64 0)
        have x4 := set_heap (j := 0) x3 (.int .i64 0)
        have g3 := g2.putE (j := 0) x4 (by decide) (by decide) (.int .i64 0)
        have hbw : Below w.heap.size w w6 := HB1.out.trans (HK6.out.below HB1.out.size fun b hb h => by rw [← HZ.out] at hb; omega)
        have hzz : w.heap.size = z := HZ.out.symm
        exact bud_yes (by rw [← HMost.out]; exact HLe.out) g3 (((hbw.setCell (p := ⟨z + 1 + 1, 0, none⟩) (by show w.heap.size ≤ z + 1 + 1; omega) _).setCell (p := ⟨z + 1 + 1 + 1, 0, none⟩) (by show w.heap.size ≤ z + 1 + 1 + 1; omega) _).setCell (p := ⟨z + 1 + 1 + 1, 0, none⟩) (by show w.heap.size ≤ z + 1 + 1 + 1; omega) _)
      have x3 : (w6.setCell ⟨z + 1 + 1, 0, none⟩ (.slice fa L'.length fc)).heap[z + 1 + 1 + 1]? = some (.cells #[.int .i64 0] 28) := by
        rw [Below.heap_setCell _ _ _ _ (by show z + 1 + 1 + 1 ≠ z + 1 + 1; omega)]; exact e3
      have x4 : ((w6.setCell ⟨z + 1 + 1, 0, none⟩ (.slice fa L'.length fc)).setCell ⟨z + 1 + 1 + 1, 0, none⟩ (.int .i64 0)).heap[z + 1 + 1 + 1]? = some (.cells #[.int .i64 0] 28) := set_heap (j := 0) x3 (.int .i64 0)
      have hcX : Hid (((w6.setCell ⟨z + 1 + 1, 0, none⟩ (.slice fa L'.length fc)).setCell ⟨z + 1 + 1 + 1, 0, none⟩ (.int .i64 0)).cell? ⟨z + 1 + 1 + 1, 0, none⟩ = some (.int .i64 0)) := by show _ = _; rw [cell_of_row _ _ _ _ _ _ x4]; rfl
      have hzX : Hid (((w6.setCell ⟨z + 1 + 1, 0, none⟩ (.slice fa L'.length fc)).setCell ⟨z + 1 + 1 + 1, 0, none⟩ (.int .i64 0)).frozen? ⟨z + 1 + 1 + 1, 0, none⟩ = false) := frz_of x4 0
      have x5 := set_heap (j := 0) x4 (.int .i64 0)
      have x6 : (((w6.setCell ⟨z + 1 + 1, 0, none⟩ (.slice fa L'.length fc)).setCell ⟨z + 1 + 1 + 1, 0, none⟩ (.int .i64 0)).setCell ⟨z + 1 + 1 + 1, 0, none⟩ (.int .i64 0)).heap[z + 1 + 1]? = some (.cells #[.slice fa L'.length fc] 27) := by
        rw [Below.heap_setCell _ _ _ _ (by show z + 1 + 1 ≠ z + 1 + 1 + 1; omega), Below.heap_setCell _ _ _ _ (by show z + 1 + 1 ≠ z + 1 + 1 + 1; omega)]
        exact set_heap (j := 0) e2 (.slice fa L'.length fc)
      have HX5 : Hid ((((w6.setCell ⟨z + 1 + 1, 0, none⟩ (.slice fa L'.length fc)).setCell ⟨z + 1 + 1 + 1, 0, none⟩ (.int .i64 0)).setCell ⟨z + 1 + 1 + 1, 0, none⟩ (.int .i64 0)).cell? ⟨z + 1 + 1 + 1, 0, none⟩ = some (.int .i64 0)) := by show _ = _; rw [cell_of_row _ _ _ _ _ _ x5]; rfl
      have HX6 : Hid ((((w6.setCell ⟨z + 1 + 1, 0, none⟩ (.slice fa L'.length fc)).setCell ⟨z + 1 + 1 + 1, 0, none⟩ (.int .i64 0)).setCell ⟨z + 1 + 1 + 1, 0, none⟩ (.int .i64 0)).cell? ⟨z + 1 + 1, 0, none⟩ = some (.slice fa L'.length fc)) := by show _ = _; rw [cell_of_row _ _ _ _ _ _ x6]; rfl
      clear hp5 hso5 hfv hk6 hfrest e2 e3 x3 x4 x5 x6
      go_wp2
      refine leaves_cons (f := 46) (args := #[.pointer (some ⟨z + 1 + 1 + 1, 0, none⟩)]) (by simp) (by simp [go_sem]) ?_
      refine (catchT_idle ⟨z + 1 + 1 + 1, 0, none⟩ (.int .i64 0) _ hcX.out hzX.out).mono ?_
      rintro e u' w'' ⟨rfl, rfl, hw''⟩
      have d3 := HX5.out
      have d2 := HX6.out
      have HFin' := HFin.out
      rw [← hw''] at d2 d3 HFin'
      clear hw'' c2' c3 z2 z3 hcX hzX HX5 HX6 HFin
      simp [Leaves, settle, results, Try.results24, go_sem, d2, d3]
      exact HFin'
    · have hlt : most < (R.length : Int) := by rw [← HLen.out]; exact hgt
      have hfin := HPan.out _ w5 (fun _ h => h) hk15 hlt
      have c2' : w5.cell? ⟨z + 1 + 1, 0, none⟩ = some (.slice none 0 0) := by rw [cell_of_row _ _ _ _ _ _ hfin.2.1]; rfl
      have c3 : w5.cell? ⟨z + 1 + 1 + 1, 0, none⟩ = some (.int .i64 0) := by rw [cell_of_row _ _ _ _ _ _ hfin.2.2.1]; rfl
      have z3 := frz_of hfin.2.2.1 0
      have HFin := HFinP.out w5 hfin
      unfold pB at he
      subst he
      clear hfin hgt hk5 hk15 hlt hU
      try go_wp2
      refine leaves_cons (f := 46) (args := #[.pointer (some ⟨z + 1 + 1 + 1, 0, none⟩)]) (by simp) (by simp [go_sem]) ?_
      refine (catchT_err ⟨z + 1 + 1 + 1, 0, none⟩ _ [] _ c3 z3).mono ?_
      rintro e u' w'' ⟨rfl, rfl, rfl⟩
      simp [Leaves, settle, results, Try.results24, go_sem, c2', c3]
      exact HFin
  · have c2' : w1.cell? ⟨z + 1 + 1, 0, none⟩ = some (.slice none 0 0) := by rw [cell_of_row _ _ _ _ _ _ e2]; rfl
    have c3 : w1.cell? ⟨z + 1 + 1 + 1, 0, none⟩ = some (.int .i64 0) := by rw [cell_of_row _ _ _ _ _ _ e3]; rfl
    have z3 := frz_of e3 0
    have HFin : Hid (BudP R b w (.returned (.tuple #[.agg #[.slice none 0 0], .int .i64 10])) (w1.setCell ⟨z + 1 + 1 + 1, 0, none⟩ (.int .i64 10))) := bud_no (by rw [← HMost.out]; omega) (HB1.out.setCell (p := ⟨z + 1 + 1 + 1, 0, none⟩) (by show w.heap.size ≤ z + 1 + 1 + 1; rw [← HZ.out]; omega) _)
    clear hm0 b1 e0 e1 e2 e3 hz4
    unfold pB at he
    subst he
    try go_wp2
    refine leaves_cons (f := 46) (args := #[.pointer (some ⟨z + 1 + 1 + 1, 0, none⟩)]) (by simp) (by simp [go_sem]) ?_
    refine (catchT_err ⟨z + 1 + 1 + 1, 0, none⟩ _ [] _ c3 z3).mono ?_
    rintro e u' w'' ⟨rfl, rfl, rfl⟩
    simp [Leaves, settle, results, Try.results24, go_sem, c2', c3]
    exact HFin.out
end Go.Proofs.Yteaajhpgmndomaa
