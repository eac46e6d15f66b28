/- Lists: two lists of lists. -/
import Derived.Test.YteaajhpgmndomaaLis
import Derived.Deep.RegionHeld3
import Derived.Deep.DeepCutAuto
namespace Go.Proofs.Yteaajhpgmndomaa
open Go.RowKit Fo
set_option maxRecDepth 100000

/-- What a truth value tells. -/
def Fo.Dc (r : Bool) (p : Prop) : Prop := r = true ↔ p
set_option maxHeartbeats 8000000 in
theorem rlists_any (w : World) (v1 v2 : Value) (F G : List (List Int)) (R : Bool) (h1 : IsLL w v1 F) (h2 : IsLL w v2 G) (hR : R = true ↔ F = G) :
    Calls Try.prog 18 #[v1, v2] w fun e w' => e = .returned (.bool R) ∧ Below w.heap.size w w' := by
  obtain ⟨a, c, V, rfl, h1, hs1⟩ := h1
  obtain ⟨b, d, U, rfl, h2, hs2⟩ := h2
  have H1 : Hid (Rd w a F.length c V) := h1
  have H2 : Hid (Rd w b G.length d U) := h2
  have HS1 : Hid (∀ j, j < F.length → IsL w (V j) (gs F j)) := hs1
  have HS2 : Hid (∀ j, j < G.length → IsL w (U j) (gs G j)) := hs2
  have HR : Hid (R = true ↔ F = G) := hR
  have hn := h1.1
  have hm := h2.1
  have hc := h1.2.1
  have hd := h2.2.1
  clear h1 h2 hR hs1 hs2
  obtain ⟨n, hN0⟩ : ∃ n, n = F.length := ⟨_, rfl⟩
  obtain ⟨q, hM0⟩ : ∃ q, q = G.length := ⟨_, rfl⟩
  rw [← hN0] at H1 hn HS1 ⊢
  rw [← hM0] at H2 hm HS2 ⊢
  have HN : Hid (n = F.length) := hN0
  have HM : Hid (q = G.length) := hM0
  clear hN0 hM0
  by_cases hnm : n = q
  · subst hnm
    go_enter Try.func18, Try.ntmps18
    go_wp2
    go_loopw [5] (fun v wr => ∃ i : Nat, i ≤ n ∧ v = .int .i64 i ∧ Hid (Below w.heap.size w wr) ∧ Hid (∀ j, j < i → gs F j = gs G j)) (fun v _ => n - (intOf v).toNat)
    case atStart => exact ⟨0, Nat.zero_le _, rfl, below_refl _, fun j hj => absurd hj (by omega)⟩
    case round =>
      obtain ⟨i, hi, rfl, HW, HI⟩ := hrel
      rename World => wr
      by_cases hlt : i < n
      · obtain ⟨ga, oa, rfl, hca⟩ := (H1.out.below HW.out).at (by omega)
        obtain ⟨gb, ob, rfl, hcb0⟩ := (H2.out.below HW.out).at (by omega)
        have hci := hca i hlt
        have hcb := hcb0 i hlt
        have hga : ga < wr.heap.size := World.block_lt_of_cell? wr _ hci
        have hgb : gb < wr.heap.size := World.block_lt_of_cell? wr _ hcb
        have HVi : Hid (IsL wr (V i) (gs F i)) := (HS1.out i hlt).below HW.out
        have HUi : Hid (IsL wr (U i) (gs G i)) := (HS2.out i hlt).below HW.out
        generalize hv : V i = vi at hci HVi
        generalize hu : U i = ui at hcb HUi
        have j1 : (0 : Int) ≤ (i : Int) := by omega
        have j2 : (i : Int) < (n : Int) := by omega
        have HW0 : Below wr.heap.size wr wr := below_refl _
        clear hca hcb0 hv hu H1 H2 HS1 HS2
        by_cases he : gs F i = gs G i
        · have HI' : Hid (∀ j, j < i + 1 → gs F j = gs G j) := fun j hj => by
            by_cases e : j = i
            · subst e; exact he
            · exact HI.out j (by omega)
          have HRr : Hid (Dc true (gs F i = gs G i)) := ⟨fun _ => he, fun _ => rfl⟩
          clear HR HI he
          go_wp2
          go_upto_region 6 with fail
          refine wp_region_held_drew (S := (fun w' => Below wr.heap.size wr w')) (by kernel_rfl) ?_ (fun hHeld => ?_)
          · (try dsimp only); first | exact HW0 | exact HW0.drew
          refine wpAnyH_take (i := 0) (oi := { dst := some 17, op := Op.move (Operand.tmp 0), type := 22, pos := "engine.go:424", after := #[], guard := none }) (v := ?vu1) rfl (by kernel_rfl) (by kernel_rfl) (by kernel_rfl) (fun _ _ _ h => h) (Or.inl ⟨by rfl, ?hyu1⟩) (by assumption) ?restu1
          case hyu1 => (intro w hSw; (try dsimp only at hSw); go_simp; (try with_reducible rfl))
          try simp only [Act.put, List.setIfInBounds_toArray, List.set_cons_zero, List.set_cons_succ]
          refine wpAnyH_take (i := 1) (oi := { dst := some 18, op := Op.move (Operand.tmp 5), type := 3, pos := "engine.go:424", after := #[], guard := none }) (v := ?vu2) rfl (by kernel_rfl) (by kernel_rfl) (by kernel_rfl) (fun _ _ _ h => h) (Or.inl ⟨by rfl, ?hyu2⟩) (by assumption) ?restu2
          case hyu2 => (intro w hSw; (try dsimp only at hSw); go_simp; (try with_reducible rfl))
          try simp only [Act.put, List.setIfInBounds_toArray, List.set_cons_zero, List.set_cons_succ]
          refine wpAnyH_take (i := 2) (oi := { dst := some 19, op := Op.indexAddr 22 (Operand.tmp 17) (Operand.tmp 18), type := 0, pos := "engine.go:424", after := #[{ on := 0, ground := Ground.data }, { on := 1, ground := Ground.data }], guard := none }) (v := ?vu3) rfl (by kernel_rfl) (by kernel_rfl) (by kernel_rfl) (fun _ _ _ h => h) (Or.inl ⟨by rfl, ?hyu3⟩) (by assumption) ?restu3
          case hyu3 => (intro w hSw; (try dsimp only at hSw); go_simp; (try with_reducible rfl))
          try simp only [Act.put, List.setIfInBounds_toArray, List.set_cons_zero, List.set_cons_succ]
          refine wpAnyH_take (i := 3) (oi := { dst := some 20, op := Op.load 23 (Operand.tmp 19), type := 23, pos := "engine.go:424", after := #[{ on := 2, ground := Ground.data }], guard := none }) (v := ?vu4) rfl (by kernel_rfl) (by kernel_rfl) (by kernel_rfl) (fun _ _ _ h => h) (Or.inl ⟨by rfl, ?hyu4⟩) (by assumption) ?restu4
          case hyu4 => (intro w hSw; (try dsimp only at hSw); have q1 := (Below.cell hSw (p := ⟨ga, oa + i, none⟩) hga).trans hci; have q2 := (Below.cell hSw (p := ⟨gb, ob + i, none⟩) hgb).trans hcb; go_simp; (try with_reducible rfl))
          try simp only [Act.put, List.setIfInBounds_toArray, List.set_cons_zero, List.set_cons_succ]
          refine wpAnyH_take (i := 4) (oi := { dst := some 21, op := Op.move (Operand.tmp 1), type := 22, pos := "engine.go:424", after := #[], guard := none }) (v := ?vu5) rfl (by kernel_rfl) (by kernel_rfl) (by kernel_rfl) (fun _ _ _ h => h) (Or.inl ⟨by rfl, ?hyu5⟩) (by assumption) ?restu5
          case hyu5 => (intro w hSw; (try dsimp only at hSw); go_simp; (try with_reducible rfl))
          try simp only [Act.put, List.setIfInBounds_toArray, List.set_cons_zero, List.set_cons_succ]
          refine wpAnyH_take (i := 5) (oi := { dst := some 22, op := Op.move (Operand.tmp 5), type := 3, pos := "engine.go:424", after := #[], guard := none }) (v := ?vu6) rfl (by kernel_rfl) (by kernel_rfl) (by kernel_rfl) (fun _ _ _ h => h) (Or.inl ⟨by rfl, ?hyu6⟩) (by assumption) ?restu6
          case hyu6 => (intro w hSw; (try dsimp only at hSw); go_simp; (try with_reducible rfl))
          try simp only [Act.put, List.setIfInBounds_toArray, List.set_cons_zero, List.set_cons_succ]
          refine wpAnyH_take (i := 6) (oi := { dst := some 23, op := Op.indexAddr 22 (Operand.tmp 21) (Operand.tmp 22), type := 0, pos := "engine.go:424", after := #[{ on := 4, ground := Ground.data }, { on := 5, ground := Ground.data }], guard := none }) (v := ?vu7) rfl (by kernel_rfl) (by kernel_rfl) (by kernel_rfl) (fun _ _ _ h => h) (Or.inl ⟨by rfl, ?hyu7⟩) (by assumption) ?restu7
          case hyu7 => (intro w hSw; (try dsimp only at hSw); go_simp; (try with_reducible rfl))
          try simp only [Act.put, List.setIfInBounds_toArray, List.set_cons_zero, List.set_cons_succ]
          refine wpAnyH_take (i := 7) (oi := { dst := some 24, op := Op.load 23 (Operand.tmp 23), type := 23, pos := "engine.go:424", after := #[{ on := 6, ground := Ground.data }], guard := none }) (v := ?vu8) rfl (by kernel_rfl) (by kernel_rfl) (by kernel_rfl) (fun _ _ _ h => h) (Or.inl ⟨by rfl, ?hyu8⟩) (by assumption) ?restu8
          case hyu8 => (intro w hSw; (try dsimp only at hSw); have q1 := (Below.cell hSw (p := ⟨ga, oa + i, none⟩) hga).trans hci; have q2 := (Below.cell hSw (p := ⟨gb, ob + i, none⟩) hgb).trans hcb; go_simp; (try with_reducible rfl))
          try simp only [Act.put, List.setIfInBounds_toArray, List.set_cons_zero, List.set_cons_succ]
          refine wpAnyH_ready (rs := [8]) (by kernel_rfl) (by simp) ?_
          refine AllReadyH.cons (o := { dst := some 25, op := Op.call { callee := Callee.value (Operand.func 13), args := #[Operand.tmp 20, Operand.tmp 24], argTypes := #[23, 23] }, type := 4, pos := "engine.go:424", after := #[{ on := 3, ground := Ground.data }, { on := 7, ground := Ground.data }], guard := none }) rfl (fun K hK => ?_) AllReadyH.nil
          go_simp
          go_at_call 13
          refine (rints_any _ vi ui (gs F i) (gs G i) true (by exact HVi.out.below (by first | exact HW0 | exact HW0.drew)) (by exact HUi.out.below (by first | exact HW0 | exact HW0.drew)) HRr.out).mono ?_
          rintro e z0 ⟨rfl, b⟩
          replace HW0 := below_step (by first | exact HW0 | exact HW0.drew) b
          clear b
          refine hK.out _ _ ?_ (fun hHeldB => ?_)
          · (try dsimp only); exact HW0
          clear hK K hHeld
          have hHeld := hHeldB
          clear hHeldB
          try simp only [Act.put, List.setIfInBounds_toArray, List.set_cons_zero, List.set_cons_succ]
          refine wpAnyH_take (i := 9) (oi := { dst := some 26, op := Op.unOp UnOp.not 4 (Operand.tmp 25), type := 4, pos := "engine.go:424", after := #[{ on := 8, ground := Ground.data }], guard := none }) (v := ?vu9) rfl (by kernel_rfl) (by kernel_rfl) (by kernel_rfl) (fun _ _ _ h => h) (Or.inl ⟨by rfl, ?hyu9⟩) (by assumption) ?restu9
          case hyu9 => (intro w hSw; (try dsimp only at hSw); go_simp; (try with_reducible rfl))
          try simp only [Act.put, List.setIfInBounds_toArray, List.set_cons_zero, List.set_cons_succ]
          refine wpAnyH_done (by kernel_rfl) ?_ _
          go_wp2
          go_roundw
          case rel => exact ⟨i + 1, by omega, by go_num, below_step HW.out HW0, HI'⟩
          case measure => simp [intOf]; omega
        · have HRr : Hid (Dc false (gs F i = gs G i)) := ⟨fun h => (by cases h), fun h => absurd h he⟩
          have HE : Hid (false = R) := by
            show _ = _
            cases h : R
            · rfl
            · exact absurd (by rw [HR.out.1 h]) he
          clear HR HI he
          go_wp2
          go_upto_region 6 with fail
          refine wp_region_held_drew (S := (fun w' => Below wr.heap.size wr w')) (by kernel_rfl) ?_ (fun hHeld => ?_)
          · (try dsimp only); first | exact HW0 | exact HW0.drew
          refine wpAnyH_take (i := 0) (oi := { dst := some 17, op := Op.move (Operand.tmp 0), type := 22, pos := "engine.go:424", after := #[], guard := none }) (v := ?vu10) rfl (by kernel_rfl) (by kernel_rfl) (by kernel_rfl) (fun _ _ _ h => h) (Or.inl ⟨by rfl, ?hyu10⟩) (by assumption) ?restu10
          case hyu10 => (intro w hSw; (try dsimp only at hSw); go_simp; (try with_reducible rfl))
          try simp only [Act.put, List.setIfInBounds_toArray, List.set_cons_zero, List.set_cons_succ]
          refine wpAnyH_take (i := 1) (oi := { dst := some 18, op := Op.move (Operand.tmp 5), type := 3, pos := "engine.go:424", after := #[], guard := none }) (v := ?vu11) rfl (by kernel_rfl) (by kernel_rfl) (by kernel_rfl) (fun _ _ _ h => h) (Or.inl ⟨by rfl, ?hyu11⟩) (by assumption) ?restu11
          case hyu11 => (intro w hSw; (try dsimp only at hSw); go_simp; (try with_reducible rfl))
          try simp only [Act.put, List.setIfInBounds_toArray, List.set_cons_zero, List.set_cons_succ]
          refine wpAnyH_take (i := 2) (oi := { dst := some 19, op := Op.indexAddr 22 (Operand.tmp 17) (Operand.tmp 18), type := 0, pos := "engine.go:424", after := #[{ on := 0, ground := Ground.data }, { on := 1, ground := Ground.data }], guard := none }) (v := ?vu12) rfl (by kernel_rfl) (by kernel_rfl) (by kernel_rfl) (fun _ _ _ h => h) (Or.inl ⟨by rfl, ?hyu12⟩) (by assumption) ?restu12
          case hyu12 => (intro w hSw; (try dsimp only at hSw); go_simp; (try with_reducible rfl))
          try simp only [Act.put, List.setIfInBounds_toArray, List.set_cons_zero, List.set_cons_succ]
          refine wpAnyH_take (i := 3) (oi := { dst := some 20, op := Op.load 23 (Operand.tmp 19), type := 23, pos := "engine.go:424", after := #[{ on := 2, ground := Ground.data }], guard := none }) (v := ?vu13) rfl (by kernel_rfl) (by kernel_rfl) (by kernel_rfl) (fun _ _ _ h => h) (Or.inl ⟨by rfl, ?hyu13⟩) (by assumption) ?restu13
          case hyu13 => (intro w hSw; (try dsimp only at hSw); have q1 := (Below.cell hSw (p := ⟨ga, oa + i, none⟩) hga).trans hci; have q2 := (Below.cell hSw (p := ⟨gb, ob + i, none⟩) hgb).trans hcb; go_simp; (try with_reducible rfl))
          try simp only [Act.put, List.setIfInBounds_toArray, List.set_cons_zero, List.set_cons_succ]
          refine wpAnyH_take (i := 4) (oi := { dst := some 21, op := Op.move (Operand.tmp 1), type := 22, pos := "engine.go:424", after := #[], guard := none }) (v := ?vu14) rfl (by kernel_rfl) (by kernel_rfl) (by kernel_rfl) (fun _ _ _ h => h) (Or.inl ⟨by rfl, ?hyu14⟩) (by assumption) ?restu14
          case hyu14 => (intro w hSw; (try dsimp only at hSw); go_simp; (try with_reducible rfl))
          try simp only [Act.put, List.setIfInBounds_toArray, List.set_cons_zero, List.set_cons_succ]
          refine wpAnyH_take (i := 5) (oi := { dst := some 22, op := Op.move (Operand.tmp 5), type := 3, pos := "engine.go:424", after := #[], guard := none }) (v := ?vu15) rfl (by kernel_rfl) (by kernel_rfl) (by kernel_rfl) (fun _ _ _ h => h) (Or.inl ⟨by rfl, ?hyu15⟩) (by assumption) ?restu15
          case hyu15 => (intro w hSw; (try dsimp only at hSw); go_simp; (try with_reducible rfl))
          try simp only [Act.put, List.setIfInBounds_toArray, List.set_cons_zero, List.set_cons_succ]
          refine wpAnyH_take (i := 6) (oi := { dst := some 23, op := Op.indexAddr 22 (Operand.tmp 21) (Operand.tmp 22), type := 0, pos := "engine.go:424", after := #[{ on := 4, ground := Ground.data }, { on := 5, ground := Ground.data }], guard := none }) (v := ?vu16) rfl (by kernel_rfl) (by kernel_rfl) (by kernel_rfl) (fun _ _ _ h => h) (Or.inl ⟨by rfl, ?hyu16⟩) (by assumption) ?restu16
          case hyu16 => (intro w hSw; (try dsimp only at hSw); go_simp; (try with_reducible rfl))
          try simp only [Act.put, List.setIfInBounds_toArray, List.set_cons_zero, List.set_cons_succ]
          refine wpAnyH_take (i := 7) (oi := { dst := some 24, op := Op.load 23 (Operand.tmp 23), type := 23, pos := "engine.go:424", after := #[{ on := 6, ground := Ground.data }], guard := none }) (v := ?vu17) rfl (by kernel_rfl) (by kernel_rfl) (by kernel_rfl) (fun _ _ _ h => h) (Or.inl ⟨by rfl, ?hyu17⟩) (by assumption) ?restu17
          case hyu17 => (intro w hSw; (try dsimp only at hSw); have q1 := (Below.cell hSw (p := ⟨ga, oa + i, none⟩) hga).trans hci; have q2 := (Below.cell hSw (p := ⟨gb, ob + i, none⟩) hgb).trans hcb; go_simp; (try with_reducible rfl))
          try simp only [Act.put, List.setIfInBounds_toArray, List.set_cons_zero, List.set_cons_succ]
          refine wpAnyH_ready (rs := [8]) (by kernel_rfl) (by simp) ?_
          refine AllReadyH.cons (o := { dst := some 25, op := Op.call { callee := Callee.value (Operand.func 13), args := #[Operand.tmp 20, Operand.tmp 24], argTypes := #[23, 23] }, type := 4, pos := "engine.go:424", after := #[{ on := 3, ground := Ground.data }, { on := 7, ground := Ground.data }], guard := none }) rfl (fun K hK => ?_) AllReadyH.nil
          go_simp
          go_at_call 13
          refine (rints_any _ vi ui (gs F i) (gs G i) false (by exact HVi.out.below (by first | exact HW0 | exact HW0.drew)) (by exact HUi.out.below (by first | exact HW0 | exact HW0.drew)) HRr.out).mono ?_
          rintro e z0 ⟨rfl, b⟩
          replace HW0 := below_step (by first | exact HW0 | exact HW0.drew) b
          clear b
          refine hK.out _ _ ?_ (fun hHeldB => ?_)
          · (try dsimp only); exact HW0
          clear hK K hHeld
          have hHeld := hHeldB
          clear hHeldB
          try simp only [Act.put, List.setIfInBounds_toArray, List.set_cons_zero, List.set_cons_succ]
          refine wpAnyH_take (i := 9) (oi := { dst := some 26, op := Op.unOp UnOp.not 4 (Operand.tmp 25), type := 4, pos := "engine.go:424", after := #[{ on := 8, ground := Ground.data }], guard := none }) (v := ?vu18) rfl (by kernel_rfl) (by kernel_rfl) (by kernel_rfl) (fun _ _ _ h => h) (Or.inl ⟨by rfl, ?hyu18⟩) (by assumption) ?restu18
          case hyu18 => (intro w hSw; (try dsimp only at hSw); go_simp; (try with_reducible rfl))
          try simp only [Act.put, List.setIfInBounds_toArray, List.set_cons_zero, List.set_cons_succ]
          refine wpAnyH_done (by kernel_rfl) ?_ _
          go_wp2
          go_ret
          exact ⟨ret_bool HE.out, below_step HW.out HW0⟩
      · obtain rfl : i = n := by omega
        have HE : Hid (true = R) := (HR.out.2 (gs_ext (by rw [← HN.out, ← HM.out]) (by rw [← HN.out]; exact HI.out))).symm
        clear H1 H2 HS1 HS2 HR HI
        go_wp2
        go_ret
        exact ⟨ret_bool HE.out, HW.out⟩
  · have hne : ((n : Int) != (q : Int)) = true := by simp; omega
    have HE : Hid (false = R) := by
      show _ = _
      cases h : R
      · rfl
      · exact absurd (by rw [HN.out, HM.out, HR.out.1 h]) hnm
    clear H1 H2 HS1 HS2 HR
    go_enter Try.func18, Try.ntmps18
    go_wp2
    go_ret
    exact ⟨ret_bool HE.out, below_refl _⟩
end Go.Proofs.Yteaajhpgmndomaa
