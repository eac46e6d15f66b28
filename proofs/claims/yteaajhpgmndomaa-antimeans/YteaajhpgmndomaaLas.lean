/- The walk of AntiLeast, out of what families answer. -/
import Derived.Test.YteaajhpgmndomaaFsy
import Derived.Test.YteaajhpgmndomaaAnx
namespace Go.Proofs.Yteaajhpgmndomaa
open Go.RowKit Fo
set_option maxRecDepth 100000

namespace Fo
theorem fam_inj {F : List (List Int)} (h : Fam F) {j k : Nat} (hj : j < F.length) (hk : k < F.length) (e : gs F j = gs F k) : j = k := by
  rcases Nat.lt_trichotomy j k with l | l | l
  · have := (List.pairwise_iff_getElem.1 h.2) j k hj hk l
    rw [← gs_at hj, ← gs_at hk, e] at this
    exact absurd this.1 (less_irr _)
  · exact l
  · have := (List.pairwise_iff_getElem.1 h.2) k j hk hj l
    rw [← gs_at hj, ← gs_at hk, e] at this
    exact absurd this.1 (less_irr _)
theorem fam_lens {F : List (List Int)} (h : Fam F) {p : Nat} (hp : p + 1 < F.length) : (gs F p).length ≤ (gs F (p + 1)).length := by
  have := (List.pairwise_iff_getElem.1 h.2) p (p + 1) (by omega) hp (by omega)
  rw [← gs_at (by omega), ← gs_at hp] at this
  rcases this.1 with h | ⟨h, -⟩
  · omega
  · omega
theorem fam_none {L F : List (List Int)} (h : FamOf L F) (hl : L.length ≠ 0) : F.length ≠ 0 := by
  intro h0
  obtain ⟨a, ha, -⟩ := (h.2 (gs L 0)).2 ⟨gs L 0, gs_mem.2 ⟨0, by omega, rfl⟩, sub_refl _⟩
  rw [List.length_eq_zero_iff.1 h0] at ha
  cases ha
/-- Whether one of so many lists is the same set. -/
def OM (q : Bool) (k : Nat) (L : List (List Int)) (a : List Int) : Prop := q = true ↔ ∃ j, j < k ∧ sub (gs L j) a ∧ sub a (gs L j)
end Fo
theorem FamSays.awake_at {Env : World → Prop} (C : FamSays Env) {w w' : World} (h : Hid (Env w)) (b : Hid (Below w.heap.size w w')) : Calls Try.prog 10 #[] w' fun e x => e = .returned (.bool true) ∧ Below w'.heap.size w' x := awake_of C w' (C.keep h.out b.out)
set_option maxHeartbeats 64000000 in
theorem least_any {Env : World → Prop} (C : FamSays Env) (w : World) (vl : Value) (L : List (List Int)) (h1 : IsLL w vl L) (henv : Env w) :
    Calls Try.prog 5 #[vl] w fun e w' => e = .returned (.bool true) ∧ Below w.heap.size w w' := by
  have HA0 := h1
  have HE : Hid (Env w) := henv
  obtain ⟨al, cl, VL, rfl, hrl, -⟩ := h1
  have hl1 := hrl.1
  have hl2 := hrl.2.1
  obtain ⟨W0, hW0⟩ : ∃ W0, W0 = w.alloc (.cells #[.slice al L.length cl] 22) := ⟨_, rfl⟩
  have HB : Hid (Below w.heap.size w W0) := by rw [hW0]; exact below1 w _
  have hg0 : W0.heap[w.heap.size]? = some (.cells #[.slice al L.length cl] 22) := by rw [hW0]; exact heap_new1 w _
  have cS := asmall_any W0 w.heap.size 1 (fun _ => .slice al L.length cl) (fun _ => L) (by decide)
    (fun j hj => by rw [cell_of_row W0 _ _ _ _ _ hg0]; match j, hj with | 0, _ => rfl)
    (fun j hj => HA0.below HB.out)
  have HA : Hid (IsLL W0 (.slice al L.length cl) L) := HA0.below HB.out
  clear hrl hg0 HA0 henv
  go_enter Try.func5, Try.ntmps5
  go_wp2_with (go_at_call 9; fail)
  rw [← hW0]
  clear hW0
  refine cS.mono ?_
  rintro e w' ⟨hr, hw⟩
  replace hw := hw.symm
  subst hw
  obtain ⟨q, rfl, hq⟩ := hr
  clear cS
  cases q
  · skip
    go_wp2_with (go_at_call 10; fail)
    refine (awake_of C _ (C.keep HE.out HB.out)).mono ?_
    rintro e xx ⟨rfl, b⟩
    have HBx : Hid (Below w.heap.size w xx) := below_step HB.out b
    clear b HB
    go_wp2
    go_ret
    exact ⟨rfl, HBx.out⟩
  · have HL : Hid (SmP L) := hq rfl 0 (by decide)
    clear hq
    by_cases hgl : GoodP L
    · have HgL : Hid (GoodP L) := hgl
      clear hgl
      go_wp2_with (go_at_call 12; fail)
      refine (agood_any _ _ L true HA.out ⟨fun _ => HgL.out, fun _ => rfl⟩).mono ?_
      rintro e w' ⟨rfl, hw⟩
      replace hw := hw.symm
      subst hw
      go_wp2_with (go_at_call 11; fail)
      refine (C.of _ _ L (C.keep HE.out HB.out) HA.out (Nat.le_trans HL.out.1 (by decide)) (fun j hj => Nat.le_trans (HL.out.2 j hj) (by decide))).mono ?_
      rintro e w1 ⟨hr, b⟩
      rcases hr with ⟨-, u, F, rfl, hf, ho⟩ | ⟨hn, -⟩
      case inr => exact absurd HgL.out hn
      replace HA : Hid (IsLL w1 (.slice al L.length cl) L) := HA.out.below b
      replace HB : Hid (Below w.heap.size w w1) := below_step HB.out b
      obtain ⟨af, cf, Vf, rfl, hrest⟩ := id hf
      have HOf : Hid (FamOf L F) := ho
      have HFf : Hid (FV w1 (.agg #[.slice af F.length cf]) F) := hf
      clear hrest ho hf b
      go_upto_region 4 with fail
      obtain ⟨W1, hW1⟩ : ∃ W1, W1 = w1.alloc (.cells #[.slice af F.length cf] 27) := ⟨_, rfl⟩
      rw [← hW1]
      have b : Below w1.heap.size w1 W1 := by rw [hW1]; exact below1 _ _
      have Hg1 : Hid (W1.heap[w1.heap.size]? = some (.cells #[.slice af F.length cf] 27)) := by show W1.heap[_]? = _; rw [hW1]; exact heap_new1 _ _
      clear hW1
      replace HA : Hid (IsLL W1 (.slice al L.length cl) L) := HA.out.below b
      replace HB : Hid (Below w.heap.size w W1) := below_step HB.out b
      replace HFf : Hid (FV W1 (.agg #[.slice af F.length cf]) F) := HFf.out.below b
      have hk3 : W1.cell? ⟨w1.heap.size, 0, none⟩ = some (.slice af F.length cf) := by rw [cell_of_row W1 _ _ _ _ _ Hg1.out]; rfl
      clear b
      go_wp2_with (go_at_call 19; fail)
      refine (C.sets _ _ F (C.keep HE.out HB.out) HFf.out).mono ?_
      rintro e Wc ⟨⟨u, rfl, hu⟩, b⟩
      clear hk3
      have HAc : Hid (IsLL Wc (.slice al L.length cl) L) := HA.out.below b
      have HBc : Hid (Below w.heap.size w Wc) := below_step HB.out b
      have HFc : Hid (FV Wc (.agg #[.slice af F.length cf]) F) := HFf.out.below b
      have hk3 : Wc.cell? ⟨w1.heap.size, 0, none⟩ = some (.slice af F.length cf) := by rw [cell_of_row Wc _ _ _ _ _ ((b.block w1.heap.size (Array.getElem?_eq_some_iff.1 Hg1.out).1).trans Hg1.out)]; rfl
      have m3 : w1.heap.size < Wc.heap.size := World.block_lt_of_cell? Wc _ hk3
      obtain ⟨as', cs, VS, rfl, hrs, hss⟩ := hu
      have hs1 := hrs.1
      have hs2 := hrs.2.1
      have HRS : Hid (Rd Wc as' F.length cs VS) := hrs
      have HSS : Hid (∀ j, j < F.length → IsL Wc (VS j) (gs F j)) := hss
      obtain ⟨a', c', VL', e', hra, hsa⟩ := HAc.out
      obtain ⟨rfl, rfl⟩ : al = a' ∧ cl = c' := by simpa using e'
      have HRA : Hid (Rd Wc al L.length cl VL') := hra
      have HSA : Hid (∀ j, j < L.length → IsL Wc (VL' j) (gs L j)) := hsa
      have HEc : Hid (Env Wc) := C.keep HE.out HBc.out
      have HFn : Hid (∀ j, j < F.length → (gs F j).length ≤ 1000000) := fun j hj => by
        obtain ⟨_, _, _, _, _, _, _, _, h, -⟩ := HFc.out
        exact Nat.le_trans (h j hj) (by decide)
      have HLn : Hid (∀ j, j < L.length → (gs L j).length ≤ 1000000) := fun j hj => Nat.le_trans (HL.out.2 j hj) (by decide)
      clear hrs hss hra hsa e' b HA HB HFf Hg1 HAc
      go_wp2
      go_loopw [6] (fun v6 wr => ∃ i : Nat, i ≤ F.length ∧ v6 = .int .i64 i ∧ Hid (Below Wc.heap.size Wc wr)) (fun v6 _ => F.length - (intOf v6).toNat)
      case atStart => exact ⟨0, Nat.zero_le _, rfl, below_refl _⟩
      case round =>
        obtain ⟨i, hi, rfl, HW1⟩ := hrel
        rename World => wr1
        by_cases hlt : i < F.length
        · obtain ⟨gb, ob, rfl, hcb⟩ := HRS.out.at (by omega)
          have hci := hcb i hlt
          have hgb : gb < Wc.heap.size := World.block_lt_of_cell? Wc _ hci
          have HVi : Hid (IsL Wc (VS i) (gs F i)) := HSS.out i hlt
          have HFi : Hid ((gs F i).length ≤ 1000000) := HFn.out i hlt
          have hlt' : (i : Int) < (F.length : Int) := by omega
          obtain ⟨avi, cvi, hvi0, -⟩ := id HVi.out
          rw [hvi0] at hci HVi
          go_wp2
          go_loopw [7, 8] (fun v7 v8 wr => ∃ (k : Nat) (q : Bool), k ≤ L.length ∧ v8 = .int .i64 k ∧ v7 = .bool q ∧ Hid (Below Wc.heap.size Wc wr) ∧ Hid (OM q k L (gs F i))) (fun _ v8 _ => L.length - (intOf v8).toNat)
          case atStart => exact ⟨0, false, Nat.zero_le _, rfl, rfl, HW1, by show _ ↔ _; simp⟩
          case round =>
            clear HW1
            obtain ⟨k, q, hk, rfl, rfl, HW2, HM⟩ := hrel
            rename World => wr
            by_cases hkl : k < L.length
            · obtain ⟨ga, oa, rfl, hca⟩ := HRA.out.at (by omega)
              have hck := hca k hkl
              have hga : ga < Wc.heap.size := World.block_lt_of_cell? Wc _ hck
              have HVk : Hid (IsL Wc (VL' k) (gs L k)) := HSA.out k hkl
              have HLk : Hid ((gs L k).length ≤ 1000000) := HLn.out k hkl
              obtain ⟨avk, cvk, hvk0, -⟩ := id HVk.out
              rw [hvk0] at hck HVk
              have j1 : (0 : Int) ≤ (i : Int) := by omega
              have k1 : (0 : Int) ≤ (k : Int) := by omega
              have k2 : (k : Int) < (L.length : Int) := by omega
              have HMn : Hid (∀ r1 r2 : Bool, subB (gs L k) (gs F i) = r1 → subB (gs F i) (gs L k) = r2 → OM (q || (r1 && r2)) (k + 1) L (gs F i)) := fun r1 r2 h1 h2 => by
                have h0 : q = true ↔ ∃ j, j < k ∧ sub (gs L j) (gs F i) ∧ sub (gs F i) (gs L j) := HM.out
                show _ ↔ _
                rw [Bool.or_eq_true, Bool.and_eq_true, h0, ← h1, ← h2, subB_iff, subB_iff]
                constructor
                · rintro (⟨j, hj, h⟩ | h)
                  · exact ⟨j, by omega, h⟩
                  · exact ⟨k, by omega, h⟩
                · rintro ⟨j, hj, h⟩
                  by_cases e : j = k
                  · subst e; exact Or.inr h
                  · exact Or.inl ⟨j, by omega, h⟩
              obtain ⟨r1, hr1⟩ : ∃ r, subB (gs L k) (gs F i) = r := ⟨_, rfl⟩
              obtain ⟨r2, hr2⟩ : ∃ r, subB (gs F i) (gs L k) = r := ⟨_, rfl⟩
              have HM' : Hid (OM (q || (r1 && r2)) (k + 1) L (gs F i)) := HMn.out r1 r2 hr1 hr2
              have HQ1 : Hid (subB (gs L k) (gs F i) = r1) := hr1
              have HQ2 : Hid (subB (gs F i) (gs L k) = r2) := hr2
              have HW : Below Wc.heap.size Wc wr := HW2
              clear hr1 hr2 HMn HM HW2 hca hcb
              cases q
              · cases r1
                · skip
                  skip
                  go_wp2
                  go_upto_region 14 with fail
                  refine wp_region_held_drew (S := (fun w' => Below Wc.heap.size Wc w')) (by kernel_rfl) ?_ (fun hHeld => ?_)
                  · (try dsimp only); first | exact HW | exact HW.drew
                  refine wpAnyH_take (i := 0) (oi := { dst := some 42, op := Op.move (Operand.tmp 7), type := 4, pos := "law.go:115", after := #[], guard := none }) (v := ?vu1) rfl (by kernel_rfl) (by kernel_rfl) (by kernel_rfl) (fun _ _ _ h => h) (Or.inl ⟨by rfl, ?hyu1⟩) (by assumption) ?restu1
                  case hyu1 => (intro w hSw; (try dsimp only at hSw); go_simp; (try with_reducible rfl))
                  try simp only [Act.put, List.setIfInBounds_toArray, List.set_cons_zero, List.set_cons_succ]
                  refine wpAnyH_take (i := 1) (oi := { dst := some 43, op := Op.move (Operand.tmp 42), type := 4, pos := "law.go:115", after := #[{ on := 0, ground := Ground.data }], guard := none }) (v := ?vu2) rfl (by kernel_rfl) (by kernel_rfl) (by kernel_rfl) (fun _ _ _ h => h) (Or.inl ⟨by rfl, ?hyu2⟩) (by assumption) ?restu2
                  case hyu2 => (intro w hSw; (try dsimp only at hSw); go_simp; (try with_reducible rfl))
                  try simp only [Act.put, List.setIfInBounds_toArray, List.set_cons_zero, List.set_cons_succ]
                  refine wpAnyH_take (i := 2) (oi := { dst := some 44, op := Op.move (Operand.tmp 0), type := 22, pos := "law.go:115", after := #[{ on := 1, ground := Ground.guard }], guard := some (1, false) }) (v := ?vu3) rfl (by kernel_rfl) (by kernel_rfl) (by kernel_rfl) (fun _ _ _ h => h) (Or.inl ⟨by rfl, ?hyu3⟩) (by assumption) ?restu3
                  case hyu3 => (intro w hSw; (try dsimp only at hSw); go_simp; (try with_reducible rfl))
                  try simp only [Act.put, List.setIfInBounds_toArray, List.set_cons_zero, List.set_cons_succ]
                  refine wpAnyH_take (i := 3) (oi := { dst := some 45, op := Op.move (Operand.tmp 8), type := 3, pos := "law.go:115", after := #[{ on := 1, ground := Ground.guard }], guard := some (1, false) }) (v := ?vu4) rfl (by kernel_rfl) (by kernel_rfl) (by kernel_rfl) (fun _ _ _ h => h) (Or.inl ⟨by rfl, ?hyu4⟩) (by assumption) ?restu4
                  case hyu4 => (intro w hSw; (try dsimp only at hSw); go_simp; (try with_reducible rfl))
                  try simp only [Act.put, List.setIfInBounds_toArray, List.set_cons_zero, List.set_cons_succ]
                  refine wpAnyH_take (i := 4) (oi := { dst := some 46, op := Op.indexAddr 22 (Operand.tmp 44) (Operand.tmp 45), type := 0, pos := "law.go:115", after := #[{ on := 2, ground := Ground.data }, { on := 3, ground := Ground.data }, { on := 1, ground := Ground.guard }], guard := some (1, false) }) (v := ?vu5) rfl (by kernel_rfl) (by kernel_rfl) (by kernel_rfl) (fun _ _ _ h => h) (Or.inl ⟨by rfl, ?hyu5⟩) (by assumption) ?restu5
                  case hyu5 => (intro w hSw; (try dsimp only at hSw); go_simp; (try with_reducible rfl))
                  try simp only [Act.put, List.setIfInBounds_toArray, List.set_cons_zero, List.set_cons_succ]
                  refine wpAnyH_take (i := 5) (oi := { dst := some 47, op := Op.load 23 (Operand.tmp 46), type := 23, pos := "law.go:115", after := #[{ on := 4, ground := Ground.data }, { on := 1, ground := Ground.guard }], guard := some (1, false) }) (v := ?vu6) rfl (by kernel_rfl) (by kernel_rfl) (by kernel_rfl) (fun _ _ _ h => h) (Or.inl ⟨by rfl, ?hyu6⟩) (by assumption) ?restu6
                  case hyu6 => (intro w' hSw; (try dsimp only at hSw); have q0 := (Below.cell hSw (p := ⟨ga, oa + k, none⟩) hga).trans hck; have q1 := (Below.cell hSw (p := ⟨gb, ob + i, none⟩) hgb).trans hci; go_simp; (try with_reducible rfl))
                  try simp only [Act.put, List.setIfInBounds_toArray, List.set_cons_zero, List.set_cons_succ]
                  refine wpAnyH_take (i := 6) (oi := { dst := some 48, op := Op.move (Operand.tmp 5), type := 22, pos := "law.go:115", after := #[{ on := 1, ground := Ground.guard }], guard := some (1, false) }) (v := ?vu7) rfl (by kernel_rfl) (by kernel_rfl) (by kernel_rfl) (fun _ _ _ h => h) (Or.inl ⟨by rfl, ?hyu7⟩) (by assumption) ?restu7
                  case hyu7 => (intro w hSw; (try dsimp only at hSw); go_simp; (try with_reducible rfl))
                  try simp only [Act.put, List.setIfInBounds_toArray, List.set_cons_zero, List.set_cons_succ]
                  refine wpAnyH_take (i := 7) (oi := { dst := some 49, op := Op.move (Operand.tmp 6), type := 3, pos := "law.go:115", after := #[{ on := 1, ground := Ground.guard }], guard := some (1, false) }) (v := ?vu8) rfl (by kernel_rfl) (by kernel_rfl) (by kernel_rfl) (fun _ _ _ h => h) (Or.inl ⟨by rfl, ?hyu8⟩) (by assumption) ?restu8
                  case hyu8 => (intro w hSw; (try dsimp only at hSw); go_simp; (try with_reducible rfl))
                  try simp only [Act.put, List.setIfInBounds_toArray, List.set_cons_zero, List.set_cons_succ]
                  refine wpAnyH_take (i := 8) (oi := { dst := some 50, op := Op.indexAddr 22 (Operand.tmp 48) (Operand.tmp 49), type := 0, pos := "law.go:115", after := #[{ on := 6, ground := Ground.data }, { on := 7, ground := Ground.data }, { on := 1, ground := Ground.guard }], guard := some (1, false) }) (v := ?vu9) rfl (by kernel_rfl) (by kernel_rfl) (by kernel_rfl) (fun _ _ _ h => h) (Or.inl ⟨by rfl, ?hyu9⟩) (by assumption) ?restu9
                  case hyu9 => (intro w hSw; (try dsimp only at hSw); go_simp; (try with_reducible rfl))
                  try simp only [Act.put, List.setIfInBounds_toArray, List.set_cons_zero, List.set_cons_succ]
                  refine wpAnyH_take (i := 9) (oi := { dst := some 51, op := Op.load 23 (Operand.tmp 50), type := 23, pos := "law.go:115", after := #[{ on := 8, ground := Ground.data }, { on := 1, ground := Ground.guard }], guard := some (1, false) }) (v := ?vu10) rfl (by kernel_rfl) (by kernel_rfl) (by kernel_rfl) (fun _ _ _ h => h) (Or.inl ⟨by rfl, ?hyu10⟩) (by assumption) ?restu10
                  case hyu10 => (intro w' hSw; (try dsimp only at hSw); have q0 := (Below.cell hSw (p := ⟨ga, oa + k, none⟩) hga).trans hck; have q1 := (Below.cell hSw (p := ⟨gb, ob + i, none⟩) hgb).trans hci; go_simp; (try with_reducible rfl))
                  try simp only [Act.put, List.setIfInBounds_toArray, List.set_cons_zero, List.set_cons_succ]
                  refine wpAnyH_ready (rs := [10]) (by kernel_rfl) (by simp) ?_
                  refine AllReadyH.cons (o := { dst := some 52, op := Op.call { callee := Callee.value (Operand.func 31), args := #[Operand.tmp 47, Operand.tmp 51], argTypes := #[23, 23] }, type := 4, pos := "law.go:115", after := #[{ on := 5, ground := Ground.data }, { on := 9, ground := Ground.data }, { on := 1, ground := Ground.chain }, { on := 1, ground := Ground.guard }], guard := some (1, false) }) rfl (fun K hK => ?_) AllReadyH.nil
                  go_simp
                  go_at_call 31
                  refine (C.sub _ _ _ (gs L k) (gs F i) false (C.keep HEc.out (by first | exact HW | exact HW.drew)) (by exact HVk.out.below (by first | exact HW | exact HW.drew)) (by exact HVi.out.below (by first | exact HW | exact HW.drew)) HLk.out HFi.out HQ1.out).mono ?_
                  rintro e z0 ⟨rfl, b⟩
                  replace HW := below_step (by first | exact HW | exact HW.drew) b
                  clear b
                  refine hK.out _ _ ?_ (fun hHeldB => ?_)
                  · (try dsimp only); exact HW
                  clear hK K hHeld
                  have hHeld := hHeldB
                  clear hHeldB
                  try simp only [Act.put, List.setIfInBounds_toArray, List.set_cons_zero, List.set_cons_succ]
                  refine wpAnyH_take (i := 11) (oi := { dst := some 53, op := Op.move (Operand.tmp 52), type := 4, pos := "law.go:115", after := #[{ on := 10, ground := Ground.data }, { on := 10, ground := Ground.chain }, { on := 1, ground := Ground.guard }], guard := some (1, false) }) (v := ?vu11) rfl (by kernel_rfl) (by kernel_rfl) (by kernel_rfl) (fun _ _ _ h => h) (Or.inl ⟨by rfl, ?hyu11⟩) (by assumption) ?restu11
                  case hyu11 => (intro w hSw; (try dsimp only at hSw); go_simp; (try with_reducible rfl))
                  try simp only [Act.put, List.setIfInBounds_toArray, List.set_cons_zero, List.set_cons_succ]
                  refine wpAnyH_take (i := 12) (oi := { dst := some 54, op := Op.move (Operand.tmp 5), type := 22, pos := "law.go:115", after := #[{ on := 11, ground := Ground.guard }], guard := some (11, true) }) (v := undef) rfl (by kernel_rfl) (by kernel_rfl) (by kernel_rfl) (fun _ _ _ h => h) (Or.inr ⟨by rfl, rfl⟩) (by assumption) ?_
                  try simp only [Act.put, List.setIfInBounds_toArray, List.set_cons_zero, List.set_cons_succ]
                  refine wpAnyH_take (i := 13) (oi := { dst := some 55, op := Op.move (Operand.tmp 6), type := 3, pos := "law.go:115", after := #[{ on := 11, ground := Ground.guard }], guard := some (11, true) }) (v := undef) rfl (by kernel_rfl) (by kernel_rfl) (by kernel_rfl) (fun _ _ _ h => h) (Or.inr ⟨by rfl, rfl⟩) (by assumption) ?_
                  try simp only [Act.put, List.setIfInBounds_toArray, List.set_cons_zero, List.set_cons_succ]
                  refine wpAnyH_take (i := 14) (oi := { dst := some 56, op := Op.indexAddr 22 (Operand.tmp 54) (Operand.tmp 55), type := 0, pos := "law.go:115", after := #[{ on := 12, ground := Ground.data }, { on := 13, ground := Ground.data }, { on := 11, ground := Ground.guard }], guard := some (11, true) }) (v := undef) rfl (by kernel_rfl) (by kernel_rfl) (by kernel_rfl) (fun _ _ _ h => h) (Or.inr ⟨by rfl, rfl⟩) (by assumption) ?_
                  try simp only [Act.put, List.setIfInBounds_toArray, List.set_cons_zero, List.set_cons_succ]
                  refine wpAnyH_take (i := 15) (oi := { dst := some 57, op := Op.load 23 (Operand.tmp 56), type := 23, pos := "law.go:115", after := #[{ on := 14, ground := Ground.data }, { on := 11, ground := Ground.guard }], guard := some (11, true) }) (v := undef) rfl (by kernel_rfl) (by kernel_rfl) (by kernel_rfl) (fun _ _ _ h => h) (Or.inr ⟨by rfl, rfl⟩) (by assumption) ?_
                  try simp only [Act.put, List.setIfInBounds_toArray, List.set_cons_zero, List.set_cons_succ]
                  refine wpAnyH_take (i := 16) (oi := { dst := some 58, op := Op.move (Operand.tmp 0), type := 22, pos := "law.go:115", after := #[{ on := 11, ground := Ground.guard }], guard := some (11, true) }) (v := undef) rfl (by kernel_rfl) (by kernel_rfl) (by kernel_rfl) (fun _ _ _ h => h) (Or.inr ⟨by rfl, rfl⟩) (by assumption) ?_
                  try simp only [Act.put, List.setIfInBounds_toArray, List.set_cons_zero, List.set_cons_succ]
                  refine wpAnyH_take (i := 17) (oi := { dst := some 59, op := Op.move (Operand.tmp 8), type := 3, pos := "law.go:115", after := #[{ on := 11, ground := Ground.guard }], guard := some (11, true) }) (v := undef) rfl (by kernel_rfl) (by kernel_rfl) (by kernel_rfl) (fun _ _ _ h => h) (Or.inr ⟨by rfl, rfl⟩) (by assumption) ?_
                  try simp only [Act.put, List.setIfInBounds_toArray, List.set_cons_zero, List.set_cons_succ]
                  refine wpAnyH_take (i := 18) (oi := { dst := some 60, op := Op.indexAddr 22 (Operand.tmp 58) (Operand.tmp 59), type := 0, pos := "law.go:115", after := #[{ on := 16, ground := Ground.data }, { on := 17, ground := Ground.data }, { on := 11, ground := Ground.guard }], guard := some (11, true) }) (v := undef) rfl (by kernel_rfl) (by kernel_rfl) (by kernel_rfl) (fun _ _ _ h => h) (Or.inr ⟨by rfl, rfl⟩) (by assumption) ?_
                  try simp only [Act.put, List.setIfInBounds_toArray, List.set_cons_zero, List.set_cons_succ]
                  refine wpAnyH_take (i := 19) (oi := { dst := some 61, op := Op.load 23 (Operand.tmp 60), type := 23, pos := "law.go:115", after := #[{ on := 18, ground := Ground.data }, { on := 11, ground := Ground.guard }], guard := some (11, true) }) (v := undef) rfl (by kernel_rfl) (by kernel_rfl) (by kernel_rfl) (fun _ _ _ h => h) (Or.inr ⟨by rfl, rfl⟩) (by assumption) ?_
                  try simp only [Act.put, List.setIfInBounds_toArray, List.set_cons_zero, List.set_cons_succ]
                  refine wpAnyH_take (i := 20) (oi := { dst := some 62, op := Op.call { callee := Callee.value (Operand.func 31), args := #[Operand.tmp 57, Operand.tmp 61], argTypes := #[23, 23] }, type := 4, pos := "law.go:115", after := #[{ on := 15, ground := Ground.data }, { on := 19, ground := Ground.data }, { on := 11, ground := Ground.chain }, { on := 11, ground := Ground.guard }], guard := some (11, true) }) (v := undef) rfl (by kernel_rfl) (by kernel_rfl) (by kernel_rfl) (fun _ _ _ h => h) (Or.inr ⟨by rfl, rfl⟩) (by assumption) ?_
                  try simp only [Act.put, List.setIfInBounds_toArray, List.set_cons_zero, List.set_cons_succ]
                  refine wpAnyH_take (i := 21) (oi := { dst := some 63, op := Op.pick (Operand.tmp 53) (Operand.tmp 62) (Operand.const (Value.bool false)), type := 4, pos := "law.go:115", after := #[{ on := 11, ground := Ground.data }, { on := 20, ground := Ground.data }, { on := 1, ground := Ground.guard }], guard := some (1, false) }) (v := ?vu12) rfl (by kernel_rfl) (by kernel_rfl) (by kernel_rfl) (fun _ _ _ h => h) (Or.inl ⟨by rfl, ?hyu12⟩) (by assumption) ?restu12
                  case hyu12 => (intro w hSw; (try dsimp only at hSw); go_simp; (try with_reducible rfl))
                  try simp only [Act.put, List.setIfInBounds_toArray, List.set_cons_zero, List.set_cons_succ]
                  refine wpAnyH_take (i := 22) (oi := { dst := some 64, op := Op.pick (Operand.tmp 43) (Operand.const (Value.bool true)) (Operand.tmp 63), type := 4, pos := "law.go:115", after := #[{ on := 1, ground := Ground.data }, { on := 21, ground := Ground.data }], guard := none }) (v := ?vu13) rfl (by kernel_rfl) (by kernel_rfl) (by kernel_rfl) (fun _ _ _ h => h) (Or.inl ⟨by rfl, ?hyu13⟩) (by assumption) ?restu13
                  case hyu13 => (intro w hSw; (try dsimp only at hSw); go_simp; (try with_reducible rfl))
                  try simp only [Act.put, List.setIfInBounds_toArray, List.set_cons_zero, List.set_cons_succ]
                  refine wpAnyH_take (i := 23) (oi := { dst := some 7, op := Op.assign (Operand.tmp 64), type := 4, pos := "law.go:115", after := #[{ on := 22, ground := Ground.data }, { on := 20, ground := Ground.chain }, { on := 0, ground := Ground.phase }, { on := 1, ground := Ground.phase }, { on := 2, ground := Ground.phase }, { on := 3, ground := Ground.phase }, { on := 4, ground := Ground.phase }, { on := 5, ground := Ground.phase }, { on := 6, ground := Ground.phase }, { on := 7, ground := Ground.phase }, { on := 8, ground := Ground.phase }, { on := 9, ground := Ground.phase }, { on := 10, ground := Ground.phase }, { on := 11, ground := Ground.phase }, { on := 12, ground := Ground.phase }, { on := 13, ground := Ground.phase }, { on := 14, ground := Ground.phase }, { on := 15, ground := Ground.phase }, { on := 16, ground := Ground.phase }, { on := 17, ground := Ground.phase }, { on := 18, ground := Ground.phase }, { on := 19, ground := Ground.phase }, { on := 20, ground := Ground.phase }, { on := 21, ground := Ground.phase }, { on := 22, ground := Ground.phase }], guard := none }) (v := ?vu14) rfl (by kernel_rfl) (by kernel_rfl) (by kernel_rfl) (fun _ _ _ h => h) (Or.inl ⟨by rfl, ?hyu14⟩) (by assumption) ?restu14
                  case hyu14 => (intro w hSw; (try dsimp only at hSw); go_simp; (try with_reducible rfl))
                  try simp only [Act.put, List.setIfInBounds_toArray, List.set_cons_zero, List.set_cons_succ]
                  refine wpAnyH_done (by kernel_rfl) ?_ _
                  go_wp2
                  go_roundw
                  case rel => exact ⟨k + 1, false, by omega, by go_num, rfl, (by first | exact HW | exact HW.drew), HM'⟩
                  case measure => simp [intOf]; omega
                · skip
                  skip
                  go_wp2
                  go_upto_region 14 with fail
                  refine wp_region_held_drew (S := (fun w' => Below Wc.heap.size Wc w')) (by kernel_rfl) ?_ (fun hHeld => ?_)
                  · (try dsimp only); first | exact HW | exact HW.drew
                  refine wpAnyH_take (i := 0) (oi := { dst := some 42, op := Op.move (Operand.tmp 7), type := 4, pos := "law.go:115", after := #[], guard := none }) (v := ?vu15) rfl (by kernel_rfl) (by kernel_rfl) (by kernel_rfl) (fun _ _ _ h => h) (Or.inl ⟨by rfl, ?hyu15⟩) (by assumption) ?restu15
                  case hyu15 => (intro w hSw; (try dsimp only at hSw); go_simp; (try with_reducible rfl))
                  try simp only [Act.put, List.setIfInBounds_toArray, List.set_cons_zero, List.set_cons_succ]
                  refine wpAnyH_take (i := 1) (oi := { dst := some 43, op := Op.move (Operand.tmp 42), type := 4, pos := "law.go:115", after := #[{ on := 0, ground := Ground.data }], guard := none }) (v := ?vu16) rfl (by kernel_rfl) (by kernel_rfl) (by kernel_rfl) (fun _ _ _ h => h) (Or.inl ⟨by rfl, ?hyu16⟩) (by assumption) ?restu16
                  case hyu16 => (intro w hSw; (try dsimp only at hSw); go_simp; (try with_reducible rfl))
                  try simp only [Act.put, List.setIfInBounds_toArray, List.set_cons_zero, List.set_cons_succ]
                  refine wpAnyH_take (i := 2) (oi := { dst := some 44, op := Op.move (Operand.tmp 0), type := 22, pos := "law.go:115", after := #[{ on := 1, ground := Ground.guard }], guard := some (1, false) }) (v := ?vu17) rfl (by kernel_rfl) (by kernel_rfl) (by kernel_rfl) (fun _ _ _ h => h) (Or.inl ⟨by rfl, ?hyu17⟩) (by assumption) ?restu17
                  case hyu17 => (intro w hSw; (try dsimp only at hSw); go_simp; (try with_reducible rfl))
                  try simp only [Act.put, List.setIfInBounds_toArray, List.set_cons_zero, List.set_cons_succ]
                  refine wpAnyH_take (i := 3) (oi := { dst := some 45, op := Op.move (Operand.tmp 8), type := 3, pos := "law.go:115", after := #[{ on := 1, ground := Ground.guard }], guard := some (1, false) }) (v := ?vu18) rfl (by kernel_rfl) (by kernel_rfl) (by kernel_rfl) (fun _ _ _ h => h) (Or.inl ⟨by rfl, ?hyu18⟩) (by assumption) ?restu18
                  case hyu18 => (intro w hSw; (try dsimp only at hSw); go_simp; (try with_reducible rfl))
                  try simp only [Act.put, List.setIfInBounds_toArray, List.set_cons_zero, List.set_cons_succ]
                  refine wpAnyH_take (i := 4) (oi := { dst := some 46, op := Op.indexAddr 22 (Operand.tmp 44) (Operand.tmp 45), type := 0, pos := "law.go:115", after := #[{ on := 2, ground := Ground.data }, { on := 3, ground := Ground.data }, { on := 1, ground := Ground.guard }], guard := some (1, false) }) (v := ?vu19) rfl (by kernel_rfl) (by kernel_rfl) (by kernel_rfl) (fun _ _ _ h => h) (Or.inl ⟨by rfl, ?hyu19⟩) (by assumption) ?restu19
                  case hyu19 => (intro w hSw; (try dsimp only at hSw); go_simp; (try with_reducible rfl))
                  try simp only [Act.put, List.setIfInBounds_toArray, List.set_cons_zero, List.set_cons_succ]
                  refine wpAnyH_take (i := 5) (oi := { dst := some 47, op := Op.load 23 (Operand.tmp 46), type := 23, pos := "law.go:115", after := #[{ on := 4, ground := Ground.data }, { on := 1, ground := Ground.guard }], guard := some (1, false) }) (v := ?vu20) rfl (by kernel_rfl) (by kernel_rfl) (by kernel_rfl) (fun _ _ _ h => h) (Or.inl ⟨by rfl, ?hyu20⟩) (by assumption) ?restu20
                  case hyu20 => (intro w' hSw; (try dsimp only at hSw); have q0 := (Below.cell hSw (p := ⟨ga, oa + k, none⟩) hga).trans hck; have q1 := (Below.cell hSw (p := ⟨gb, ob + i, none⟩) hgb).trans hci; go_simp; (try with_reducible rfl))
                  try simp only [Act.put, List.setIfInBounds_toArray, List.set_cons_zero, List.set_cons_succ]
                  refine wpAnyH_take (i := 6) (oi := { dst := some 48, op := Op.move (Operand.tmp 5), type := 22, pos := "law.go:115", after := #[{ on := 1, ground := Ground.guard }], guard := some (1, false) }) (v := ?vu21) rfl (by kernel_rfl) (by kernel_rfl) (by kernel_rfl) (fun _ _ _ h => h) (Or.inl ⟨by rfl, ?hyu21⟩) (by assumption) ?restu21
                  case hyu21 => (intro w hSw; (try dsimp only at hSw); go_simp; (try with_reducible rfl))
                  try simp only [Act.put, List.setIfInBounds_toArray, List.set_cons_zero, List.set_cons_succ]
                  refine wpAnyH_take (i := 7) (oi := { dst := some 49, op := Op.move (Operand.tmp 6), type := 3, pos := "law.go:115", after := #[{ on := 1, ground := Ground.guard }], guard := some (1, false) }) (v := ?vu22) rfl (by kernel_rfl) (by kernel_rfl) (by kernel_rfl) (fun _ _ _ h => h) (Or.inl ⟨by rfl, ?hyu22⟩) (by assumption) ?restu22
                  case hyu22 => (intro w hSw; (try dsimp only at hSw); go_simp; (try with_reducible rfl))
                  try simp only [Act.put, List.setIfInBounds_toArray, List.set_cons_zero, List.set_cons_succ]
                  refine wpAnyH_take (i := 8) (oi := { dst := some 50, op := Op.indexAddr 22 (Operand.tmp 48) (Operand.tmp 49), type := 0, pos := "law.go:115", after := #[{ on := 6, ground := Ground.data }, { on := 7, ground := Ground.data }, { on := 1, ground := Ground.guard }], guard := some (1, false) }) (v := ?vu23) rfl (by kernel_rfl) (by kernel_rfl) (by kernel_rfl) (fun _ _ _ h => h) (Or.inl ⟨by rfl, ?hyu23⟩) (by assumption) ?restu23
                  case hyu23 => (intro w hSw; (try dsimp only at hSw); go_simp; (try with_reducible rfl))
                  try simp only [Act.put, List.setIfInBounds_toArray, List.set_cons_zero, List.set_cons_succ]
                  refine wpAnyH_take (i := 9) (oi := { dst := some 51, op := Op.load 23 (Operand.tmp 50), type := 23, pos := "law.go:115", after := #[{ on := 8, ground := Ground.data }, { on := 1, ground := Ground.guard }], guard := some (1, false) }) (v := ?vu24) rfl (by kernel_rfl) (by kernel_rfl) (by kernel_rfl) (fun _ _ _ h => h) (Or.inl ⟨by rfl, ?hyu24⟩) (by assumption) ?restu24
                  case hyu24 => (intro w' hSw; (try dsimp only at hSw); have q0 := (Below.cell hSw (p := ⟨ga, oa + k, none⟩) hga).trans hck; have q1 := (Below.cell hSw (p := ⟨gb, ob + i, none⟩) hgb).trans hci; go_simp; (try with_reducible rfl))
                  try simp only [Act.put, List.setIfInBounds_toArray, List.set_cons_zero, List.set_cons_succ]
                  refine wpAnyH_ready (rs := [10]) (by kernel_rfl) (by simp) ?_
                  refine AllReadyH.cons (o := { dst := some 52, op := Op.call { callee := Callee.value (Operand.func 31), args := #[Operand.tmp 47, Operand.tmp 51], argTypes := #[23, 23] }, type := 4, pos := "law.go:115", after := #[{ on := 5, ground := Ground.data }, { on := 9, ground := Ground.data }, { on := 1, ground := Ground.chain }, { on := 1, ground := Ground.guard }], guard := some (1, false) }) rfl (fun K hK => ?_) AllReadyH.nil
                  go_simp
                  go_at_call 31
                  refine (C.sub _ _ _ (gs L k) (gs F i) true (C.keep HEc.out (by first | exact HW | exact HW.drew)) (by exact HVk.out.below (by first | exact HW | exact HW.drew)) (by exact HVi.out.below (by first | exact HW | exact HW.drew)) HLk.out HFi.out HQ1.out).mono ?_
                  rintro e z0 ⟨rfl, b⟩
                  replace HW := below_step (by first | exact HW | exact HW.drew) b
                  clear b
                  refine hK.out _ _ ?_ (fun hHeldB => ?_)
                  · (try dsimp only); exact HW
                  clear hK K hHeld
                  have hHeld := hHeldB
                  clear hHeldB
                  try simp only [Act.put, List.setIfInBounds_toArray, List.set_cons_zero, List.set_cons_succ]
                  refine wpAnyH_take (i := 11) (oi := { dst := some 53, op := Op.move (Operand.tmp 52), type := 4, pos := "law.go:115", after := #[{ on := 10, ground := Ground.data }, { on := 10, ground := Ground.chain }, { on := 1, ground := Ground.guard }], guard := some (1, false) }) (v := ?vu25) rfl (by kernel_rfl) (by kernel_rfl) (by kernel_rfl) (fun _ _ _ h => h) (Or.inl ⟨by rfl, ?hyu25⟩) (by assumption) ?restu25
                  case hyu25 => (intro w hSw; (try dsimp only at hSw); go_simp; (try with_reducible rfl))
                  try simp only [Act.put, List.setIfInBounds_toArray, List.set_cons_zero, List.set_cons_succ]
                  refine wpAnyH_take (i := 12) (oi := { dst := some 54, op := Op.move (Operand.tmp 5), type := 22, pos := "law.go:115", after := #[{ on := 11, ground := Ground.guard }], guard := some (11, true) }) (v := ?vu26) rfl (by kernel_rfl) (by kernel_rfl) (by kernel_rfl) (fun _ _ _ h => h) (Or.inl ⟨by rfl, ?hyu26⟩) (by assumption) ?restu26
                  case hyu26 => (intro w hSw; (try dsimp only at hSw); go_simp; (try with_reducible rfl))
                  try simp only [Act.put, List.setIfInBounds_toArray, List.set_cons_zero, List.set_cons_succ]
                  refine wpAnyH_take (i := 13) (oi := { dst := some 55, op := Op.move (Operand.tmp 6), type := 3, pos := "law.go:115", after := #[{ on := 11, ground := Ground.guard }], guard := some (11, true) }) (v := ?vu27) rfl (by kernel_rfl) (by kernel_rfl) (by kernel_rfl) (fun _ _ _ h => h) (Or.inl ⟨by rfl, ?hyu27⟩) (by assumption) ?restu27
                  case hyu27 => (intro w hSw; (try dsimp only at hSw); go_simp; (try with_reducible rfl))
                  try simp only [Act.put, List.setIfInBounds_toArray, List.set_cons_zero, List.set_cons_succ]
                  refine wpAnyH_take (i := 14) (oi := { dst := some 56, op := Op.indexAddr 22 (Operand.tmp 54) (Operand.tmp 55), type := 0, pos := "law.go:115", after := #[{ on := 12, ground := Ground.data }, { on := 13, ground := Ground.data }, { on := 11, ground := Ground.guard }], guard := some (11, true) }) (v := ?vu28) rfl (by kernel_rfl) (by kernel_rfl) (by kernel_rfl) (fun _ _ _ h => h) (Or.inl ⟨by rfl, ?hyu28⟩) (by assumption) ?restu28
                  case hyu28 => (intro w hSw; (try dsimp only at hSw); go_simp; (try with_reducible rfl))
                  try simp only [Act.put, List.setIfInBounds_toArray, List.set_cons_zero, List.set_cons_succ]
                  refine wpAnyH_take (i := 15) (oi := { dst := some 57, op := Op.load 23 (Operand.tmp 56), type := 23, pos := "law.go:115", after := #[{ on := 14, ground := Ground.data }, { on := 11, ground := Ground.guard }], guard := some (11, true) }) (v := ?vu29) rfl (by kernel_rfl) (by kernel_rfl) (by kernel_rfl) (fun _ _ _ h => h) (Or.inl ⟨by rfl, ?hyu29⟩) (by assumption) ?restu29
                  case hyu29 => (intro w' hSw; (try dsimp only at hSw); have q0 := (Below.cell hSw (p := ⟨ga, oa + k, none⟩) hga).trans hck; have q1 := (Below.cell hSw (p := ⟨gb, ob + i, none⟩) hgb).trans hci; go_simp; (try with_reducible rfl))
                  try simp only [Act.put, List.setIfInBounds_toArray, List.set_cons_zero, List.set_cons_succ]
                  refine wpAnyH_take (i := 16) (oi := { dst := some 58, op := Op.move (Operand.tmp 0), type := 22, pos := "law.go:115", after := #[{ on := 11, ground := Ground.guard }], guard := some (11, true) }) (v := ?vu30) rfl (by kernel_rfl) (by kernel_rfl) (by kernel_rfl) (fun _ _ _ h => h) (Or.inl ⟨by rfl, ?hyu30⟩) (by assumption) ?restu30
                  case hyu30 => (intro w hSw; (try dsimp only at hSw); go_simp; (try with_reducible rfl))
                  try simp only [Act.put, List.setIfInBounds_toArray, List.set_cons_zero, List.set_cons_succ]
                  refine wpAnyH_take (i := 17) (oi := { dst := some 59, op := Op.move (Operand.tmp 8), type := 3, pos := "law.go:115", after := #[{ on := 11, ground := Ground.guard }], guard := some (11, true) }) (v := ?vu31) rfl (by kernel_rfl) (by kernel_rfl) (by kernel_rfl) (fun _ _ _ h => h) (Or.inl ⟨by rfl, ?hyu31⟩) (by assumption) ?restu31
                  case hyu31 => (intro w hSw; (try dsimp only at hSw); go_simp; (try with_reducible rfl))
                  try simp only [Act.put, List.setIfInBounds_toArray, List.set_cons_zero, List.set_cons_succ]
                  refine wpAnyH_take (i := 18) (oi := { dst := some 60, op := Op.indexAddr 22 (Operand.tmp 58) (Operand.tmp 59), type := 0, pos := "law.go:115", after := #[{ on := 16, ground := Ground.data }, { on := 17, ground := Ground.data }, { on := 11, ground := Ground.guard }], guard := some (11, true) }) (v := ?vu32) rfl (by kernel_rfl) (by kernel_rfl) (by kernel_rfl) (fun _ _ _ h => h) (Or.inl ⟨by rfl, ?hyu32⟩) (by assumption) ?restu32
                  case hyu32 => (intro w hSw; (try dsimp only at hSw); go_simp; (try with_reducible rfl))
                  try simp only [Act.put, List.setIfInBounds_toArray, List.set_cons_zero, List.set_cons_succ]
                  refine wpAnyH_take (i := 19) (oi := { dst := some 61, op := Op.load 23 (Operand.tmp 60), type := 23, pos := "law.go:115", after := #[{ on := 18, ground := Ground.data }, { on := 11, ground := Ground.guard }], guard := some (11, true) }) (v := ?vu33) rfl (by kernel_rfl) (by kernel_rfl) (by kernel_rfl) (fun _ _ _ h => h) (Or.inl ⟨by rfl, ?hyu33⟩) (by assumption) ?restu33
                  case hyu33 => (intro w' hSw; (try dsimp only at hSw); have q0 := (Below.cell hSw (p := ⟨ga, oa + k, none⟩) hga).trans hck; have q1 := (Below.cell hSw (p := ⟨gb, ob + i, none⟩) hgb).trans hci; go_simp; (try with_reducible rfl))
                  try simp only [Act.put, List.setIfInBounds_toArray, List.set_cons_zero, List.set_cons_succ]
                  refine wpAnyH_ready (rs := [20]) (by kernel_rfl) (by simp) ?_
                  refine AllReadyH.cons (o := { dst := some 62, op := Op.call { callee := Callee.value (Operand.func 31), args := #[Operand.tmp 57, Operand.tmp 61], argTypes := #[23, 23] }, type := 4, pos := "law.go:115", after := #[{ on := 15, ground := Ground.data }, { on := 19, ground := Ground.data }, { on := 11, ground := Ground.chain }, { on := 11, ground := Ground.guard }], guard := some (11, true) }) rfl (fun K hK => ?_) AllReadyH.nil
                  go_simp
                  go_at_call 31
                  refine (C.sub _ _ _ (gs F i) (gs L k) r2 (C.keep HEc.out (by first | exact HW | exact HW.drew)) (by exact HVi.out.below (by first | exact HW | exact HW.drew)) (by exact HVk.out.below (by first | exact HW | exact HW.drew)) HFi.out HLk.out HQ2.out).mono ?_
                  rintro e z1 ⟨rfl, b⟩
                  replace HW := below_step (by first | exact HW | exact HW.drew) b
                  clear b
                  refine hK.out _ _ ?_ (fun hHeldB => ?_)
                  · (try dsimp only); exact HW
                  clear hK K hHeld
                  have hHeld := hHeldB
                  clear hHeldB
                  try simp only [Act.put, List.setIfInBounds_toArray, List.set_cons_zero, List.set_cons_succ]
                  refine wpAnyH_take (i := 21) (oi := { dst := some 63, op := Op.pick (Operand.tmp 53) (Operand.tmp 62) (Operand.const (Value.bool false)), type := 4, pos := "law.go:115", after := #[{ on := 11, ground := Ground.data }, { on := 20, ground := Ground.data }, { on := 1, ground := Ground.guard }], guard := some (1, false) }) (v := ?vu34) rfl (by kernel_rfl) (by kernel_rfl) (by kernel_rfl) (fun _ _ _ h => h) (Or.inl ⟨by rfl, ?hyu34⟩) (by assumption) ?restu34
                  case hyu34 => (intro w hSw; (try dsimp only at hSw); go_simp; (try with_reducible rfl))
                  try simp only [Act.put, List.setIfInBounds_toArray, List.set_cons_zero, List.set_cons_succ]
                  refine wpAnyH_take (i := 22) (oi := { dst := some 64, op := Op.pick (Operand.tmp 43) (Operand.const (Value.bool true)) (Operand.tmp 63), type := 4, pos := "law.go:115", after := #[{ on := 1, ground := Ground.data }, { on := 21, ground := Ground.data }], guard := none }) (v := ?vu35) rfl (by kernel_rfl) (by kernel_rfl) (by kernel_rfl) (fun _ _ _ h => h) (Or.inl ⟨by rfl, ?hyu35⟩) (by assumption) ?restu35
                  case hyu35 => (intro w hSw; (try dsimp only at hSw); go_simp; (try with_reducible rfl))
                  try simp only [Act.put, List.setIfInBounds_toArray, List.set_cons_zero, List.set_cons_succ]
                  refine wpAnyH_take (i := 23) (oi := { dst := some 7, op := Op.assign (Operand.tmp 64), type := 4, pos := "law.go:115", after := #[{ on := 22, ground := Ground.data }, { on := 20, ground := Ground.chain }, { on := 0, ground := Ground.phase }, { on := 1, ground := Ground.phase }, { on := 2, ground := Ground.phase }, { on := 3, ground := Ground.phase }, { on := 4, ground := Ground.phase }, { on := 5, ground := Ground.phase }, { on := 6, ground := Ground.phase }, { on := 7, ground := Ground.phase }, { on := 8, ground := Ground.phase }, { on := 9, ground := Ground.phase }, { on := 10, ground := Ground.phase }, { on := 11, ground := Ground.phase }, { on := 12, ground := Ground.phase }, { on := 13, ground := Ground.phase }, { on := 14, ground := Ground.phase }, { on := 15, ground := Ground.phase }, { on := 16, ground := Ground.phase }, { on := 17, ground := Ground.phase }, { on := 18, ground := Ground.phase }, { on := 19, ground := Ground.phase }, { on := 20, ground := Ground.phase }, { on := 21, ground := Ground.phase }, { on := 22, ground := Ground.phase }], guard := none }) (v := ?vu36) rfl (by kernel_rfl) (by kernel_rfl) (by kernel_rfl) (fun _ _ _ h => h) (Or.inl ⟨by rfl, ?hyu36⟩) (by assumption) ?restu36
                  case hyu36 => (intro w hSw; (try dsimp only at hSw); go_simp; (try with_reducible rfl))
                  try simp only [Act.put, List.setIfInBounds_toArray, List.set_cons_zero, List.set_cons_succ]
                  refine wpAnyH_done (by kernel_rfl) ?_ _
                  go_wp2
                  go_roundw
                  case rel => exact ⟨k + 1, r2, by omega, by go_num, rfl, (by first | exact HW | exact HW.drew), HM'⟩
                  case measure => simp [intOf]; omega
              · skip
                skip
                go_wp2
                go_upto_region 14 with fail
                refine wp_region_held_drew (S := (fun w' => Below Wc.heap.size Wc w')) (by kernel_rfl) ?_ (fun hHeld => ?_)
                · (try dsimp only); first | exact HW | exact HW.drew
                refine wpAnyH_take (i := 0) (oi := { dst := some 42, op := Op.move (Operand.tmp 7), type := 4, pos := "law.go:115", after := #[], guard := none }) (v := ?vu37) rfl (by kernel_rfl) (by kernel_rfl) (by kernel_rfl) (fun _ _ _ h => h) (Or.inl ⟨by rfl, ?hyu37⟩) (by assumption) ?restu37
                case hyu37 => (intro w hSw; (try dsimp only at hSw); go_simp; (try with_reducible rfl))
                try simp only [Act.put, List.setIfInBounds_toArray, List.set_cons_zero, List.set_cons_succ]
                refine wpAnyH_take (i := 1) (oi := { dst := some 43, op := Op.move (Operand.tmp 42), type := 4, pos := "law.go:115", after := #[{ on := 0, ground := Ground.data }], guard := none }) (v := ?vu38) rfl (by kernel_rfl) (by kernel_rfl) (by kernel_rfl) (fun _ _ _ h => h) (Or.inl ⟨by rfl, ?hyu38⟩) (by assumption) ?restu38
                case hyu38 => (intro w hSw; (try dsimp only at hSw); go_simp; (try with_reducible rfl))
                try simp only [Act.put, List.setIfInBounds_toArray, List.set_cons_zero, List.set_cons_succ]
                refine wpAnyH_take (i := 2) (oi := { dst := some 44, op := Op.move (Operand.tmp 0), type := 22, pos := "law.go:115", after := #[{ on := 1, ground := Ground.guard }], guard := some (1, false) }) (v := undef) rfl (by kernel_rfl) (by kernel_rfl) (by kernel_rfl) (fun _ _ _ h => h) (Or.inr ⟨by rfl, rfl⟩) (by assumption) ?_
                try simp only [Act.put, List.setIfInBounds_toArray, List.set_cons_zero, List.set_cons_succ]
                refine wpAnyH_take (i := 3) (oi := { dst := some 45, op := Op.move (Operand.tmp 8), type := 3, pos := "law.go:115", after := #[{ on := 1, ground := Ground.guard }], guard := some (1, false) }) (v := undef) rfl (by kernel_rfl) (by kernel_rfl) (by kernel_rfl) (fun _ _ _ h => h) (Or.inr ⟨by rfl, rfl⟩) (by assumption) ?_
                try simp only [Act.put, List.setIfInBounds_toArray, List.set_cons_zero, List.set_cons_succ]
                refine wpAnyH_take (i := 4) (oi := { dst := some 46, op := Op.indexAddr 22 (Operand.tmp 44) (Operand.tmp 45), type := 0, pos := "law.go:115", after := #[{ on := 2, ground := Ground.data }, { on := 3, ground := Ground.data }, { on := 1, ground := Ground.guard }], guard := some (1, false) }) (v := undef) rfl (by kernel_rfl) (by kernel_rfl) (by kernel_rfl) (fun _ _ _ h => h) (Or.inr ⟨by rfl, rfl⟩) (by assumption) ?_
                try simp only [Act.put, List.setIfInBounds_toArray, List.set_cons_zero, List.set_cons_succ]
                refine wpAnyH_take (i := 5) (oi := { dst := some 47, op := Op.load 23 (Operand.tmp 46), type := 23, pos := "law.go:115", after := #[{ on := 4, ground := Ground.data }, { on := 1, ground := Ground.guard }], guard := some (1, false) }) (v := undef) rfl (by kernel_rfl) (by kernel_rfl) (by kernel_rfl) (fun _ _ _ h => h) (Or.inr ⟨by rfl, rfl⟩) (by assumption) ?_
                try simp only [Act.put, List.setIfInBounds_toArray, List.set_cons_zero, List.set_cons_succ]
                refine wpAnyH_take (i := 6) (oi := { dst := some 48, op := Op.move (Operand.tmp 5), type := 22, pos := "law.go:115", after := #[{ on := 1, ground := Ground.guard }], guard := some (1, false) }) (v := undef) rfl (by kernel_rfl) (by kernel_rfl) (by kernel_rfl) (fun _ _ _ h => h) (Or.inr ⟨by rfl, rfl⟩) (by assumption) ?_
                try simp only [Act.put, List.setIfInBounds_toArray, List.set_cons_zero, List.set_cons_succ]
                refine wpAnyH_take (i := 7) (oi := { dst := some 49, op := Op.move (Operand.tmp 6), type := 3, pos := "law.go:115", after := #[{ on := 1, ground := Ground.guard }], guard := some (1, false) }) (v := undef) rfl (by kernel_rfl) (by kernel_rfl) (by kernel_rfl) (fun _ _ _ h => h) (Or.inr ⟨by rfl, rfl⟩) (by assumption) ?_
                try simp only [Act.put, List.setIfInBounds_toArray, List.set_cons_zero, List.set_cons_succ]
                refine wpAnyH_take (i := 8) (oi := { dst := some 50, op := Op.indexAddr 22 (Operand.tmp 48) (Operand.tmp 49), type := 0, pos := "law.go:115", after := #[{ on := 6, ground := Ground.data }, { on := 7, ground := Ground.data }, { on := 1, ground := Ground.guard }], guard := some (1, false) }) (v := undef) rfl (by kernel_rfl) (by kernel_rfl) (by kernel_rfl) (fun _ _ _ h => h) (Or.inr ⟨by rfl, rfl⟩) (by assumption) ?_
                try simp only [Act.put, List.setIfInBounds_toArray, List.set_cons_zero, List.set_cons_succ]
                refine wpAnyH_take (i := 9) (oi := { dst := some 51, op := Op.load 23 (Operand.tmp 50), type := 23, pos := "law.go:115", after := #[{ on := 8, ground := Ground.data }, { on := 1, ground := Ground.guard }], guard := some (1, false) }) (v := undef) rfl (by kernel_rfl) (by kernel_rfl) (by kernel_rfl) (fun _ _ _ h => h) (Or.inr ⟨by rfl, rfl⟩) (by assumption) ?_
                try simp only [Act.put, List.setIfInBounds_toArray, List.set_cons_zero, List.set_cons_succ]
                refine wpAnyH_take (i := 10) (oi := { dst := some 52, op := Op.call { callee := Callee.value (Operand.func 31), args := #[Operand.tmp 47, Operand.tmp 51], argTypes := #[23, 23] }, type := 4, pos := "law.go:115", after := #[{ on := 5, ground := Ground.data }, { on := 9, ground := Ground.data }, { on := 1, ground := Ground.chain }, { on := 1, ground := Ground.guard }], guard := some (1, false) }) (v := undef) rfl (by kernel_rfl) (by kernel_rfl) (by kernel_rfl) (fun _ _ _ h => h) (Or.inr ⟨by rfl, rfl⟩) (by assumption) ?_
                try simp only [Act.put, List.setIfInBounds_toArray, List.set_cons_zero, List.set_cons_succ]
                refine wpAnyH_take (i := 11) (oi := { dst := some 53, op := Op.move (Operand.tmp 52), type := 4, pos := "law.go:115", after := #[{ on := 10, ground := Ground.data }, { on := 10, ground := Ground.chain }, { on := 1, ground := Ground.guard }], guard := some (1, false) }) (v := undef) rfl (by kernel_rfl) (by kernel_rfl) (by kernel_rfl) (fun _ _ _ h => h) (Or.inr ⟨by rfl, rfl⟩) (by assumption) ?_
                try simp only [Act.put, List.setIfInBounds_toArray, List.set_cons_zero, List.set_cons_succ]
                refine wpAnyH_take (i := 12) (oi := { dst := some 54, op := Op.move (Operand.tmp 5), type := 22, pos := "law.go:115", after := #[{ on := 11, ground := Ground.guard }], guard := some (11, true) }) (v := undef) rfl (by kernel_rfl) (by kernel_rfl) (by kernel_rfl) (fun _ _ _ h => h) (Or.inr ⟨by rfl, rfl⟩) (by assumption) ?_
                try simp only [Act.put, List.setIfInBounds_toArray, List.set_cons_zero, List.set_cons_succ]
                refine wpAnyH_take (i := 13) (oi := { dst := some 55, op := Op.move (Operand.tmp 6), type := 3, pos := "law.go:115", after := #[{ on := 11, ground := Ground.guard }], guard := some (11, true) }) (v := undef) rfl (by kernel_rfl) (by kernel_rfl) (by kernel_rfl) (fun _ _ _ h => h) (Or.inr ⟨by rfl, rfl⟩) (by assumption) ?_
                try simp only [Act.put, List.setIfInBounds_toArray, List.set_cons_zero, List.set_cons_succ]
                refine wpAnyH_take (i := 14) (oi := { dst := some 56, op := Op.indexAddr 22 (Operand.tmp 54) (Operand.tmp 55), type := 0, pos := "law.go:115", after := #[{ on := 12, ground := Ground.data }, { on := 13, ground := Ground.data }, { on := 11, ground := Ground.guard }], guard := some (11, true) }) (v := undef) rfl (by kernel_rfl) (by kernel_rfl) (by kernel_rfl) (fun _ _ _ h => h) (Or.inr ⟨by rfl, rfl⟩) (by assumption) ?_
                try simp only [Act.put, List.setIfInBounds_toArray, List.set_cons_zero, List.set_cons_succ]
                refine wpAnyH_take (i := 15) (oi := { dst := some 57, op := Op.load 23 (Operand.tmp 56), type := 23, pos := "law.go:115", after := #[{ on := 14, ground := Ground.data }, { on := 11, ground := Ground.guard }], guard := some (11, true) }) (v := undef) rfl (by kernel_rfl) (by kernel_rfl) (by kernel_rfl) (fun _ _ _ h => h) (Or.inr ⟨by rfl, rfl⟩) (by assumption) ?_
                try simp only [Act.put, List.setIfInBounds_toArray, List.set_cons_zero, List.set_cons_succ]
                refine wpAnyH_take (i := 16) (oi := { dst := some 58, op := Op.move (Operand.tmp 0), type := 22, pos := "law.go:115", after := #[{ on := 11, ground := Ground.guard }], guard := some (11, true) }) (v := undef) rfl (by kernel_rfl) (by kernel_rfl) (by kernel_rfl) (fun _ _ _ h => h) (Or.inr ⟨by rfl, rfl⟩) (by assumption) ?_
                try simp only [Act.put, List.setIfInBounds_toArray, List.set_cons_zero, List.set_cons_succ]
                refine wpAnyH_take (i := 17) (oi := { dst := some 59, op := Op.move (Operand.tmp 8), type := 3, pos := "law.go:115", after := #[{ on := 11, ground := Ground.guard }], guard := some (11, true) }) (v := undef) rfl (by kernel_rfl) (by kernel_rfl) (by kernel_rfl) (fun _ _ _ h => h) (Or.inr ⟨by rfl, rfl⟩) (by assumption) ?_
                try simp only [Act.put, List.setIfInBounds_toArray, List.set_cons_zero, List.set_cons_succ]
                refine wpAnyH_take (i := 18) (oi := { dst := some 60, op := Op.indexAddr 22 (Operand.tmp 58) (Operand.tmp 59), type := 0, pos := "law.go:115", after := #[{ on := 16, ground := Ground.data }, { on := 17, ground := Ground.data }, { on := 11, ground := Ground.guard }], guard := some (11, true) }) (v := undef) rfl (by kernel_rfl) (by kernel_rfl) (by kernel_rfl) (fun _ _ _ h => h) (Or.inr ⟨by rfl, rfl⟩) (by assumption) ?_
                try simp only [Act.put, List.setIfInBounds_toArray, List.set_cons_zero, List.set_cons_succ]
                refine wpAnyH_take (i := 19) (oi := { dst := some 61, op := Op.load 23 (Operand.tmp 60), type := 23, pos := "law.go:115", after := #[{ on := 18, ground := Ground.data }, { on := 11, ground := Ground.guard }], guard := some (11, true) }) (v := undef) rfl (by kernel_rfl) (by kernel_rfl) (by kernel_rfl) (fun _ _ _ h => h) (Or.inr ⟨by rfl, rfl⟩) (by assumption) ?_
                try simp only [Act.put, List.setIfInBounds_toArray, List.set_cons_zero, List.set_cons_succ]
                refine wpAnyH_take (i := 20) (oi := { dst := some 62, op := Op.call { callee := Callee.value (Operand.func 31), args := #[Operand.tmp 57, Operand.tmp 61], argTypes := #[23, 23] }, type := 4, pos := "law.go:115", after := #[{ on := 15, ground := Ground.data }, { on := 19, ground := Ground.data }, { on := 11, ground := Ground.chain }, { on := 11, ground := Ground.guard }], guard := some (11, true) }) (v := undef) rfl (by kernel_rfl) (by kernel_rfl) (by kernel_rfl) (fun _ _ _ h => h) (Or.inr ⟨by rfl, rfl⟩) (by assumption) ?_
                try simp only [Act.put, List.setIfInBounds_toArray, List.set_cons_zero, List.set_cons_succ]
                refine wpAnyH_take (i := 21) (oi := { dst := some 63, op := Op.pick (Operand.tmp 53) (Operand.tmp 62) (Operand.const (Value.bool false)), type := 4, pos := "law.go:115", after := #[{ on := 11, ground := Ground.data }, { on := 20, ground := Ground.data }, { on := 1, ground := Ground.guard }], guard := some (1, false) }) (v := undef) rfl (by kernel_rfl) (by kernel_rfl) (by kernel_rfl) (fun _ _ _ h => h) (Or.inr ⟨by rfl, rfl⟩) (by assumption) ?_
                try simp only [Act.put, List.setIfInBounds_toArray, List.set_cons_zero, List.set_cons_succ]
                refine wpAnyH_take (i := 22) (oi := { dst := some 64, op := Op.pick (Operand.tmp 43) (Operand.const (Value.bool true)) (Operand.tmp 63), type := 4, pos := "law.go:115", after := #[{ on := 1, ground := Ground.data }, { on := 21, ground := Ground.data }], guard := none }) (v := ?vu39) rfl (by kernel_rfl) (by kernel_rfl) (by kernel_rfl) (fun _ _ _ h => h) (Or.inl ⟨by rfl, ?hyu39⟩) (by assumption) ?restu39
                case hyu39 => (intro w hSw; (try dsimp only at hSw); go_simp; (try with_reducible rfl))
                try simp only [Act.put, List.setIfInBounds_toArray, List.set_cons_zero, List.set_cons_succ]
                refine wpAnyH_take (i := 23) (oi := { dst := some 7, op := Op.assign (Operand.tmp 64), type := 4, pos := "law.go:115", after := #[{ on := 22, ground := Ground.data }, { on := 20, ground := Ground.chain }, { on := 0, ground := Ground.phase }, { on := 1, ground := Ground.phase }, { on := 2, ground := Ground.phase }, { on := 3, ground := Ground.phase }, { on := 4, ground := Ground.phase }, { on := 5, ground := Ground.phase }, { on := 6, ground := Ground.phase }, { on := 7, ground := Ground.phase }, { on := 8, ground := Ground.phase }, { on := 9, ground := Ground.phase }, { on := 10, ground := Ground.phase }, { on := 11, ground := Ground.phase }, { on := 12, ground := Ground.phase }, { on := 13, ground := Ground.phase }, { on := 14, ground := Ground.phase }, { on := 15, ground := Ground.phase }, { on := 16, ground := Ground.phase }, { on := 17, ground := Ground.phase }, { on := 18, ground := Ground.phase }, { on := 19, ground := Ground.phase }, { on := 20, ground := Ground.phase }, { on := 21, ground := Ground.phase }, { on := 22, ground := Ground.phase }], guard := none }) (v := ?vu40) rfl (by kernel_rfl) (by kernel_rfl) (by kernel_rfl) (fun _ _ _ h => h) (Or.inl ⟨by rfl, ?hyu40⟩) (by assumption) ?restu40
                case hyu40 => (intro w hSw; (try dsimp only at hSw); go_simp; (try with_reducible rfl))
                try simp only [Act.put, List.setIfInBounds_toArray, List.set_cons_zero, List.set_cons_succ]
                refine wpAnyH_done (by kernel_rfl) ?_ _
                go_wp2
                go_roundw
                case rel => exact ⟨k + 1, true, by omega, by go_num, rfl, (by first | exact HW | exact HW.drew), HM'⟩
                case measure => simp [intOf]; omega
            · obtain rfl : k = L.length := by omega
              have hq : q = true := by
                have h0 : q = true ↔ ∃ j, j < L.length ∧ sub (gs L j) (gs F i) ∧ sub (gs F i) (gs L j) := HM.out
                refine h0.2 ?_
                obtain ⟨x, hx, h1, h2⟩ := famOf_mem HOf.out (gs_mem.2 ⟨i, hlt, rfl⟩)
                obtain ⟨j, hj, e⟩ := gs_mem.1 hx
                exact ⟨j, hj, by rw [e]; exact h1, by rw [e]; exact h2⟩
              subst hq
              clear HM
              go_wp2
              go_loopw [9] (fun v9 wr => ∃ k : Nat, k ≤ F.length ∧ v9 = .int .i64 k ∧ Hid (Below Wc.heap.size Wc wr)) (fun v9 _ => F.length - (intOf v9).toNat)
              case atStart => exact ⟨0, Nat.zero_le _, rfl, HW2⟩
              case round =>
                clear HW2
                obtain ⟨k, hk, rfl, HW2⟩ := hrel
                rename World => wr'
                have j1 : (0 : Int) ≤ (i : Int) := by omega
                by_cases hkf : k < F.length
                · have hck0 := hcb k hkf
                  have HVk : Hid (IsL Wc (VS k) (gs F k)) := HSS.out k hkf
                  have HFk : Hid ((gs F k).length ≤ 1000000) := HFn.out k hkf
                  obtain ⟨avk, cvk, hvk0, -⟩ := id HVk.out
                  rw [hvk0] at hck0 HVk
                  have hck := hck0
                  have k1 : (0 : Int) ≤ (k : Int) := by omega
                  have k2 : (k : Int) < (F.length : Int) := by omega
                  have HW : Below Wc.heap.size Wc wr' := HW2
                  clear HW2 hck0 hcb
                  by_cases hik : i = k
                  · have hne : ((i : Int) != (k : Int)) = false := by simp [hik]
                    clear hik
                    go_wp2
                    go_upto_region 18 with fail
                    refine wp_region_held_drew (S := (fun w' => Below Wc.heap.size Wc w')) (by kernel_rfl) ?_ (fun hHeld => ?_)
                    · (try dsimp only); first | exact HW | exact HW.drew
                    refine wpAnyH_take (i := 0) (oi := { dst := some 71, op := Op.move (Operand.tmp 6), type := 3, pos := "law.go:118", after := #[], guard := none }) (v := ?vu41) rfl (by kernel_rfl) (by kernel_rfl) (by kernel_rfl) (fun _ _ _ h => h) (Or.inl ⟨by rfl, ?hyu41⟩) (by assumption) ?restu41
                    case hyu41 => (intro w hSw; (try dsimp only at hSw); go_simp; (try with_reducible rfl))
                    try simp only [Act.put, List.setIfInBounds_toArray, List.set_cons_zero, List.set_cons_succ]
                    refine wpAnyH_take (i := 1) (oi := { dst := some 72, op := Op.move (Operand.tmp 9), type := 3, pos := "law.go:118", after := #[], guard := none }) (v := ?vu42) rfl (by kernel_rfl) (by kernel_rfl) (by kernel_rfl) (fun _ _ _ h => h) (Or.inl ⟨by rfl, ?hyu42⟩) (by assumption) ?restu42
                    case hyu42 => (intro w hSw; (try dsimp only at hSw); go_simp; (try with_reducible rfl))
                    try simp only [Act.put, List.setIfInBounds_toArray, List.set_cons_zero, List.set_cons_succ]
                    refine wpAnyH_take (i := 2) (oi := { dst := some 73, op := Op.binOp BinOp.neq 3 (Operand.tmp 71) (Operand.tmp 72) 3, type := 4, pos := "law.go:118", after := #[{ on := 0, ground := Ground.data }, { on := 1, ground := Ground.data }], guard := none }) (v := ?vu43) rfl (by kernel_rfl) (by kernel_rfl) (by kernel_rfl) (fun _ _ _ h => h) (Or.inl ⟨by rfl, ?hyu43⟩) (by assumption) ?restu43
                    case hyu43 => (intro w hSw; (try dsimp only at hSw); go_simp; (try with_reducible rfl))
                    try simp only [Act.put, List.setIfInBounds_toArray, List.set_cons_zero, List.set_cons_succ]
                    refine wpAnyH_take (i := 3) (oi := { dst := some 74, op := Op.move (Operand.tmp 73), type := 4, pos := "law.go:118", after := #[{ on := 2, ground := Ground.data }], guard := none }) (v := ?vu44) rfl (by kernel_rfl) (by kernel_rfl) (by kernel_rfl) (fun _ _ _ h => h) (Or.inl ⟨by rfl, ?hyu44⟩) (by assumption) ?restu44
                    case hyu44 => (intro w hSw; (try dsimp only at hSw); go_simp; (try with_reducible rfl))
                    try simp only [Act.put, List.setIfInBounds_toArray, List.set_cons_zero, List.set_cons_succ]
                    refine wpAnyH_take (i := 4) (oi := { dst := some 75, op := Op.move (Operand.tmp 5), type := 22, pos := "law.go:118", after := #[{ on := 3, ground := Ground.guard }], guard := some (3, true) }) (v := undef) rfl (by kernel_rfl) (by kernel_rfl) (by kernel_rfl) (fun _ _ _ h => h) (Or.inr ⟨by rfl, rfl⟩) (by assumption) ?_
                    try simp only [Act.put, List.setIfInBounds_toArray, List.set_cons_zero, List.set_cons_succ]
                    refine wpAnyH_take (i := 5) (oi := { dst := some 76, op := Op.move (Operand.tmp 9), type := 3, pos := "law.go:118", after := #[{ on := 3, ground := Ground.guard }], guard := some (3, true) }) (v := undef) rfl (by kernel_rfl) (by kernel_rfl) (by kernel_rfl) (fun _ _ _ h => h) (Or.inr ⟨by rfl, rfl⟩) (by assumption) ?_
                    try simp only [Act.put, List.setIfInBounds_toArray, List.set_cons_zero, List.set_cons_succ]
                    refine wpAnyH_take (i := 6) (oi := { dst := some 77, op := Op.indexAddr 22 (Operand.tmp 75) (Operand.tmp 76), type := 0, pos := "law.go:118", after := #[{ on := 4, ground := Ground.data }, { on := 5, ground := Ground.data }, { on := 3, ground := Ground.guard }], guard := some (3, true) }) (v := undef) rfl (by kernel_rfl) (by kernel_rfl) (by kernel_rfl) (fun _ _ _ h => h) (Or.inr ⟨by rfl, rfl⟩) (by assumption) ?_
                    try simp only [Act.put, List.setIfInBounds_toArray, List.set_cons_zero, List.set_cons_succ]
                    refine wpAnyH_take (i := 7) (oi := { dst := some 78, op := Op.load 23 (Operand.tmp 77), type := 23, pos := "law.go:118", after := #[{ on := 6, ground := Ground.data }, { on := 3, ground := Ground.guard }], guard := some (3, true) }) (v := undef) rfl (by kernel_rfl) (by kernel_rfl) (by kernel_rfl) (fun _ _ _ h => h) (Or.inr ⟨by rfl, rfl⟩) (by assumption) ?_
                    try simp only [Act.put, List.setIfInBounds_toArray, List.set_cons_zero, List.set_cons_succ]
                    refine wpAnyH_take (i := 8) (oi := { dst := some 79, op := Op.move (Operand.tmp 5), type := 22, pos := "law.go:118", after := #[{ on := 3, ground := Ground.guard }], guard := some (3, true) }) (v := undef) rfl (by kernel_rfl) (by kernel_rfl) (by kernel_rfl) (fun _ _ _ h => h) (Or.inr ⟨by rfl, rfl⟩) (by assumption) ?_
                    try simp only [Act.put, List.setIfInBounds_toArray, List.set_cons_zero, List.set_cons_succ]
                    refine wpAnyH_take (i := 9) (oi := { dst := some 80, op := Op.move (Operand.tmp 6), type := 3, pos := "law.go:118", after := #[{ on := 3, ground := Ground.guard }], guard := some (3, true) }) (v := undef) rfl (by kernel_rfl) (by kernel_rfl) (by kernel_rfl) (fun _ _ _ h => h) (Or.inr ⟨by rfl, rfl⟩) (by assumption) ?_
                    try simp only [Act.put, List.setIfInBounds_toArray, List.set_cons_zero, List.set_cons_succ]
                    refine wpAnyH_take (i := 10) (oi := { dst := some 81, op := Op.indexAddr 22 (Operand.tmp 79) (Operand.tmp 80), type := 0, pos := "law.go:118", after := #[{ on := 8, ground := Ground.data }, { on := 9, ground := Ground.data }, { on := 3, ground := Ground.guard }], guard := some (3, true) }) (v := undef) rfl (by kernel_rfl) (by kernel_rfl) (by kernel_rfl) (fun _ _ _ h => h) (Or.inr ⟨by rfl, rfl⟩) (by assumption) ?_
                    try simp only [Act.put, List.setIfInBounds_toArray, List.set_cons_zero, List.set_cons_succ]
                    refine wpAnyH_take (i := 11) (oi := { dst := some 82, op := Op.load 23 (Operand.tmp 81), type := 23, pos := "law.go:118", after := #[{ on := 10, ground := Ground.data }, { on := 3, ground := Ground.guard }], guard := some (3, true) }) (v := undef) rfl (by kernel_rfl) (by kernel_rfl) (by kernel_rfl) (fun _ _ _ h => h) (Or.inr ⟨by rfl, rfl⟩) (by assumption) ?_
                    try simp only [Act.put, List.setIfInBounds_toArray, List.set_cons_zero, List.set_cons_succ]
                    refine wpAnyH_take (i := 12) (oi := { dst := some 83, op := Op.call { callee := Callee.value (Operand.func 31), args := #[Operand.tmp 78, Operand.tmp 82], argTypes := #[23, 23] }, type := 4, pos := "law.go:118", after := #[{ on := 7, ground := Ground.data }, { on := 11, ground := Ground.data }, { on := 3, ground := Ground.chain }, { on := 3, ground := Ground.guard }], guard := some (3, true) }) (v := undef) rfl (by kernel_rfl) (by kernel_rfl) (by kernel_rfl) (fun _ _ _ h => h) (Or.inr ⟨by rfl, rfl⟩) (by assumption) ?_
                    try simp only [Act.put, List.setIfInBounds_toArray, List.set_cons_zero, List.set_cons_succ]
                    refine wpAnyH_take (i := 13) (oi := { dst := some 84, op := Op.pick (Operand.tmp 74) (Operand.tmp 83) (Operand.const (Value.bool false)), type := 4, pos := "law.go:118", after := #[{ on := 3, ground := Ground.data }, { on := 12, ground := Ground.data }], guard := none }) (v := ?vu45) rfl (by kernel_rfl) (by kernel_rfl) (by kernel_rfl) (fun _ _ _ h => h) (Or.inl ⟨by rfl, ?hyu45⟩) (by assumption) ?restu45
                    case hyu45 => (intro w hSw; (try dsimp only at hSw); go_simp; (try with_reducible rfl))
                    try simp only [Act.put, List.setIfInBounds_toArray, List.set_cons_zero, List.set_cons_succ]
                    refine wpAnyH_done (by kernel_rfl) ?_ _
                    go_wp2
                    go_roundw
                    case rel => exact ⟨k + 1, by omega, by go_num, (by first | exact HW | exact HW.drew)⟩
                    case measure => simp [intOf]; omega
                  · have hne : ((i : Int) != (k : Int)) = true := by simp; omega
                    have HNs : Hid (subB (gs F k) (gs F i) = false) := by
                      show _ = _
                      cases h : subB (gs F k) (gs F i)
                      · rfl
                      · exact absurd (fam_inj HOf.out.1 hkf hlt (fam_apart HOf.out.1 (gs_mem.2 ⟨k, hkf, rfl⟩) (gs_mem.2 ⟨i, hlt, rfl⟩) (subB_iff.1 h))).symm hik
                    clear hik
                    go_wp2
                    go_upto_region 18 with fail
                    refine wp_region_held_drew (S := (fun w' => Below Wc.heap.size Wc w')) (by kernel_rfl) ?_ (fun hHeld => ?_)
                    · (try dsimp only); first | exact HW | exact HW.drew
                    refine wpAnyH_take (i := 0) (oi := { dst := some 71, op := Op.move (Operand.tmp 6), type := 3, pos := "law.go:118", after := #[], guard := none }) (v := ?vu46) rfl (by kernel_rfl) (by kernel_rfl) (by kernel_rfl) (fun _ _ _ h => h) (Or.inl ⟨by rfl, ?hyu46⟩) (by assumption) ?restu46
                    case hyu46 => (intro w hSw; (try dsimp only at hSw); go_simp; (try with_reducible rfl))
                    try simp only [Act.put, List.setIfInBounds_toArray, List.set_cons_zero, List.set_cons_succ]
                    refine wpAnyH_take (i := 1) (oi := { dst := some 72, op := Op.move (Operand.tmp 9), type := 3, pos := "law.go:118", after := #[], guard := none }) (v := ?vu47) rfl (by kernel_rfl) (by kernel_rfl) (by kernel_rfl) (fun _ _ _ h => h) (Or.inl ⟨by rfl, ?hyu47⟩) (by assumption) ?restu47
                    case hyu47 => (intro w hSw; (try dsimp only at hSw); go_simp; (try with_reducible rfl))
                    try simp only [Act.put, List.setIfInBounds_toArray, List.set_cons_zero, List.set_cons_succ]
                    refine wpAnyH_take (i := 2) (oi := { dst := some 73, op := Op.binOp BinOp.neq 3 (Operand.tmp 71) (Operand.tmp 72) 3, type := 4, pos := "law.go:118", after := #[{ on := 0, ground := Ground.data }, { on := 1, ground := Ground.data }], guard := none }) (v := ?vu48) rfl (by kernel_rfl) (by kernel_rfl) (by kernel_rfl) (fun _ _ _ h => h) (Or.inl ⟨by rfl, ?hyu48⟩) (by assumption) ?restu48
                    case hyu48 => (intro w hSw; (try dsimp only at hSw); go_simp; (try with_reducible rfl))
                    try simp only [Act.put, List.setIfInBounds_toArray, List.set_cons_zero, List.set_cons_succ]
                    refine wpAnyH_take (i := 3) (oi := { dst := some 74, op := Op.move (Operand.tmp 73), type := 4, pos := "law.go:118", after := #[{ on := 2, ground := Ground.data }], guard := none }) (v := ?vu49) rfl (by kernel_rfl) (by kernel_rfl) (by kernel_rfl) (fun _ _ _ h => h) (Or.inl ⟨by rfl, ?hyu49⟩) (by assumption) ?restu49
                    case hyu49 => (intro w hSw; (try dsimp only at hSw); go_simp; (try with_reducible rfl))
                    try simp only [Act.put, List.setIfInBounds_toArray, List.set_cons_zero, List.set_cons_succ]
                    refine wpAnyH_take (i := 4) (oi := { dst := some 75, op := Op.move (Operand.tmp 5), type := 22, pos := "law.go:118", after := #[{ on := 3, ground := Ground.guard }], guard := some (3, true) }) (v := ?vu50) rfl (by kernel_rfl) (by kernel_rfl) (by kernel_rfl) (fun _ _ _ h => h) (Or.inl ⟨by rfl, ?hyu50⟩) (by assumption) ?restu50
                    case hyu50 => (intro w hSw; (try dsimp only at hSw); go_simp; (try with_reducible rfl))
                    try simp only [Act.put, List.setIfInBounds_toArray, List.set_cons_zero, List.set_cons_succ]
                    refine wpAnyH_take (i := 5) (oi := { dst := some 76, op := Op.move (Operand.tmp 9), type := 3, pos := "law.go:118", after := #[{ on := 3, ground := Ground.guard }], guard := some (3, true) }) (v := ?vu51) rfl (by kernel_rfl) (by kernel_rfl) (by kernel_rfl) (fun _ _ _ h => h) (Or.inl ⟨by rfl, ?hyu51⟩) (by assumption) ?restu51
                    case hyu51 => (intro w hSw; (try dsimp only at hSw); go_simp; (try with_reducible rfl))
                    try simp only [Act.put, List.setIfInBounds_toArray, List.set_cons_zero, List.set_cons_succ]
                    refine wpAnyH_take (i := 6) (oi := { dst := some 77, op := Op.indexAddr 22 (Operand.tmp 75) (Operand.tmp 76), type := 0, pos := "law.go:118", after := #[{ on := 4, ground := Ground.data }, { on := 5, ground := Ground.data }, { on := 3, ground := Ground.guard }], guard := some (3, true) }) (v := ?vu52) rfl (by kernel_rfl) (by kernel_rfl) (by kernel_rfl) (fun _ _ _ h => h) (Or.inl ⟨by rfl, ?hyu52⟩) (by assumption) ?restu52
                    case hyu52 => (intro w hSw; (try dsimp only at hSw); go_simp; (try with_reducible rfl))
                    try simp only [Act.put, List.setIfInBounds_toArray, List.set_cons_zero, List.set_cons_succ]
                    refine wpAnyH_take (i := 7) (oi := { dst := some 78, op := Op.load 23 (Operand.tmp 77), type := 23, pos := "law.go:118", after := #[{ on := 6, ground := Ground.data }, { on := 3, ground := Ground.guard }], guard := some (3, true) }) (v := ?vu53) rfl (by kernel_rfl) (by kernel_rfl) (by kernel_rfl) (fun _ _ _ h => h) (Or.inl ⟨by rfl, ?hyu53⟩) (by assumption) ?restu53
                    case hyu53 => (intro w' hSw; (try dsimp only at hSw); have q0 := (Below.cell hSw (p := ⟨gb, ob + k, none⟩) hgb).trans hck; have q1 := (Below.cell hSw (p := ⟨gb, ob + i, none⟩) hgb).trans hci; go_simp; (try with_reducible rfl))
                    try simp only [Act.put, List.setIfInBounds_toArray, List.set_cons_zero, List.set_cons_succ]
                    refine wpAnyH_take (i := 8) (oi := { dst := some 79, op := Op.move (Operand.tmp 5), type := 22, pos := "law.go:118", after := #[{ on := 3, ground := Ground.guard }], guard := some (3, true) }) (v := ?vu54) rfl (by kernel_rfl) (by kernel_rfl) (by kernel_rfl) (fun _ _ _ h => h) (Or.inl ⟨by rfl, ?hyu54⟩) (by assumption) ?restu54
                    case hyu54 => (intro w hSw; (try dsimp only at hSw); go_simp; (try with_reducible rfl))
                    try simp only [Act.put, List.setIfInBounds_toArray, List.set_cons_zero, List.set_cons_succ]
                    refine wpAnyH_take (i := 9) (oi := { dst := some 80, op := Op.move (Operand.tmp 6), type := 3, pos := "law.go:118", after := #[{ on := 3, ground := Ground.guard }], guard := some (3, true) }) (v := ?vu55) rfl (by kernel_rfl) (by kernel_rfl) (by kernel_rfl) (fun _ _ _ h => h) (Or.inl ⟨by rfl, ?hyu55⟩) (by assumption) ?restu55
                    case hyu55 => (intro w hSw; (try dsimp only at hSw); go_simp; (try with_reducible rfl))
                    try simp only [Act.put, List.setIfInBounds_toArray, List.set_cons_zero, List.set_cons_succ]
                    refine wpAnyH_take (i := 10) (oi := { dst := some 81, op := Op.indexAddr 22 (Operand.tmp 79) (Operand.tmp 80), type := 0, pos := "law.go:118", after := #[{ on := 8, ground := Ground.data }, { on := 9, ground := Ground.data }, { on := 3, ground := Ground.guard }], guard := some (3, true) }) (v := ?vu56) rfl (by kernel_rfl) (by kernel_rfl) (by kernel_rfl) (fun _ _ _ h => h) (Or.inl ⟨by rfl, ?hyu56⟩) (by assumption) ?restu56
                    case hyu56 => (intro w hSw; (try dsimp only at hSw); go_simp; (try with_reducible rfl))
                    try simp only [Act.put, List.setIfInBounds_toArray, List.set_cons_zero, List.set_cons_succ]
                    refine wpAnyH_take (i := 11) (oi := { dst := some 82, op := Op.load 23 (Operand.tmp 81), type := 23, pos := "law.go:118", after := #[{ on := 10, ground := Ground.data }, { on := 3, ground := Ground.guard }], guard := some (3, true) }) (v := ?vu57) rfl (by kernel_rfl) (by kernel_rfl) (by kernel_rfl) (fun _ _ _ h => h) (Or.inl ⟨by rfl, ?hyu57⟩) (by assumption) ?restu57
                    case hyu57 => (intro w' hSw; (try dsimp only at hSw); have q0 := (Below.cell hSw (p := ⟨gb, ob + k, none⟩) hgb).trans hck; have q1 := (Below.cell hSw (p := ⟨gb, ob + i, none⟩) hgb).trans hci; go_simp; (try with_reducible rfl))
                    try simp only [Act.put, List.setIfInBounds_toArray, List.set_cons_zero, List.set_cons_succ]
                    refine wpAnyH_ready (rs := [12]) (by kernel_rfl) (by simp) ?_
                    refine AllReadyH.cons (o := { dst := some 83, op := Op.call { callee := Callee.value (Operand.func 31), args := #[Operand.tmp 78, Operand.tmp 82], argTypes := #[23, 23] }, type := 4, pos := "law.go:118", after := #[{ on := 7, ground := Ground.data }, { on := 11, ground := Ground.data }, { on := 3, ground := Ground.chain }, { on := 3, ground := Ground.guard }], guard := some (3, true) }) rfl (fun K hK => ?_) AllReadyH.nil
                    go_simp
                    go_at_call 31
                    refine (C.sub _ _ _ (gs F k) (gs F i) false (C.keep HEc.out (by first | exact HW | exact HW.drew)) (by exact HVk.out.below (by first | exact HW | exact HW.drew)) (by exact HVi.out.below (by first | exact HW | exact HW.drew)) HFk.out HFi.out HNs.out).mono ?_
                    rintro e z0 ⟨rfl, b⟩
                    replace HW := below_step (by first | exact HW | exact HW.drew) b
                    clear b
                    refine hK.out _ _ ?_ (fun hHeldB => ?_)
                    · (try dsimp only); exact HW
                    clear hK K hHeld
                    have hHeld := hHeldB
                    clear hHeldB
                    try simp only [Act.put, List.setIfInBounds_toArray, List.set_cons_zero, List.set_cons_succ]
                    refine wpAnyH_take (i := 13) (oi := { dst := some 84, op := Op.pick (Operand.tmp 74) (Operand.tmp 83) (Operand.const (Value.bool false)), type := 4, pos := "law.go:118", after := #[{ on := 3, ground := Ground.data }, { on := 12, ground := Ground.data }], guard := none }) (v := ?vu58) rfl (by kernel_rfl) (by kernel_rfl) (by kernel_rfl) (fun _ _ _ h => h) (Or.inl ⟨by rfl, ?hyu58⟩) (by assumption) ?restu58
                    case hyu58 => (intro w hSw; (try dsimp only at hSw); go_simp; (try with_reducible rfl))
                    try simp only [Act.put, List.setIfInBounds_toArray, List.set_cons_zero, List.set_cons_succ]
                    refine wpAnyH_done (by kernel_rfl) ?_ _
                    go_wp2
                    go_roundw
                    case rel => exact ⟨k + 1, by omega, by go_num, (by first | exact HW | exact HW.drew)⟩
                    case measure => simp [intOf]; omega
                · have hkf' : ¬ (k : Int) < (F.length : Int) := by omega
                  have HW : Below Wc.heap.size Wc wr' := HW2
                  clear HW2
                  by_cases hi0 : i = 0
                  · subst hi0
                    go_wp2
                    go_upto_region 20 with fail
                    refine wp_region_held_drew (S := (fun w' => Below Wc.heap.size Wc w')) (by kernel_rfl) ?_ (fun hHeld => ?_)
                    · (try dsimp only); first | exact HW | exact HW.drew
                    refine wpAnyH_take (i := 0) (oi := { dst := some 85, op := Op.move (Operand.tmp 7), type := 4, pos := "law.go:122", after := #[], guard := none }) (v := ?vu59) rfl (by kernel_rfl) (by kernel_rfl) (by kernel_rfl) (fun _ _ _ h => h) (Or.inl ⟨by rfl, ?hyu59⟩) (by assumption) ?restu59
                    case hyu59 => (intro w hSw; (try dsimp only at hSw); go_simp; (try with_reducible rfl))
                    try simp only [Act.put, List.setIfInBounds_toArray, List.set_cons_zero, List.set_cons_succ]
                    refine wpAnyH_take (i := 1) (oi := { dst := some 86, op := Op.unOp UnOp.not 4 (Operand.tmp 85), type := 4, pos := "law.go:122", after := #[{ on := 0, ground := Ground.data }], guard := none }) (v := ?vu60) rfl (by kernel_rfl) (by kernel_rfl) (by kernel_rfl) (fun _ _ _ h => h) (Or.inl ⟨by rfl, ?hyu60⟩) (by assumption) ?restu60
                    case hyu60 => (intro w hSw; (try dsimp only at hSw); go_simp; (try with_reducible rfl))
                    try simp only [Act.put, List.setIfInBounds_toArray, List.set_cons_zero, List.set_cons_succ]
                    refine wpAnyH_take (i := 2) (oi := { dst := some 87, op := Op.move (Operand.tmp 86), type := 4, pos := "law.go:122", after := #[{ on := 1, ground := Ground.data }], guard := none }) (v := ?vu61) rfl (by kernel_rfl) (by kernel_rfl) (by kernel_rfl) (fun _ _ _ h => h) (Or.inl ⟨by rfl, ?hyu61⟩) (by assumption) ?restu61
                    case hyu61 => (intro w hSw; (try dsimp only at hSw); go_simp; (try with_reducible rfl))
                    try simp only [Act.put, List.setIfInBounds_toArray, List.set_cons_zero, List.set_cons_succ]
                    refine wpAnyH_take (i := 3) (oi := { dst := some 88, op := Op.move (Operand.tmp 6), type := 3, pos := "law.go:122", after := #[{ on := 2, ground := Ground.guard }], guard := some (2, false) }) (v := ?vu62) rfl (by kernel_rfl) (by kernel_rfl) (by kernel_rfl) (fun _ _ _ h => h) (Or.inl ⟨by rfl, ?hyu62⟩) (by assumption) ?restu62
                    case hyu62 => (intro w hSw; (try dsimp only at hSw); go_simp; (try with_reducible rfl))
                    try simp only [Act.put, List.setIfInBounds_toArray, List.set_cons_zero, List.set_cons_succ]
                    refine wpAnyH_take (i := 4) (oi := { dst := some 89, op := Op.binOp BinOp.gtr 3 (Operand.tmp 88) (Operand.const (Value.int IntKind.i64 0)) 3, type := 4, pos := "law.go:122", after := #[{ on := 3, ground := Ground.data }, { on := 2, ground := Ground.guard }], guard := some (2, false) }) (v := ?vu63) rfl (by kernel_rfl) (by kernel_rfl) (by kernel_rfl) (fun _ _ _ h => h) (Or.inl ⟨by rfl, ?hyu63⟩) (by assumption) ?restu63
                    case hyu63 => (intro w hSw; (try dsimp only at hSw); go_simp; (try with_reducible rfl))
                    try simp only [Act.put, List.setIfInBounds_toArray, List.set_cons_zero, List.set_cons_succ]
                    refine wpAnyH_take (i := 5) (oi := { dst := some 90, op := Op.move (Operand.tmp 89), type := 4, pos := "law.go:122", after := #[{ on := 4, ground := Ground.data }, { on := 2, ground := Ground.chain }, { on := 2, ground := Ground.guard }], guard := some (2, false) }) (v := ?vu64) rfl (by kernel_rfl) (by kernel_rfl) (by kernel_rfl) (fun _ _ _ h => h) (Or.inl ⟨by rfl, ?hyu64⟩) (by assumption) ?restu64
                    case hyu64 => (intro w hSw; (try dsimp only at hSw); go_simp; (try with_reducible rfl))
                    try simp only [Act.put, List.setIfInBounds_toArray, List.set_cons_zero, List.set_cons_succ]
                    refine wpAnyH_take (i := 6) (oi := { dst := some 91, op := Op.move (Operand.tmp 5), type := 22, pos := "law.go:122", after := #[{ on := 5, ground := Ground.guard }], guard := some (5, true) }) (v := undef) rfl (by kernel_rfl) (by kernel_rfl) (by kernel_rfl) (fun _ _ _ h => h) (Or.inr ⟨by rfl, rfl⟩) (by assumption) ?_
                    try simp only [Act.put, List.setIfInBounds_toArray, List.set_cons_zero, List.set_cons_succ]
                    refine wpAnyH_take (i := 7) (oi := { dst := some 92, op := Op.move (Operand.tmp 6), type := 3, pos := "law.go:122", after := #[{ on := 5, ground := Ground.guard }], guard := some (5, true) }) (v := undef) rfl (by kernel_rfl) (by kernel_rfl) (by kernel_rfl) (fun _ _ _ h => h) (Or.inr ⟨by rfl, rfl⟩) (by assumption) ?_
                    try simp only [Act.put, List.setIfInBounds_toArray, List.set_cons_zero, List.set_cons_succ]
                    refine wpAnyH_take (i := 8) (oi := { dst := some 93, op := Op.indexAddr 22 (Operand.tmp 91) (Operand.tmp 92), type := 0, pos := "law.go:122", after := #[{ on := 6, ground := Ground.data }, { on := 7, ground := Ground.data }, { on := 5, ground := Ground.guard }], guard := some (5, true) }) (v := undef) rfl (by kernel_rfl) (by kernel_rfl) (by kernel_rfl) (fun _ _ _ h => h) (Or.inr ⟨by rfl, rfl⟩) (by assumption) ?_
                    try simp only [Act.put, List.setIfInBounds_toArray, List.set_cons_zero, List.set_cons_succ]
                    refine wpAnyH_take (i := 9) (oi := { dst := some 94, op := Op.load 23 (Operand.tmp 93), type := 23, pos := "law.go:122", after := #[{ on := 8, ground := Ground.data }, { on := 5, ground := Ground.guard }], guard := some (5, true) }) (v := undef) rfl (by kernel_rfl) (by kernel_rfl) (by kernel_rfl) (fun _ _ _ h => h) (Or.inr ⟨by rfl, rfl⟩) (by assumption) ?_
                    try simp only [Act.put, List.setIfInBounds_toArray, List.set_cons_zero, List.set_cons_succ]
                    refine wpAnyH_take (i := 10) (oi := { dst := some 95, op := Op.call { callee := Callee.builtin Builtin.len, args := #[Operand.tmp 94], argTypes := #[23] }, type := 3, pos := "law.go:122", after := #[{ on := 9, ground := Ground.data }, { on := 5, ground := Ground.guard }], guard := some (5, true) }) (v := undef) rfl (by kernel_rfl) (by kernel_rfl) (by kernel_rfl) (fun _ _ _ h => h) (Or.inr ⟨by rfl, rfl⟩) (by assumption) ?_
                    try simp only [Act.put, List.setIfInBounds_toArray, List.set_cons_zero, List.set_cons_succ]
                    refine wpAnyH_take (i := 11) (oi := { dst := some 96, op := Op.move (Operand.tmp 5), type := 22, pos := "law.go:122", after := #[{ on := 5, ground := Ground.guard }], guard := some (5, true) }) (v := undef) rfl (by kernel_rfl) (by kernel_rfl) (by kernel_rfl) (fun _ _ _ h => h) (Or.inr ⟨by rfl, rfl⟩) (by assumption) ?_
                    try simp only [Act.put, List.setIfInBounds_toArray, List.set_cons_zero, List.set_cons_succ]
                    refine wpAnyH_take (i := 12) (oi := { dst := some 97, op := Op.move (Operand.tmp 6), type := 3, pos := "law.go:122", after := #[{ on := 5, ground := Ground.guard }], guard := some (5, true) }) (v := undef) rfl (by kernel_rfl) (by kernel_rfl) (by kernel_rfl) (fun _ _ _ h => h) (Or.inr ⟨by rfl, rfl⟩) (by assumption) ?_
                    try simp only [Act.put, List.setIfInBounds_toArray, List.set_cons_zero, List.set_cons_succ]
                    refine wpAnyH_take (i := 13) (oi := { dst := some 98, op := Op.binOp BinOp.sub 3 (Operand.tmp 97) (Operand.const (Value.int IntKind.i64 1)) 3, type := 3, pos := "law.go:122", after := #[{ on := 12, ground := Ground.data }, { on := 5, ground := Ground.guard }], guard := some (5, true) }) (v := undef) rfl (by kernel_rfl) (by kernel_rfl) (by kernel_rfl) (fun _ _ _ h => h) (Or.inr ⟨by rfl, rfl⟩) (by assumption) ?_
                    try simp only [Act.put, List.setIfInBounds_toArray, List.set_cons_zero, List.set_cons_succ]
                    refine wpAnyH_take (i := 14) (oi := { dst := some 99, op := Op.indexAddr 22 (Operand.tmp 96) (Operand.tmp 98), type := 0, pos := "law.go:122", after := #[{ on := 11, ground := Ground.data }, { on := 13, ground := Ground.data }, { on := 5, ground := Ground.guard }], guard := some (5, true) }) (v := undef) rfl (by kernel_rfl) (by kernel_rfl) (by kernel_rfl) (fun _ _ _ h => h) (Or.inr ⟨by rfl, rfl⟩) (by assumption) ?_
                    try simp only [Act.put, List.setIfInBounds_toArray, List.set_cons_zero, List.set_cons_succ]
                    refine wpAnyH_take (i := 15) (oi := { dst := some 100, op := Op.load 23 (Operand.tmp 99), type := 23, pos := "law.go:122", after := #[{ on := 14, ground := Ground.data }, { on := 5, ground := Ground.guard }], guard := some (5, true) }) (v := undef) rfl (by kernel_rfl) (by kernel_rfl) (by kernel_rfl) (fun _ _ _ h => h) (Or.inr ⟨by rfl, rfl⟩) (by assumption) ?_
                    try simp only [Act.put, List.setIfInBounds_toArray, List.set_cons_zero, List.set_cons_succ]
                    refine wpAnyH_take (i := 16) (oi := { dst := some 101, op := Op.call { callee := Callee.builtin Builtin.len, args := #[Operand.tmp 100], argTypes := #[23] }, type := 3, pos := "law.go:122", after := #[{ on := 15, ground := Ground.data }, { on := 5, ground := Ground.guard }], guard := some (5, true) }) (v := undef) rfl (by kernel_rfl) (by kernel_rfl) (by kernel_rfl) (fun _ _ _ h => h) (Or.inr ⟨by rfl, rfl⟩) (by assumption) ?_
                    try simp only [Act.put, List.setIfInBounds_toArray, List.set_cons_zero, List.set_cons_succ]
                    refine wpAnyH_take (i := 17) (oi := { dst := some 102, op := Op.binOp BinOp.lss 3 (Operand.tmp 95) (Operand.tmp 101) 3, type := 4, pos := "law.go:122", after := #[{ on := 10, ground := Ground.data }, { on := 16, ground := Ground.data }, { on := 5, ground := Ground.guard }], guard := some (5, true) }) (v := undef) rfl (by kernel_rfl) (by kernel_rfl) (by kernel_rfl) (fun _ _ _ h => h) (Or.inr ⟨by rfl, rfl⟩) (by assumption) ?_
                    try simp only [Act.put, List.setIfInBounds_toArray, List.set_cons_zero, List.set_cons_succ]
                    refine wpAnyH_take (i := 18) (oi := { dst := some 103, op := Op.pick (Operand.tmp 90) (Operand.tmp 102) (Operand.const (Value.bool false)), type := 4, pos := "law.go:122", after := #[{ on := 5, ground := Ground.data }, { on := 17, ground := Ground.data }, { on := 2, ground := Ground.guard }], guard := some (2, false) }) (v := ?vu65) rfl (by kernel_rfl) (by kernel_rfl) (by kernel_rfl) (fun _ _ _ h => h) (Or.inl ⟨by rfl, ?hyu65⟩) (by assumption) ?restu65
                    case hyu65 => (intro w hSw; (try dsimp only at hSw); go_simp; (try with_reducible rfl))
                    try simp only [Act.put, List.setIfInBounds_toArray, List.set_cons_zero, List.set_cons_succ]
                    refine wpAnyH_take (i := 19) (oi := { dst := some 104, op := Op.pick (Operand.tmp 87) (Operand.const (Value.bool true)) (Operand.tmp 103), type := 4, pos := "law.go:122", after := #[{ on := 2, ground := Ground.data }, { on := 18, ground := Ground.data }], guard := none }) (v := ?vu66) rfl (by kernel_rfl) (by kernel_rfl) (by kernel_rfl) (fun _ _ _ h => h) (Or.inl ⟨by rfl, ?hyu66⟩) (by assumption) ?restu66
                    case hyu66 => (intro w hSw; (try dsimp only at hSw); go_simp; (try with_reducible rfl))
                    try simp only [Act.put, List.setIfInBounds_toArray, List.set_cons_zero, List.set_cons_succ]
                    refine wpAnyH_done (by kernel_rfl) ?_ _
                    go_wp2
                    go_roundw
                    case rel => exact ⟨1, by omega, rfl, (by first | exact HW | exact HW.drew)⟩
                    case measure => simp [intOf]; omega
                  · obtain ⟨p, rfl⟩ : ∃ p, i = p + 1 := ⟨i - 1, by omega⟩
                    have hcp0 := hcb p (by omega)
                    obtain ⟨avp, cvp, hvp0, -⟩ := HSS.out p (by omega)
                    rw [hvp0] at hcp0
                    have hcp := hcp0
                    have hle : ¬ (((gs F (p + 1)).length : Nat) : Int) < (((gs F p).length : Nat) : Int) := by have := fam_lens HOf.out.1 hlt; omega
                    have p1 : (0 : Int) ≤ (p : Int) := by omega
                    have p2 : (p : Int) < (F.length : Int) := by omega
                    have p3 : (p : Int) + 1 < (F.length : Int) := by omega
                    have p4 : (0 : Int) < (p : Int) + 1 := by omega
                    have p5 : (0 : Int) ≤ (p : Int) + 1 := by omega
                    have hwp : IntKind.i64.wrap (p : Int) = (p : Int) := by rw [IntKind.wrap_i64]; omega
                    clear hcb hcp0 hvp0 hi0
                    go_wp2
                    go_upto_region 20 with fail
                    refine wp_region_held_drew (S := (fun w' => Below Wc.heap.size Wc w')) (by kernel_rfl) ?_ (fun hHeld => ?_)
                    · (try dsimp only); first | exact HW | exact HW.drew
                    refine wpAnyH_take (i := 0) (oi := { dst := some 85, op := Op.move (Operand.tmp 7), type := 4, pos := "law.go:122", after := #[], guard := none }) (v := ?vu67) rfl (by kernel_rfl) (by kernel_rfl) (by kernel_rfl) (fun _ _ _ h => h) (Or.inl ⟨by rfl, ?hyu67⟩) (by assumption) ?restu67
                    case hyu67 => (intro w hSw; (try dsimp only at hSw); go_simp; (try with_reducible rfl))
                    try simp only [Act.put, List.setIfInBounds_toArray, List.set_cons_zero, List.set_cons_succ]
                    refine wpAnyH_take (i := 1) (oi := { dst := some 86, op := Op.unOp UnOp.not 4 (Operand.tmp 85), type := 4, pos := "law.go:122", after := #[{ on := 0, ground := Ground.data }], guard := none }) (v := ?vu68) rfl (by kernel_rfl) (by kernel_rfl) (by kernel_rfl) (fun _ _ _ h => h) (Or.inl ⟨by rfl, ?hyu68⟩) (by assumption) ?restu68
                    case hyu68 => (intro w hSw; (try dsimp only at hSw); go_simp; (try with_reducible rfl))
                    try simp only [Act.put, List.setIfInBounds_toArray, List.set_cons_zero, List.set_cons_succ]
                    refine wpAnyH_take (i := 2) (oi := { dst := some 87, op := Op.move (Operand.tmp 86), type := 4, pos := "law.go:122", after := #[{ on := 1, ground := Ground.data }], guard := none }) (v := ?vu69) rfl (by kernel_rfl) (by kernel_rfl) (by kernel_rfl) (fun _ _ _ h => h) (Or.inl ⟨by rfl, ?hyu69⟩) (by assumption) ?restu69
                    case hyu69 => (intro w hSw; (try dsimp only at hSw); go_simp; (try with_reducible rfl))
                    try simp only [Act.put, List.setIfInBounds_toArray, List.set_cons_zero, List.set_cons_succ]
                    refine wpAnyH_take (i := 3) (oi := { dst := some 88, op := Op.move (Operand.tmp 6), type := 3, pos := "law.go:122", after := #[{ on := 2, ground := Ground.guard }], guard := some (2, false) }) (v := ?vu70) rfl (by kernel_rfl) (by kernel_rfl) (by kernel_rfl) (fun _ _ _ h => h) (Or.inl ⟨by rfl, ?hyu70⟩) (by assumption) ?restu70
                    case hyu70 => (intro w hSw; (try dsimp only at hSw); go_simp; (try with_reducible rfl))
                    try simp only [Act.put, List.setIfInBounds_toArray, List.set_cons_zero, List.set_cons_succ]
                    refine wpAnyH_take (i := 4) (oi := { dst := some 89, op := Op.binOp BinOp.gtr 3 (Operand.tmp 88) (Operand.const (Value.int IntKind.i64 0)) 3, type := 4, pos := "law.go:122", after := #[{ on := 3, ground := Ground.data }, { on := 2, ground := Ground.guard }], guard := some (2, false) }) (v := ?vu71) rfl (by kernel_rfl) (by kernel_rfl) (by kernel_rfl) (fun _ _ _ h => h) (Or.inl ⟨by rfl, ?hyu71⟩) (by assumption) ?restu71
                    case hyu71 => (intro w hSw; (try dsimp only at hSw); go_simp; (try with_reducible rfl))
                    try simp only [Act.put, List.setIfInBounds_toArray, List.set_cons_zero, List.set_cons_succ]
                    refine wpAnyH_take (i := 5) (oi := { dst := some 90, op := Op.move (Operand.tmp 89), type := 4, pos := "law.go:122", after := #[{ on := 4, ground := Ground.data }, { on := 2, ground := Ground.chain }, { on := 2, ground := Ground.guard }], guard := some (2, false) }) (v := ?vu72) rfl (by kernel_rfl) (by kernel_rfl) (by kernel_rfl) (fun _ _ _ h => h) (Or.inl ⟨by rfl, ?hyu72⟩) (by assumption) ?restu72
                    case hyu72 => (intro w hSw; (try dsimp only at hSw); go_simp; (try with_reducible rfl))
                    try simp only [Act.put, List.setIfInBounds_toArray, List.set_cons_zero, List.set_cons_succ]
                    refine wpAnyH_take (i := 6) (oi := { dst := some 91, op := Op.move (Operand.tmp 5), type := 22, pos := "law.go:122", after := #[{ on := 5, ground := Ground.guard }], guard := some (5, true) }) (v := ?vu73) rfl (by kernel_rfl) (by kernel_rfl) (by kernel_rfl) (fun _ _ _ h => h) (Or.inl ⟨by rfl, ?hyu73⟩) (by assumption) ?restu73
                    case hyu73 => (intro w hSw; (try dsimp only at hSw); go_simp; (try with_reducible rfl))
                    try simp only [Act.put, List.setIfInBounds_toArray, List.set_cons_zero, List.set_cons_succ]
                    refine wpAnyH_take (i := 7) (oi := { dst := some 92, op := Op.move (Operand.tmp 6), type := 3, pos := "law.go:122", after := #[{ on := 5, ground := Ground.guard }], guard := some (5, true) }) (v := ?vu74) rfl (by kernel_rfl) (by kernel_rfl) (by kernel_rfl) (fun _ _ _ h => h) (Or.inl ⟨by rfl, ?hyu74⟩) (by assumption) ?restu74
                    case hyu74 => (intro w hSw; (try dsimp only at hSw); go_simp; (try with_reducible rfl))
                    try simp only [Act.put, List.setIfInBounds_toArray, List.set_cons_zero, List.set_cons_succ]
                    refine wpAnyH_take (i := 8) (oi := { dst := some 93, op := Op.indexAddr 22 (Operand.tmp 91) (Operand.tmp 92), type := 0, pos := "law.go:122", after := #[{ on := 6, ground := Ground.data }, { on := 7, ground := Ground.data }, { on := 5, ground := Ground.guard }], guard := some (5, true) }) (v := ?vu75) rfl (by kernel_rfl) (by kernel_rfl) (by kernel_rfl) (fun _ _ _ h => h) (Or.inl ⟨by rfl, ?hyu75⟩) (by assumption) ?restu75
                    case hyu75 => (intro w hSw; (try dsimp only at hSw); go_simp; (try with_reducible rfl))
                    try simp only [Act.put, List.setIfInBounds_toArray, List.set_cons_zero, List.set_cons_succ]
                    refine wpAnyH_take (i := 9) (oi := { dst := some 94, op := Op.load 23 (Operand.tmp 93), type := 23, pos := "law.go:122", after := #[{ on := 8, ground := Ground.data }, { on := 5, ground := Ground.guard }], guard := some (5, true) }) (v := ?vu76) rfl (by kernel_rfl) (by kernel_rfl) (by kernel_rfl) (fun _ _ _ h => h) (Or.inl ⟨by rfl, ?hyu76⟩) (by assumption) ?restu76
                    case hyu76 => (intro w' hSw; (try dsimp only at hSw); have q0 := (Below.cell hSw (p := ⟨gb, ob + (p + 1), none⟩) hgb).trans hci; have q1 := (Below.cell hSw (p := ⟨gb, ob + p, none⟩) hgb).trans hcp; go_simp; (try with_reducible rfl))
                    try simp only [Act.put, List.setIfInBounds_toArray, List.set_cons_zero, List.set_cons_succ]
                    refine wpAnyH_take (i := 10) (oi := { dst := some 95, op := Op.call { callee := Callee.builtin Builtin.len, args := #[Operand.tmp 94], argTypes := #[23] }, type := 3, pos := "law.go:122", after := #[{ on := 9, ground := Ground.data }, { on := 5, ground := Ground.guard }], guard := some (5, true) }) (v := ?vu77) rfl (by kernel_rfl) (by kernel_rfl) (by kernel_rfl) (fun _ _ _ h => h) (Or.inl ⟨by rfl, ?hyu77⟩) (by assumption) ?restu77
                    case hyu77 => (intro w hSw; (try dsimp only at hSw); go_simp; (try with_reducible rfl))
                    try simp only [Act.put, List.setIfInBounds_toArray, List.set_cons_zero, List.set_cons_succ]
                    refine wpAnyH_take (i := 11) (oi := { dst := some 96, op := Op.move (Operand.tmp 5), type := 22, pos := "law.go:122", after := #[{ on := 5, ground := Ground.guard }], guard := some (5, true) }) (v := ?vu78) rfl (by kernel_rfl) (by kernel_rfl) (by kernel_rfl) (fun _ _ _ h => h) (Or.inl ⟨by rfl, ?hyu78⟩) (by assumption) ?restu78
                    case hyu78 => (intro w hSw; (try dsimp only at hSw); go_simp; (try with_reducible rfl))
                    try simp only [Act.put, List.setIfInBounds_toArray, List.set_cons_zero, List.set_cons_succ]
                    refine wpAnyH_take (i := 12) (oi := { dst := some 97, op := Op.move (Operand.tmp 6), type := 3, pos := "law.go:122", after := #[{ on := 5, ground := Ground.guard }], guard := some (5, true) }) (v := ?vu79) rfl (by kernel_rfl) (by kernel_rfl) (by kernel_rfl) (fun _ _ _ h => h) (Or.inl ⟨by rfl, ?hyu79⟩) (by assumption) ?restu79
                    case hyu79 => (intro w hSw; (try dsimp only at hSw); go_simp; (try with_reducible rfl))
                    try simp only [Act.put, List.setIfInBounds_toArray, List.set_cons_zero, List.set_cons_succ]
                    refine wpAnyH_take (i := 13) (oi := { dst := some 98, op := Op.binOp BinOp.sub 3 (Operand.tmp 97) (Operand.const (Value.int IntKind.i64 1)) 3, type := 3, pos := "law.go:122", after := #[{ on := 12, ground := Ground.data }, { on := 5, ground := Ground.guard }], guard := some (5, true) }) (v := ?vu80) rfl (by kernel_rfl) (by kernel_rfl) (by kernel_rfl) (fun _ _ _ h => h) (Or.inl ⟨by rfl, ?hyu80⟩) (by assumption) ?restu80
                    case hyu80 => (intro w hSw; (try dsimp only at hSw); go_simp; (try with_reducible rfl))
                    try simp only [Act.put, List.setIfInBounds_toArray, List.set_cons_zero, List.set_cons_succ]
                    refine wpAnyH_take (i := 14) (oi := { dst := some 99, op := Op.indexAddr 22 (Operand.tmp 96) (Operand.tmp 98), type := 0, pos := "law.go:122", after := #[{ on := 11, ground := Ground.data }, { on := 13, ground := Ground.data }, { on := 5, ground := Ground.guard }], guard := some (5, true) }) (v := ?vu81) rfl (by kernel_rfl) (by kernel_rfl) (by kernel_rfl) (fun _ _ _ h => h) (Or.inl ⟨by rfl, ?hyu81⟩) (by assumption) ?restu81
                    case hyu81 => (intro w hSw; (try dsimp only at hSw); go_simp; (try with_reducible rfl))
                    try simp only [Act.put, List.setIfInBounds_toArray, List.set_cons_zero, List.set_cons_succ]
                    refine wpAnyH_take (i := 15) (oi := { dst := some 100, op := Op.load 23 (Operand.tmp 99), type := 23, pos := "law.go:122", after := #[{ on := 14, ground := Ground.data }, { on := 5, ground := Ground.guard }], guard := some (5, true) }) (v := ?vu82) rfl (by kernel_rfl) (by kernel_rfl) (by kernel_rfl) (fun _ _ _ h => h) (Or.inl ⟨by rfl, ?hyu82⟩) (by assumption) ?restu82
                    case hyu82 => (intro w' hSw; (try dsimp only at hSw); have q0 := (Below.cell hSw (p := ⟨gb, ob + (p + 1), none⟩) hgb).trans hci; have q1 := (Below.cell hSw (p := ⟨gb, ob + p, none⟩) hgb).trans hcp; go_simp; (try with_reducible rfl))
                    try simp only [Act.put, List.setIfInBounds_toArray, List.set_cons_zero, List.set_cons_succ]
                    refine wpAnyH_take (i := 16) (oi := { dst := some 101, op := Op.call { callee := Callee.builtin Builtin.len, args := #[Operand.tmp 100], argTypes := #[23] }, type := 3, pos := "law.go:122", after := #[{ on := 15, ground := Ground.data }, { on := 5, ground := Ground.guard }], guard := some (5, true) }) (v := ?vu83) rfl (by kernel_rfl) (by kernel_rfl) (by kernel_rfl) (fun _ _ _ h => h) (Or.inl ⟨by rfl, ?hyu83⟩) (by assumption) ?restu83
                    case hyu83 => (intro w hSw; (try dsimp only at hSw); go_simp; (try with_reducible rfl))
                    try simp only [Act.put, List.setIfInBounds_toArray, List.set_cons_zero, List.set_cons_succ]
                    refine wpAnyH_take (i := 17) (oi := { dst := some 102, op := Op.binOp BinOp.lss 3 (Operand.tmp 95) (Operand.tmp 101) 3, type := 4, pos := "law.go:122", after := #[{ on := 10, ground := Ground.data }, { on := 16, ground := Ground.data }, { on := 5, ground := Ground.guard }], guard := some (5, true) }) (v := ?vu84) rfl (by kernel_rfl) (by kernel_rfl) (by kernel_rfl) (fun _ _ _ h => h) (Or.inl ⟨by rfl, ?hyu84⟩) (by assumption) ?restu84
                    case hyu84 => (intro w hSw; (try dsimp only at hSw); go_simp; (try with_reducible rfl))
                    try simp only [Act.put, List.setIfInBounds_toArray, List.set_cons_zero, List.set_cons_succ]
                    refine wpAnyH_take (i := 18) (oi := { dst := some 103, op := Op.pick (Operand.tmp 90) (Operand.tmp 102) (Operand.const (Value.bool false)), type := 4, pos := "law.go:122", after := #[{ on := 5, ground := Ground.data }, { on := 17, ground := Ground.data }, { on := 2, ground := Ground.guard }], guard := some (2, false) }) (v := ?vu85) rfl (by kernel_rfl) (by kernel_rfl) (by kernel_rfl) (fun _ _ _ h => h) (Or.inl ⟨by rfl, ?hyu85⟩) (by assumption) ?restu85
                    case hyu85 => (intro w hSw; (try dsimp only at hSw); go_simp; (try with_reducible rfl))
                    try simp only [Act.put, List.setIfInBounds_toArray, List.set_cons_zero, List.set_cons_succ]
                    refine wpAnyH_take (i := 19) (oi := { dst := some 104, op := Op.pick (Operand.tmp 87) (Operand.const (Value.bool true)) (Operand.tmp 103), type := 4, pos := "law.go:122", after := #[{ on := 2, ground := Ground.data }, { on := 18, ground := Ground.data }], guard := none }) (v := ?vu86) rfl (by kernel_rfl) (by kernel_rfl) (by kernel_rfl) (fun _ _ _ h => h) (Or.inl ⟨by rfl, ?hyu86⟩) (by assumption) ?restu86
                    case hyu86 => (intro w hSw; (try dsimp only at hSw); go_simp; (try with_reducible rfl))
                    try simp only [Act.put, List.setIfInBounds_toArray, List.set_cons_zero, List.set_cons_succ]
                    refine wpAnyH_done (by kernel_rfl) ?_ _
                    go_wp2
                    go_roundw
                    case rel => exact ⟨p + 1 + 1, by omega, by go_num, (by first | exact HW | exact HW.drew)⟩
                    case measure => simp [intOf]; omega
        · have hlt' : ¬ (i : Int) < (F.length : Int) := by omega
          go_wp2
          go_loopw [10] (fun v10 wr => ∃ k : Nat, k ≤ L.length ∧ v10 = .int .i64 k ∧ Hid (Below Wc.heap.size Wc wr)) (fun v10 _ => L.length - (intOf v10).toNat)
          case atStart => exact ⟨0, Nat.zero_le _, rfl, HW1⟩
          case round =>
            clear HW1
            obtain ⟨k, hk, rfl, HW2⟩ := hrel
            rename World => wr
            by_cases hkl : k < L.length
            · obtain ⟨ga, oa, rfl, hca⟩ := HRA.out.at (by omega)
              have hck := hca k hkl
              have hga : ga < Wc.heap.size := World.block_lt_of_cell? Wc _ hck
              have HVk : Hid (IsL Wc (VL' k) (gs L k)) := HSA.out k hkl
              have HLk : Hid ((gs L k).length ≤ 1000000) := HLn.out k hkl
              obtain ⟨avk, cvk, hvk0, -⟩ := id HVk.out
              rw [hvk0] at hck HVk
              have HHs : Hid (Fo.has F (gs L k)) := (HOf.out.2 _).2 ⟨gs L k, gs_mem.2 ⟨k, hkl, rfl⟩, sub_refl _⟩
              have k1 : (0 : Int) ≤ (k : Int) := by omega
              have k2 : (k : Int) < (L.length : Int) := by omega
              have HW : Below Wc.heap.size Wc wr := HW2
              clear HW2 hca
              go_wp2
              go_upto_region 25 with fail
              refine wp_region_held_drew (S := (fun w' => Below Wc.heap.size Wc w')) (by kernel_rfl) ?_ (fun hHeld => ?_)
              · (try dsimp only); first | exact HW | exact HW.drew
              refine wpAnyH_take (i := 0) (oi := { dst := some 111, op := Op.load 27 (Operand.tmp 3), type := 27, pos := "law.go:127", after := #[], guard := none }) (v := ?vu87) rfl (by kernel_rfl) (by kernel_rfl) (by kernel_rfl) (fun _ _ _ h => h) (Or.inl ⟨by rfl, ?hyu87⟩) (by assumption) ?restu87
              case hyu87 => (intro w' hSw; (try dsimp only at hSw); have q0 := (Below.cell hSw (p := ⟨w1.heap.size, 0, none⟩) m3).trans hk3; go_simp; (try with_reducible rfl))
              try simp only [Act.put, List.setIfInBounds_toArray, List.set_cons_zero, List.set_cons_succ]
              refine wpAnyH_take (i := 1) (oi := { dst := some 112, op := Op.move (Operand.tmp 0), type := 22, pos := "law.go:127", after := #[], guard := none }) (v := ?vu88) rfl (by kernel_rfl) (by kernel_rfl) (by kernel_rfl) (fun _ _ _ h => h) (Or.inl ⟨by rfl, ?hyu88⟩) (by assumption) ?restu88
              case hyu88 => (intro w hSw; (try dsimp only at hSw); go_simp; (try with_reducible rfl))
              try simp only [Act.put, List.setIfInBounds_toArray, List.set_cons_zero, List.set_cons_succ]
              refine wpAnyH_take (i := 2) (oi := { dst := some 113, op := Op.move (Operand.tmp 10), type := 3, pos := "law.go:127", after := #[], guard := none }) (v := ?vu89) rfl (by kernel_rfl) (by kernel_rfl) (by kernel_rfl) (fun _ _ _ h => h) (Or.inl ⟨by rfl, ?hyu89⟩) (by assumption) ?restu89
              case hyu89 => (intro w hSw; (try dsimp only at hSw); go_simp; (try with_reducible rfl))
              try simp only [Act.put, List.setIfInBounds_toArray, List.set_cons_zero, List.set_cons_succ]
              refine wpAnyH_take (i := 3) (oi := { dst := some 114, op := Op.indexAddr 22 (Operand.tmp 112) (Operand.tmp 113), type := 0, pos := "law.go:127", after := #[{ on := 1, ground := Ground.data }, { on := 2, ground := Ground.data }], guard := none }) (v := ?vu90) rfl (by kernel_rfl) (by kernel_rfl) (by kernel_rfl) (fun _ _ _ h => h) (Or.inl ⟨by rfl, ?hyu90⟩) (by assumption) ?restu90
              case hyu90 => (intro w hSw; (try dsimp only at hSw); go_simp; (try with_reducible rfl))
              try simp only [Act.put, List.setIfInBounds_toArray, List.set_cons_zero, List.set_cons_succ]
              refine wpAnyH_take (i := 4) (oi := { dst := some 115, op := Op.load 23 (Operand.tmp 114), type := 23, pos := "law.go:127", after := #[{ on := 3, ground := Ground.data }], guard := none }) (v := ?vu91) rfl (by kernel_rfl) (by kernel_rfl) (by kernel_rfl) (fun _ _ _ h => h) (Or.inl ⟨by rfl, ?hyu91⟩) (by assumption) ?restu91
              case hyu91 => (intro w' hSw; (try dsimp only at hSw); have q0 := (Below.cell hSw (p := ⟨ga, oa + k, none⟩) hga).trans hck; go_simp; (try with_reducible rfl))
              try simp only [Act.put, List.setIfInBounds_toArray, List.set_cons_zero, List.set_cons_succ]
              refine wpAnyH_ready (rs := [5]) (by kernel_rfl) (by simp) ?_
              refine AllReadyH.cons (o := { dst := some 116, op := Op.call { callee := Callee.value (Operand.func 20), args := #[Operand.tmp 111, Operand.tmp 115], argTypes := #[27, 23] }, type := 4, pos := "law.go:127", after := #[{ on := 0, ground := Ground.data }, { on := 4, ground := Ground.data }], guard := none }) rfl (fun K hK => ?_) AllReadyH.nil
              go_simp
              go_at_call 20
              refine (C.has _ _ _ F (gs L k) true (C.keep HEc.out (by first | exact HW | exact HW.drew)) (by exact HFc.out.below (by first | exact HW | exact HW.drew)) (by exact HVk.out.below (by first | exact HW | exact HW.drew)) HLk.out ⟨fun _ => HHs.out, fun _ => rfl⟩).mono ?_
              rintro e z0 ⟨rfl, b⟩
              replace HW := below_step (by first | exact HW | exact HW.drew) b
              clear b
              refine hK.out _ _ ?_ (fun hHeldB => ?_)
              · (try dsimp only); exact HW
              clear hK K hHeld
              have hHeld := hHeldB
              clear hHeldB
              try simp only [Act.put, List.setIfInBounds_toArray, List.set_cons_zero, List.set_cons_succ]
              refine wpAnyH_take (i := 6) (oi := { dst := some 117, op := Op.unOp UnOp.not 4 (Operand.tmp 116), type := 4, pos := "law.go:127", after := #[{ on := 5, ground := Ground.data }], guard := none }) (v := ?vu92) rfl (by kernel_rfl) (by kernel_rfl) (by kernel_rfl) (fun _ _ _ h => h) (Or.inl ⟨by rfl, ?hyu92⟩) (by assumption) ?restu92
              case hyu92 => (intro w hSw; (try dsimp only at hSw); go_simp; (try with_reducible rfl))
              try simp only [Act.put, List.setIfInBounds_toArray, List.set_cons_zero, List.set_cons_succ]
              refine wpAnyH_done (by kernel_rfl) ?_ _
              go_wp2
              go_roundw
              case rel => exact ⟨k + 1, by omega, by go_num, (by first | exact HW | exact HW.drew)⟩
              case measure => simp [intOf]; omega
            · have hkl' : ¬ (k : Int) < (L.length : Int) := by omega
              by_cases hz : L.length = 0
              · have hz2 : F.length = 0 := by have := fam_len HOf.out; omega
                rw [hz] at hkl'
                have HCA := C.awake_at HEc HW2
                go_wp2_with (go_at_call 10; refine HCA.mono ?_; rintro e xx ⟨rfl, b⟩)
                go_ret
                exact ⟨rfl, below_step (below_step HBc.out HW2.out) b⟩
              · have hz2 : F.length ≠ 0 := fam_none HOf.out hz
                have n1 : (((L.length : Nat) : Int) == 0) = false := beq_eq_false_iff_ne.2 (by omega)
                have n2 : (((F.length : Nat) : Int) == 0) = false := beq_eq_false_iff_ne.2 (by omega)
                have HCA := C.awake_at HEc HW2
                go_wp2_with (go_at_call 10; refine HCA.mono ?_; rintro e xx ⟨rfl, b⟩)
                go_ret
                exact ⟨rfl, below_step (below_step HBc.out HW2.out) b⟩
    · have HgL : Hid (¬ GoodP L) := hgl
      clear hgl
      go_wp2_with (go_at_call 12; fail)
      refine (agood_any _ _ L false HA.out ⟨fun h => (by cases h), fun h => absurd h HgL.out⟩).mono ?_
      rintro e w' ⟨rfl, hw⟩
      replace hw := hw.symm
      subst hw
      go_wp2_with (go_at_call 10; fail)
      refine (awake_of C _ (C.keep HE.out HB.out)).mono ?_
      rintro e xx ⟨rfl, b⟩
      have HBx : Hid (Below w.heap.size w xx) := below_step HB.out b
      clear b HB
      go_wp2
      go_ret
      exact ⟨rfl, HBx.out⟩
end Go.Proofs.Yteaajhpgmndomaa
