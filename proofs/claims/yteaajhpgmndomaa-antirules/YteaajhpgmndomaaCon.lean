/- slices.Concat of two lists of sets. -/
import Derived.Test.YteaajhpgmndomaaKfa
import Derived.Test.YteaajhpgmndomaaShg
namespace Go.Proofs.Yteaajhpgmndomaa
open Go.RowKit Fo
set_option maxRecDepth 100000

/-- slices.Grow of nothing. -/
theorem grow_any (w : World) (n : Nat) (hn : n ≤ 100000000) :
    Calls Try.prog 57 #[.slice none 0 0, .int .i64 n] w fun e w' => (∃ u, e = .returned u ∧ Ow 23 w.heap.size w' u 0 (fun _ => .slice none 0 0)) ∧ Below w.heap.size w w' := by
  by_cases h0 : n = 0
  · subst h0
    refine (Try.slices_Grow_room none 0 0 0 w (by omega) (by omega) (by omega) (by omega)).mono ?_
    rintro e w' ⟨rfl, rfl⟩
    exact ⟨⟨_, rfl, Ow.nil _ _ _ _⟩, below_refl _⟩
  · have hb := eSet.hb8
    have hby : eSet.i.bytes = eSet.bytes := eSet.hby
    refine (Try.slices_Grow_grow eSet.i eSet.z eSet.hi eSet.hz (by rw [eSet.hsize]; decide) none 0 0 n [] w (by omega) (by omega) (by rw [hby]; exact Nat.le_trans (Nat.mul_le_mul (by omega : 0 + n ≤ 100000000) hb) (by decide)) (by omega) (by simp) (fun _ => rfl) (fun a h => by cases h)).mono ?_
    rintro e w' ⟨rfl, rfl⟩
    have hG := grownCap_ge w (0 + n) 0 23
    have hG2 := grownCap_le_maxLen w (0 + n) 0 23 (by unfold maxLen; omega)
    refine ⟨⟨_, rfl, Ow.mk (heap_new1 w.drew _) (Nat.le_refl _) (Nat.zero_le _) hG2 ?_ (fun j hj => absurd hj (Nat.not_lt_zero j))⟩, ?_⟩
    · have hz := eSet.hzs
      rw [Array.size_append, Array.size_append, zc_size _ hz, zc_size _ hz]
      simp only [List.size_toArray, List.length_nil]; omega
    · exact ((below_refl w).drew).alloc (Nat.le_refl _) _
namespace Fo
/-- A row of lists of sets put together. -/
def ConR (F : Nat → Prop) (L : List (List Int)) (w : World) (e : Ending) (w' : World) : Prop := (∃ u V, e = .returned u ∧ Ow 23 w.heap.size w' u L.length V ∧ ∀ j, j < L.length → SIO F w' (V j) (gs L j)) ∧ Below w.heap.size w w'
theorem gs_cat (A B : List (List Int)) (j : Nat) : gs (A ++ B) j = if j < A.length then gs A j else gs B (j - A.length) := by
  unfold gs
  rw [List.getD_eq_getElem?_getD, List.getD_eq_getElem?_getD, List.getD_eq_getElem?_getD]
  by_cases h : j < A.length
  · rw [if_pos h, List.getElem?_append_left h]
  · rw [if_neg h, List.getElem?_append_right (by omega)]
end Fo
set_option maxHeartbeats 8000000 in
theorem concat_any (F : Nat → Prop) (w : World) (g : Nat) (v1 v2 : Value) (A B : List (List Int)) (h1 : LIO F w v1 A) (h2 : LIO F w v2 B) (hg0 : w.cell? ⟨g, 0, none⟩ = some v1) (hg1 : w.cell? ⟨g, 1, none⟩ = some v2) (hA : A.length ≤ 10000000) (hB : B.length ≤ 10000000) :
    Calls Try.prog 45 #[.slice (some ⟨g, 0, none⟩) 2 2] w fun e w' => ConR F (A ++ B) w e w' := by
  obtain ⟨a1, c1, V1, rfl, hr1, hs1⟩ := h1
  obtain ⟨a2, c2, V2, rfl, hr2, hs2⟩ := h2
  have HR1 : Hid (Rd w a1 A.length c1 V1) := hr1.1
  have HR2 : Hid (Rd w a2 B.length c2 V2) := hr2.1
  have HS1 : Hid (∀ j, j < A.length → SIO F w (V1 j) (gs A j)) := hs1
  have HS2 : Hid (∀ j, j < B.length → SIO F w (V2 j) (gs B j)) := hs2
  have HG0 : Hid (w.cell? ⟨g, 0, none⟩ = some (.slice a1 A.length c1)) := hg0
  have HG1 : Hid (w.cell? ⟨g, 1, none⟩ = some (.slice a2 B.length c2)) := hg1
  have hgl : g < w.heap.size := World.block_lt_of_cell? w _ hg0
  obtain ⟨na, hna⟩ : ∃ na, na = A.length := ⟨_, rfl⟩
  obtain ⟨nb, hnb⟩ : ∃ nb, nb = B.length := ⟨_, rfl⟩
  rw [← hna] at HG0 HR1 HS1 hg0 hA
  rw [← hnb] at HG1 HR2 HS2 hg1 hB
  have HNA : Hid (na = A.length) := hna
  have HNB : Hid (nb = B.length) := hnb
  clear hr1 hr2 hs1 hs2 hna hnb
  go_enter Try.func45, Try.ntmps45
  go_wp2
  go_loopw [3, 11] (fun v3 v11 wr => ∃ i : Nat, i ≤ 2 ∧ v11 = .int .i64 i ∧ v3 = .int .i64 ((if i = 0 then 0 else if i = 1 then na else na + nb : Nat) : Int) ∧ wr = w) (fun _ v11 _ => 2 - (intOf v11).toNat)
  case atStart => exact ⟨0, by omega, rfl, rfl, rfl⟩
  case round =>
    obtain ⟨i, hi, rfl, rfl, hwr⟩ := hrel
    subst hwr
    rcases (by omega : i = 0 ∨ i = 1 ∨ i = 2) with rfl | rfl | rfl
    · have q1 : ¬ (na : Int) < 0 := by omega
      go_wp2
      go_roundw
      case rel => exact ⟨1, by omega, rfl, by simp, by first | rfl | trivial⟩
      case measure => simp [intOf]
    · have q1 : ¬ (na : Int) + (nb : Int) < 0 := by omega
      have q2 : IntKind.i64.wrap ((na : Int) + (nb : Int)) = (na : Int) + (nb : Int) := by rw [IntKind.wrap_i64]; omega
      go_wp2
      go_roundw
      case rel => exact ⟨2, by omega, rfl, by simp, by first | rfl | trivial⟩
      case measure => simp [intOf]
    · have HGr := grow_any wr (na + nb) (by omega)
      rw [Int.natCast_add] at HGr
      go_wp2_with (go_at_call 57; fail)
      refine HGr.mono ?_
      rintro e w1 ⟨⟨u, rfl, hu⟩, b1⟩
      obtain ⟨ua, uc, rfl, -⟩ := id hu.rd
      have HU : Hid (Ow 23 wr.heap.size w1 (.slice ua 0 uc) 0 (fun _ => .slice none 0 0)) := hu
      have HB1 : Hid (Below wr.heap.size wr w1) := b1
      clear HGr hu b1
      go_wp2
      go_loopw [6, 27] (fun v6 v27 wq => ∃ (i : Nat) (a6 : Option Addr) (c6 : Nat) (V : Nat → Value), i ≤ 2 ∧ v27 = .int .i64 i ∧ v6 = .slice a6 (if i = 0 then 0 else if i = 1 then na else na + nb) c6 ∧ Hid (Ow 23 wr.heap.size wq (.slice a6 (if i = 0 then 0 else if i = 1 then na else na + nb) c6) (if i = 0 then 0 else if i = 1 then na else na + nb) V) ∧ Hid (1 ≤ i → ∀ j, j < na → V j = V1 j) ∧ Hid (2 ≤ i → ∀ j, j < nb → V (na + j) = V2 j) ∧ Hid (Below wr.heap.size wr wq)) (fun _ v27 _ => 2 - (intOf v27).toNat)
      case atStart => exact ⟨0, ua, uc, fun _ => .slice none 0 0, by omega, rfl, rfl, HU, fun h => absurd h (by omega), fun h => absurd h (by omega), HB1⟩
      case round =>
        obtain ⟨i, a6, c6, V, hi, rfl, rfl, HO, HX, HY, HW⟩ := hrel
        rename World => wq
        have c0 : wq.cell? ⟨g, 0, none⟩ = some (.slice a1 na c1) := by rw [HW.out.cell hgl]; exact HG0.out
        have c1' : wq.cell? ⟨g, 1, none⟩ = some (.slice a2 nb c2) := by rw [HW.out.cell hgl]; exact HG1.out
        rcases (by omega : i = 0 ∨ i = 1 ∨ i = 2) with rfl | rfl | rfl
        · have HO0 : Hid (Ow 23 wr.heap.size wq (.slice a6 0 c6) 0 V) := HO
          clear HO HX HY
          go_wp2_with (at_builtin; refine wpList_app eSet rfl _ _ rfl HO0.out HW.out.size (HR1.out.below HW.out) (fun j hj => by obtain ⟨a, c, e, -⟩ := HS1.out j hj; rw [e]; rfl) na (by omega) (by omega) V1 (fun j hj => by unfold catV; rw [if_neg (by omega), Nat.sub_zero]) rfl rfl ?_; intro a7 c7 w7 hO7 hG7)
          have HO7 : Hid (Ow 23 wr.heap.size w7 (.slice a7 na c7) na V1) := hO7
          have HW7 : Hid (Below wr.heap.size wr w7) := HW.out.grown hG7 HW.out.size (fun k hk => HO0.out.row k hk)
          clear hO7 hG7
          go_wp2
          go_roundw
          case rel => exact ⟨1, a7, c7, V1, by omega, rfl, rfl, HO7, fun _ j _ => rfl, fun h => absurd h (by omega), HW7⟩
          case measure => simp [intOf]
        · have HO1 : Hid (Ow 23 wr.heap.size wq (.slice a6 na c6) na V) := HO
          have HX1 : Hid (∀ j, j < na → V j = V1 j) := HX.out (Nat.le_refl _)
          clear HO HX HY
          go_wp2_with (at_builtin; refine wpList_app eSet rfl _ _ rfl HO1.out HW.out.size (HR2.out.below HW.out) (fun j hj => by obtain ⟨a, c, e, -⟩ := HS2.out j hj; rw [e]; rfl) (na + nb) rfl (by omega) (catV V na V2) (fun j hj => rfl) rfl rfl ?_; intro a7 c7 w7 hO7 hG7)
          have HO7 : Hid (Ow 23 wr.heap.size w7 (.slice a7 (na + nb) c7) (na + nb) (catV V na V2)) := hO7
          have HW7 : Hid (Below wr.heap.size wr w7) := HW.out.grown hG7 HW.out.size (fun k hk => HO1.out.row k hk)
          clear hO7 hG7
          go_wp2
          go_roundw
          case rel => exact ⟨2, a7, c7, catV V na V2, by omega, rfl, rfl, HO7, fun _ j hj => by unfold catV; rw [if_pos hj]; exact HX1.out j hj, fun _ j _ => by unfold catV; rw [if_neg (by omega), Nat.add_sub_cancel_left], HW7⟩
          case measure => simp [intOf]
        · have HO2 : Hid (Ow 23 wr.heap.size wq (.slice a6 (na + nb) c6) (na + nb) V) := HO
          have HE : Hid (ConR F (A ++ B) wr (.returned (.slice a6 (na + nb) c6)) wq) := by
            have hX := HX.out (by omega)
            have hY := HY.out (Nat.le_refl _)
            refine ⟨⟨_, V, rfl, ?_, fun j hj => ?_⟩, HW.out⟩
            · rw [List.length_append, ← HNA.out, ← HNB.out]; exact HO2.out
            · rw [List.length_append, ← HNA.out, ← HNB.out] at hj
              rw [gs_cat, ← HNA.out]
              by_cases h : j < na
              · rw [if_pos h, hX j h]
                exact (HS1.out j h).below HW.out
              · rw [if_neg h]
                have := hY (j - na) (by omega)
                rw [show na + (j - na) = j by omega] at this
                rw [this]
                exact (HS2.out (j - na) (by omega)).below HW.out
          clear HO HX HY HW
          go_wp2
          go_ret
          exact HE.out
end Go.Proofs.Yteaajhpgmndomaa
