/- absorb. -/
import Derived.Test.YteaajhpgmndomaaOft
import Derived.Test.YteaajhpgmndomaaKal
namespace Go.Proofs.Yteaajhpgmndomaa
open Go.RowKit Fo
set_option maxRecDepth 100000

namespace Fo
theorem take_gs {L : List (List Int)} {i : Nat} (h : i < L.length) : L.take (i + 1) = L.take i ++ [gs L i] := by
  rw [List.take_add_one, List.getElem?_eq_getElem h, ← gs_get h]; rfl
theorem inL_yes {F O : List (List Int)} {s : List Int} (h : has O s) : inL (F ++ [s]) O = inL F O ++ [s] := by unfold inL; rw [List.filter_append]; simp [h]
theorem inL_no {F O : List (List Int)} {s : List Int} (h : ¬ has O s) : inL (F ++ [s]) O = inL F O := by unfold inL; rw [List.filter_append]; simp [h]
theorem outL_yes {F O : List (List Int)} {s : List Int} (h : has O s) : outL (F ++ [s]) O = outL F O := by unfold outL; rw [List.filter_append]; simp [h]
theorem outL_no {F O : List (List Int)} {s : List Int} (h : ¬ has O s) : outL (F ++ [s]) O = outL F O ++ [s] := by unfold outL; rw [List.filter_append]; simp [h]
theorem adds_inL_le (K L O : List (List Int)) (i : Nat) : (adds K (inL (L.take i) O)).length ≤ (adds K (inL L O)).length := by
  have h : inL L O = inL (L.take i) O ++ inL (L.drop i) O := by unfold inL; rw [← List.filter_append, List.take_append_drop]
  rw [h, adds_append]; exact adds_len _ _
theorem outL_len (L O : List (List Int)) : (outL L O).length ≤ L.length := by unfold outL; exact List.length_filter_le _ _
/-- Behind absorb. -/
def AbR (F : Nat → Prop) (most : Int) (KK L O : List (List Int)) (kp : Value) (w : World) (e : Ending) (w' : World) : Prop :=
  ((∃ u V F', e = .returned u ∧ ((adds KK (inL L O)).length : Int) ≤ most ∧ KIn F' w' kp most (adds KK (inL L O)) ∧ (∀ b, F' b → F b ∨ w.heap.size ≤ b) ∧ Ow 23 w.heap.size w' u (outL L O).length V ∧ (∀ j, j < (outL L O).length → SIO F' w' (V j) (gs (outL L O) j)) ∧ ∀ g, u.ownBlock = some g → ¬ F' g) ∨ (e = pB ∧ most < ((adds KK (inL L O)).length : Int))) ∧ Kp F w w'
end Fo
set_option maxHeartbeats 16000000 in
theorem absorb_any (F : Nat → Prop) (w : World) (kp vl vo : Value) (most : Int) (KK L O : List (List Int)) (h : KIn F w kp most KK) (hL : LIO F w vl L) (hO : LIO F w vo O) (rL : ∀ a, a ∈ L → Rise a) (rO : ∀ a, a ∈ O → Rise a) (lL : ∀ a, a ∈ L → a.length ≤ 10000) (lO : ∀ a, a ∈ O → a.length ≤ 10000) (nL : L.length ≤ 5000) (nO : O.length ≤ 5000) (hm5 : most ≤ 5000) (hm : (KK.length : Int) ≤ most) :
    Calls Try.prog 47 #[kp, vl, vo] w fun e w' => AbR F most KK L O kp w e w' := by
  obtain ⟨la, lc, VL, rfl, hrl, hsl⟩ := hL
  obtain ⟨oa, oc, VO, rfl, hro, hso⟩ := hO
  obtain ⟨kb, rfl⟩ : ∃ kb, kp = .pointer (some ⟨kb, 0, none⟩) := by obtain ⟨kb, _, _, _, _, _, _, e, _⟩ := id h; exact ⟨kb, e⟩
  obtain ⟨W, hW⟩ : ∃ W, W = w.alloc (.cells #[.bool false, .slice none 0 0, .slice none 0 0] 62) := ⟨_, rfl⟩
  have hb0 : Below w.heap.size w W := by rw [hW]; exact below1 w _
  have hg0 : W.heap[w.heap.size]? = some (.cells #[.bool false, .slice none 0 0, .slice none 0 0] 62) := by rw [hW]; exact heap_new1 w _
  have HB0 : Hid (Below w.heap.size w W) := hb0
  have HT0 : Hid (TIn W (fun b => if b = w.heap.size then some ([], 0) else none) (fun _ => w.heap.size) (fun p => p = []) (fun _ => false) 0) := tin_new hg0
  have HKI : Hid (KIn F w (.pointer (some ⟨kb, 0, none⟩)) most KK) := h
  have HRL : Hid (RdO 23 F w la L.length lc VL) := hrl
  have HRO : Hid (RdO 23 F w oa O.length oc VO) := hro
  have HSL : Hid (∀ j, j < L.length → SIO F w (VL j) (gs L j)) := hsl
  have HSO : Hid (∀ j, j < O.length → SIO F w (VO j) (gs O j)) := hso
  have HrL : Hid (∀ a, a ∈ L → Rise a) := rL
  have HrO : Hid (∀ a, a ∈ O → Rise a) := rO
  have HlL : Hid (∀ a, a ∈ L → a.length ≤ 10000) := lL
  have HlO : Hid (∀ a, a ∈ O → a.length ≤ 10000) := lO
  have HM : Hid ((KK.length : Int) ≤ most) := hm
  have HM5 : Hid (most ≤ 5000) := hm5
  have hl1 := hrl.1.1
  have hl2 := hrl.1.2.1
  have ho1 := hro.1.1
  have ho2 := hro.1.2.1
  clear hb0 hg0 h hrl hro hsl hso rL rO lL lO hm hm5
  go_enter Try.func47, Try.ntmps47
  go_wp2
  rw [← hW]
  clear hW
  go_loopw [16] (fun v16 wr => ∃ (i : Nat) (own : Nat → Option (List Int × Nat)) (blk : List Int → Nat) (D : List Int → Prop) (en : List Int → Bool), v16 = .int .i64 i ∧ i ≤ O.length ∧ Hid (TIn wr own blk D en (10000 * i)) ∧ Hid (blk [] = w.heap.size) ∧ Hid (∀ p, en p = true ↔ p ∈ O.take i) ∧ Hid (∀ b, own b ≠ none → w.heap.size ≤ b) ∧ Hid (Below w.heap.size w wr)) (fun v16 _ => O.length - (intOf v16).toNat)
  case atStart =>
    refine ⟨0, _, _, _, _, rfl, Nat.zero_le _, HT0, rfl, fun p => ⟨fun h => Bool.noConfusion h, fun h => by cases h⟩, fun b hb => ?_, HB0⟩
    by_cases e : b = w.heap.size
    · omega
    · rw [if_neg e] at hb; exact absurd rfl hb
  case round =>
    obtain ⟨i, own, blk, D, en, rfl, hi, HT, HBk, HEn, HOw, HB⟩ := hrel
    rename World => wr
    by_cases hlt : i < O.length
    · have hrr := (HRO.out.below HB.out).1
      obtain ⟨b, off, rfl, hcell⟩ := hrr.at (by omega)
      have hci := hcell i hlt
      have HKp : Hid (Kp F w wr) := Kp.of_below HB.out
      obtain ⟨sa, sc, hvi, hsd⟩ := id (HSO.out i hlt)
      rw [hvi] at hci
      have hmem : gs O i ∈ O := gs_mem.2 ⟨i, hlt, rfl⟩
      have HSi : Hid (SIO (fun b => own b ≠ none) wr (.slice sa (gs O i).length sc) (gs O i)) := by
        have := HSO.out i hlt
        rw [hvi] at this
        exact this.step HKp.out fun b hb h => by have := HOw.out b h; omega
      have hle : (gs O i).length ≤ 10000 := HlO.out _ hmem
      have HRi : Hid (Rise (gs O i)) := HrO.out _ hmem
      have j1 : (0 : Int) ≤ (i : Int) := by omega
      have j2 : (i : Int) < (O.length : Int) := by omega
      have HTa := tadd_any wr own blk D en (10000 * i) (gs O i) _ HT.out HSi.out HRi.out (by omega)
      rw [HBk.out] at HTa
      clear hrr hcell hvi hsd hmem
      go_wp2_with (go_at_call 58; fail)
      refine HTa.mono ?_
      rintro e w2 ⟨rfl, ⟨own', blk', D', hroot, T2, hO2⟩, hk2⟩
      clear HTa
      have HT2 : Hid (TIn w2 own' blk' D' (fun p => en p || decide (p = gs O i)) (10000 * (i + 1))) := T2.more (by omega)
      have HBk2 : Hid (blk' [] = w.heap.size) := hroot.trans HBk.out
      have HEn2 : Hid (∀ p, (fun p => en p || decide (p = gs O i)) p = true ↔ p ∈ O.take (i + 1)) := fun p => by
        rw [take_gs hlt, List.mem_append, List.mem_singleton]
        show (en p || decide (p = gs O i)) = true ↔ _
        rw [Bool.or_eq_true, decide_eq_true_eq, HEn.out p]
      have HOw2 : Hid (∀ b, own' b ≠ none → w.heap.size ≤ b) := fun b hb => (hO2 b hb).elim (HOw.out b) fun q => Nat.le_trans HB.out.size q
      have HB2 : Hid (Below w.heap.size w w2) := HB.out.trans (hk2.below HB.out.size fun b hb h => by have := HOw.out b h; omega)
      clear T2 hroot hO2 hk2 HT HBk HEn HOw HB hci
      go_wp2
      go_roundw
      case rel => exact ⟨i + 1, own', blk', D', _, by go_num, by omega, HT2, HBk2, HEn2, HOw2, HB2⟩
      case measure => simp [intOf]; omega
    · obtain rfl : i = O.length := by omega
      have HEnO : Hid (∀ p, en p = true ↔ p ∈ O) := fun p => by rw [HEn.out p, List.take_length]
      have HKI1 : Hid (KIn F wr (.pointer (some ⟨kb, 0, none⟩)) most KK) := HKI.out.frame (Kp.of_below (F := fun _ => False) HB.out) fun _ _ h => h
      have hge : ¬ (O.length : Int) < (O.length : Int) := by omega
      have HFl : Hid (∀ b, F b → b < w.heap.size) := HKI.out.lt
      have HOwF : Hid (∀ b, own b ≠ none → ¬ F b) := fun b hb h => by have := HOw.out b hb; have := HFl.out b h; omega
      have HN : Hid (10000 * O.length ≤ 100000000) := by show _ ≤ _; omega
      clear HEn HT0 HB0 HKI
      go_wp2
      go_loopw [6, 26] (fun v6 v26 wq => ∃ (i : Nat) (Fi : Nat → Prop) (a6 : Option Addr) (c6 : Nat) (V : Nat → Value), v26 = .int .i64 i ∧ i ≤ L.length ∧ v6 = .slice a6 (outL (L.take i) O).length c6 ∧ Hid (KIn Fi wq (.pointer (some ⟨kb, 0, none⟩)) most (adds KK (inL (L.take i) O))) ∧ Hid (∀ b, Fi b → F b ∨ wr.heap.size ≤ b) ∧ Hid (Kp F wr wq) ∧ Hid (Ow 23 wr.heap.size wq (.slice a6 (outL (L.take i) O).length c6) (outL (L.take i) O).length V) ∧ Hid (∀ j, j < (outL (L.take i) O).length → SIO F w (V j) (gs (outL (L.take i) O) j)) ∧ Hid (∀ g, (Value.slice a6 (outL (L.take i) O).length c6).ownBlock = some g → ¬ Fi g) ∧ Hid (((adds KK (inL (L.take i) O)).length : Int) ≤ most)) (fun _ v26 _ => L.length - (intOf v26).toNat)
      case atStart => exact ⟨0, F, none, 0, fun _ => .slice none 0 0, rfl, Nat.zero_le _, rfl, HKI1, fun b h => Or.inl h, Kp.refl _ _, Ow.nil _ _ _ _, fun j hj => absurd hj (Nat.not_lt_zero j), fun g h => (by cases h), HM⟩
      case round =>
        obtain ⟨i, Fi, a6, c6, V, rfl, hi, rfl, HKi, HFi, HKp, HOi, HSi, HNi, HLe⟩ := hrel
        rename World => wq
        have HKw : Hid (Kp F w wq) := (Kp.of_below (F := F) HB.out).trans HKp.out fun _ _ h => h
        have HTq : Hid (TIn wq own blk D en (10000 * O.length)) := HT.out.kp HKp.out HOwF.out
        have HFi2 : Hid (∀ b, b < w.heap.size → Fi b → F b) := fun b hb h => (HFi.out b h).elim id fun q => by have := HB.out.size; omega
        by_cases hlt : i < L.length
        · have hrr := (HRL.out.step HKw.out fun _ _ h => h).1
          obtain ⟨b, off, rfl, hcell⟩ := hrr.at (by omega)
          have hci := hcell i hlt
          obtain ⟨sa, sc, hvi, hsd⟩ := id (HSL.out i hlt)
          rw [hvi] at hci
          obtain ⟨s, hs⟩ : ∃ s, s = gs L i := ⟨_, rfl⟩
          have hmem : s ∈ L := by rw [hs]; exact gs_mem.2 ⟨i, hlt, rfl⟩
          have HTk : Hid (L.take (i + 1) = L.take i ++ [s]) := by show _ = _; rw [hs]; exact take_gs hlt
          have HSw : Hid (SIO F w (.slice sa s.length sc) s) := by
            have := HSL.out i hlt
            rw [hvi, ← hs] at this
            exact this
          rw [← hs] at hci
          have hle : s.length ≤ 10000 := HlL.out _ hmem
          have HRi : Hid (Rise s) := HrL.out _ hmem
          have HSq : Hid (SIO Fi wq (.slice sa s.length sc) s) := HSw.out.step HKw.out HFi2.out
          have j1 : (0 : Int) ≤ (i : Int) := by omega
          have j2 : (i : Int) < (L.length : Int) := by omega
          obtain ⟨R, hR⟩ : ∃ R : Bool, R = true ↔ hpP D en [] s := by
            by_cases q : hpP D en [] s
            · exact ⟨true, fun _ => q, fun _ => rfl⟩
            · exact ⟨false, fun h => Bool.noConfusion h, fun h => absurd h q⟩
          have HP := hp_any HN.out (s.length + 1) wq [] s (.slice sa s.length sc) R (by omega) (by omega) HTq.out HTq.out.root HSq.out.setIn.isL HRi.out hR
          rw [HBk.out] at HP
          have HHas : Hid (R = true ↔ has O s) := hR.trans (has_iff_hp HT.out.dom HEnO.out s)
          clear hrr hcell hvi hsd hmem hR hs
          go_wp2_with (go_at_call 59; fail)
          refine HP.mono ?_
          rintro e w2 ⟨rfl, hw2⟩
          clear HP
          have HB2 : Hid (Below wq.heap.size wq w2) := hw2.below
          have HKi2 : Hid (KIn Fi w2 (.pointer (some ⟨kb, 0, none⟩)) most (adds KK (inL (L.take i) O))) := HKi.out.frame (Kp.of_below (F := fun _ => False) HB2.out) fun _ _ h => h
          have HSq2 : Hid (SIO Fi w2 (.slice sa s.length sc) s) := HSq.out.below HB2.out
          have HO2 : Hid (Ow 23 wr.heap.size w2 (.slice a6 (outL (L.take i) O).length c6) (outL (L.take i) O).length V) := HOi.out.below HB2.out
          have HKp2 : Hid (Kp F wr w2) := HKp.out.trans (Kp.of_below (F := F) HB2.out) fun _ _ h => h
          have HWs : Hid (wr.heap.size ≤ w2.heap.size) := HKp2.out.size
          clear hw2
          cases R
          case true =>
            have hyes : has O s := HHas.out.1 rfl
            have HIn : Hid (adds KK (inL (L.take (i + 1)) O) = addL (adds KK (inL (L.take i) O)) s) := by show _ = _; rw [HTk.out, inL_yes hyes, adds_snoc]
            have HOut : Hid (outL (L.take (i + 1)) O = outL (L.take i) O) := by show _ = _; rw [HTk.out, outL_yes hyes]
            clear hyes
            go_wp2_with (go_at_call 52; fail)
            refine (kadd_any Fi w2 _ _ most _ s HKi2.out HSq2.out HRi.out hle (by have := HLe.out; have := HM5.out; omega) HLe.out).mono ?_
            rintro e w3 ⟨hres, hk3⟩
            have HK3 : Hid (Kp F wr w3) := HKp2.out.trans hk3 fun b hb h => (HFi.out b h).elim id fun q => by omega
            rcases hres with ⟨rfl, hle3, hki3⟩ | ⟨he, hgt⟩
            · have HKi3 : Hid (KIn (newF Fi w2 w3) w3 (.pointer (some ⟨kb, 0, none⟩)) most (adds KK (inL (L.take (i + 1)) O))) := by show KIn _ _ _ _ _; rw [HIn.out]; exact hki3
              have HLe3 : Hid (((adds KK (inL (L.take (i + 1)) O)).length : Int) ≤ most) := by show _ ≤ _; rw [HIn.out]; exact hle3
              have HF3 : Hid (∀ b, newF Fi w2 w3 b → F b ∨ wr.heap.size ≤ b) := newF_step HFi.out HWs.out
              have HO3 : Hid (Ow 23 wr.heap.size w3 (.slice a6 (outL (L.take (i + 1)) O).length c6) (outL (L.take (i + 1)) O).length V) := by
                show Ow _ _ _ _ _ _
                rw [HOut.out]
                exact HO2.out.keepB fun g hg => hk3.block g (HO2.out.ltb hg) (HNi.out g hg)
              have HS3 : Hid (∀ j, j < (outL (L.take (i + 1)) O).length → SIO F w (V j) (gs (outL (L.take (i + 1)) O) j)) := by rw [HOut.out]; exact HSi
              have HN3 : Hid (∀ g, (Value.slice a6 (outL (L.take (i + 1)) O).length c6).ownBlock = some g → ¬ newF Fi w2 w3 g) := by
                intro g hg hf
                rw [HOut.out] at hg
                exact HNi.out g hg (newF_old (HO2.out.ltb hg) hf)
              have HL3 : Hid ((outL (L.take i) O).length = (outL (L.take (i + 1)) O).length) := by show _ = _; rw [HOut.out]
              clear hk3 hle3 hki3 hci HKi HKi2 HO2 HOi
              rw [HL3.out]
              go_wp2
              go_roundw
              case rel => exact ⟨i + 1, newF Fi w2 w3, a6, c6, V, by go_num, by omega, rfl, HKi3, HF3, HK3, HO3, HS3, HN3, HLe3⟩
              case measure => simp [intOf]; omega
            · have HE : Hid (AbR F most KK L O (.pointer (some ⟨kb, 0, none⟩)) w pB w3) := by
                refine ⟨Or.inr ⟨rfl, ?_⟩, (Kp.of_below (F := F) HB.out).trans HK3.out fun _ _ h => h⟩
                have := adds_inL_le KK L O (i + 1)
                rw [HIn.out] at this
                omega
              unfold pB at he
              subst he
              clear hk3 hgt hci
              exact ⟨rfl, HE.out⟩
          case false =>
            have hno : ¬ has O s := fun h => by have := HHas.out.2 h; cases this
            have HIn : Hid (adds KK (inL (L.take (i + 1)) O) = adds KK (inL (L.take i) O)) := by show _ = _; rw [HTk.out, inL_no hno]
            have HOut : Hid (outL (L.take (i + 1)) O = outL (L.take i) O ++ [s]) := by show _ = _; rw [HTk.out, outL_no hno]
            have HLm : Hid ((outL (L.take i) O).length + 1 ≤ 100000) := by
              show _ ≤ _
              have h1 := outL_len (L.take i) O
              have h2 : (L.take i).length ≤ i := by rw [List.length_take]; omega
              omega
            have HL3 : Hid ((outL (L.take i) O).length + 1 = (outL (L.take (i + 1)) O).length) := by show _ = _; rw [HOut.out]; simp
            have HB4 : Hid (Below w2.heap.size w2 (w2.alloc (.cells #[.slice sa s.length sc] 23))) := below1 w2 _
            clear hno
            go_wp2_with (at_builtin; refine wpList_app_at eSet rfl _ _ rfl (HO2.out.below HB4.out) (Nat.le_trans HWs.out HB4.out.size) (one_cell w2 _ _) (by decide) (fun _ _ => rfl) ((outL (L.take (i + 1)) O).length) HL3.out (by have := HL3.out; have := HLm.out; omega) (catV V (outL (L.take i) O).length fun _ => .slice sa s.length sc) (fun _ _ => rfl) rfl rfl ?_; intro a7 c7 w7 hO7 hG7 hA7)
            have hk7 : Kp (fun b => (Value.slice a6 (outL (L.take i) O).length c6).ownBlock = some b) w2 w7 := (Kp.of_below HB4.out).trans (Kp.of_grown hG7 fun k h => h) fun _ _ h => h
            have HKi7 : Hid (KIn Fi w7 (.pointer (some ⟨kb, 0, none⟩)) most (adds KK (inL (L.take (i + 1)) O))) := by
              show KIn _ _ _ _ _
              rw [HIn.out]
              exact HKi2.out.frame hk7 fun b hb h => HNi.out b h hb
            have HLe7 : Hid (((adds KK (inL (L.take (i + 1)) O)).length : Int) ≤ most) := by show _ ≤ _; rw [HIn.out]; exact HLe.out
            have HK7 : Hid (Kp F wr w7) := HKp2.out.trans hk7 fun b hb h => by have := HOi.out.row b h; omega
            have HO7 : Hid (Ow 23 wr.heap.size w7 (.slice a7 (outL (L.take (i + 1)) O).length c7) (outL (L.take (i + 1)) O).length (catV V (outL (L.take i) O).length fun _ => .slice sa s.length sc)) := hO7
            have HS7 : Hid (∀ j, j < (outL (L.take (i + 1)) O).length → SIO F w (catV V (outL (L.take i) O).length (fun _ => .slice sa s.length sc) j) (gs (outL (L.take (i + 1)) O) j)) := fun j hj => by
              rw [HOut.out]
              unfold catV
              by_cases e : j < (outL (L.take i) O).length
              · rw [if_pos e, gs_snocL _ _ _ e]; exact HSi.out j e
              · obtain rfl : j = (outL (L.take i) O).length := by have := HL3.out; omega
                rw [if_neg e, gs_snocR]; exact HSw.out
            have HN7 : Hid (∀ g, (Value.slice a7 (outL (L.take (i + 1)) O).length c7).ownBlock = some g → ¬ Fi g) := fun g hg hf => by
              rcases hA7 with q | q
              · exact HNi.out g (q ▸ hg) hf
              · rw [q] at hg
                injection hg with hg
                have := HKi2.out.lt g hf
                have := HB4.out.size
                omega
            clear hO7 hG7 hA7 hk7 hci HKi HKi2 HO2 HOi
            go_wp2
            go_roundw
            case rel => exact ⟨i + 1, Fi, a7, c7, _, by go_num, by omega, rfl, HKi7, HFi, HK7, HO7, HS7, HN7, HLe7⟩
            case measure => simp [intOf]; omega
        · obtain rfl : i = L.length := by omega
          have hge2 : ¬ (L.length : Int) < (L.length : Int) := by omega
          have htl : L.take L.length = L := List.take_length
          have HE : Hid (AbR F most KK L O (.pointer (some ⟨kb, 0, none⟩)) w (.returned (.slice a6 (outL L O).length c6)) wq) := by
            have h1 := HKi.out
            have h2 := HOi.out
            have h3 := HSi.out
            have h4 := HLe.out
            have h5 := HNi.out
            rw [htl] at h1 h2 h3 h4 h5
            exact ⟨Or.inl ⟨_, V, Fi, rfl, h4, h1, fun b hb => (HFi.out b hb).imp id fun q => Nat.le_trans HB.out.size q, h2.mono HB.out.size, fun j hj => (h3 j hj).step HKw.out HFi2.out, h5⟩, HKw.out⟩
          clear HKi HFi HKp HOi HSi HNi HLe htl
          go_wp2
          go_ret
          exact HE.out
end Go.Proofs.Yteaajhpgmndomaa
