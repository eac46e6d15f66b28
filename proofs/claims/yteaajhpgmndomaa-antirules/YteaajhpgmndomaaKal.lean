/- The keeper takes many sets; its family. -/
import Derived.Test.YteaajhpgmndomaaKad
namespace Go.Proofs.Yteaajhpgmndomaa
open Go.RowKit Fo
set_option maxRecDepth 100000

namespace Fo
/-- Behind handing a row of sets to a keeper. -/
def KA (F row : Nat → Prop) (most : Int) (L S : List (List Int)) (kp : Value) (w : World) (e : Ending) (w' : World) : Prop :=
  ∃ S', S'.Perm S ∧ S'.Pairwise (fun a b => ¬ lessL b a) ∧ ((e = .returned (.tuple #[]) ∧ ((adds L S').length : Int) ≤ most ∧ KIn (newF F w w') w' kp most (adds L S')) ∨ (e = pB ∧ most < ((adds L S').length : Int))) ∧ Kp (fun b => F b ∨ row b) w w'
theorem adds_take {L S : List (List Int)} {i : Nat} (h : i < S.length) : adds L (S.take (i + 1)) = addL (adds L (S.take i)) (gs S i) := by
  rw [List.take_add_one, List.getElem?_eq_getElem h, ← gs_get h]
  exact adds_snoc L (S.take i) (gs S i)
theorem adds_take_le (L S : List (List Int)) (i : Nat) : (adds L (S.take i)).length ≤ (adds L S).length := by
  have h : adds L S = adds (adds L (S.take i)) (S.drop i) := by rw [← adds_append, List.take_append_drop]
  rw [h]; exact adds_len _ _
theorem newF_step {F Fi : Nat → Prop} {w w1 w2 : World} (hF : ∀ b, Fi b → F b ∨ w.heap.size ≤ b) (hs : w.heap.size ≤ w1.heap.size) : ∀ b, newF Fi w1 w2 b → F b ∨ w.heap.size ≤ b := fun b hb => hb.elim (hF b) fun h => Or.inr (Nat.le_trans hs h.1)
theorem KIn.to {F Fi : Nat → Prop} {w wr : World} {kp : Value} {most : Int} {L : List (List Int)} (h : KIn Fi wr kp most L) (hF : ∀ b, Fi b → F b ∨ w.heap.size ≤ b) (hFl : ∀ b, F b → b < w.heap.size) (hs : w.heap.size ≤ wr.heap.size) : KIn (newF F w wr) wr kp most L :=
  h.weak (fun b hb => (hF b hb).imp id fun q => ⟨q, h.lt b hb⟩) fun b hb => hb.elim (fun q => Nat.lt_of_lt_of_le (hFl b q) hs) fun q => q.2
end Fo
set_option maxHeartbeats 16000000 in
theorem addAll_any (F : Nat → Prop) (w : World) (kp v : Value) (most : Int) (L S : List (List Int)) (V : Nat → Value) (h : KIn F w kp most L) (hO : Ow 23 0 w v S.length V) (hrow : ∀ g, v.ownBlock = some g → ¬ F g) (hset : ∀ j, j < S.length → SIO F w (V j) (gs S j)) (hr : ∀ a, a ∈ S → Rise a) (hl : ∀ a, a ∈ S → a.length ≤ 10000) (hS : S.length ≤ 100000000) (hm5 : most ≤ 5000) (hm : (L.length : Int) ≤ most) :
    Calls Try.prog 33 #[kp, v] w fun e w' => KA F (fun b => v.ownBlock = some b) most L S kp w e w' := by
  obtain ⟨va, vc, rfl, -⟩ := id hO.rd
  have HKI : Hid (KIn F w kp most L) := h
  have HO : Hid (Ow 23 0 w (.slice va S.length vc) S.length V) := hO
  have HRow : Hid (∀ g, (Value.slice va S.length vc).ownBlock = some g → ¬ F g) := hrow
  have HSET : Hid (∀ j, j < S.length → SIO (fun b => F b ∨ (Value.slice va S.length vc).ownBlock = some b) w (V j) (gs S j)) := fun j hj => (hset j hj).apartO hO (by decide)
  have HR : Hid (∀ a, a ∈ S → Rise a) := hr
  have HLn : Hid (∀ a, a ∈ S → a.length ≤ 10000) := hl
  have HM : Hid ((L.length : Int) ≤ most) := hm
  have HM5 : Hid (most ≤ 5000) := hm5
  obtain ⟨kb, hkp⟩ : ∃ kb, kp = .pointer (some ⟨kb, 0, none⟩) := by obtain ⟨kb, _, _, _, _, _, _, e, _⟩ := h; exact ⟨kb, e⟩
  subst hkp
  clear h hO hrow hset hr hl hm hm5
  go_enter Try.func33, Try.ntmps33
  go_wp2_with (go_at_call 50; fail)
  refine (sortF_any w (fun b => F b ∨ (Value.slice va S.length vc).ownBlock = some b) 0 _ V S HO.out HSET.out (fun k h => Or.inr h) (by omega)).mono ?_
  rintro e w1 ⟨rfl, ⟨S', V', hp, hso, hO1, hset1⟩, hg1⟩
  have HP : Hid (S'.Perm S) := hp
  have HSo : Hid (S'.Pairwise fun a b => ¬ lessL b a) := hso
  have hlen : S'.length = S.length := hp.length_eq
  rw [hlen] at hO1 hset1
  have HO1 : Hid (Ow 23 0 w1 (.slice va S.length vc) S.length V') := hO1
  have HSET1 : Hid (∀ j, j < S.length → SIO (fun b => F b ∨ (Value.slice va S.length vc).ownBlock = some b) w1 (V' j) (gs S' j)) := hset1
  have HK1 : Hid (Kp (fun b => (Value.slice va S.length vc).ownBlock = some b) w w1) := Kp.of_grown hg1 fun k h => h
  have HKI1 : Hid (KIn F w1 (.pointer (some ⟨kb, 0, none⟩)) most L) := HKI.out.frame HK1.out fun b hb h => HRow.out b h hb
  have HLen : Hid (S'.length = S.length) := hlen
  have hS' : S.length ≤ 100000000 := hS
  clear hp hso hO1 hset1 hg1 hlen HSET HO HKI
  go_wp2
  go_loopw [10] (fun v10 wr => ∃ (i : Nat) (Fi : Nat → Prop), v10 = .int .i64 i ∧ i ≤ S.length ∧ Hid (KIn Fi wr (.pointer (some ⟨kb, 0, none⟩)) most (adds L (S'.take i))) ∧ Hid (∀ b, Fi b → F b ∨ w1.heap.size ≤ b) ∧ Hid (Kp F w1 wr) ∧ Hid (((adds L (S'.take i)).length : Int) ≤ most)) (fun v10 _ => S.length - (intOf v10).toNat)
  case atStart => exact ⟨0, F, rfl, Nat.zero_le _, HKI1, fun b h => Or.inl h, Kp.refl _ _, HM⟩
  case round =>
    obtain ⟨i, Fi, rfl, hi, HKi, HFi, HKp, HLe⟩ := hrel
    rename World => wr
    by_cases hlt : i < S.length
    · have hOr : Ow 23 0 wr (.slice va S.length vc) S.length V' := HO1.out.keepB fun g hg => HKp.out.block g (HO1.out.ltb hg) (HRow.out g hg)
      obtain ⟨g, rfl, -, hcell, -⟩ := hOr.cells (by omega)
      have hsi : SIO Fi wr (V' i) (gs S' i) := (HSET1.out i hlt).step (HKp.out.mono fun b _ hb => Or.inl hb) fun b hb h => (HFi.out b h).elim Or.inl fun q => by omega
      obtain ⟨sa, sc, hvi, hsd⟩ := id hsi
      have hci := hcell i hlt
      rw [hvi] at hci hsi
      have hmem : gs S' i ∈ S := HP.out.mem_iff.1 (by rw [gs_get (by rw [HLen.out]; exact hlt)]; exact List.getElem_mem _)
      have HSI : Hid (SIO Fi wr (.slice sa (gs S' i).length sc) (gs S' i)) := hsi
      have j1 : (0 : Int) ≤ (i : Int) := by omega
      have j2 : (i : Int) < (S.length : Int) := by omega
      have HMem : Hid (gs S' i ∈ S) := hmem
      have HTk : Hid (adds L (S'.take (i + 1)) = addL (adds L (S'.take i)) (gs S' i)) := adds_take (by rw [HLen.out]; exact hlt)
      clear hOr hcell hsi hvi hsd hmem
      go_wp2_with (go_at_call 52; fail)
      refine (kadd_any Fi wr _ _ most _ (gs S' i) HKi.out HSI.out (HR.out _ HMem.out) (HLn.out _ HMem.out) (by have := HLe.out; have := HM5.out; omega) HLe.out).mono ?_
      rintro e w2 ⟨hres, hk2⟩
      have HKp2 : Hid (Kp F w1 w2) := HKp.out.trans hk2 fun b hb h => (HFi.out b h).elim id fun q => by omega
      rcases hres with ⟨rfl, hle, hki⟩ | ⟨he, hgt⟩
      · have HKi2 : Hid (KIn (newF Fi wr w2) w2 (.pointer (some ⟨kb, 0, none⟩)) most (adds L (S'.take (i + 1)))) := by show KIn _ _ _ _ _; rw [HTk.out]; exact hki
        have HLe2 : Hid (((adds L (S'.take (i + 1))).length : Int) ≤ most) := by show _ ≤ _; rw [HTk.out]; exact hle
        have HF2 : Hid (∀ b, newF Fi wr w2 b → F b ∨ w1.heap.size ≤ b) := newF_step HFi.out HKp.out.size
        clear hk2 hle hki hci
        go_wp2
        go_roundw
        case rel => exact ⟨i + 1, newF Fi wr w2, by go_num, by omega, HKi2, HF2, HKp2, HLe2⟩
        case measure => simp [intOf]; omega
      · have HE : Hid (KA F (fun b => (Value.slice (some ⟨g, 0, none⟩) S.length vc).ownBlock = some b) most L S (.pointer (some ⟨kb, 0, none⟩)) w pB w2) := by
          refine ⟨S', HP.out, HSo.out, Or.inr ⟨rfl, ?_⟩, ?_⟩
          · have := adds_take_le L S' (i + 1)
            rw [HTk.out] at this
            omega
          · exact (HK1.out.mono fun b _ h => Or.inr h).trans (HKp2.out.mono fun b _ h => Or.inl h) fun b _ h => h
        unfold pB at he
        subst he
        clear hk2 hgt hci
        exact ⟨rfl, HE.out⟩
    · obtain rfl : i = S.length := by omega
      have HE : Hid (KA F (fun b => (Value.slice va S.length vc).ownBlock = some b) most L S (.pointer (some ⟨kb, 0, none⟩)) w (.returned (.tuple #[])) wr) := by
        have e : S'.take S.length = S' := by rw [← HLen.out]; exact List.take_length
        have h1 := HKi.out
        have h2 := HLe.out
        rw [e] at h1 h2
        refine ⟨S', HP.out, HSo.out, Or.inl ⟨rfl, h2, ?_⟩, (HK1.out.mono fun b _ h => Or.inr h).trans (HKp.out.mono fun b _ h => Or.inl h) fun b _ h => h⟩
        have hs := HK1.out.size
        have hs2 := HKp.out.size
        exact h1.weak (fun b hb => (HFi.out b hb).imp id fun q => ⟨by omega, h1.lt b hb⟩) fun b hb => hb.elim (fun q => by have := HKI1.out.lt b q; omega) fun q => q.2
      have hge : ¬ (S.length : Int) < (S.length : Int) := by omega
      clear HKi HFi HLe HSET1 HO1
      go_wp2
      all_goals first | go_end0 | go_ret | (refine bodyPost_ret (results_none rfl _ _ _) rfl ?_)
      all_goals exact HE.out
end Go.Proofs.Yteaajhpgmndomaa
