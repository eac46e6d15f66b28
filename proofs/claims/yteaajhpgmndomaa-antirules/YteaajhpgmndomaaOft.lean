/- Of. -/
import Derived.Test.YteaajhpgmndomaaSes
namespace Go.Proofs.Yteaajhpgmndomaa
open Go.RowKit Fo
set_option maxRecDepth 100000

namespace Fo
theorem gs_snocL (S : List (List Int)) (R : List Int) (j : Nat) (h : j < S.length) : gs (S ++ [R]) j = gs S j := by
  unfold gs; simp [List.getD_eq_getElem?_getD, List.getElem?_append_left h]
theorem gs_snocR (S : List (List Int)) (R : List Int) : gs (S ++ [R]) S.length = R := by
  unfold gs; simp [List.getD_eq_getElem?_getD]
theorem has_like {S L : List (List Int)} (hl : S.length = L.length) (h : ∀ j, j < L.length → sub (gs S j) (gs L j) ∧ sub (gs L j) (gs S j)) (s : List Int) : has S s ↔ has L s := by
  constructor
  · rintro ⟨a, ha, hs⟩
    obtain ⟨j, hj, rfl⟩ := gs_mem.1 ha
    exact ⟨gs L j, gs_mem.2 ⟨j, by omega, rfl⟩, sub_trans (h j (by omega)).2 hs⟩
  · rintro ⟨a, ha, hs⟩
    obtain ⟨j, hj, rfl⟩ := gs_mem.1 ha
    exact ⟨gs S j, gs_mem.2 ⟨j, by omega, rfl⟩, sub_trans (h j hj).1 hs⟩
/-- What Of has made of the first lists. -/
def OfQ (L S : List (List Int)) (i : Nat) : Prop := S.length = i ∧ ∀ j, j < i → Rise (gs S j) ∧ (sub (gs S j) (gs L j) ∧ sub (gs L j) (gs S j)) ∧ (gs S j).length ≤ 1000 ∧ ∀ x, x ∈ gs L j → 0 ≤ x
theorem OfQ.snoc {L S : List (List Int)} {i : Nat} {R : List Int} (h : OfQ L S i) (hr : Rise R) (hs : sub R (gs L i) ∧ sub (gs L i) R) (hl : R.length ≤ 1000) (h0 : ∀ x, x ∈ gs L i → 0 ≤ x) : OfQ L (S ++ [R]) (i + 1) := by
  obtain ⟨h1, h2⟩ := h
  subst h1
  refine ⟨by simp, fun j hj => ?_⟩
  by_cases e : j = S.length
  · subst e; rw [gs_snocR]; exact ⟨hr, hs, hl, h0⟩
  · rw [gs_snocL S R j (by omega)]; exact h2 j (by omega)
/-- What Of answers. -/
def OfP (L : List (List Int)) (w : World) (e : Ending) (w' : World) : Prop := OfR w' e L ∧ Below w.heap.size w w'
end Fo
set_option maxHeartbeats 16000000 in
/-- OF. -/
theorem of_any (w : World) (v : Value) (L : List (List Int)) (h : IsLL w v L) (hl : L.length ≤ 1000) (hn : ∀ j, j < L.length → (gs L j).length ≤ 1000) : Calls Try.prog 11 #[v] w fun e w' => OfP L w e w' := by
  obtain ⟨a, c, V, rfl, hr, hs⟩ := h
  obtain ⟨W, hW⟩ : ∃ W, W = w.alloc (.cells #[.slice none 0 0] 27) := ⟨_, rfl⟩
  have hb0 : Below w.heap.size w W := by rw [hW]; exact below1 w _
  have hg0 : W.heap[w.heap.size]? = some (.cells #[.slice none 0 0] 27) := by rw [hW]; exact heap_new1 w _
  have hz0 : W.heap.size = w.heap.size + 1 := by rw [hW]; simp
  have HB0 : Hid (Below w.heap.size w W) := hb0
  have HR : Hid (Rd w a L.length c V) := hr
  have HS : Hid (∀ j, j < L.length → IsL w (V j) (gs L j)) := hs
  have HN : Hid (∀ j, j < L.length → (gs L j).length ≤ 1000) := hn
  have HG0 : Hid (W.heap[w.heap.size]? = some (.cells #[.slice none 0 0] 27)) := hg0
  have HZ0 : Hid (W.heap.size = w.heap.size + 1) := hz0
  have hr1 := hr.1
  have hr2 := hr.2.1
  clear hb0 hg0 hz0 hr hs hn
  go_enter Try.func11, Try.ntmps11
  go_wp2_with (first
    | (at_make; refine wpList_make_ow eSet _ rfl _ _ rfl (.slice none 0 0) rfl rfl _ _ L.length rfl rfl (by omega) ?_
       intro w1 hO1 hb1
       rw [← hW] at hO1 hb1
       have hsz : W.heap.size = w.heap.size + 1 := HZ0.out
       have HO1 : Hid (Ow 23 (w.heap.size + 1) w1 (.slice (some ⟨w.heap.size + 1, 0, none⟩) L.length L.length) L.length fun _ => .slice none 0 0) := by show Ow _ _ _ _ _ _; rw [hsz] at hO1; exact hO1
       have HB1 : Hid (Below w.heap.size w w1) := below_step HB0.out hb1
       have HG1 : Hid (w1.heap[w.heap.size]? = some (.cells #[.slice none 0 0] 27)) := (hb1.block _ (by omega)).trans HG0.out
       clear hO1 hb1 hsz))
  go_loopw [13] (fun v13 wr => ∃ (i : Nat) (Z : Nat → Value) (S : List (List Int)), v13 = .int .i64 i ∧ i ≤ L.length ∧ Hid (Ow 23 (w.heap.size + 1) wr (.slice (some ⟨w.heap.size + 1, 0, none⟩) L.length L.length) L.length Z) ∧ Hid (∀ j, j < i → SetIn wr (Z j) (gs S j)) ∧ Hid (OfQ L S i) ∧ Hid (Below w.heap.size w wr) ∧ Hid (wr.heap[w.heap.size]? = some (.cells #[.slice none 0 0] 27))) (fun v13 _ => L.length - (intOf v13).toNat)
  case atStart => exact ⟨0, _, [], rfl, Nat.zero_le _, HO1, fun j hj => absurd hj (Nat.not_lt_zero j), ⟨rfl, fun j hj => absurd hj (Nat.not_lt_zero j)⟩, HB1, HG1⟩
  case round =>
    obtain ⟨i, Z, S, rfl, hi, HO, HZ, HQ, HB, HG⟩ := hrel
    rename World => wr
    by_cases hlt : i < L.length
    · have hrr := HR.out.below HB.out
      obtain ⟨b, off, rfl, hcell⟩ := hrr.at (by omega)
      have hci := hcell i hlt
      obtain ⟨sa, sc, hvi, hsd⟩ := id (HS.out i hlt)
      rw [hvi] at hci
      have HIs : Hid (IsL wr (.slice sa (gs L i).length sc) (gs L i)) := by
        have := (HS.out i hlt).below HB.out
        rw [hvi] at this
        exact this
      have j1 : (0 : Int) ≤ (i : Int) := by omega
      have j2 : (i : Int) < (L.length : Int) := by omega
      clear hrr hcell hvi hsd
      go_wp2_with (go_at_call 14; fail)
      refine (sorted_all wr _ (gs L i) HIs.out (by have := HN.out i hlt; omega)).mono ?_
      rintro e w2 ⟨⟨u, R, rfl, hset, hrise, hsub, hRl, -⟩, b2⟩
      obtain ⟨ua, uc, rfl, hud, -⟩ := id hset
      have hO2 := HO.out.below b2
      obtain ⟨g, eg, -, hc2, hz2⟩ := hO2.cells (by omega)
      obtain rfl : w.heap.size + 1 = g := by simpa using eg
      have hci2 := hc2 i hlt
      have hzi2 := hz2 i
      obtain ⟨cur, hblk⟩ := hO2.blk rfl
      obtain ⟨w3, hw3⟩ : ∃ w3, w3 = w2.setCell ⟨w.heap.size + 1, i, none⟩ (.slice ua R.length uc) := ⟨_, rfl⟩
      have HO3 : Hid (Ow 23 (w.heap.size + 1) w3 (.slice (some ⟨w.heap.size + 1, 0, none⟩) L.length L.length) L.length (updV Z i (.slice ua R.length uc))) := by show Ow _ _ _ _ _ _; rw [hw3]; exact hO2.put i _ hlt
      have hset3 : SetIn w3 (.slice ua R.length uc) R := by rw [hw3]; exact hset.putL hblk (by decide) _
      have HSl : Hid (S.length = i) := HQ.out.1
      have HZ3 : Hid (∀ j, j < i + 1 → SetIn w3 (updV Z i (.slice ua R.length uc) j) (gs (S ++ [R]) j)) := fun j hj => by
        unfold updV
        by_cases e : j = i
        · subst e
          have e2 : gs (S ++ [R]) j = R := by rw [← HSl.out]; exact gs_snocR S R
          rw [if_pos rfl, e2]
          exact hset3
        · rw [if_neg e, gs_snocL S R j (by have := HSl.out; omega), hw3]
          exact ((HZ.out j (by omega)).below b2).putL hblk (by decide) _
      have HB3 : Hid (Below w.heap.size w w3) := by show Below _ _ _; rw [hw3]; exact (below_step HB.out b2).setCell (p := ⟨w.heap.size + 1, i, none⟩) (by show w.heap.size ≤ w.heap.size + 1; omega) _
      have hg3 : w3.heap[w.heap.size]? = some (.cells #[.slice none 0 0] 27) := by
        rw [hw3, Below.heap_setCell _ _ _ _ (by show w.heap.size ≠ w.heap.size + 1; omega)]
        exact (b2.block _ (lt_of_heap HG.out)).trans HG.out
      have HG3 : Hid (w3.heap[w.heap.size]? = some (.cells #[.slice none 0 0] 27)) := hg3
      have hl3 : w3.cell? ⟨w.heap.size + 1, i, none⟩ = some (.slice ua R.length uc) := by
        have := (HO3.out.cells (by omega))
        obtain ⟨g, eg, -, q, -⟩ := this
        obtain rfl : w.heap.size + 1 = g := by simpa using eg
        have := q i hlt
        unfold updV at this
        rwa [if_pos rfl] at this
      have HRs : Hid (Rise R) := hrise
      have HSb : Hid (Fo.sub R (gs L i) ∧ Fo.sub (gs L i) R) := hsub
      have HRl : Hid (R.length ≤ 1000) := Nat.le_trans hRl (HN.out i hlt)
      have hu1 := hud.1
      have hu2 := hud.2.1
      by_cases hA : 0 < (gs L i).length
      · have hRp : 0 < R.length := by
          obtain ⟨j, hj⟩ : ∃ j, j < (gs L i).length := ⟨0, hA⟩
          have hm : gt (gs L i) j ∈ gs L i := gt_mem.2 ⟨j, hj, rfl⟩
          exact List.length_pos_of_mem (hsub.2 _ hm)
        obtain ⟨x, hx⟩ : ∃ x, x = gt R 0 := ⟨_, rfl⟩
        have hxm : x ∈ R := by rw [hx]; exact gt_mem.2 ⟨0, hRp, rfl⟩
        obtain ⟨a3, c3, e3, hd3, -⟩ := hset3
        obtain ⟨rfl, rfl⟩ : ua = a3 ∧ uc = c3 := by simpa using e3
        obtain ⟨ub, uo, rfl, hcu⟩ := hd3.at hRp
        have hx0 : w3.cell? ⟨ub, uo, none⟩ = some (.int .i64 x) := by have := hcu 0 hRp; rw [Nat.add_zero] at this; rw [this, hx]; rfl
        have hA' : (0 : Int) < ((gs L i).length : Int) := by omega
        have hR' : (0 : Int) < (R.length : Int) := by omega
        by_cases hneg : x < 0
        · have HE : Hid (OfP L w (.returned (.tuple #[.agg #[.slice none 0 0], .int .i64 1])) (w3.setCell ⟨w.heap.size, 0, none⟩ (.slice none 0 0))) := by
            refine ⟨Or.inr ⟨fun hgood => ?_, _, rfl, fv_empty _⟩, HB3.out.setCell (p := ⟨w.heap.size, 0, none⟩) (Nat.le_refl _) _⟩
            obtain ⟨j, hj, e⟩ := gt_mem.1 (HSb.out.1 x hxm)
            have := hgood i hlt j hj
            rw [e] at this
            omega
          have c0 : w3.cell? ⟨w.heap.size, 0, none⟩ = some (.slice none 0 0) := by rw [cell_of_row _ _ _ _ _ _ hg3]; rfl
          have z0 := frz_of hg3 0
          have d0 : (w3.setCell ⟨w.heap.size, 0, none⟩ (.slice none 0 0)).cell? ⟨w.heap.size, 0, none⟩ = some (.slice none 0 0) := by rw [cell_of_row _ _ _ _ _ _ (set_heap (j := 0) hg3 _)]; rfl
          clear hset hrise hsub hRl hud hO2 eg hc2 hz2 hblk HO HZ HB hci hg3 hd3 hcu hx hxm e3 b2 HG
          rw [hw3] at hl3 hx0 c0 z0 d0 HE
          clear HO3 HZ3 HB3 HG3 hw3
          go_wp2
          refine bodyPost_ret (v := .tuple #[.agg #[.slice none 0 0], .int .i64 1]) (by simp [results, Try.results11, go_sem, d0]) rfl ?_
          exact HE.out
        · have HQ3 : Hid (OfQ L (S ++ [R]) (i + 1)) := HQ.out.snoc HRs.out HSb.out HRl.out fun y hy => by
            have hyR := HSb.out.2 y hy
            obtain ⟨k, hk, e⟩ := gt_mem.1 hyR
            rcases Nat.eq_zero_or_pos k with q | q
            · subst q; rw [← hx] at e; omega
            · have := gt_mono HRs.out q hk; rw [← hx] at this; omega
          clear hset hrise hsub hRl hud hO2 eg hc2 hz2 hblk HO HZ HB hci hg3 hd3 hcu hx hxm e3 b2 HG
          rw [hw3] at hl3 hx0 HO3 HZ3 HB3 HG3
          clear hw3
          go_wp2
          go_roundw
          case rel => exact ⟨i + 1, _, _, by go_num, by omega, HO3, HZ3, HQ3, HB3, HG3⟩
          case measure => simp [intOf]; omega
      · have HQ3 : Hid (OfQ L (S ++ [R]) (i + 1)) := HQ.out.snoc HRs.out HSb.out HRl.out fun y hy => by
          have := List.length_pos_of_mem hy
          omega
        have hA' : ¬ (0 : Int) < ((gs L i).length : Int) := by omega
        clear hset hrise hsub hRl hud hO2 eg hc2 hz2 hblk HO HZ HB hci hg3 hset3 b2 HG
        rw [hw3] at hl3 HO3 HZ3 HB3 HG3
        clear hw3
        go_wp2
        go_roundw
        case rel => exact ⟨i + 1, _, _, by go_num, by omega, HO3, HZ3, HQ3, HB3, HG3⟩
        case measure => simp [intOf]; omega
    · obtain rfl : i = L.length := by omega
      have hSl := HQ.out.1
      have HSl : Hid (S.length = L.length) := hSl
      clear hSl
      have hge : ¬ (L.length : Int) < (L.length : Int) := by omega
      go_wp2_with (go_at_call 32; fail)
      refine (newKeeper_any wr (L.length : Int)).mono ?_
      rintro e w2 ⟨hres, b2⟩
      rcases hres with ⟨F1, kp, rfl, -, hki, hF1⟩ | ⟨-, hneg⟩
      case inr => exact absurd hneg (by omega)
      obtain ⟨kb, rfl⟩ : ∃ kb, kp = .pointer (some ⟨kb, 0, none⟩) := by obtain ⟨kb, _, _, _, _, _, _, e, _⟩ := hki; exact ⟨kb, e⟩
      have HKI : Hid (KIn F1 w2 (.pointer (some ⟨kb, 0, none⟩)) (L.length : Int) []) := hki
      have HF1 : Hid (∀ b, F1 b → wr.heap.size ≤ b) := hF1
      have HB2 : Hid (Below wr.heap.size wr w2) := b2
      have HOS : Hid (Ow 23 0 w2 (.slice (some ⟨w.heap.size + 1, 0, none⟩) L.length L.length) S.length Z) := by show Ow _ _ _ _ _ _; rw [HSl.out]; exact (HO.out.below b2).mono (Nat.zero_le _)
      have HSS : Hid (∀ j, j < S.length → SIO F1 w2 (Z j) (gs S j)) := fun j hj => ((HZ.out j (by have := HSl.out; omega)).out fun b hb h => by have := HF1.out b h; omega).below HB2.out
      have HRw : Hid (w.heap.size + 1 < wr.heap.size ∨ L.length = 0) := by
        by_cases h0 : L.length = 0
        · exact Or.inr h0
        · exact Or.inl (HO.out.ltb rfl)
      have hrowlt : w.heap.size + 1 < wr.heap.size := HO.out.ltb rfl
      have HRL : Hid (w.heap.size + 1 < wr.heap.size) := hrowlt
      have HGd : Hid (GoodP L) := fun i hi j hj => (HQ.out.2 i hi).2.2.2 _ (gt_mem.2 ⟨j, hj, rfl⟩)
      have HSR : Hid (∀ x, x ∈ S → Rise x ∧ x.length ≤ 1000) := fun x hx => by
        obtain ⟨j, hj, rfl⟩ := gs_mem.1 hx
        have := HQ.out.2 j (by have := HSl.out; omega)
        exact ⟨this.1, this.2.2.1⟩
      have HSh : Hid (∀ s, has S s ↔ has L s) := has_like HSl.out fun j hj => (HQ.out.2 j hj).2.1
      clear hki hF1 b2 hrowlt HRw HO HZ HQ
      go_wp2_with (go_at_call 33; fail)
      refine (addAll_any F1 w2 _ _ (L.length : Int) [] S Z HKI.out (by have := HOS.out; rw [← HSl.out] at this; rw [← HSl.out]; exact this) (fun g hg h => by have e : w.heap.size + 1 = g := by simpa [Value.ownBlock] using hg
                                                                                                                                                              have := HF1.out g h
                                                                                                                                                              have := HRL.out
                                                                                                                                                              omega) HSS.out (fun x hx => (HSR.out x hx).1) (fun x hx => by have := (HSR.out x hx).2; omega) (by have := HSl.out; omega) (by omega) (by simp)).mono ?_
      rintro e w4 ⟨S', hp, hso, hres, hk4⟩
      obtain ⟨R, hR⟩ := fam_ex L
      have hSR : ∀ x, x ∈ S' → Rise x := fun x hx => (HSR.out x (hp.mem_iff.1 hx)).1
      have hSh : ∀ s, has S' s ↔ has L s := fun s => (has_perm hp s).trans (HSh.out s)
      have hlen : (adds [] S').length = R.length := sum_len hSR (less_sized hso) hSh hR
      have hRL : R.length ≤ L.length := fam_len hR
      rcases hres with ⟨rfl, hle, hki⟩ | ⟨-, hgt⟩
      case inr => exact absurd hgt (by omega)
      have HKI4 : Hid (KIn (newF F1 w2 w4) w4 (.pointer (some ⟨kb, 0, none⟩)) (L.length : Int) (adds [] S')) := hki
      have HLen : Hid ((adds [] S').length ≤ 1000) := by show _ ≤ _; omega
      have HFam : Hid (∀ L', L'.Perm (adds [] S') → L'.Pairwise (fun a b => ¬ lessL b a) → FamOf L L') := fun L' h1 h2 => sum_fam hSR (less_sized hso) hSh h1 h2
      have HX : Hid (∀ x, x ∈ adds [] S' → x.length ≤ 10000 ∧ Rise x) := fun x hx => by
        rcases adds_mem hx with h | h
        · cases h
        · have := HSR.out x (hp.mem_iff.1 h); exact ⟨by omega, this.1⟩
      have HK4 : Hid (Kp (fun b => w.heap.size + 1 ≤ b) w2 w4) := hk4.mono fun b hb h => by
        rcases h with h | h
        · have := HF1.out b h; have := HRL.out; omega
        · have e : w.heap.size + 1 = b := by simpa [Value.ownBlock] using h
          omega
      have HZ4 : Hid (w.heap.size + 1 ≤ w4.heap.size) := by show _ ≤ _; have := hk4.size; have := HB2.out.size; have := HRL.out; omega
      have HSz : Hid (w.heap.size + 1 ≤ w2.heap.size) := by show _ ≤ _; have := HB2.out.size; have := HRL.out; omega
      have HF4 : Hid (∀ b, newF F1 w2 w4 b → w.heap.size + 1 ≤ b) := fun b hb => by
        rcases hb with h | h
        · have := HF1.out b h; have := HRL.out; omega
        · have := HSz.out; have := h.1; omega
      clear hp hso hk4 hR hSR hSh hlen hRL hle hki HKI HOS HSS
      go_wp2_with (go_at_call 34; fail)
      refine (family_any _ w4 _ (L.length : Int) (adds [] S') HKI4.out (by have := HLen.out; omega) (fun x hx => (HX.out x hx).1) fun x hx => (HX.out x hx).2).mono ?_
      rintro e w5 ⟨⟨L', u, rfl, hp5, hso5, hfv⟩, hk5⟩
      have HFO : Hid (FamOf L L') := HFam.out L' hp5 hso5
      have HK5 : Hid (Kp (fun b => w.heap.size + 1 ≤ b) w2 w5) := HK4.out.trans hk5 fun b hb h => HF4.out b h
      obtain ⟨fa, fc, Vf, rfl, hfrest⟩ := id hfv
      have g5 : w5.heap[w.heap.size]? = some (.cells #[.slice none 0 0] 27) := HK5.out.heap ((HB2.out.block _ (lt_of_heap HG.out)).trans HG.out) (by omega)
      have c5 : w5.cell? ⟨w.heap.size, 0, none⟩ = some (.slice none 0 0) := by rw [cell_of_row _ _ _ _ _ _ g5]; rfl
      have z5 := frz_of g5 0
      have d5 : (w5.setCell ⟨w.heap.size, 0, none⟩ (.slice fa L'.length fc)).cell? ⟨w.heap.size, 0, none⟩ = some (.slice fa L'.length fc) := by rw [cell_of_row _ _ _ _ _ _ (set_heap (j := 0) g5 _)]; rfl
      have HE : Hid (OfP L w (.returned (.tuple #[.agg #[.slice fa L'.length fc], .int .i64 0])) (w5.setCell ⟨w.heap.size, 0, none⟩ (.slice fa L'.length fc))) := by
        have b5 : Below w.heap.size w w5 := (below_step HB.out HB2.out).trans (HK5.out.below (by have := HSz.out; omega) fun b hb h => by omega)
        exact ⟨Or.inl ⟨HGd.out, _, L', rfl, hfv.put g5 _, HFO.out⟩, b5.setCell (p := ⟨w.heap.size, 0, none⟩) (Nat.le_refl _) _⟩
      clear hp5 hso5 hfv hk5 hfrest g5 HG HB
      go_wp2
      refine bodyPost_ret (v := .tuple #[.agg #[.slice fa L'.length fc], .int .i64 0]) (by simp [results, Try.results11, go_sem, d5]) rfl ?_
      exact HE.out
end Go.Proofs.Yteaajhpgmndomaa
