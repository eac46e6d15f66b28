/- The keeper takes a set. -/
import Derived.Test.YteaajhpgmndomaaKee
namespace Go.Proofs.Yteaajhpgmndomaa
open Go.RowKit Fo
set_option maxRecDepth 100000

namespace Fo
/-- What a call that hands sets to a keeper leaves. -/
def KR (F : Nat → Prop) (most : Int) (K' : List (List Int)) (kp : Value) (w : World) (e : Ending) (w' : World) : Prop :=
  ((e = .returned (.tuple #[]) ∧ (K'.length : Int) ≤ most ∧ KIn (newF F w w') w' kp most K') ∨ (e = pB ∧ most < (K'.length : Int))) ∧ Kp F w w'
theorem SIO.apart {F : Nat → Prop} {w : World} {v : Value} {l : List Int} (h : SIO F w v l) {g : Nat} {cur : Array Value} {E : TypeId} {fr : Nat × Nat} (hg : w.heap[g]? = some (.cells cur E fr)) (hE : E ≠ 3) : SIO (fun b => F b ∨ b = g) w v l := by
  obtain ⟨a, c, e, hr, ht⟩ := h
  refine ⟨a, c, e, hr, ?_⟩
  rcases ht with ht | ⟨b, off, cur2, fr2, ea, hf, hc⟩
  · exact Or.inl ht
  · refine Or.inr ⟨b, off, cur2, fr2, ea, fun h => ?_, hc⟩
    rcases h with h | h
    · exact hf h
    · subst h
      rw [hg] at hc; injection hc with hc; injection hc with _ hc; exact hE hc
theorem SIO.apartO {F : Nat → Prop} {w : World} {v x : Value} {l : List Int} (h : SIO F w v l) {E : TypeId} {B n : Nat} {V : Nat → Value} (hx : Ow E B w x n V) (hE : E ≠ 3) : SIO (fun b => F b ∨ x.ownBlock = some b) w v l := by
  cases hb : x.ownBlock with
  | none => exact h.weak fun b _ k => k.elim id fun q => by cases q
  | some g =>
    obtain ⟨cur, hg⟩ := hx.blk hb
    exact (h.apart hg hE).weak fun b _ k => k.elim Or.inl fun q => Or.inr (by injection q with q; exact q.symm)
theorem newF_old {F : Nat → Prop} {w w' : World} {b : Nat} (hb : b < w.heap.size) : newF F w w' b → F b := fun h => h.elim id fun k => by omega
theorem has_iff_hp {D : List Int → Prop} {en : List Int → Bool} {K : List (List Int)} (hd : ∀ p, en p = true → D p) (hw : ∀ p, en p = true ↔ p ∈ K) (s : List Int) : hpP D en [] s ↔ has K s := by
  constructor
  · rintro ⟨q, -, he, hs⟩
    rw [List.nil_append] at he
    exact ⟨q, (hw q).1 he, hs⟩
  · rintro ⟨q, hq, hs⟩
    have := (hw q).2 hq
    exact ⟨q, by rw [List.nil_append]; exact hd q this, by rw [List.nil_append]; exact this, hs⟩
theorem gs_app (K : List (List Int)) (s : List Int) (j : Nat) : gs (K ++ [s]) j = if j < K.length then gs K j else if j = K.length then s else [] := by
  unfold gs
  rw [List.getD_eq_getElem?_getD, List.getD_eq_getElem?_getD]
  by_cases h : j < K.length
  · rw [if_pos h, List.getElem?_append_left h]
  · rw [if_neg h, List.getElem?_append_right (by omega)]
    by_cases h2 : j = K.length
    · rw [if_pos h2, h2, Nat.sub_self]; rfl
    · rw [if_neg h2, List.getElem?_eq_none (by simp; omega)]; rfl
/-- A keeper with one set more. -/
theorem kin_add {F : Nat → Prop} {w w2 w3 w5 w6 : World} {kb : Nat} {own own' : Nat → Option (List Int × Nat)} {blk blk' : List Int → Nat} {D' : List Int → Prop} {en : List Int → Bool} {V : Nat → Value} {s : List Int} {sa a5 ua : Option Addr} {sc k5 uc : Nat} {most : Int} {L : List (List Int)}
    (hkb : w.heap[kb]? = some (.cells #[.int .i64 most, .slice sa L.length sc, .pointer (some ⟨blk [], 0, none⟩)] 64)) (hen : ∀ p, en p = true ↔ p ∈ L) (hsv : Ow 23 0 w (.slice sa L.length sc) L.length V) (hset : ∀ j, j < L.length → SIO (fun b => ¬ F b ∨ own b ≠ none) w (V j) (gs L j))
    (hfk : F kb ∧ own kb = none) (hso : ∀ g, (Value.slice sa L.length sc).ownBlock = some g → F g ∧ own g = none) (how : ∀ b, own b ≠ none → F b) (hfl : ∀ b, F b → b < w.heap.size)
    (hk2 : Kp (fun b => own b ≠ none) w w2) (ht2 : TIn w2 own' blk' D' (fun p => en p || decide (p = s)) (10000 * L.length + s.length)) (hro : blk' [] = blk []) (ho2 : ∀ b, own' b ≠ none → own b ≠ none ∨ w.heap.size ≤ b) (hl : s.length ≤ 10000)
    (hw3 : Below w2.heap.size w2 w3) (hu3 : Ow 3 w2.heap.size w3 (.slice ua s.length uc) s.length (ivs (gt s)))
    (hb5 : w5.heap[kb]? = some (.cells #[.int .i64 most, .slice sa L.length sc, .pointer (some ⟨blk [], 0, none⟩)] 64))
    (ho5 : Ow 23 0 w5 (.slice a5 (L.length + 1) k5) (L.length + 1) (catV V L.length (fun _ => .slice ua s.length uc))) (hg5 : (w3.alloc (.cells #[.slice ua s.length uc] 23)).grownBy w5 (Value.slice sa L.length sc).ownBlock)
    (ha5 : (Value.slice a5 (L.length + 1) k5).ownBlock = (Value.slice sa L.length sc).ownBlock ∨ (Value.slice a5 (L.length + 1) k5).ownBlock = some (w3.alloc (.cells #[.slice ua s.length uc] 23)).heap.size)
    (hw6 : w6 = w5.setCell ⟨kb, 1, none⟩ (.slice a5 (L.length + 1) k5)) : KIn (newF F w w6) w6 (.pointer (some ⟨kb, 0, none⟩)) most (L ++ [s]) ∧ Kp F w w6 := by
  have hs6 : w6.heap.size = w5.heap.size := by rw [hw6]; simp
  have hs3 := hw3.size
  have hs2 := hk2.size
  have hs4 : (w3.alloc (.cells #[.slice ua s.length uc] 23)).heap.size = w3.heap.size + 1 := by simp
  have hs5 := hg5.size
  have hkeep6 : ∀ b, b ≠ kb → w6.heap[b]? = w5.heap[b]? := fun b hb => by rw [hw6]; exact Below.heap_setCell w5 _ _ b hb
  -- from w2 on only the keeper and its row are touched
  have k26 : Kp (fun b => b = kb ∨ (Value.slice sa L.length sc).ownBlock = some b) w2 w6 := by
    have q1 : Kp (fun b => b = kb ∨ (Value.slice sa L.length sc).ownBlock = some b) w2 w3 := Kp.of_below hw3
    have q2 := (q1.alloc (.cells #[.slice ua s.length uc] 23)).trans (Kp.of_grown (F := fun b => b = kb ∨ (Value.slice sa L.length sc).ownBlock = some b) hg5 fun g hg => Or.inr hg) fun _ _ h => h
    rw [hw6]
    exact q2.set (p := ⟨kb, 1, none⟩) (Or.inl (Or.inl rfl)) _
  have k36 : Kp (fun b => b = kb ∨ (Value.slice sa L.length sc).ownBlock = some b) w3 w6 := by
    have q2 := ((Kp.refl (fun b => b = kb ∨ (Value.slice sa L.length sc).ownBlock = some b) w3).alloc (.cells #[.slice ua s.length uc] 23)).trans (Kp.of_grown (F := fun b => b = kb ∨ (Value.slice sa L.length sc).ownBlock = some b) hg5 fun g hg => Or.inr hg) fun _ _ h => h
    rw [hw6]
    exact q2.set (p := ⟨kb, 1, none⟩) (Or.inl (Or.inl rfl)) _
  have hsvlt : ∀ g, (Value.slice sa L.length sc).ownBlock = some g → g < w.heap.size := fun g hg => hsv.ltb hg
  have hkblt := lt_of_heap hkb
  have hoK : own' kb = none := by
    cases h : own' kb with
    | none => rfl
    | some x =>
      rcases ho2 kb (by rw [h]; simp) with q | q
      · exact absurd hfk.2 q
      · omega
  have hoS : ∀ g, (Value.slice sa L.length sc).ownBlock = some g → own' g = none := fun g hg => by
    cases h : own' g with
    | none => rfl
    | some x =>
      rcases ho2 g (by rw [h]; simp) with q | q
      · exact absurd (hso g hg).2 q
      · have := hsvlt g hg; omega
  have hkp : Kp F w w6 := (hk2.mono (G := F) fun b _ hb => how b hb).trans k26 fun b _ hb => hb.elim (fun e => e ▸ hfk.1) fun e => (hso b e).1
  refine ⟨⟨kb, own', blk', D', (fun p => en p || decide (p = s)), .slice a5 (L.length + 1) k5, catV V L.length (fun _ => .slice ua s.length uc), rfl, ?_, ?_, fun p => ?_, ?_, fun j hj => ?_, Or.inl hfk.1, hoK, fun g hg => ?_, fun b hb => ?_, fun b hb => ?_⟩, hkp⟩
  · rw [hro, hw6, set_heap hb5]; rfl
  · refine (ht2.kp k26 fun b hb h => ?_).more (by rw [List.length_append, List.length_singleton]; omega)
    rcases h with h | h
    · exact hb (h ▸ hoK)
    · exact hb (hoS b h)
  · rw [Bool.or_eq_true, hen, decide_eq_true_eq, List.mem_append, List.mem_singleton]
  · rw [List.length_append, List.length_singleton]
    exact ho5.keepB fun g hg => hkeep6 g fun e => ho5.far hb5 (by decide) (e ▸ hg)
  · rw [List.length_append, List.length_singleton] at hj
    rw [gs_app]
    by_cases h : j < L.length
    · unfold catV
      rw [if_pos h, if_pos h]
      have h1 := ((hset j h).apart hkb (by decide)).apartO hsv (by decide)
      have hk : Kp (fun b => ((¬ F b ∨ own b ≠ none) ∨ b = kb) ∨ (Value.slice sa L.length sc).ownBlock = some b) w w6 :=
        (hk2.mono fun b _ hb => Or.inl (Or.inl (Or.inr hb))).trans k26 fun b _ hb => hb.elim (fun e => Or.inl (Or.inr e)) Or.inr
      refine h1.step hk fun b hb hc => Or.inl (Or.inl ?_)
      rcases hc with hc | hc
      · exact Or.inl fun k => hc (Or.inl k)
      · rcases ho2 b hc with q | q
        · exact Or.inr q
        · omega
    · unfold catV
      rw [if_neg h, if_neg h, if_pos (by omega)]
      have hu : SIO (fun b => b < w2.heap.size) w3 (.slice ua s.length uc) s := hu3.sio fun b hb k => by
        have := (World.ownsRow.lt hu3 b hb).1
        omega
      have hk : Kp (fun b => b < w2.heap.size) w3 w6 := k36.mono fun b _ hb => by
        show b < _
        rcases hb with e | e
        · omega
        · have := hsvlt b e; omega
      refine hu.step hk fun b hb hc => ?_
      rcases hc with hc | hc
      · by_cases q : b < w2.heap.size
        · exact q
        · exact absurd (Or.inr ⟨by omega, by omega⟩) hc
      · exact ht2.lt b hc
  · rcases ha5 with e | e
    · rw [e] at hg
      exact ⟨Or.inl (hso g hg).1, hoS g hg⟩
    · rw [e] at hg
      injection hg with hg
      have h5 := ho5.ltb e
      refine ⟨Or.inr ⟨by omega, by omega⟩, ?_⟩
      cases h : own' g with
      | none => rfl
      | some x => have := ht2.lt g (by rw [h]; simp); omega
  · have hlt := ht2.lt b hb
    rcases ho2 b hb with q | q
    · exact Or.inl (how b q)
    · exact Or.inr ⟨q, by omega⟩
  · rcases hb with q | q
    · exact Nat.lt_of_lt_of_le (hfl b q) hkp.size
    · exact q.2
end Fo
set_option maxHeartbeats 16000000 in
theorem kadd_any (F : Nat → Prop) (w : World) (kp v : Value) (most : Int) (KK : List (List Int)) (s : List Int) (h : KIn F w kp most KK) (hv : SIO F w v s) (hs : Rise s) (hl : s.length ≤ 10000) (hK : KK.length ≤ 6000) (hm : (KK.length : Int) ≤ most) :
    Calls Try.prog 52 #[kp, v] w fun e w' => KR F most (addL KK s) kp w e w' := by
  have HKI : Hid (KIn F w kp most KK) := h
  have HV : Hid (SIO F w v s) := hv
  have HS : Hid (Rise s) := hs
  have HM : Hid ((KK.length : Int) ≤ most) := hm
  obtain ⟨kb, own, blk, D, en, sv, V, rfl, hkb, T, hen, hsv, hset, hFk, hok, hsvo, hown, hFl⟩ := h
  obtain ⟨sa, sc, rfl, -⟩ := id hsv.rd
  have HT : Hid (TIn w own blk D en (10000 * KK.length)) := T
  have HEN : Hid (∀ p, en p = true ↔ p ∈ KK) := hen
  have HSV : Hid (Ow 23 0 w (.slice sa KK.length sc) KK.length V) := hsv
  have HSET : Hid (∀ j, j < KK.length → SIO (fun b => ¬ F b ∨ own b ≠ none) w (V j) (gs KK j)) := hset
  have HFK : Hid (F kb ∧ own kb = none) := ⟨hFk, hok⟩
  have HSO : Hid (∀ g, (Value.slice sa KK.length sc).ownBlock = some g → F g ∧ own g = none) := hsvo
  have HOW : Hid (∀ b, own b ≠ none → F b) := hown
  have HFL : Hid (∀ b, F b → b < w.heap.size) := hFl
  have HKB : Hid (w.heap[kb]? = some (.cells #[.int .i64 most, .slice sa KK.length sc, .pointer (some ⟨blk [], 0, none⟩)] 64)) := hkb
  have f2 : w.cell? ⟨kb, 2, none⟩ = some (.pointer (some ⟨blk [], 0, none⟩)) := by rw [cell_of_row _ _ _ _ _ _ hkb]; rfl
  obtain ⟨R, hR⟩ : ∃ R : Bool, R = true ↔ hpP D en [] s := by
    by_cases q : hpP D en [] s
    · exact ⟨true, fun _ => q, fun _ => rfl⟩
    · exact ⟨false, fun h => Bool.noConfusion h, fun h => absurd h q⟩
  have HP := hp_any (by omega : 10000 * KK.length ≤ 100000000) (s.length + 1) w [] s v R (by omega) (by omega) T T.root hv.isL hs hR
  have HHas : Hid (R = true ↔ has KK s) := hR.trans (has_iff_hp T.dom hen s)
  clear hv hs hm T hen hsv hset hFk hok hsvo hown hFl hkb hR
  go_enter Try.func52, Try.ntmps52
  go_wp2_with (go_at_call 59; fail)
  refine HP.mono ?_
  rintro e w1 ⟨rfl, hw1⟩
  clear HP
  obtain ⟨q1, rfl⟩ := hw1
  cases R
  case true =>
    have HE : Hid (KR F most (addL KK s) (.pointer (some ⟨kb, 0, none⟩)) w (.returned (.tuple #[])) (w.drewN q1)) := by
      show KR _ _ _ _ _ _ _
      rw [addL_yes (HHas.out.1 rfl)]
      have h1 := HKI.out.frame (Kp.of_below (F := fun _ => False) (below_drewN (below_refl w) q1)) fun _ _ h => h
      exact ⟨Or.inl ⟨rfl, HM.out, h1.weak (fun b hb => Or.inl hb) fun b hb => hb.elim (HFL.out b) fun q => q.2⟩, Kp.of_below (below_drewN (below_refl w) q1)⟩
    clear HHas HT HEN HSV HSET HSO HOW HFL HKB HKI
    go_wp2
    all_goals first | go_end0 | go_ret | (refine bodyPost_ret (results_none rfl _ _ _) rfl ?_)
    all_goals exact HE.out
  case false =>
    have HNo : Hid (addL KK s = KK ++ [s]) := addL_no fun h => by have := HHas.out.2 h; cases this
    go_wp2_with (go_at_call 58; fail)
    refine (tadd_any (w.drewN q1) own blk D en (10000 * KK.length) s v (HT.out.drw ⟨q1, rfl⟩) ((HV.out.below (below_drewN (below_refl w) q1)).weak fun b _ hb => HOW.out b hb) HS.out (by omega)).mono ?_
    rintro e w2 ⟨rfl, ⟨own', blk', D', hroot, T2, hO2⟩, hk2⟩
    have hk2' : Kp (fun b => own b ≠ none) w w2 := ⟨hk2.os, hk2.tape, hk2.output, hk2.size, hk2.block⟩
    have HK2 : Hid (Kp (fun b => own b ≠ none) w w2) := hk2'
    have HT2 : Hid (TIn w2 own' blk' D' (fun p => en p || decide (p = s)) (10000 * KK.length + s.length)) := T2
    have HRo : Hid (blk' [] = blk []) := hroot
    have HO2 : Hid (∀ b, own' b ≠ none → own b ≠ none ∨ w.heap.size ≤ b) := hO2
    have hkb2 : w2.heap[kb]? = some (.cells #[.int .i64 most, .slice sa KK.length sc, .pointer (some ⟨blk [], 0, none⟩)] 64) := hk2'.heap HKB.out (fun h => h HFK.out.2)
    have HKB2 : Hid (w2.heap[kb]? = some (.cells #[.int .i64 most, .slice sa KK.length sc, .pointer (some ⟨blk [], 0, none⟩)] 64)) := hkb2
    have g1 : w2.cell? ⟨kb, 1, none⟩ = some (.slice sa KK.length sc) := by rw [cell_of_row _ _ _ _ _ _ hkb2]; rfl
    have HSV2 : Hid (Ow 23 0 w2 (.slice sa KK.length sc) KK.length V) := HSV.out.keepB fun g hg => hk2'.block g (HSV.out.ltb hg) fun h => h (HSO.out g hg).2
    have HV2 : Hid (SIO (fun b => own b ≠ none) w2 v s) := (HV.out.weak fun b _ hb => HOW.out b hb).step hk2' fun _ _ h => h
    clear hk2 hk2' T2 hroot hO2 hkb2 f2
    have HS0 : Hid (∀ w', Below w2.heap.size w2 w' → w'.cell? ⟨kb, 1, none⟩ = some (.slice sa KK.length sc)) := fun w' hb => by
      rw [hb.cell (lt_of_heap HKB2.out)]; exact g1
    have c2 : w2.cell? ⟨kb, 1, none⟩ = some (.slice sa KK.length sc) := g1
    clear g1
    go_wp2_with (go_at_call 35; fail)
    refine wp_region_held_drew (S := fun _ => True) (by kernel_rfl) ?_ (fun hHeld => ?_)
    · (try dsimp only); try trivial
    refine wpAnyH_take (i := 0) (oi := { dst := some 16, op := Op.move (Operand.tmp 0), type := 51, pos := "anti.go:174", after := #[], guard := none }) (v := ?vu1) rfl (by kernel_rfl) (by kernel_rfl) (by kernel_rfl) (fun _ _ _ h => h) (Or.inl ⟨by rfl, ?hyu1⟩) (by assumption) ?restu1
    case hyu1 => (intro w hSw; (try dsimp only at hSw); go_simp; (try with_reducible rfl))
    try simp only [Act.put, List.setIfInBounds_toArray, List.set_cons_zero, List.set_cons_succ]
    refine wpAnyH_take (i := 1) (oi := { dst := some 17, op := Op.move (Operand.tmp 0), type := 51, pos := "anti.go:174", after := #[], guard := none }) (v := ?vu2) rfl (by kernel_rfl) (by kernel_rfl) (by kernel_rfl) (fun _ _ _ h => h) (Or.inl ⟨by rfl, ?hyu2⟩) (by assumption) ?restu2
    case hyu2 => (intro w hSw; (try dsimp only at hSw); go_simp; (try with_reducible rfl))
    try simp only [Act.put, List.setIfInBounds_toArray, List.set_cons_zero, List.set_cons_succ]
    refine wpAnyH_take (i := 2) (oi := { dst := some 18, op := Op.nilCheck (Operand.tmp 17), type := 0, pos := "anti.go:174", after := #[{ on := 1, ground := Ground.data }], guard := none }) (v := ?vu3) rfl (by kernel_rfl) (by kernel_rfl) (by kernel_rfl) (fun _ _ _ h => h) (Or.inl ⟨by rfl, ?hyu3⟩) (by assumption) ?restu3
    case hyu3 => (intro w hSw; (try dsimp only at hSw); go_simp; (try with_reducible rfl))
    try simp only [Act.put, List.setIfInBounds_toArray, List.set_cons_zero, List.set_cons_succ]
    refine wpAnyH_take (i := 3) (oi := { dst := some 19, op := Op.fieldAddr 64 (Operand.tmp 18) 1, type := 0, pos := "anti.go:174", after := #[{ on := 2, ground := Ground.data }], guard := none }) (v := ?vu4) rfl (by kernel_rfl) (by kernel_rfl) (by kernel_rfl) (fun _ _ _ h => h) (Or.inl ⟨by rfl, ?hyu4⟩) (by assumption) ?restu4
    case hyu4 => (intro w hSw; (try dsimp only at hSw); go_simp; (try with_reducible rfl))
    try simp only [Act.put, List.setIfInBounds_toArray, List.set_cons_zero, List.set_cons_succ]
    refine wpAnyH_take (i := 5) (oi := { dst := some 21, op := Op.move (Operand.tmp 1), type := 23, pos := "anti.go:174", after := #[], guard := none }) (v := ?vu5) rfl (by kernel_rfl) (by kernel_rfl) (by kernel_rfl) (fun _ _ _ h => h) (Or.inl ⟨by rfl, ?hyu5⟩) (by assumption) ?restu5
    case hyu5 => (intro w hSw; (try dsimp only at hSw); go_simp; (try with_reducible rfl))
    try simp only [Act.put, List.setIfInBounds_toArray, List.set_cons_zero, List.set_cons_succ]
    refine wpAnyH_ready (rs := [4, 6]) (by kernel_rfl) (by simp) ?_
    refine AllReadyH.cons (o := { dst := some 20, op := Op.load 22 (Operand.tmp 19), type := 22, pos := "anti.go:174", after := #[{ on := 3, ground := Ground.data }], guard := none }) rfl (fun K hK => ?_) ?_
    · skip
      go_simp
      refine hK.out _ _ ?_ (fun hHeldB => ?_)
      · (try dsimp only); try trivial
      clear hK K hHeld
      have hHeld := hHeldB
      clear hHeldB
      try simp only [Act.put, List.setIfInBounds_toArray, List.set_cons_zero, List.set_cons_succ]
      refine wpAnyH_ready (rs := [6]) (by kernel_rfl) (by simp) ?_
      refine AllReadyH.cons (o := { dst := some 22, op := Op.call { callee := Callee.value (Operand.func 35), args := #[Operand.tmp 21], argTypes := #[23] }, type := 23, pos := "anti.go:174", after := #[{ on := 5, ground := Ground.data }], guard := none }) rfl (fun K hK => ?_) AllReadyH.nil
      go_simp
      go_at_call 35
      refine (clone_any _ v s (by exact (HV2.out.below (below_refl w2).drew).isL) (by omega)).mono ?_
      rintro e w3 ⟨⟨u, rfl, hu⟩, b3⟩
      have HW3 : Below w2.heap.size w2 w3 := ⟨b3.os, b3.tape, b3.output, b3.size, b3.block⟩
      obtain ⟨ua, uc, rfl, hur⟩ := hu.rd
      have HU3 : Hid (Ow 3 w2.heap.size w3 (.slice ua s.length uc) s.length (ivs (gt s))) := hu
      have c3 : w3.cell? ⟨kb, 1, none⟩ = some (.slice sa KK.length sc) := HS0.out w3 HW3
      clear hu hur b3
      refine hK.out _ _ ?_ (fun hHeldB => ?_)
      · (try dsimp only); try trivial
      clear hK K hHeld
      have hHeld := hHeldB
      clear hHeldB
      try simp only [Act.put, List.setIfInBounds_toArray, List.set_cons_zero, List.set_cons_succ]
      refine wpAnyH_ready (rs := [7]) (by kernel_rfl) (by simp) ?_
      refine AllReadyH.cons (o := { dst := some 23, op := Op.buildSlice 22 1 #[(0, Operand.tmp 22)], type := 22, pos := "anti.go:174", after := #[{ on := 6, ground := Ground.data }], guard := none }) rfl (fun K hK => ?_) AllReadyH.nil
      have c4 : (w3.alloc (.cells #[.slice ua s.length uc] 23)).cell? ⟨kb, 1, none⟩ = some (.slice sa KK.length sc) := HS0.out _ (HW3.alloc HW3.size _)
      go_simp
      refine hK.out _ _ ?_ (fun hHeldB => ?_)
      · (try dsimp only); try trivial
      clear hK K hHeld
      have hHeld := hHeldB
      clear hHeldB
      try simp only [Act.put, List.setIfInBounds_toArray, List.set_cons_zero, List.set_cons_succ]
      refine wpAnyH_ready (rs := [8]) (by kernel_rfl) (by simp) ?_
      refine AllReadyH.cons (o := { dst := some 24, op := Op.call { callee := Callee.builtin Builtin.append, args := #[Operand.tmp 20, Operand.tmp 23], argTypes := #[22, 22] }, type := 22, pos := "anti.go:174", after := #[{ on := 4, ground := Ground.data }, { on := 7, ground := Ground.data }, { on := 6, ground := Ground.chain }], guard := none }) rfl (fun K hK => ?_) AllReadyH.nil
      refine step_app_at eSet (by rfl) _ _ (by rfl) (HSV2.out.below (HW3.alloc HW3.size (.cells #[.slice ua s.length uc] 23))) (Nat.zero_le _) (one_cell w3 23 (.slice ua s.length uc)) (by decide) (fun _ _ => rfl) (KK.length + 1) rfl (by omega) (catV V KK.length (fun _ => .slice ua s.length uc)) (fun _ _ => rfl) (by rfl) (by rfl) ?_
      intro a5 k5 w5 hO5 hG5 hat5
      have hb5 : w5.heap[kb]? = some (.cells #[.int .i64 most, .slice sa KK.length sc, .pointer (some ⟨blk [], 0, none⟩)] 64) := by
        rw [hG5.block kb (by have := lt_of_heap HKB2.out; have := HW3.size; simp; omega) (fun e => HSV2.out.far HKB2.out (by decide) e.symm), (HW3.alloc HW3.size _).block kb (lt_of_heap HKB2.out)]; exact HKB2.out
      have c5 : w5.cell? ⟨kb, 1, none⟩ = some (.slice sa KK.length sc) := by rw [cell_of_row _ _ _ _ _ _ hb5]; rfl
      have z5 := frz_of hb5 1
      have HB5 : Hid (w5.heap[kb]? = some (.cells #[.int .i64 most, .slice sa KK.length sc, .pointer (some ⟨blk [], 0, none⟩)] 64)) := hb5
      have HO5 : Hid (Ow 23 0 w5 (.slice a5 (KK.length + 1) k5) (KK.length + 1) (catV V KK.length (fun _ => .slice ua s.length uc))) := hO5
      have HG5 : Hid ((w3.alloc (.cells #[.slice ua s.length uc] 23)).grownBy w5 (Value.slice sa KK.length sc).ownBlock) := hG5
      have HA5 : Hid ((Value.slice a5 (KK.length + 1) k5).ownBlock = (Value.slice sa KK.length sc).ownBlock ∨ (Value.slice a5 (KK.length + 1) k5).ownBlock = some (w3.alloc (.cells #[.slice ua s.length uc] 23)).heap.size) := hat5
      clear hO5 hG5 hat5 hb5 c3 c4
      refine hK.out _ _ ?_ (fun hHeldB => ?_)
      · (try dsimp only); try trivial
      clear hK K hHeld
      have hHeld := hHeldB
      clear hHeldB
      try simp only [Act.put, List.setIfInBounds_toArray, List.set_cons_zero, List.set_cons_succ]
      refine wpAnyH_take (i := 9) (oi := { dst := some 25, op := Op.nilCheck (Operand.tmp 16), type := 0, pos := "anti.go:174", after := #[{ on := 0, ground := Ground.data }, { on := 0, ground := Ground.phase }, { on := 1, ground := Ground.phase }, { on := 2, ground := Ground.phase }, { on := 3, ground := Ground.phase }, { on := 4, ground := Ground.phase }, { on := 5, ground := Ground.phase }, { on := 6, ground := Ground.phase }, { on := 7, ground := Ground.phase }, { on := 8, ground := Ground.phase }], guard := none }) (v := ?vu6) rfl (by kernel_rfl) (by kernel_rfl) (by kernel_rfl) (fun _ _ _ h => h) (Or.inl ⟨by rfl, ?hyu6⟩) (by assumption) ?restu6
      case hyu6 => (intro w hSw; (try dsimp only at hSw); go_simp; (try with_reducible rfl))
      try simp only [Act.put, List.setIfInBounds_toArray, List.set_cons_zero, List.set_cons_succ]
      refine wpAnyH_take (i := 10) (oi := { dst := some 26, op := Op.fieldAddr 64 (Operand.tmp 25) 1, type := 0, pos := "anti.go:174", after := #[{ on := 9, ground := Ground.data }, { on := 0, ground := Ground.phase }, { on := 1, ground := Ground.phase }, { on := 2, ground := Ground.phase }, { on := 3, ground := Ground.phase }, { on := 4, ground := Ground.phase }, { on := 5, ground := Ground.phase }, { on := 6, ground := Ground.phase }, { on := 7, ground := Ground.phase }, { on := 8, ground := Ground.phase }], guard := none }) (v := ?vu7) rfl (by kernel_rfl) (by kernel_rfl) (by kernel_rfl) (fun _ _ _ h => h) (Or.inl ⟨by rfl, ?hyu7⟩) (by assumption) ?restu7
      case hyu7 => (intro w hSw; (try dsimp only at hSw); go_simp; (try with_reducible rfl))
      try simp only [Act.put, List.setIfInBounds_toArray, List.set_cons_zero, List.set_cons_succ]
      refine wpAnyH_ready (rs := [11]) (by kernel_rfl) (by simp) ?_
      refine AllReadyH.cons (o := { dst := none, op := Op.store 22 (Operand.tmp 26) (Operand.tmp 24), type := 0, pos := "anti.go:174", after := #[{ on := 10, ground := Ground.data }, { on := 8, ground := Ground.data }, { on := 8, ground := Ground.chain }, { on := 0, ground := Ground.phase }, { on := 1, ground := Ground.phase }, { on := 2, ground := Ground.phase }, { on := 3, ground := Ground.phase }, { on := 4, ground := Ground.phase }, { on := 5, ground := Ground.phase }, { on := 6, ground := Ground.phase }, { on := 7, ground := Ground.phase }, { on := 8, ground := Ground.phase }], guard := none }) rfl (fun K hK => ?_) AllReadyH.nil
      go_simp
      refine hK.out _ _ ?_ (fun hHeldB => ?_)
      · (try dsimp only); try trivial
      clear hK K hHeld
      have hHeld := hHeldB
      clear hHeldB
      try simp only [Act.put, List.setIfInBounds_toArray, List.set_cons_zero, List.set_cons_succ]
      refine wpAnyH_done (by kernel_rfl) ?_ _
      obtain ⟨W6, hW6⟩ : ∃ W6, W6 = w5.setCell ⟨kb, 1, none⟩ (.slice a5 (KK.length + 1) k5) := ⟨_, rfl⟩
      have hfin := kin_add HKB.out HEN.out HSV.out HSET.out HFK.out HSO.out HOW.out HFL.out HK2.out HT2.out HRo.out HO2.out hl HW3 HU3.out HB5.out HO5.out HG5.out HA5.out hW6
      have HF6 : Hid (KIn (newF F w W6) W6 (.pointer (some ⟨kb, 0, none⟩)) most (KK ++ [s])) := hfin.1
      have HP6 : Hid (Kp F w W6) := hfin.2
      clear hfin HT HEN HSV HSET HSO HOW HKI HKB HK2 HT2 HRo HO2 HKB2 HSV2 HV2 HS0 HU3 HB5 HO5 HG5 HA5 HHas
      go_wp2_with (go_at_call 49; fail)
      rw [← hW6]
      clear hW6
      refine (check_any _ W6 _ most _ HF6.out).mono ?_
      rintro e w7 ⟨hch, hw⟩
      rcases hch with ⟨rfl, hch⟩ | ⟨he, hch⟩
      · have HR : Hid (KR F most (addL KK s) (.pointer (some ⟨kb, 0, none⟩)) w (.returned (.tuple #[])) w7) := by
          show KR _ _ _ _ _ _ _
          rw [HNo.out]
          obtain ⟨q, rfl⟩ := hw
          exact ⟨Or.inl ⟨rfl, hch, HF6.out.frame (Kp.of_below (F := fun _ => False) (below_drewN (below_refl W6) q)) fun _ _ h => h⟩, HP6.out.trans (Kp.of_below (F := F) (below_drewN (below_refl W6) q)) fun _ _ h => h⟩
        clear hch hw
        go_wp2
        all_goals first | go_end0 | go_ret | (refine bodyPost_ret (results_none rfl _ _ _) rfl ?_)
        all_goals exact HR.out
      · have HR : Hid (KR F most (addL KK s) (.pointer (some ⟨kb, 0, none⟩)) w pB w7) := by
          show KR _ _ _ _ _ _ _
          rw [HNo.out]
          obtain ⟨q, rfl⟩ := hw
          exact ⟨Or.inr ⟨rfl, hch⟩, HP6.out.trans (Kp.of_below (F := F) (below_drewN (below_refl W6) q)) fun _ _ h => h⟩
        clear hch hw
        unfold pB at he
        subst he
        exact ⟨rfl, HR.out⟩
    refine AllReadyH.cons (o := { dst := some 22, op := Op.call { callee := Callee.value (Operand.func 35), args := #[Operand.tmp 21], argTypes := #[23] }, type := 23, pos := "anti.go:174", after := #[{ on := 5, ground := Ground.data }], guard := none }) rfl (fun K hK => ?_) AllReadyH.nil
    go_simp
    go_at_call 35
    refine (clone_any _ v s (by exact (HV2.out.below (below_refl w2).drew).isL) (by omega)).mono ?_
    rintro e w3 ⟨⟨u, rfl, hu⟩, b3⟩
    have HW3 : Below w2.heap.size w2 w3 := ⟨b3.os, b3.tape, b3.output, b3.size, b3.block⟩
    obtain ⟨ua, uc, rfl, hur⟩ := hu.rd
    have HU3 : Hid (Ow 3 w2.heap.size w3 (.slice ua s.length uc) s.length (ivs (gt s))) := hu
    have c3 : w3.cell? ⟨kb, 1, none⟩ = some (.slice sa KK.length sc) := HS0.out w3 HW3
    clear hu hur b3
    refine hK.out _ _ ?_ (fun hHeldB => ?_)
    · (try dsimp only); try trivial
    clear hK K hHeld
    have hHeld := hHeldB
    clear hHeldB
    try simp only [Act.put, List.setIfInBounds_toArray, List.set_cons_zero, List.set_cons_succ]
    refine wpAnyH_ready (rs := [4, 7]) (by kernel_rfl) (by simp) ?_
    refine AllReadyH.cons (o := { dst := some 20, op := Op.load 22 (Operand.tmp 19), type := 22, pos := "anti.go:174", after := #[{ on := 3, ground := Ground.data }], guard := none }) rfl (fun K hK => ?_) ?_
    · skip
      go_simp
      refine hK.out _ _ ?_ (fun hHeldB => ?_)
      · (try dsimp only); try trivial
      clear hK K hHeld
      have hHeld := hHeldB
      clear hHeldB
      try simp only [Act.put, List.setIfInBounds_toArray, List.set_cons_zero, List.set_cons_succ]
      refine wpAnyH_ready (rs := [7]) (by kernel_rfl) (by simp) ?_
      refine AllReadyH.cons (o := { dst := some 23, op := Op.buildSlice 22 1 #[(0, Operand.tmp 22)], type := 22, pos := "anti.go:174", after := #[{ on := 6, ground := Ground.data }], guard := none }) rfl (fun K hK => ?_) AllReadyH.nil
      have c4 : (w3.alloc (.cells #[.slice ua s.length uc] 23)).cell? ⟨kb, 1, none⟩ = some (.slice sa KK.length sc) := HS0.out _ (HW3.alloc HW3.size _)
      go_simp
      refine hK.out _ _ ?_ (fun hHeldB => ?_)
      · (try dsimp only); try trivial
      clear hK K hHeld
      have hHeld := hHeldB
      clear hHeldB
      try simp only [Act.put, List.setIfInBounds_toArray, List.set_cons_zero, List.set_cons_succ]
      refine wpAnyH_ready (rs := [8]) (by kernel_rfl) (by simp) ?_
      refine AllReadyH.cons (o := { dst := some 24, op := Op.call { callee := Callee.builtin Builtin.append, args := #[Operand.tmp 20, Operand.tmp 23], argTypes := #[22, 22] }, type := 22, pos := "anti.go:174", after := #[{ on := 4, ground := Ground.data }, { on := 7, ground := Ground.data }, { on := 6, ground := Ground.chain }], guard := none }) rfl (fun K hK => ?_) AllReadyH.nil
      refine step_app_at eSet (by rfl) _ _ (by rfl) (HSV2.out.below (HW3.alloc HW3.size (.cells #[.slice ua s.length uc] 23))) (Nat.zero_le _) (one_cell w3 23 (.slice ua s.length uc)) (by decide) (fun _ _ => rfl) (KK.length + 1) rfl (by omega) (catV V KK.length (fun _ => .slice ua s.length uc)) (fun _ _ => rfl) (by rfl) (by rfl) ?_
      intro a5 k5 w5 hO5 hG5 hat5
      have hb5 : w5.heap[kb]? = some (.cells #[.int .i64 most, .slice sa KK.length sc, .pointer (some ⟨blk [], 0, none⟩)] 64) := by
        rw [hG5.block kb (by have := lt_of_heap HKB2.out; have := HW3.size; simp; omega) (fun e => HSV2.out.far HKB2.out (by decide) e.symm), (HW3.alloc HW3.size _).block kb (lt_of_heap HKB2.out)]; exact HKB2.out
      have c5 : w5.cell? ⟨kb, 1, none⟩ = some (.slice sa KK.length sc) := by rw [cell_of_row _ _ _ _ _ _ hb5]; rfl
      have z5 := frz_of hb5 1
      have HB5 : Hid (w5.heap[kb]? = some (.cells #[.int .i64 most, .slice sa KK.length sc, .pointer (some ⟨blk [], 0, none⟩)] 64)) := hb5
      have HO5 : Hid (Ow 23 0 w5 (.slice a5 (KK.length + 1) k5) (KK.length + 1) (catV V KK.length (fun _ => .slice ua s.length uc))) := hO5
      have HG5 : Hid ((w3.alloc (.cells #[.slice ua s.length uc] 23)).grownBy w5 (Value.slice sa KK.length sc).ownBlock) := hG5
      have HA5 : Hid ((Value.slice a5 (KK.length + 1) k5).ownBlock = (Value.slice sa KK.length sc).ownBlock ∨ (Value.slice a5 (KK.length + 1) k5).ownBlock = some (w3.alloc (.cells #[.slice ua s.length uc] 23)).heap.size) := hat5
      clear hO5 hG5 hat5 hb5 c3 c4
      refine hK.out _ _ ?_ (fun hHeldB => ?_)
      · (try dsimp only); try trivial
      clear hK K hHeld
      have hHeld := hHeldB
      clear hHeldB
      try simp only [Act.put, List.setIfInBounds_toArray, List.set_cons_zero, List.set_cons_succ]
      refine wpAnyH_take (i := 9) (oi := { dst := some 25, op := Op.nilCheck (Operand.tmp 16), type := 0, pos := "anti.go:174", after := #[{ on := 0, ground := Ground.data }, { on := 0, ground := Ground.phase }, { on := 1, ground := Ground.phase }, { on := 2, ground := Ground.phase }, { on := 3, ground := Ground.phase }, { on := 4, ground := Ground.phase }, { on := 5, ground := Ground.phase }, { on := 6, ground := Ground.phase }, { on := 7, ground := Ground.phase }, { on := 8, ground := Ground.phase }], guard := none }) (v := ?vu8) rfl (by kernel_rfl) (by kernel_rfl) (by kernel_rfl) (fun _ _ _ h => h) (Or.inl ⟨by rfl, ?hyu8⟩) (by assumption) ?restu8
      case hyu8 => (intro w hSw; (try dsimp only at hSw); go_simp; (try with_reducible rfl))
      try simp only [Act.put, List.setIfInBounds_toArray, List.set_cons_zero, List.set_cons_succ]
      refine wpAnyH_take (i := 10) (oi := { dst := some 26, op := Op.fieldAddr 64 (Operand.tmp 25) 1, type := 0, pos := "anti.go:174", after := #[{ on := 9, ground := Ground.data }, { on := 0, ground := Ground.phase }, { on := 1, ground := Ground.phase }, { on := 2, ground := Ground.phase }, { on := 3, ground := Ground.phase }, { on := 4, ground := Ground.phase }, { on := 5, ground := Ground.phase }, { on := 6, ground := Ground.phase }, { on := 7, ground := Ground.phase }, { on := 8, ground := Ground.phase }], guard := none }) (v := ?vu9) rfl (by kernel_rfl) (by kernel_rfl) (by kernel_rfl) (fun _ _ _ h => h) (Or.inl ⟨by rfl, ?hyu9⟩) (by assumption) ?restu9
      case hyu9 => (intro w hSw; (try dsimp only at hSw); go_simp; (try with_reducible rfl))
      try simp only [Act.put, List.setIfInBounds_toArray, List.set_cons_zero, List.set_cons_succ]
      refine wpAnyH_ready (rs := [11]) (by kernel_rfl) (by simp) ?_
      refine AllReadyH.cons (o := { dst := none, op := Op.store 22 (Operand.tmp 26) (Operand.tmp 24), type := 0, pos := "anti.go:174", after := #[{ on := 10, ground := Ground.data }, { on := 8, ground := Ground.data }, { on := 8, ground := Ground.chain }, { on := 0, ground := Ground.phase }, { on := 1, ground := Ground.phase }, { on := 2, ground := Ground.phase }, { on := 3, ground := Ground.phase }, { on := 4, ground := Ground.phase }, { on := 5, ground := Ground.phase }, { on := 6, ground := Ground.phase }, { on := 7, ground := Ground.phase }, { on := 8, ground := Ground.phase }], guard := none }) rfl (fun K hK => ?_) AllReadyH.nil
      go_simp
      refine hK.out _ _ ?_ (fun hHeldB => ?_)
      · (try dsimp only); try trivial
      clear hK K hHeld
      have hHeld := hHeldB
      clear hHeldB
      try simp only [Act.put, List.setIfInBounds_toArray, List.set_cons_zero, List.set_cons_succ]
      refine wpAnyH_done (by kernel_rfl) ?_ _
      obtain ⟨W6, hW6⟩ : ∃ W6, W6 = w5.setCell ⟨kb, 1, none⟩ (.slice a5 (KK.length + 1) k5) := ⟨_, rfl⟩
      have hfin := kin_add HKB.out HEN.out HSV.out HSET.out HFK.out HSO.out HOW.out HFL.out HK2.out HT2.out HRo.out HO2.out hl HW3 HU3.out HB5.out HO5.out HG5.out HA5.out hW6
      have HF6 : Hid (KIn (newF F w W6) W6 (.pointer (some ⟨kb, 0, none⟩)) most (KK ++ [s])) := hfin.1
      have HP6 : Hid (Kp F w W6) := hfin.2
      clear hfin HT HEN HSV HSET HSO HOW HKI HKB HK2 HT2 HRo HO2 HKB2 HSV2 HV2 HS0 HU3 HB5 HO5 HG5 HA5 HHas
      go_wp2_with (go_at_call 49; fail)
      rw [← hW6]
      clear hW6
      refine (check_any _ W6 _ most _ HF6.out).mono ?_
      rintro e w7 ⟨hch, hw⟩
      rcases hch with ⟨rfl, hch⟩ | ⟨he, hch⟩
      · have HR : Hid (KR F most (addL KK s) (.pointer (some ⟨kb, 0, none⟩)) w (.returned (.tuple #[])) w7) := by
          show KR _ _ _ _ _ _ _
          rw [HNo.out]
          obtain ⟨q, rfl⟩ := hw
          exact ⟨Or.inl ⟨rfl, hch, HF6.out.frame (Kp.of_below (F := fun _ => False) (below_drewN (below_refl W6) q)) fun _ _ h => h⟩, HP6.out.trans (Kp.of_below (F := F) (below_drewN (below_refl W6) q)) fun _ _ h => h⟩
        clear hch hw
        go_wp2
        all_goals first | go_end0 | go_ret | (refine bodyPost_ret (results_none rfl _ _ _) rfl ?_)
        all_goals exact HR.out
      · have HR : Hid (KR F most (addL KK s) (.pointer (some ⟨kb, 0, none⟩)) w pB w7) := by
          show KR _ _ _ _ _ _ _
          rw [HNo.out]
          obtain ⟨q, rfl⟩ := hw
          exact ⟨Or.inr ⟨rfl, hch⟩, HP6.out.trans (Kp.of_below (F := F) (below_drewN (below_refl W6) q)) fun _ _ h => h⟩
        clear hch hw
        unfold pB at he
        subst he
        exact ⟨rfl, HR.out⟩
    refine AllReadyH.cons (o := { dst := some 23, op := Op.buildSlice 22 1 #[(0, Operand.tmp 22)], type := 22, pos := "anti.go:174", after := #[{ on := 6, ground := Ground.data }], guard := none }) rfl (fun K hK => ?_) AllReadyH.nil
    have c4 : (w3.alloc (.cells #[.slice ua s.length uc] 23)).cell? ⟨kb, 1, none⟩ = some (.slice sa KK.length sc) := HS0.out _ (HW3.alloc HW3.size _)
    go_simp
    refine hK.out _ _ ?_ (fun hHeldB => ?_)
    · (try dsimp only); try trivial
    clear hK K hHeld
    have hHeld := hHeldB
    clear hHeldB
    try simp only [Act.put, List.setIfInBounds_toArray, List.set_cons_zero, List.set_cons_succ]
    refine wpAnyH_ready (rs := [4]) (by kernel_rfl) (by simp) ?_
    refine AllReadyH.cons (o := { dst := some 20, op := Op.load 22 (Operand.tmp 19), type := 22, pos := "anti.go:174", after := #[{ on := 3, ground := Ground.data }], guard := none }) rfl (fun K hK => ?_) AllReadyH.nil
    go_simp
    refine hK.out _ _ ?_ (fun hHeldB => ?_)
    · (try dsimp only); try trivial
    clear hK K hHeld
    have hHeld := hHeldB
    clear hHeldB
    try simp only [Act.put, List.setIfInBounds_toArray, List.set_cons_zero, List.set_cons_succ]
    refine wpAnyH_ready (rs := [8]) (by kernel_rfl) (by simp) ?_
    refine AllReadyH.cons (o := { dst := some 24, op := Op.call { callee := Callee.builtin Builtin.append, args := #[Operand.tmp 20, Operand.tmp 23], argTypes := #[22, 22] }, type := 22, pos := "anti.go:174", after := #[{ on := 4, ground := Ground.data }, { on := 7, ground := Ground.data }, { on := 6, ground := Ground.chain }], guard := none }) rfl (fun K hK => ?_) AllReadyH.nil
    refine step_app_at eSet (by rfl) _ _ (by rfl) (HSV2.out.below (HW3.alloc HW3.size (.cells #[.slice ua s.length uc] 23))) (Nat.zero_le _) (one_cell w3 23 (.slice ua s.length uc)) (by decide) (fun _ _ => rfl) (KK.length + 1) rfl (by omega) (catV V KK.length (fun _ => .slice ua s.length uc)) (fun _ _ => rfl) (by rfl) (by rfl) ?_
    intro a5 k5 w5 hO5 hG5 hat5
    have hb5 : w5.heap[kb]? = some (.cells #[.int .i64 most, .slice sa KK.length sc, .pointer (some ⟨blk [], 0, none⟩)] 64) := by
      rw [hG5.block kb (by have := lt_of_heap HKB2.out; have := HW3.size; simp; omega) (fun e => HSV2.out.far HKB2.out (by decide) e.symm), (HW3.alloc HW3.size _).block kb (lt_of_heap HKB2.out)]; exact HKB2.out
    have c5 : w5.cell? ⟨kb, 1, none⟩ = some (.slice sa KK.length sc) := by rw [cell_of_row _ _ _ _ _ _ hb5]; rfl
    have z5 := frz_of hb5 1
    have HB5 : Hid (w5.heap[kb]? = some (.cells #[.int .i64 most, .slice sa KK.length sc, .pointer (some ⟨blk [], 0, none⟩)] 64)) := hb5
    have HO5 : Hid (Ow 23 0 w5 (.slice a5 (KK.length + 1) k5) (KK.length + 1) (catV V KK.length (fun _ => .slice ua s.length uc))) := hO5
    have HG5 : Hid ((w3.alloc (.cells #[.slice ua s.length uc] 23)).grownBy w5 (Value.slice sa KK.length sc).ownBlock) := hG5
    have HA5 : Hid ((Value.slice a5 (KK.length + 1) k5).ownBlock = (Value.slice sa KK.length sc).ownBlock ∨ (Value.slice a5 (KK.length + 1) k5).ownBlock = some (w3.alloc (.cells #[.slice ua s.length uc] 23)).heap.size) := hat5
    clear hO5 hG5 hat5 hb5 c3 c4
    refine hK.out _ _ ?_ (fun hHeldB => ?_)
    · (try dsimp only); try trivial
    clear hK K hHeld
    have hHeld := hHeldB
    clear hHeldB
    try simp only [Act.put, List.setIfInBounds_toArray, List.set_cons_zero, List.set_cons_succ]
    refine wpAnyH_take (i := 9) (oi := { dst := some 25, op := Op.nilCheck (Operand.tmp 16), type := 0, pos := "anti.go:174", after := #[{ on := 0, ground := Ground.data }, { on := 0, ground := Ground.phase }, { on := 1, ground := Ground.phase }, { on := 2, ground := Ground.phase }, { on := 3, ground := Ground.phase }, { on := 4, ground := Ground.phase }, { on := 5, ground := Ground.phase }, { on := 6, ground := Ground.phase }, { on := 7, ground := Ground.phase }, { on := 8, ground := Ground.phase }], guard := none }) (v := ?vu10) rfl (by kernel_rfl) (by kernel_rfl) (by kernel_rfl) (fun _ _ _ h => h) (Or.inl ⟨by rfl, ?hyu10⟩) (by assumption) ?restu10
    case hyu10 => (intro w hSw; (try dsimp only at hSw); go_simp; (try with_reducible rfl))
    try simp only [Act.put, List.setIfInBounds_toArray, List.set_cons_zero, List.set_cons_succ]
    refine wpAnyH_take (i := 10) (oi := { dst := some 26, op := Op.fieldAddr 64 (Operand.tmp 25) 1, type := 0, pos := "anti.go:174", after := #[{ on := 9, ground := Ground.data }, { on := 0, ground := Ground.phase }, { on := 1, ground := Ground.phase }, { on := 2, ground := Ground.phase }, { on := 3, ground := Ground.phase }, { on := 4, ground := Ground.phase }, { on := 5, ground := Ground.phase }, { on := 6, ground := Ground.phase }, { on := 7, ground := Ground.phase }, { on := 8, ground := Ground.phase }], guard := none }) (v := ?vu11) rfl (by kernel_rfl) (by kernel_rfl) (by kernel_rfl) (fun _ _ _ h => h) (Or.inl ⟨by rfl, ?hyu11⟩) (by assumption) ?restu11
    case hyu11 => (intro w hSw; (try dsimp only at hSw); go_simp; (try with_reducible rfl))
    try simp only [Act.put, List.setIfInBounds_toArray, List.set_cons_zero, List.set_cons_succ]
    refine wpAnyH_ready (rs := [11]) (by kernel_rfl) (by simp) ?_
    refine AllReadyH.cons (o := { dst := none, op := Op.store 22 (Operand.tmp 26) (Operand.tmp 24), type := 0, pos := "anti.go:174", after := #[{ on := 10, ground := Ground.data }, { on := 8, ground := Ground.data }, { on := 8, ground := Ground.chain }, { on := 0, ground := Ground.phase }, { on := 1, ground := Ground.phase }, { on := 2, ground := Ground.phase }, { on := 3, ground := Ground.phase }, { on := 4, ground := Ground.phase }, { on := 5, ground := Ground.phase }, { on := 6, ground := Ground.phase }, { on := 7, ground := Ground.phase }, { on := 8, ground := Ground.phase }], guard := none }) rfl (fun K hK => ?_) AllReadyH.nil
    go_simp
    refine hK.out _ _ ?_ (fun hHeldB => ?_)
    · (try dsimp only); try trivial
    clear hK K hHeld
    have hHeld := hHeldB
    clear hHeldB
    try simp only [Act.put, List.setIfInBounds_toArray, List.set_cons_zero, List.set_cons_succ]
    refine wpAnyH_done (by kernel_rfl) ?_ _
    obtain ⟨W6, hW6⟩ : ∃ W6, W6 = w5.setCell ⟨kb, 1, none⟩ (.slice a5 (KK.length + 1) k5) := ⟨_, rfl⟩
    have hfin := kin_add HKB.out HEN.out HSV.out HSET.out HFK.out HSO.out HOW.out HFL.out HK2.out HT2.out HRo.out HO2.out hl HW3 HU3.out HB5.out HO5.out HG5.out HA5.out hW6
    have HF6 : Hid (KIn (newF F w W6) W6 (.pointer (some ⟨kb, 0, none⟩)) most (KK ++ [s])) := hfin.1
    have HP6 : Hid (Kp F w W6) := hfin.2
    clear hfin HT HEN HSV HSET HSO HOW HKI HKB HK2 HT2 HRo HO2 HKB2 HSV2 HV2 HS0 HU3 HB5 HO5 HG5 HA5 HHas
    go_wp2_with (go_at_call 49; fail)
    rw [← hW6]
    clear hW6
    refine (check_any _ W6 _ most _ HF6.out).mono ?_
    rintro e w7 ⟨hch, hw⟩
    rcases hch with ⟨rfl, hch⟩ | ⟨he, hch⟩
    · have HR : Hid (KR F most (addL KK s) (.pointer (some ⟨kb, 0, none⟩)) w (.returned (.tuple #[])) w7) := by
        show KR _ _ _ _ _ _ _
        rw [HNo.out]
        obtain ⟨q, rfl⟩ := hw
        exact ⟨Or.inl ⟨rfl, hch, HF6.out.frame (Kp.of_below (F := fun _ => False) (below_drewN (below_refl W6) q)) fun _ _ h => h⟩, HP6.out.trans (Kp.of_below (F := F) (below_drewN (below_refl W6) q)) fun _ _ h => h⟩
      clear hch hw
      go_wp2
      all_goals first | go_end0 | go_ret | (refine bodyPost_ret (results_none rfl _ _ _) rfl ?_)
      all_goals exact HR.out
    · have HR : Hid (KR F most (addL KK s) (.pointer (some ⟨kb, 0, none⟩)) w pB w7) := by
        show KR _ _ _ _ _ _ _
        rw [HNo.out]
        obtain ⟨q, rfl⟩ := hw
        exact ⟨Or.inr ⟨rfl, hch⟩, HP6.out.trans (Kp.of_below (F := F) (below_drewN (below_refl W6) q)) fun _ _ h => h⟩
      clear hch hw
      unfold pB at he
      subst he
      exact ⟨rfl, HR.out⟩
end Go.Proofs.Yteaajhpgmndomaa
