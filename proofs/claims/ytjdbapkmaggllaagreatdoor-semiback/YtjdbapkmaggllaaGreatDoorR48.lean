/- nat's Parse. Numbers and their decimal texts: to and fro. -/
import Derived.Test.YtjdbapkmaggllaaGreatDoorR47
namespace Go.Proofs.YtjdbapkmaggllaaGreatDoor
open Go.RowKit Fo
set_option maxRecDepth 100000

/-- What so many decimal digits are worth. -/
def dv (l : List UInt8) : Nat → Nat
  | 0 => 0
  | k + 1 => dv l k * 10 + (byt l k - 48)
/-- What is read, and the error. -/
def PR (l : List UInt8) (X : Option Nat) (q : Int) : Prop :=
  (700 < l.length ∧ X = some 0 ∧ q = 5) ∨ (l.length ≤ 700 ∧ l = [105, 110, 102] ∧ X = none ∧ q = 0) ∨ (l.length ≤ 700 ∧ l ≠ [105, 110, 102] ∧ ¬ decT l ∧ X = some 0 ∧ q = 16) ∨ (l.length ≤ 700 ∧ decT l ∧ X = some (dv l l.length) ∧ q = 0)
theorem inf_not_dec : ¬ decT [105, 110, 102] := fun h => by
  have := (h.2.2 0 (by decide)).2
  revert this; decide
theorem parse_big (l : List UInt8) (w : World) (h : 700 < l.length) :
    Calls Tryz.prog 90 #[.string ⟨l.toArray⟩] w fun e w' => (∃ u X q, e = .returned (.tuple #[u, .int .i64 q]) ∧ NOut w' u X ∧ PR l X q) ∧ Below w.heap.size w w' := by
  have hsz : (⟨l.toArray⟩ : ByteArray).size = l.length := by simp [ByteArray.size]
  have h' : (700 : Int) < (l.length : Int) := by omega
  have HB : Hid (Below w.heap.size w (w.alloc (.cells #[.bool false, .slice none 0 0] 24))) := (below_refl w).alloc (Nat.le_refl _) _
  have HP : Hid (PR l (some 0) 5) := Or.inl ⟨h, rfl, rfl⟩
  clear h
  go_enter Tryz.func90, Tryz.ntmps90
  go_wp2
  exact bodyPost_ret (v := .tuple #[.agg #[.bool false, .slice none 0 0], .int .i64 5]) (by simp [results, Tryz.results90, go_sem]) rfl ⟨⟨_, some 0, 5, rfl, nout_zero _, HP.out⟩, HB.out⟩
theorem parse_inf (w : World) :
    Calls Tryz.prog 90 #[.string ⟨([105, 110, 102] : List UInt8).toArray⟩] w fun e w' => (∃ u X q, e = .returned (.tuple #[u, .int .i64 q]) ∧ NOut w' u X ∧ PR [105, 110, 102] X q) ∧ Below w.heap.size w w' := by
  have HB : Hid (Below w.heap.size w (w.alloc (.cells #[.bool false, .slice none 0 0] 24))) := (below_refl w).alloc (Nat.le_refl _) _
  have HP : Hid (PR [105, 110, 102] none 0) := Or.inr (Or.inl ⟨by decide, rfl, rfl, rfl⟩)
  have HI : Hid (Calls Tryz.prog 34 #[] (w.alloc (.cells #[.bool false, .slice none 0 0] 24)) fun e w' => (e = .returned (.agg #[.bool true, .slice none 0 0])) ∧ Below (w.alloc (.cells #[.bool false, .slice none 0 0] 24)).heap.size (w.alloc (.cells #[.bool false, .slice none 0 0] 24)) w') := inf_any _
  have Hg : Hid ((w.alloc (.cells #[.bool false, .slice none 0 0] 24)).heap[w.heap.size]? = some (.cells #[.bool false, .slice none 0 0] 24)) := heap_alloc_new _ _
  go_enter Tryz.func90, Tryz.ntmps90
  go_wp2_with (go_at_call 34; fail)
  refine HI.out.mono ?_
  rintro e w2 ⟨rfl, hB⟩
  have hg2 := (hB.block _ (by simp)).trans Hg.out
  obtain ⟨b0, b1, b2, b3, b4, b5⟩ := box_facts hg2
  have HB2 : Hid (Below w.heap.size w w2) := below_step HB.out hB
  clear hg2 hB HI
  go_wp2
  exact bodyPost_ret (v := .tuple #[.agg #[.bool true, .slice none 0 0], .int .i64 0]) (by simp [results, Tryz.results90, go_sem, b4, b5]) rfl ⟨⟨_, none, 0, rfl, nout_inf _, HP.out⟩, below_set HB2.out (Nat.le_refl _) _ _⟩
theorem parse_bad (l : List UInt8) (w : World) (h : l.length ≤ 700) (h1 : l ≠ [105, 110, 102]) (h2 : ¬ decT l) :
    Calls Tryz.prog 90 #[.string ⟨l.toArray⟩] w fun e w' => (∃ u X q, e = .returned (.tuple #[u, .int .i64 q]) ∧ NOut w' u X ∧ PR l X q) ∧ Below w.heap.size w w' := by
  have hsz : (⟨l.toArray⟩ : ByteArray).size = l.length := by simp [ByteArray.size]
  have h' : ¬ (700 : Int) < (l.length : Int) := by omega
  have hl : (l == [105, 110, 102]) = false := by simpa using h1
  have HB : Hid (Below w.heap.size w (w.alloc (.cells #[.bool false, .slice none 0 0] 24))) := (below_refl w).alloc (Nat.le_refl _) _
  have HP : Hid (PR l (some 0) 16) := Or.inr (Or.inr (Or.inl ⟨h, h1, h2, rfl, rfl⟩))
  have HI : Hid (Calls Tryz.prog 110 #[.string ⟨l.toArray⟩] (w.alloc (.cells #[.bool false, .slice none 0 0] 24)) fun e w' => e = .returned (.bool false) ∧ Below (w.alloc (.cells #[.bool false, .slice none 0 0] 24)).heap.size (w.alloc (.cells #[.bool false, .slice none 0 0] 24)) w') := isd_any l (by omega) _ false (fun hd => absurd hd h2) (fun _ => rfl)
  have Hg : Hid ((w.alloc (.cells #[.bool false, .slice none 0 0] 24)).heap[w.heap.size]? = some (.cells #[.bool false, .slice none 0 0] 24)) := heap_alloc_new _ _
  clear h h1 h2
  go_enter Tryz.func90, Tryz.ntmps90
  go_wp2_with (go_at_call 110; fail)
  refine HI.out.mono ?_
  rintro e w2 ⟨rfl, hB⟩
  have hg2 := (hB.block _ (by simp)).trans Hg.out
  obtain ⟨b0, b1, b2, b3, b4, b5⟩ := box_facts hg2
  have HB2 : Hid (Below w.heap.size w w2) := below_step HB.out hB
  clear hg2 hB HI
  go_wp2
  exact bodyPost_ret (v := .tuple #[.agg #[.bool false, .slice none 0 0], .int .i64 16]) (by simp [results, Tryz.results90, go_sem, b4, b5]) rfl ⟨⟨_, some 0, 16, rfl, nout_zero _, HP.out⟩, below_set HB2.out (Nat.le_refl _) _ _⟩
set_option maxHeartbeats 4000000 in
theorem parse_good (l : List UInt8) (w : World) (h : l.length ≤ 700) (h2 : decT l) :
    Calls Tryz.prog 90 #[.string ⟨l.toArray⟩] w fun e w' => (∃ u X q, e = .returned (.tuple #[u, .int .i64 q]) ∧ NOut w' u X ∧ PR l X q) ∧ Below w.heap.size w w' := by
  have hsz : (⟨l.toArray⟩ : ByteArray).size = l.length := by simp [ByteArray.size]
  have h' : ¬ (700 : Int) < (l.length : Int) := by omega
  have hl : (l == [105, 110, 102]) = false := by
    have : l ≠ [105, 110, 102] := fun e => inf_not_dec (e ▸ h2)
    simpa using this
  have HB : Hid (Below w.heap.size w (w.alloc (.cells #[.bool false, .slice none 0 0] 24))) := (below_refl w).alloc (Nat.le_refl _) _
  have HP : Hid (PR l (some (dv l l.length)) 0) := Or.inr (Or.inr (Or.inr ⟨h, h2, rfl, rfl⟩))
  have HI : Hid (Calls Tryz.prog 110 #[.string ⟨l.toArray⟩] (w.alloc (.cells #[.bool false, .slice none 0 0] 24)) fun e w' => e = .returned (.bool true) ∧ Below (w.alloc (.cells #[.bool false, .slice none 0 0] 24)).heap.size (w.alloc (.cells #[.bool false, .slice none 0 0] 24)) w') := isd_any l (by omega) _ true (fun _ => rfl) (fun hd => absurd h2 hd)
  have Hg : Hid ((w.alloc (.cells #[.bool false, .slice none 0 0] 24)).heap[w.heap.size]? = some (.cells #[.bool false, .slice none 0 0] 24)) := heap_alloc_new _ _
  have HD : Hid (digB l) := h2.2.2
  clear h2
  go_enter Tryz.func90, Tryz.ntmps90
  go_wp2_with (go_at_call 110; fail)
  refine HI.out.mono ?_
  rintro e w2 ⟨rfl, hB⟩
  obtain ⟨c, w3, hcv, hB3, hcell⟩ := conv_bytes l w2
  have hg2 := (hB.block _ (by simp)).trans Hg.out
  have hs2 : w.heap.size < w2.heap.size := by have := hB.size; simp at this; omega
  have Hg3 : Hid (w3.heap[w.heap.size]? = some (.cells #[.bool false, .slice none 0 0] 24)) := (hB3.block _ hs2).trans hg2
  have HB3 : Hid (Below w.heap.size w w3) := below_step (below_step HB.out hB) hB3
  have HCELL : Hid (∀ j, j < l.length → w3.cell? ⟨w2.heap.size, j, none⟩ = some (.int .u8 (byt l j : Int))) := hcell
  have hs3 : w2.heap.size ≤ w3.heap.size := hB3.size
  clear hg2 hB HI hB3 hcell Hg
  go_wp2
  clear hcv
  go_loopw [4, 24] (fun v4 v24 wq => ∃ (k n : Nat) (a4 : Option Addr) (c4 : Nat) (K : Nat → Nat), k ≤ l.length ∧ v24 = .int .i64 k ∧ n ≤ k ∧ v4 = .slice a4 n c4 ∧ Hid (Below w3.heap.size w3 wq) ∧ Hid (Ow 66 w3.heap.size wq (.slice a4 n c4) n (u32s K)) ∧ Hid ((∀ j, K j < 4294967296) ∧ lv K n = dv l k)) (fun _ v24 _ => l.length - (intOf v24).toNat)
  case atStart => exact ⟨0, 0, none, 0, fun _ => 0, Nat.zero_le _, rfl, Nat.le_refl _, rfl, below_refl _, Ow.nil _ _ _ _, fun _ => Nat.lt_of_lt_of_le Nat.zero_lt_one (by decide), rfl⟩
  case round =>
    obtain ⟨k, n, a4, c4, K, hk, rfl, hnk, rfl, HW, HO, HI⟩ := hrel
    rename World => wq
    by_cases hkl : k < l.length
    · have hck : wq.cell? ⟨w2.heap.size, k, none⟩ = some (.int .u8 (byt l k : Int)) := by
        have h3 := HCELL.out k hkl
        rw [HW.out.cell (World.block_lt_of_cell? w3 _ h3)]
        exact h3
      obtain ⟨hd1, hd2⟩ := HD.out k hkl
      obtain ⟨x, hx⟩ : ∃ x, x = byt l k - 48 := ⟨_, rfl⟩
      have hbx : (byt l k : Int) = (x : Int) + 48 := by omega
      have hx10 : x < 10 := by omega
      rw [hbx] at hck
      have hw1 : IntKind.u8.wrap ((x : Int) + 48 - 48) = (x : Int) := by rw [IntKind.wrap_u8]; omega
      have hw2 : IntKind.u32.wrap (x : Int) = (x : Int) := by rw [IntKind.wrap_u32]; omega
      have HS : Hid (Calls Tryz.prog 111 #[.slice a4 n c4, .int .u32 x] wq fun e w' => Sh w3.heap.size w' e (lv K n * 10 + x) n ∧ Below w3.heap.size wq w') := shift_any w3.heap.size a4 n c4 K x wq HO.out HI.out.1 (by omega) hx10 HW.out.size
      have HV : Hid (lv K n * 10 + x = dv l (k + 1)) := by
        show _ = dv l k * 10 + (byt l k - 48)
        rw [HI.out.2, hx]
      have i1 : (0 : Int) ≤ (k : Int) := by omega
      have i2 : (k : Int) < (l.length : Int) := by omega
      clear hbx hx hd1 hd2 HI HO
      go_wp2_with (go_at_call 111; fail)
      refine HS.out.mono ?_
      rintro e w5 ⟨⟨a5, n5, c5, K5, rfl, hn5, hO5, hK5, hV5⟩, hB5⟩
      have HW5 : Hid (Below w3.heap.size w3 w5) := HW.out.trans hB5
      have HO5 : Hid (Ow 66 w3.heap.size w5 (.slice a5 n5 c5) n5 (u32s K5)) := hO5
      have HI5 : Hid ((∀ j, K5 j < 4294967296) ∧ lv K5 n5 = dv l (k + 1)) := ⟨hK5, by rw [hV5, HV.out]⟩
      clear hO5 hK5 hV5 hB5 HS HV
      go_wp2
      go_roundw
      case rel => exact ⟨k + 1, n5, a5, c5, K5, by omega, by go_num, by omega, rfl, HW5, HO5, HI5⟩
      case measure => simp [intOf]; omega
    · obtain rfl : k = l.length := by omega
      have HN : Hid (Calls Tryz.prog 60 #[.slice a4 n c4] wq fun e w' => (∃ u, e = .returned u ∧ NOut w' u (some (dv l l.length))) ∧ Below wq.heap.size wq w') := number_any a4 n c4 K wq HO.out.rd1 HI.out.1 _ HI.out.2
      clear HI HO
      go_wp2_with (go_at_call 60; fail)
      refine HN.out.mono ?_
      rintro e w5 ⟨⟨u, rfl, hu⟩, hB⟩
      have hg5 := (hB.block w.heap.size (by have := HW.out.size; omega)).trans ((HW.out.block w.heap.size (by omega)).trans Hg3.out)
      obtain ⟨b0, b1, b2, b3, b4, b5⟩ := box_facts hg5
      have HG5 : Hid (w5.heap[w.heap.size]? = some (.cells #[.bool false, .slice none 0 0] 24)) := hg5
      have HU : Hid (NOut w5 u (some (dv l l.length))) := hu
      have HB5 : Hid (Below w.heap.size w w5) := below_step (below_step HB3.out HW.out) hB
      obtain ⟨iu, au, nu, cu, rfl, -, -, -⟩ := hu.form
      clear hg5 hu hB HN
      go_wp2
      exact bodyPost_ret (v := .tuple #[.agg #[.bool iu, .slice au nu cu], .int .i64 0]) (by simp [results, Tryz.results90, go_sem, b4, b5]) rfl ⟨⟨_, some (dv l l.length), 0, rfl, HU.out.set HG5.out iu _, HP.out⟩, below_set HB5.out (Nat.le_refl _) _ _⟩
/-- nat's Parse. -/
theorem parse_any (l : List UInt8) (w : World) : Calls Tryz.prog 90 #[.string ⟨l.toArray⟩] w fun e w' => (∃ u X q, e = .returned (.tuple #[u, .int .i64 q]) ∧ NOut w' u X ∧ PR l X q) ∧ Below w.heap.size w w' := by
  by_cases h : 700 < l.length
  · exact parse_big l w h
  · by_cases h1 : l = [105, 110, 102]
    · subst h1; exact parse_inf w
    · by_cases h2 : decT l
      · exact parse_good l w (by omega) h2
      · exact parse_bad l w (by omega) h1 h2
end Go.Proofs.YtjdbapkmaggllaaGreatDoor

namespace Go.Proofs.YtjdbapkmaggllaaGreatDoor
open Go.RowKit Fo
set_option maxRecDepth 100000

theorem byt_app (l : List UInt8) (c : UInt8) (k : Nat) (h : k < l.length) : byt (l ++ [c]) k = byt l k := by
  unfold byt
  rw [List.getD_eq_getElem?_getD, List.getD_eq_getElem?_getD, List.getElem?_append_left h]
theorem byt_last (l : List UInt8) (c : UInt8) : byt (l ++ [c]) l.length = c.toNat := by
  unfold byt
  rw [List.getD_eq_getElem?_getD, List.getElem?_append_right (Nat.le_refl _)]
  simp
theorem dv_app (l : List UInt8) (c : UInt8) : ∀ k, k ≤ l.length → dv (l ++ [c]) k = dv l k
  | 0, _ => rfl
  | k + 1, h => by
    show dv (l ++ [c]) k * 10 + (byt (l ++ [c]) k - 48) = dv l k * 10 + (byt l k - 48)
    rw [dv_app l c k (by omega), byt_app l c k (by omega)]
theorem dv_snoc (l : List UInt8) (c : UInt8) : dv (l ++ [c]) (l ++ [c]).length = dv l l.length * 10 + (c.toNat - 48) := by
  rw [List.length_append, List.length_singleton]
  show dv (l ++ [c]) l.length * 10 + (byt (l ++ [c]) l.length - 48) = _
  rw [dv_app l c _ (Nat.le_refl _), byt_last]
theorem dig_toNat (d : Nat) (h : d < 10) : (UInt8.ofNat (48 + d)).toNat = 48 + d := by
  rw [UInt8.toNat_ofNat']; omega
theorem dec_ne (N : Nat) : Lib.decDigits N ≠ [] := by
  by_cases h : N < 10
  · rw [Lib.decDigits_one h]; simp
  · rw [dec_big N h]; simp
theorem len_pos {l : List UInt8} (h : l ≠ []) : 0 < l.length := by cases l <;> simp_all
theorem dec_facts (N : Nat) : digB (Lib.decDigits N) ∧ dv (Lib.decDigits N) (Lib.decDigits N).length = N ∧ (0 < N → byt (Lib.decDigits N) 0 ≠ 48) := by
  induction N using Nat.strongRecOn with
  | _ N ih =>
    by_cases h : N < 10
    · rw [Lib.decDigits_one h]
      have hb : byt [UInt8.ofNat (48 + N)] 0 = 48 + N := dig_toNat N h
      refine ⟨fun j hj => ?_, ?_, fun hp => ?_⟩
      · obtain rfl : j = 0 := by simp at hj; omega
        rw [hb]; omega
      · show 0 * 10 + (byt [UInt8.ofNat (48 + N)] 0 - 48) = N
        rw [hb]; omega
      · rw [hb]; omega
    · obtain ⟨h1, h2, h3⟩ := ih (N / 10) (by omega)
      have hd := dig_toNat (N % 10) (by omega)
      rw [dec_big N h]
      have hp := len_pos (dec_ne (N / 10))
      refine ⟨fun j hj => ?_, ?_, fun _ => ?_⟩
      · rw [List.length_append, List.length_singleton] at hj
        by_cases e : j < (Lib.decDigits (N / 10)).length
        · rw [byt_app _ _ _ e]; exact h1 j e
        · obtain rfl : j = (Lib.decDigits (N / 10)).length := by omega
          rw [byt_last, hd]; omega
      · rw [dv_snoc, h2, hd]; omega
      · rw [byt_app _ _ _ hp]; exact h3 (by omega)
theorem dec_dec (N : Nat) : decT (Lib.decDigits N) := by
  obtain ⟨h1, -, h3⟩ := dec_facts N
  refine ⟨dec_ne N, ?_, h1⟩
  rcases Nat.eq_zero_or_pos N with h | h
  · right; rw [h, Lib.decDigits_one (by decide)]; decide
  · exact Or.inl (h3 h)
theorem dec_dv (N : Nat) : dv (Lib.decDigits N) (Lib.decDigits N).length = N := (dec_facts N).2.1
theorem dv_pos (l : List UInt8) (h0 : 48 < byt l 0) : ∀ k, 0 < k → 0 < dv l k
  | 1, _ => by show 0 < 0 * 10 + (byt l 0 - 48); omega
  | k + 2, _ => by
    have := dv_pos l h0 (k + 1) (by omega)
    show 0 < dv l (k + 1) * 10 + _
    omega
theorem ofNat_toNat (c : UInt8) : UInt8.ofNat c.toNat = c := UInt8.ofNat_toNat
theorem dv_dec_len : ∀ (n : Nat) (l : List UInt8), l.length = n → decT l → Lib.decDigits (dv l l.length) = l
  | 0, l, hl, h => absurd (List.eq_nil_of_length_eq_zero hl) h.1
  | n + 1, l, hl, h => by
    obtain ⟨l', c, rfl⟩ : ∃ l' c, l = l' ++ [c] := ⟨l.dropLast, l.getLast h.1, (List.dropLast_concat_getLast h.1).symm⟩
    have hl' : l'.length = n := by rw [List.length_append, List.length_singleton] at hl; omega
    have hc := h.2.2 l'.length (by rw [List.length_append, List.length_singleton]; omega)
    rw [byt_last] at hc
    rw [dv_snoc]
    by_cases h0 : l' = []
    · subst h0
      show Lib.decDigits (0 * 10 + (c.toNat - 48)) = [c]
      rw [Nat.zero_mul, Nat.zero_add, Lib.decDigits_one (by omega), show 48 + (c.toNat - 48) = c.toNat by omega, ofNat_toNat]
    · have hp := len_pos h0
      have hb0 : byt (l' ++ [c]) 0 = byt l' 0 := byt_app l' c 0 hp
      have hd : digB l' := fun j hj => by
        have := h.2.2 j (by rw [List.length_append, List.length_singleton]; omega)
        rwa [byt_app l' c j hj] at this
      have hh : byt l' 0 ≠ 48 := by
        rcases h.2.1 with h1 | h1
        · rwa [hb0] at h1
        · exfalso
          have := congrArg List.length h1
          simp at this
          exact h0 this
      have ih := dv_dec_len n l' hl' ⟨h0, Or.inl hh, hd⟩
      have hp' := dv_pos l' (by have := (hd 0 hp).1; omega) l'.length hp
      rw [dec_big _ (by omega), show (dv l' l'.length * 10 + (c.toNat - 48)) / 10 = dv l' l'.length by omega, show (dv l' l'.length * 10 + (c.toNat - 48)) % 10 = c.toNat - 48 by omega, ih, show 48 + (c.toNat - 48) = c.toNat by omega, ofNat_toNat]
theorem dv_dec (l : List UInt8) (h : decT l) : Lib.decDigits (dv l l.length) = l := dv_dec_len _ l rfl h
end Go.Proofs.YtjdbapkmaggllaaGreatDoor
