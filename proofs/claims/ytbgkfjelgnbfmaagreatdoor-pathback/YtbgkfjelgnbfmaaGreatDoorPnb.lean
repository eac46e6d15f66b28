/- Name. -/
import Derived.Test.YtbgkfjelgnbfmaaGreatDoorPnm
namespace Go.Proofs.YtbgkfjelgnbfmaaGreatDoor
open Go.RowKit Fo
set_option maxRecDepth 100000
set_option linter.unusedSimpArgs false
set_option linter.unusedVariables false

theorem ret_str {a b : ByteArray} (h : a = b) : Ending.returned (.string a) = .returned (.string b) := by rw [h]
namespace Fo
theorem esc_take (l : List UInt8) (k : Nat) (h : k < l.length) : esc (l.take (k + 1)) = esc (l.take k) ++ escB l[k] := by
  induction l generalizing k with
  | nil => simp at h
  | cons a r ih =>
    cases k with
    | zero => simp [esc]
    | succ k => simp only [List.take_succ_cons, esc, List.getElem_cons_succ]; rw [ih k (by simpa using h), List.append_assoc]
theorem escB_len (c : UInt8) : (escB c).length ≤ 3 := by unfold escB; split <;> simp
theorem esc_len : ∀ l : List UInt8, (esc l).length ≤ 3 * l.length
  | [] => by simp [esc]
  | c :: r => by
    have := esc_len r
    have := escB_len c
    simp [esc]; omega
theorem byt_at (l : List UInt8) (k : Nat) (h : k < l.length) : byt l k = l[k].toNat := by unfold byt; rw [List.getD_eq_getElem?_getD, List.getElem?_eq_getElem h]; rfl
end Fo
theorem conv_ow {w : World} {B : Nat} {v : Value} {L : List UInt8} {n : Nat} (hn : L.length = n) (h : Ow 5 B w v n (bvs L)) : (convert 50 9 v).run Tryz.prog w = .ok (.string (str L)) w := by
  subst hn
  obtain ⟨a, c, rfl, hr⟩ := h.rd
  cases a with
  | none =>
    have h0 : L.length = 0 := by
      rcases hr.2.2 with h0 | ⟨b, off, e, -⟩
      · exact h0
      · cases e
    obtain rfl : L = [] := List.length_eq_zero_iff.1 h0
    show (convert 50 9 (.slice none 0 c)).run Tryz.prog w = _
    rw [run_convert_bytes_string (P := Tryz.prog) w 50 9 5 none 0 c Tryz.underlying50 Tryz.underlying5 Tryz.underlying9]
    simp [Conv.bytesToString, str]
    try rfl
  | some ad =>
    refine run_convert_bytes_back (P := Tryz.prog) w 50 9 5 ad c L Tryz.underlying50 Tryz.underlying5 Tryz.underlying9 (fun j hj => ?_)
    obtain ⟨b, off, e, hc⟩ := hr.at (by omega)
    obtain rfl : ad = ⟨b, off, none⟩ := by simpa using e
    rw [add_off, hc j hj]
    unfold bvs
    rw [byt_at L j hj]
theorem row_one (w : World) (B : Nat) (x : UInt8) (hB : B ≤ w.heap.size) : Ow 5 B (w.alloc (.cells #[.int .u8 x.toNat] 5)) (.slice (some ⟨w.heap.size, 0, none⟩) 1 1) 1 (bvs [x]) :=
  ⟨rfl, Or.inr ⟨w.heap.size, 1, _, rfl, hB, heap_new1 w _, Nat.le_refl _, by decide, rfl, rfl⟩⟩
theorem row_nil (w : World) (B : Nat) : Ow 5 B w (.slice none 0 0) 0 (bvs []) := Ow.nil _ _ _ _
theorem scl_any (w : World) (s : ByteArray) (h : s.size ≤ 1000000000) : Calls Tryz.prog 30 #[.string s] w fun e w' => e = .returned (.string s) ∧ Below w.heap.size w w' := by
  go_enter Tryz.func30, Tryz.ntmps30
  go_wp2_with (go_at_call 50; fail)
  refine (Tryz.stringslite_Clone s w (by omega)).mono ?_
  rintro e w2 ⟨rfl, b2⟩
  go_wp2
  go_ret
  exact ⟨rfl, b2⟩
set_option maxHeartbeats 4000000 in
theorem name_any (w : World) (l : List UInt8) (hl : l.length ≤ 100000000) : Calls Tryz.prog 12 #[.string (str l)] w fun e w' => e = .returned (.string (str (nameT l))) ∧ Below w.heap.size w w' := by
  have hsz := str_size l
  have HNT : Hid (nameT l = if isWd l = true then l else 60 :: (esc l ++ [62])) := rfl
  generalize nameT l = R at HNT
  have hat := str_at l
  generalize hS : str l = S at hsz hat
  have HS : Hid (str l = S) := hS
  have HAT : Hid (∀ (j : Nat) (h : j < S.size), (S[j]'h).toNat = byt l j) := hat
  clear hat hS
  go_enter Tryz.func12, Tryz.ntmps12
  go_wp2_with (go_at_call 29; fail)
  rw [← HS.out]
  refine (isw_any w l (by omega)).mono ?_
  rw [HS.out]
  generalize isWd l = b at HNT
  rintro e w2 ⟨rfl, rfl⟩
  cases b
  · have HR : Hid (R = 60 :: (esc l ++ [62])) := HNT.out
    clear HNT
    go_wp2
    obtain ⟨W1, hW1⟩ : ∃ W1, W1 = w2.alloc (.cells #[.int .u8 60] 5) := ⟨_, rfl⟩
    have HB1 : Hid (Below w2.heap.size w2 W1) := by rw [hW1]; exact below1 w2 _
    have HO1 : Hid (Ow 5 w2.heap.size W1 (.slice (some ⟨w2.heap.size, 0, none⟩) 1 1) 1 (bvs [60])) := by rw [hW1]; exact row_one w2 _ 60 (Nat.le_refl _)
    rw [← hW1]
    clear hW1
    go_loopw [3, 12] (fun v3 v12 wr => ∃ (k : Nat) (a : Option Addr) (c : Nat), k ≤ l.length ∧ v3 = .slice a (60 :: esc (l.take k)).length c ∧ v12 = .int .i64 k ∧ Hid (Below w2.heap.size w2 wr) ∧ Hid (Ow 5 w2.heap.size wr (.slice a (60 :: esc (l.take k)).length c) (60 :: esc (l.take k)).length (bvs (60 :: esc (l.take k))))) (fun _ v _ => l.length - (intOf v).toNat)
    case atStart => exact ⟨0, _, _, Nat.zero_le _, rfl, rfl, HB1.out, HO1.out⟩
    case round =>
      obtain ⟨k, a, c, hk, rfl, rfl, HB, HO⟩ := hrel
      rename World => wr
      have hlen : (60 :: esc (l.take k)).length ≤ 300000001 := by
        have := esc_len (l.take k)
        have h2 : (l.take k).length ≤ l.length := by simp; omega
        simp; omega
      by_cases hkl : k < l.length
      · have i1 : (0 : Int) ≤ (k : Int) := by omega
        have i2 : (k : Int) < (S.size : Int) := by omega
        have i3 : k < S.size := by omega
        have HE : Hid (60 :: esc (l.take (k + 1)) = (60 :: esc (l.take k)) ++ escB l[k]) := by show _ = _; rw [esc_take l k hkl]; rfl
        have hby := byt_at l k hkl
        generalize l[k] = x at HE hby
        generalize 60 :: esc (l.take k) = L at HO HE hlen
        go_wp2_with (go_at_call 31; fail)
        rw [HAT.out k i3, hby]
        refine (apb_any wr w2.heap.size a c L x HO.out HB.out.size (by omega)).mono ?_
        rw [← HE.out]
        rintro e w3 ⟨a', c', rfl, ho3, hk3⟩
        have HB3 : Hid (Below w2.heap.size w2 w3) := HB.out.trans (hk3.below HB.out.size fun b hb he => by have := HO.out.row b he; omega)
        have HO3 : Hid (Ow 5 w2.heap.size w3 (.slice a' (60 :: esc (l.take (k + 1))).length c') (60 :: esc (l.take (k + 1))).length (bvs (60 :: esc (l.take (k + 1))))) := ho3
        clear ho3 hk3 hlen
        go_wp2
        exact ⟨⟨k + 1, a', c', by omega, rfl, by simp, HB3.out, HO3.out⟩, by simp [intOf]; omega⟩
      · obtain rfl : k = l.length := by omega
        have HO2 : Hid (Ow 5 w2.heap.size wr (.slice a (60 :: esc l).length c) (60 :: esc l).length (bvs (60 :: esc l))) := by have := HO.out; rwa [List.take_length] at this
        rw [List.take_length] at hlen ⊢
        clear HO
        have HR2 : Hid (R = (60 :: esc l) ++ [62]) := HR.out
        clear HR
        generalize 60 :: esc l = L at HO2 HR2 hlen
        go_wp2_with (at_builtin; refine wpList_app_at eByte rfl _ _ rfl (HO2.out.alloc _) (Nat.le_trans HB.out.size (below1 wr _).size) (one_cell wr _ _) (by decide) (fun _ _ => rfl) (L.length + 1) rfl (by omega) (bvs (L ++ [62])) (fun j hj => catV_bv1 L 62 j hj) rfl rfl ?_; intro a7 c7 w7 hO7 hG7 hA7; have hcv := conv_ow (L := L ++ [62]) (by simp) hO7; have HK7 : Hid (Below w2.heap.size w2 w7) := HB.out.trans (((Kp.of_below (F := fun b => (Value.slice a L.length c).ownBlock = some b) (below1 wr _)).trans (Kp.of_grown (F := fun b => (Value.slice a L.length c).ownBlock = some b) hG7 fun _ h => h) fun _ _ h => h).below HB.out.size fun b hb he => by have := HO2.out.row b he; omega); clear hO7 hG7 hA7)
        go_ret
        exact ⟨ret_str (by rw [HR2.out]), HK7.out⟩
  · have HR : Hid (R = l) := HNT.out
    clear HNT
    go_wp2_with (go_at_call 30; fail)
    refine (scl_any w2 S (by omega)).mono ?_
    rintro e w3 ⟨rfl, b3⟩
    have HB3 : Hid (Below w2.heap.size w2 w3) := b3
    clear b3
    go_wp2
    go_ret
    exact ⟨ret_str (by rw [HR.out, HS.out]), HB3.out⟩
end Go.Proofs.YtbgkfjelgnbfmaaGreatDoor
