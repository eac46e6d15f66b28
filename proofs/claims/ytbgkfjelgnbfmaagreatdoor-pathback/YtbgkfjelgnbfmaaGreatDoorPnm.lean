/- Names, written. -/
import Derived.Test.YtbgkfjelgnbfmaaGreatDoorPow
import Derived.Test.YtbgkfjelgnbfmaaGreatDoorShelf
import Derived.Test.YtbgkfjelgnbfmaaGreatDoorBap
import Derived.Test.YtbgkfjelgnbfmaaGreatDoorBcl
import Derived.Deep.RegionHeld3
namespace Go.Proofs.YtbgkfjelgnbfmaaGreatDoor
open Go.RowKit Fo
set_option maxRecDepth 100000
set_option linter.unusedSimpArgs false
set_option linter.unusedVariables false

namespace Fo
def str (l : List UInt8) : ByteArray := ⟨l.toArray⟩
def byt (l : List UInt8) (j : Nat) : Nat := (l.getD j 0).toNat
theorem byt_lt (l : List UInt8) (j : Nat) : byt l j < 256 := UInt8.toNat_lt _
theorem str_size (l : List UInt8) : (str l).size = l.length := by simp [str, ByteArray.size]
theorem str_at (l : List UInt8) (j : Nat) (h : j < (str l).size) : ((str l)[j]'h).toNat = byt l j := by
  have hj : j < l.length := by rw [str_size] at h; exact h
  unfold byt
  rw [List.getD_eq_getElem?_getD, List.getElem?_eq_getElem hj]
  rfl
theorem str_list (b : ByteArray) : str b.data.toList = b := by unfold str; simp
end Fo
namespace Fo
def wordN (n : Nat) : Bool := decide (97 ≤ n) && decide (n ≤ 122) || decide (65 ≤ n) && decide (n ≤ 90) || decide (48 ≤ n) && decide (n ≤ 57) || decide (n = 95)
end Fo
theorem wordB_N (c : UInt8) : wordB c = wordN c.toNat := rfl
set_option maxHeartbeats 4000000 in
theorem wby_any (w : World) (n : Nat) (hn : n < 256) : Calls Tryz.prog 49 #[.int .u8 n] w fun e w' => e = .returned (.bool (wordN n)) ∧ w' = w := by
  by_cases h0 : n ≤ 47
  · have hlo : 0 ≤ n := by omega
    have hA : ¬ (97 : Int) ≤ (n : Int) := by omega
    have hB : (n : Int) ≤ 122 := by omega
    have hC : ¬ (65 : Int) ≤ (n : Int) := by omega
    have hD : (n : Int) ≤ 90 := by omega
    have hE : ¬ (48 : Int) ≤ (n : Int) := by omega
    have hF : (n : Int) ≤ 57 := by omega
    have hG : ((n : Int) == 95) = false := by simp; omega
    have HW : Hid (wordN n = false) := by show _ = _; unfold wordN; simp; omega
    go_enter Tryz.func49, Tryz.ntmps49
    go_wp2
    go_ret
    exact ⟨ret_bool (by rw [HW.out]), rfl⟩
  by_cases h48 : n ≤ 57
  · have hlo : 48 ≤ n := by omega
    have hA : ¬ (97 : Int) ≤ (n : Int) := by omega
    have hB : (n : Int) ≤ 122 := by omega
    have hC : ¬ (65 : Int) ≤ (n : Int) := by omega
    have hD : (n : Int) ≤ 90 := by omega
    have hE : (48 : Int) ≤ (n : Int) := by omega
    have hF : (n : Int) ≤ 57 := by omega
    have hG : ((n : Int) == 95) = false := by simp; omega
    have HW : Hid (wordN n = true) := by show _ = _; unfold wordN; simp; omega
    go_enter Tryz.func49, Tryz.ntmps49
    go_wp2
    go_ret
    exact ⟨ret_bool (by rw [HW.out]), rfl⟩
  by_cases h58 : n ≤ 64
  · have hlo : 58 ≤ n := by omega
    have hA : ¬ (97 : Int) ≤ (n : Int) := by omega
    have hB : (n : Int) ≤ 122 := by omega
    have hC : ¬ (65 : Int) ≤ (n : Int) := by omega
    have hD : (n : Int) ≤ 90 := by omega
    have hE : (48 : Int) ≤ (n : Int) := by omega
    have hF : ¬ (n : Int) ≤ 57 := by omega
    have hG : ((n : Int) == 95) = false := by simp; omega
    have HW : Hid (wordN n = false) := by show _ = _; unfold wordN; simp; omega
    go_enter Tryz.func49, Tryz.ntmps49
    go_wp2
    go_ret
    exact ⟨ret_bool (by rw [HW.out]), rfl⟩
  by_cases h65 : n ≤ 90
  · have hlo : 65 ≤ n := by omega
    have hA : ¬ (97 : Int) ≤ (n : Int) := by omega
    have hB : (n : Int) ≤ 122 := by omega
    have hC : (65 : Int) ≤ (n : Int) := by omega
    have hD : (n : Int) ≤ 90 := by omega
    have hE : (48 : Int) ≤ (n : Int) := by omega
    have hF : ¬ (n : Int) ≤ 57 := by omega
    have hG : ((n : Int) == 95) = false := by simp; omega
    have HW : Hid (wordN n = true) := by show _ = _; unfold wordN; simp; omega
    go_enter Tryz.func49, Tryz.ntmps49
    go_wp2
    go_ret
    exact ⟨ret_bool (by rw [HW.out]), rfl⟩
  by_cases h91 : n ≤ 94
  · have hlo : 91 ≤ n := by omega
    have hA : ¬ (97 : Int) ≤ (n : Int) := by omega
    have hB : (n : Int) ≤ 122 := by omega
    have hC : (65 : Int) ≤ (n : Int) := by omega
    have hD : ¬ (n : Int) ≤ 90 := by omega
    have hE : (48 : Int) ≤ (n : Int) := by omega
    have hF : ¬ (n : Int) ≤ 57 := by omega
    have hG : ((n : Int) == 95) = false := by simp; omega
    have HW : Hid (wordN n = false) := by show _ = _; unfold wordN; simp; omega
    go_enter Tryz.func49, Tryz.ntmps49
    go_wp2
    go_ret
    exact ⟨ret_bool (by rw [HW.out]), rfl⟩
  by_cases h95 : n ≤ 95
  · have hlo : 95 ≤ n := by omega
    have hA : ¬ (97 : Int) ≤ (n : Int) := by omega
    have hB : (n : Int) ≤ 122 := by omega
    have hC : (65 : Int) ≤ (n : Int) := by omega
    have hD : ¬ (n : Int) ≤ 90 := by omega
    have hE : (48 : Int) ≤ (n : Int) := by omega
    have hF : ¬ (n : Int) ≤ 57 := by omega
    have hG : ((n : Int) == 95) = true := by simp; omega
    have HW : Hid (wordN n = true) := by show _ = _; unfold wordN; simp; omega
    go_enter Tryz.func49, Tryz.ntmps49
    go_wp2
    go_ret
    exact ⟨ret_bool (by rw [HW.out]), rfl⟩
  by_cases h96 : n ≤ 96
  · have hlo : 96 ≤ n := by omega
    have hA : ¬ (97 : Int) ≤ (n : Int) := by omega
    have hB : (n : Int) ≤ 122 := by omega
    have hC : (65 : Int) ≤ (n : Int) := by omega
    have hD : ¬ (n : Int) ≤ 90 := by omega
    have hE : (48 : Int) ≤ (n : Int) := by omega
    have hF : ¬ (n : Int) ≤ 57 := by omega
    have hG : ((n : Int) == 95) = false := by simp; omega
    have HW : Hid (wordN n = false) := by show _ = _; unfold wordN; simp; omega
    go_enter Tryz.func49, Tryz.ntmps49
    go_wp2
    go_ret
    exact ⟨ret_bool (by rw [HW.out]), rfl⟩
  by_cases h97 : n ≤ 122
  · have hlo : 97 ≤ n := by omega
    have hA : (97 : Int) ≤ (n : Int) := by omega
    have hB : (n : Int) ≤ 122 := by omega
    have hC : (65 : Int) ≤ (n : Int) := by omega
    have hD : ¬ (n : Int) ≤ 90 := by omega
    have hE : (48 : Int) ≤ (n : Int) := by omega
    have hF : ¬ (n : Int) ≤ 57 := by omega
    have hG : ((n : Int) == 95) = false := by simp; omega
    have HW : Hid (wordN n = true) := by show _ = _; unfold wordN; simp; omega
    go_enter Tryz.func49, Tryz.ntmps49
    go_wp2
    go_ret
    exact ⟨ret_bool (by rw [HW.out]), rfl⟩
  by_cases h123 : n ≤ 255
  · have hlo : 123 ≤ n := by omega
    have hA : (97 : Int) ≤ (n : Int) := by omega
    have hB : ¬ (n : Int) ≤ 122 := by omega
    have hC : (65 : Int) ≤ (n : Int) := by omega
    have hD : ¬ (n : Int) ≤ 90 := by omega
    have hE : (48 : Int) ≤ (n : Int) := by omega
    have hF : ¬ (n : Int) ≤ 57 := by omega
    have hG : ((n : Int) == 95) = false := by simp; omega
    have HW : Hid (wordN n = false) := by show _ = _; unfold wordN; simp; omega
    go_enter Tryz.func49, Tryz.ntmps49
    go_wp2
    go_ret
    exact ⟨ret_bool (by rw [HW.out]), rfl⟩
  omega
set_option maxHeartbeats 4000000 in
theorem isw_any (w : World) (l : List UInt8) (hl : l.length ≤ 1000000000) : Calls Tryz.prog 29 #[.string (str l)] w fun e w' => e = .returned (.bool (isWd l)) ∧ w' = w := by
  have hsz := str_size l
  obtain ⟨R, hR⟩ : ∃ R, R = isWd l := ⟨_, rfl⟩
  rw [← hR]
  have HR : Hid (R = (l.all wordB && !l.isEmpty)) := hR
  have hat := str_at l
  generalize hS : str l = S at hsz hat
  have HS : Hid (str l = S) := hS
  have HAT : Hid (∀ (j : Nat) (h : j < S.size), (S[j]'h).toNat = byt l j) := hat
  clear hR hat hS
  go_enter Tryz.func29, Tryz.ntmps29
  go_wp2
  go_loop [6] (fun v6 => ∃ k : Nat, k ≤ l.length ∧ v6 = .int .i64 k ∧ Hid ((l.take k).all wordB = true)) (fun v => l.length - (intOf v).toNat)
  case atStart => exact ⟨0, Nat.zero_le _, rfl, rfl⟩
  case round =>
    obtain ⟨k, hk, rfl, HK⟩ := hrel
    by_cases hkl : k < l.length
    · have i1 : (0 : Int) ≤ (k : Int) := by omega
      have i2 : (k : Int) < (S.size : Int) := by omega
      have i3 : k < S.size := by omega
      go_wp2_with (go_at_call 49; fail)
      rw [HAT.out k i3]
      refine (wby_any w _ (byt_lt l k)).mono ?_
      have hwb : wordN (byt l k) = wordB (l[k]) := by rw [wordB_N]; unfold byt; rw [List.getD_eq_getElem?_getD, List.getElem?_eq_getElem hkl]; rfl
      have htk : (l.take (k + 1)).all wordB = ((l.take k).all wordB && wordN (byt l k)) := by rw [List.take_succ_eq_append_getElem hkl, List.all_append, hwb]; simp
      have HTK : Hid ((l.take (k + 1)).all wordB = ((l.take k).all wordB && wordN (byt l k))) := htk
      have HAL : Hid (wordN (byt l k) = false → l.all wordB = false) := fun h => by
        rw [hwb] at h
        rw [List.all_eq_false]
        exact ⟨l[k], List.getElem_mem hkl, by simp [h]⟩
      clear hwb htk
      generalize wordN (byt l k) = b at HTK HAL
      rintro e w2 ⟨rfl, rfl⟩
      cases b
      · skip
        go_wp2
        go_ret
        exact ⟨ret_bool (by rw [HR.out, HAL.out (by first | rfl | trivial)]; rfl), rfl⟩
      · skip
        go_wp2
        go_round
        case rel => exact ⟨k + 1, by omega, by go_num, by show _ = _; rw [HTK.out, HK.out]; rfl⟩
        case measure => simp [intOf]; omega
    · obtain rfl : k = l.length := by omega
      have HA : Hid (l.all wordB = true) := by have := HK.out; rwa [List.take_length] at this
      clear HK
      by_cases h0 : l = []
      · subst h0
        have hS2 : S = ⟨#[]⟩ := HS.out.symm
        subst hS2
        go_wp2
        go_ret
        exact ⟨ret_bool (by rw [HR.out]; rfl), rfl⟩
      · have hne : S ≠ ⟨#[]⟩ := fun e => by
          rw [← HS.out] at e
          have := congrArg ByteArray.size e
          rw [str_size] at this
          exact h0 (List.length_eq_zero_iff.1 this)
        have HNE : Hid (S ≠ ⟨#[]⟩) := hne
        clear hne
        go_wp2
        go_ret
        exact ⟨ret_bool (by rw [HR.out, HA.out, ByteArray.toList_eq, ← HS.out]; cases l with | nil => exact absurd rfl h0 | cons a r => rfl), rfl⟩
namespace Fo
def hexDs : ByteArray := ⟨#[48, 49, 50, 51, 52, 53, 54, 55, 56, 57, 97, 98, 99, 100, 101, 102]⟩
theorem hex_get : ∀ (q : Nat) (h : q < 16), (hexDs[q]'h).toNat = (hexD q).toNat
  | 0, _ => rfl | 1, _ => rfl | 2, _ => rfl | 3, _ => rfl | 4, _ => rfl | 5, _ => rfl | 6, _ => rfl | 7, _ => rfl
  | 8, _ => rfl | 9, _ => rfl | 10, _ => rfl | 11, _ => rfl | 12, _ => rfl | 13, _ => rfl | 14, _ => rfl | 15, _ => rfl
  | n + 16, h => absurd h (by omega)
theorem and15 (n : Nat) (hn : n < 256) : bits BinOp.and IntKind.u8 (n : Int) 15 = (n : Int) % 16 := by
  have h : ∀ m : Fin 256, bits BinOp.and IntKind.u8 (m.val : Int) 15 = (m.val : Int) % 16 := by decide +kernel
  exact h ⟨n, hn⟩
theorem hex_at (q : Int) (k : Nat) (hb : q.toNat < hexDs.size) (e : q = k) : (hexDs[q.toNat]'hb).toNat = (hexD k).toNat := by
  subst e
  exact hex_get _ hb
theorem hex_hi (n : Nat) (hn : n < 256) (hb : ((n : Int) / 16).toNat < hexDs.size) : (hexDs[((n : Int) / 16).toNat]'hb).toNat = (hexD (n / 16)).toNat := hex_at _ _ hb (by omega)
theorem hex_lo (n : Nat) (hn : n < 256) (hb : ((n : Int) % 16).toNat < hexDs.size) : (hexDs[((n : Int) % 16).toNat]'hb).toNat = (hexD (n % 16)).toNat := hex_at _ _ hb (by omega)
end Fo
noncomputable def eByte : Elt Tryz.prog 50 5 := ⟨Tryz.t5, .int .u8 0, 1, Tryz.underlying50, by kernel_rfl, by kernel_rfl, by kernel_rfl, by kernel_rfl, rfl, by decide⟩
namespace Fo
def bvs (l : List UInt8) (j : Nat) : Value := .int .u8 (byt l j)
end Fo
theorem bvs_one (l : List UInt8) (n j : Nat) (_ : j < n) : (bvs l j).oneCell' = true := rfl
namespace Fo
theorem byt_app (l m : List UInt8) (j : Nat) : byt (l ++ m) j = if j < l.length then byt l j else byt m (j - l.length) := by
  unfold byt
  rw [List.getD_eq_getElem?_getD]
  by_cases h : j < l.length
  · rw [if_pos h, List.getElem?_append_left h, List.getD_eq_getElem?_getD]
  · rw [if_neg h, List.getElem?_append_right (by omega), List.getD_eq_getElem?_getD]
theorem catV_bvs (l m : List UInt8) (j : Nat) : catV (bvs l) l.length (bvs m) j = bvs (l ++ m) j := by
  unfold catV bvs
  rw [byt_app]
  split <;> rfl
theorem catV_bv1 (l : List UInt8) (x : UInt8) (j : Nat) (hj : j < l.length + 1) : catV (bvs l) l.length (fun _ => .int .u8 x.toNat) j = bvs (l ++ [x]) j := by
  unfold catV bvs
  rw [byt_app]
  by_cases h : j < l.length
  · rw [if_pos h, if_pos h]
  · rw [if_neg h, if_neg h, show j - l.length = 0 by omega]; rfl
end Fo
theorem three_cells (w : World) (d1 d2 : UInt8) : Rd (w.alloc (.cells #[.int .u8 92, .int .u8 d1.toNat, .int .u8 d2.toNat] 5)).drew (some ⟨w.heap.size, 0, none⟩) 3 3 (bvs [92, d1, d2]) := by
  refine ⟨Nat.le_refl _, by decide, Or.inr ⟨_, _, rfl, fun j hj => ?_⟩⟩
  show (w.alloc _).cell? _ = _
  rw [cell_of_row _ _ _ _ _ _ (heap_new1 w _)]
  match j, hj with
  | 0, _ => rfl
  | 1, _ => rfl
  | 2, _ => rfl
set_option maxHeartbeats 4000000 in
theorem apb_any (w : World) (B : Nat) (a : Option Addr) (c : Nat) (L : List UInt8) (x : UInt8) (ho : Ow 5 B w (.slice a L.length c) L.length (bvs L)) (hB : B ≤ w.heap.size) (hL : L.length ≤ 999999000) :
    Calls Tryz.prog 31 #[.slice a L.length c, .int .u8 x.toNat] w fun e w' => ∃ a' c', e = .returned (.slice a' (L ++ escB x).length c') ∧ Ow 5 B w' (.slice a' (L ++ escB x).length c') (L ++ escB x).length (bvs (L ++ escB x)) ∧ Kp (fun b => (Value.slice a L.length c).ownBlock = some b) w w' := by
  have hx : x.toNat < 256 := UInt8.toNat_lt x
  by_cases hp : plainB x = true
  · have he : escB x = [x] := by unfold escB; rw [if_pos hp]
    have hpp := hp
    unfold plainB at hpp
    simp at hpp
    have g1 : ¬ (x.toNat : Int) < 32 := by omega
    have g2 : ¬ (126 : Int) < (x.toNat : Int) := by omega
    have g3 : ((x.toNat : Int) == 60) = false := by simp; omega
    have g4 : ((x.toNat : Int) == 62) = false := by simp; omega
    have g5 : ((x.toNat : Int) == 92) = false := by simp; omega
    rw [he]
    clear hpp hp he
    go_enter Tryz.func31, Tryz.ntmps31
    go_wp2_with (at_builtin; refine wpList_app_at eByte rfl _ _ rfl (ho.alloc _) (Nat.le_trans hB (below1 w _).size) (one_cell w _ _) (by decide) (fun _ _ => rfl) (L.length + 1) rfl (by omega) (bvs (L ++ [x])) (fun j hj => catV_bv1 L x j hj) rfl rfl ?_; intro a7 c7 w7 hO7 hG7 hA7)
    go_ret
    refine ⟨a7, c7, by simp, by simpa using hO7, ?_⟩
    exact (Kp.of_below (F := fun b => (Value.slice a L.length c).ownBlock = some b) (below1 w _)).trans (Kp.of_grown (F := fun b => (Value.slice a L.length c).ownBlock = some b) hG7 fun _ h => h) fun _ _ h => h
  · have he : escB x = [92, hexD (x.toNat / 16), hexD (x.toNat % 16)] := by unfold escB; rw [if_neg hp]
    rw [he]
    have hor : x.toNat < 32 ∨ 126 < x.toNat ∨ x.toNat = 60 ∨ x.toNat = 62 ∨ x.toNat = 92 := by
      unfold plainB at hp
      simp at hp
      omega
    have HO : Hid (Ow 5 B w (.slice a L.length c) L.length (bvs L)) := ho
    have HBB : Hid (B ≤ w.heap.size) := hB
    clear hp he ho hB
    by_cases h0 : x.toNat < 32
    · have g0 : (x.toNat : Int) < 32 := by omega
      go_enter Tryz.func31, Tryz.ntmps31
      go_wp2
      refine wp_region_held_drew (S := (fun w' => Kp (fun b => (Value.slice a L.length c).ownBlock = some b) w w')) (by kernel_rfl) ?_ (fun hHeld => ?_)
      · (try dsimp only); exact Kp.of_below (below_refl w).drew
      refine wpAnyH_take (i := 0) (oi := { dst := some 23, op := Op.move (Operand.tmp 0), type := 50, pos := "text.go:52", after := #[], guard := none }) (v := ?vu11) rfl (by kernel_rfl) (by kernel_rfl) (by kernel_rfl) (by intro _ _ _ h; exact h) (Or.inl ⟨by rfl, ?hyu11⟩) (by assumption) ?restu11
      case hyu11 => (intro w hSw; (try dsimp only at hSw); go_simp; (try with_reducible rfl))
      try simp only [Act.put, List.setIfInBounds_toArray, List.set_cons_zero, List.set_cons_succ]
      refine wpAnyH_take (i := 1) (oi := { dst := some 24, op := Op.move (Operand.tmp 1), type := 5, pos := "text.go:52", after := #[], guard := none }) (v := ?vu12) rfl (by kernel_rfl) (by kernel_rfl) (by kernel_rfl) (by intro _ _ _ h; exact h) (Or.inl ⟨by rfl, ?hyu12⟩) (by assumption) ?restu12
      case hyu12 => (intro w hSw; (try dsimp only at hSw); go_simp; (try with_reducible rfl))
      try simp only [Act.put, List.setIfInBounds_toArray, List.set_cons_zero, List.set_cons_succ]
      refine wpAnyH_take (i := 2) (oi := { dst := some 25, op := Op.binOp BinOp.shr 5 (Operand.tmp 24) (Operand.const (Value.int IntKind.u64 4)) 52, type := 5, pos := "text.go:52", after := #[{ on := 1, ground := Ground.data }], guard := none }) (v := ?vu13) rfl (by kernel_rfl) (by kernel_rfl) (by kernel_rfl) (by intro _ _ _ h; exact h) (Or.inl ⟨by rfl, ?hyu13⟩) (by assumption) ?restu13
      case hyu13 => (intro w hSw; (try dsimp only at hSw); go_simp; (try with_reducible rfl))
      try simp only [Act.put, List.setIfInBounds_toArray, List.set_cons_zero, List.set_cons_succ]
      refine wpAnyH_take (i := 3) (oi := { dst := some 26, op := Op.index 9 (Operand.const (Value.string { data := #[48, 49, 50, 51, 52, 53, 54, 55, 56, 57, 97, 98, 99, 100, 101, 102] })) (Operand.tmp 25), type := 5, pos := "text.go:52", after := #[{ on := 2, ground := Ground.data }], guard := none }) (v := ?vu14) rfl (by kernel_rfl) (by kernel_rfl) (by kernel_rfl) (by intro _ _ _ h; exact h) (Or.inl ⟨by rfl, ?hyu14⟩) (by assumption) ?restu14
      case hyu14 => (intro w hSw; (try dsimp only at hSw); go_simp; rw [dif_pos (by omega)]; exact congrArg (fun z : Nat => Result.ok (Next.value (Value.int IntKind.u8 (z : Int))) w) (hex_hi x.toNat hx _))
      try simp only [Act.put, List.setIfInBounds_toArray, List.set_cons_zero, List.set_cons_succ]
      refine wpAnyH_take (i := 4) (oi := { dst := some 27, op := Op.move (Operand.tmp 1), type := 5, pos := "text.go:52", after := #[], guard := none }) (v := ?vu15) rfl (by kernel_rfl) (by kernel_rfl) (by kernel_rfl) (by intro _ _ _ h; exact h) (Or.inl ⟨by rfl, ?hyu15⟩) (by assumption) ?restu15
      case hyu15 => (intro w hSw; (try dsimp only at hSw); go_simp; (try with_reducible rfl))
      try simp only [Act.put, List.setIfInBounds_toArray, List.set_cons_zero, List.set_cons_succ]
      refine wpAnyH_take (i := 5) (oi := { dst := some 28, op := Op.binOp BinOp.and 5 (Operand.tmp 27) (Operand.const (Value.int IntKind.u8 15)) 5, type := 5, pos := "text.go:52", after := #[{ on := 4, ground := Ground.data }], guard := none }) (v := ?vu16) rfl (by kernel_rfl) (by kernel_rfl) (by kernel_rfl) (by intro _ _ _ h; exact h) (Or.inl ⟨by rfl, ?hyu16⟩) (by assumption) ?restu16
      case hyu16 => (intro w hSw; (try dsimp only at hSw); go_simp; exact congrArg (Value.int IntKind.u8) (and15 x.toNat hx))
      try simp only [Act.put, List.setIfInBounds_toArray, List.set_cons_zero, List.set_cons_succ]
      refine wpAnyH_take (i := 6) (oi := { dst := some 29, op := Op.index 9 (Operand.const (Value.string { data := #[48, 49, 50, 51, 52, 53, 54, 55, 56, 57, 97, 98, 99, 100, 101, 102] })) (Operand.tmp 28), type := 5, pos := "text.go:52", after := #[{ on := 5, ground := Ground.data }], guard := none }) (v := ?vu17) rfl (by kernel_rfl) (by kernel_rfl) (by kernel_rfl) (by intro _ _ _ h; exact h) (Or.inl ⟨by rfl, ?hyu17⟩) (by assumption) ?restu17
      case hyu17 => (intro w hSw; (try dsimp only at hSw); go_simp; rw [dif_pos (by omega)]; exact congrArg (fun z : Nat => Result.ok (Next.value (Value.int IntKind.u8 (z : Int))) w) (hex_lo x.toNat hx _))
      try simp only [Act.put, List.setIfInBounds_toArray, List.set_cons_zero, List.set_cons_succ]
      refine wpAnyH_ready (rs := [7]) (by kernel_rfl) (by simp) ?_
      refine AllReadyH.cons (o := { dst := some 30, op := Op.buildSlice 50 3 #[(0, Operand.const (Value.int IntKind.u8 92)), (1, Operand.tmp 26), (2, Operand.tmp 29)], type := 50, pos := "text.go:52", after := #[{ on := 3, ground := Ground.data }, { on := 6, ground := Ground.data }], guard := none }) rfl (fun K hK => ?_) AllReadyH.nil
      go_simp
      
      refine hK.out _ _ ?_ (fun hHeldB => ?_)
      · (try dsimp only); exact Kp.of_below ((below1 w _).drew)
      clear hK K hHeld
      have hHeld := hHeldB
      clear hHeldB
      try simp only [Act.put, List.setIfInBounds_toArray, List.set_cons_zero, List.set_cons_succ]
      refine wpAnyH_ready (rs := [8]) (by kernel_rfl) (by simp) ?_
      refine AllReadyH.cons (o := { dst := some 31, op := Op.call { callee := Callee.builtin Builtin.append, args := #[Operand.tmp 23, Operand.tmp 30], argTypes := #[50, 50] }, type := 50, pos := "text.go:52", after := #[{ on := 0, ground := Ground.data }, { on := 7, ground := Ground.data }], guard := none }) rfl (fun K hK => ?_) AllReadyH.nil
      refine step_app_at eByte rfl _ _ rfl ((HO.out.alloc _).drew) (Nat.le_trans HBB.out (below1 w _).size) (three_cells w _ _) (by decide) (fun _ _ => rfl) (L.length + 3) rfl (by omega) (bvs (L ++ [92, hexD (x.toNat / 16), hexD (x.toNat % 16)])) (fun j hj => catV_bvs L [92, hexD (x.toNat / 16), hexD (x.toNat % 16)] j) rfl rfl ?_
      intro a7 c7 w7 hO7 hG7 hA7
      refine hK.out _ _ ?_ (fun hHeldB => ?_)
      · (try dsimp only); exact (Kp.of_below (F := fun b => (Value.slice a L.length c).ownBlock = some b) ((below1 w _).drew)).trans (Kp.of_grown (F := fun b => (Value.slice a L.length c).ownBlock = some b) hG7 fun _ h => h) fun _ _ h => h
      clear hK K hHeld
      have hHeld := hHeldB
      clear hHeldB
      try simp only [Act.put, List.setIfInBounds_toArray, List.set_cons_zero, List.set_cons_succ]
      refine wpAnyH_take (i := 9) (oi := { dst := some 4, op := Op.assign (Operand.tmp 31), type := 50, pos := "text.go:52", after := #[{ on := 8, ground := Ground.data }, { on := 8, ground := Ground.chain }, { on := 0, ground := Ground.phase }, { on := 1, ground := Ground.phase }, { on := 2, ground := Ground.phase }, { on := 3, ground := Ground.phase }, { on := 4, ground := Ground.phase }, { on := 5, ground := Ground.phase }, { on := 6, ground := Ground.phase }, { on := 7, ground := Ground.phase }, { on := 8, ground := Ground.phase }], guard := none }) (v := ?vu18) rfl (by kernel_rfl) (by kernel_rfl) (by kernel_rfl) (by intro _ _ _ h; exact h) (Or.inl ⟨by rfl, ?hyu18⟩) (by assumption) ?restu18
      case hyu18 => (intro w hSw; (try dsimp only at hSw); go_simp; (try with_reducible rfl))
      try simp only [Act.put, List.setIfInBounds_toArray, List.set_cons_zero, List.set_cons_succ]
      refine wpAnyH_done (by kernel_rfl) ?_ _
      go_wp2
      go_ret
      refine ⟨a7, c7, by simp, by simpa using hO7, ?_⟩
      exact (Kp.of_below (F := fun b => (Value.slice a L.length c).ownBlock = some b) ((below1 w _).drew)).trans (Kp.of_grown (F := fun b => (Value.slice a L.length c).ownBlock = some b) hG7 fun _ h => h) fun _ _ h => h
    have g0 : ¬ (x.toNat : Int) < 32 := by omega
    by_cases h1 : 126 < x.toNat
    · have g1 : (126 : Int) < (x.toNat : Int) := by omega
      go_enter Tryz.func31, Tryz.ntmps31
      go_wp2
      refine wp_region_held_drew (S := (fun w' => Kp (fun b => (Value.slice a L.length c).ownBlock = some b) w w')) (by kernel_rfl) ?_ (fun hHeld => ?_)
      · (try dsimp only); exact Kp.of_below (below_refl w).drew
      refine wpAnyH_take (i := 0) (oi := { dst := some 23, op := Op.move (Operand.tmp 0), type := 50, pos := "text.go:52", after := #[], guard := none }) (v := ?vu19) rfl (by kernel_rfl) (by kernel_rfl) (by kernel_rfl) (by intro _ _ _ h; exact h) (Or.inl ⟨by rfl, ?hyu19⟩) (by assumption) ?restu19
      case hyu19 => (intro w hSw; (try dsimp only at hSw); go_simp; (try with_reducible rfl))
      try simp only [Act.put, List.setIfInBounds_toArray, List.set_cons_zero, List.set_cons_succ]
      refine wpAnyH_take (i := 1) (oi := { dst := some 24, op := Op.move (Operand.tmp 1), type := 5, pos := "text.go:52", after := #[], guard := none }) (v := ?vu20) rfl (by kernel_rfl) (by kernel_rfl) (by kernel_rfl) (by intro _ _ _ h; exact h) (Or.inl ⟨by rfl, ?hyu20⟩) (by assumption) ?restu20
      case hyu20 => (intro w hSw; (try dsimp only at hSw); go_simp; (try with_reducible rfl))
      try simp only [Act.put, List.setIfInBounds_toArray, List.set_cons_zero, List.set_cons_succ]
      refine wpAnyH_take (i := 2) (oi := { dst := some 25, op := Op.binOp BinOp.shr 5 (Operand.tmp 24) (Operand.const (Value.int IntKind.u64 4)) 52, type := 5, pos := "text.go:52", after := #[{ on := 1, ground := Ground.data }], guard := none }) (v := ?vu21) rfl (by kernel_rfl) (by kernel_rfl) (by kernel_rfl) (by intro _ _ _ h; exact h) (Or.inl ⟨by rfl, ?hyu21⟩) (by assumption) ?restu21
      case hyu21 => (intro w hSw; (try dsimp only at hSw); go_simp; (try with_reducible rfl))
      try simp only [Act.put, List.setIfInBounds_toArray, List.set_cons_zero, List.set_cons_succ]
      refine wpAnyH_take (i := 3) (oi := { dst := some 26, op := Op.index 9 (Operand.const (Value.string { data := #[48, 49, 50, 51, 52, 53, 54, 55, 56, 57, 97, 98, 99, 100, 101, 102] })) (Operand.tmp 25), type := 5, pos := "text.go:52", after := #[{ on := 2, ground := Ground.data }], guard := none }) (v := ?vu22) rfl (by kernel_rfl) (by kernel_rfl) (by kernel_rfl) (by intro _ _ _ h; exact h) (Or.inl ⟨by rfl, ?hyu22⟩) (by assumption) ?restu22
      case hyu22 => (intro w hSw; (try dsimp only at hSw); go_simp; rw [dif_pos (by omega)]; exact congrArg (fun z : Nat => Result.ok (Next.value (Value.int IntKind.u8 (z : Int))) w) (hex_hi x.toNat hx _))
      try simp only [Act.put, List.setIfInBounds_toArray, List.set_cons_zero, List.set_cons_succ]
      refine wpAnyH_take (i := 4) (oi := { dst := some 27, op := Op.move (Operand.tmp 1), type := 5, pos := "text.go:52", after := #[], guard := none }) (v := ?vu23) rfl (by kernel_rfl) (by kernel_rfl) (by kernel_rfl) (by intro _ _ _ h; exact h) (Or.inl ⟨by rfl, ?hyu23⟩) (by assumption) ?restu23
      case hyu23 => (intro w hSw; (try dsimp only at hSw); go_simp; (try with_reducible rfl))
      try simp only [Act.put, List.setIfInBounds_toArray, List.set_cons_zero, List.set_cons_succ]
      refine wpAnyH_take (i := 5) (oi := { dst := some 28, op := Op.binOp BinOp.and 5 (Operand.tmp 27) (Operand.const (Value.int IntKind.u8 15)) 5, type := 5, pos := "text.go:52", after := #[{ on := 4, ground := Ground.data }], guard := none }) (v := ?vu24) rfl (by kernel_rfl) (by kernel_rfl) (by kernel_rfl) (by intro _ _ _ h; exact h) (Or.inl ⟨by rfl, ?hyu24⟩) (by assumption) ?restu24
      case hyu24 => (intro w hSw; (try dsimp only at hSw); go_simp; exact congrArg (Value.int IntKind.u8) (and15 x.toNat hx))
      try simp only [Act.put, List.setIfInBounds_toArray, List.set_cons_zero, List.set_cons_succ]
      refine wpAnyH_take (i := 6) (oi := { dst := some 29, op := Op.index 9 (Operand.const (Value.string { data := #[48, 49, 50, 51, 52, 53, 54, 55, 56, 57, 97, 98, 99, 100, 101, 102] })) (Operand.tmp 28), type := 5, pos := "text.go:52", after := #[{ on := 5, ground := Ground.data }], guard := none }) (v := ?vu25) rfl (by kernel_rfl) (by kernel_rfl) (by kernel_rfl) (by intro _ _ _ h; exact h) (Or.inl ⟨by rfl, ?hyu25⟩) (by assumption) ?restu25
      case hyu25 => (intro w hSw; (try dsimp only at hSw); go_simp; rw [dif_pos (by omega)]; exact congrArg (fun z : Nat => Result.ok (Next.value (Value.int IntKind.u8 (z : Int))) w) (hex_lo x.toNat hx _))
      try simp only [Act.put, List.setIfInBounds_toArray, List.set_cons_zero, List.set_cons_succ]
      refine wpAnyH_ready (rs := [7]) (by kernel_rfl) (by simp) ?_
      refine AllReadyH.cons (o := { dst := some 30, op := Op.buildSlice 50 3 #[(0, Operand.const (Value.int IntKind.u8 92)), (1, Operand.tmp 26), (2, Operand.tmp 29)], type := 50, pos := "text.go:52", after := #[{ on := 3, ground := Ground.data }, { on := 6, ground := Ground.data }], guard := none }) rfl (fun K hK => ?_) AllReadyH.nil
      go_simp
      
      refine hK.out _ _ ?_ (fun hHeldB => ?_)
      · (try dsimp only); exact Kp.of_below ((below1 w _).drew)
      clear hK K hHeld
      have hHeld := hHeldB
      clear hHeldB
      try simp only [Act.put, List.setIfInBounds_toArray, List.set_cons_zero, List.set_cons_succ]
      refine wpAnyH_ready (rs := [8]) (by kernel_rfl) (by simp) ?_
      refine AllReadyH.cons (o := { dst := some 31, op := Op.call { callee := Callee.builtin Builtin.append, args := #[Operand.tmp 23, Operand.tmp 30], argTypes := #[50, 50] }, type := 50, pos := "text.go:52", after := #[{ on := 0, ground := Ground.data }, { on := 7, ground := Ground.data }], guard := none }) rfl (fun K hK => ?_) AllReadyH.nil
      refine step_app_at eByte rfl _ _ rfl ((HO.out.alloc _).drew) (Nat.le_trans HBB.out (below1 w _).size) (three_cells w _ _) (by decide) (fun _ _ => rfl) (L.length + 3) rfl (by omega) (bvs (L ++ [92, hexD (x.toNat / 16), hexD (x.toNat % 16)])) (fun j hj => catV_bvs L [92, hexD (x.toNat / 16), hexD (x.toNat % 16)] j) rfl rfl ?_
      intro a7 c7 w7 hO7 hG7 hA7
      refine hK.out _ _ ?_ (fun hHeldB => ?_)
      · (try dsimp only); exact (Kp.of_below (F := fun b => (Value.slice a L.length c).ownBlock = some b) ((below1 w _).drew)).trans (Kp.of_grown (F := fun b => (Value.slice a L.length c).ownBlock = some b) hG7 fun _ h => h) fun _ _ h => h
      clear hK K hHeld
      have hHeld := hHeldB
      clear hHeldB
      try simp only [Act.put, List.setIfInBounds_toArray, List.set_cons_zero, List.set_cons_succ]
      refine wpAnyH_take (i := 9) (oi := { dst := some 4, op := Op.assign (Operand.tmp 31), type := 50, pos := "text.go:52", after := #[{ on := 8, ground := Ground.data }, { on := 8, ground := Ground.chain }, { on := 0, ground := Ground.phase }, { on := 1, ground := Ground.phase }, { on := 2, ground := Ground.phase }, { on := 3, ground := Ground.phase }, { on := 4, ground := Ground.phase }, { on := 5, ground := Ground.phase }, { on := 6, ground := Ground.phase }, { on := 7, ground := Ground.phase }, { on := 8, ground := Ground.phase }], guard := none }) (v := ?vu26) rfl (by kernel_rfl) (by kernel_rfl) (by kernel_rfl) (by intro _ _ _ h; exact h) (Or.inl ⟨by rfl, ?hyu26⟩) (by assumption) ?restu26
      case hyu26 => (intro w hSw; (try dsimp only at hSw); go_simp; (try with_reducible rfl))
      try simp only [Act.put, List.setIfInBounds_toArray, List.set_cons_zero, List.set_cons_succ]
      refine wpAnyH_done (by kernel_rfl) ?_ _
      go_wp2
      go_ret
      refine ⟨a7, c7, by simp, by simpa using hO7, ?_⟩
      exact (Kp.of_below (F := fun b => (Value.slice a L.length c).ownBlock = some b) ((below1 w _).drew)).trans (Kp.of_grown (F := fun b => (Value.slice a L.length c).ownBlock = some b) hG7 fun _ h => h) fun _ _ h => h
    have g1 : ¬ (126 : Int) < (x.toNat : Int) := by omega
    by_cases h2 : x.toNat = 60
    · have g2 : ((x.toNat : Int) == 60) = true := by simp [h2]
      clear h2
      go_enter Tryz.func31, Tryz.ntmps31
      go_wp2
      refine wp_region_held_drew (S := (fun w' => Kp (fun b => (Value.slice a L.length c).ownBlock = some b) w w')) (by kernel_rfl) ?_ (fun hHeld => ?_)
      · (try dsimp only); exact Kp.of_below (below_refl w).drew
      refine wpAnyH_take (i := 0) (oi := { dst := some 23, op := Op.move (Operand.tmp 0), type := 50, pos := "text.go:52", after := #[], guard := none }) (v := ?vu27) rfl (by kernel_rfl) (by kernel_rfl) (by kernel_rfl) (by intro _ _ _ h; exact h) (Or.inl ⟨by rfl, ?hyu27⟩) (by assumption) ?restu27
      case hyu27 => (intro w hSw; (try dsimp only at hSw); go_simp; (try with_reducible rfl))
      try simp only [Act.put, List.setIfInBounds_toArray, List.set_cons_zero, List.set_cons_succ]
      refine wpAnyH_take (i := 1) (oi := { dst := some 24, op := Op.move (Operand.tmp 1), type := 5, pos := "text.go:52", after := #[], guard := none }) (v := ?vu28) rfl (by kernel_rfl) (by kernel_rfl) (by kernel_rfl) (by intro _ _ _ h; exact h) (Or.inl ⟨by rfl, ?hyu28⟩) (by assumption) ?restu28
      case hyu28 => (intro w hSw; (try dsimp only at hSw); go_simp; (try with_reducible rfl))
      try simp only [Act.put, List.setIfInBounds_toArray, List.set_cons_zero, List.set_cons_succ]
      refine wpAnyH_take (i := 2) (oi := { dst := some 25, op := Op.binOp BinOp.shr 5 (Operand.tmp 24) (Operand.const (Value.int IntKind.u64 4)) 52, type := 5, pos := "text.go:52", after := #[{ on := 1, ground := Ground.data }], guard := none }) (v := ?vu29) rfl (by kernel_rfl) (by kernel_rfl) (by kernel_rfl) (by intro _ _ _ h; exact h) (Or.inl ⟨by rfl, ?hyu29⟩) (by assumption) ?restu29
      case hyu29 => (intro w hSw; (try dsimp only at hSw); go_simp; (try with_reducible rfl))
      try simp only [Act.put, List.setIfInBounds_toArray, List.set_cons_zero, List.set_cons_succ]
      refine wpAnyH_take (i := 3) (oi := { dst := some 26, op := Op.index 9 (Operand.const (Value.string { data := #[48, 49, 50, 51, 52, 53, 54, 55, 56, 57, 97, 98, 99, 100, 101, 102] })) (Operand.tmp 25), type := 5, pos := "text.go:52", after := #[{ on := 2, ground := Ground.data }], guard := none }) (v := ?vu30) rfl (by kernel_rfl) (by kernel_rfl) (by kernel_rfl) (by intro _ _ _ h; exact h) (Or.inl ⟨by rfl, ?hyu30⟩) (by assumption) ?restu30
      case hyu30 => (intro w hSw; (try dsimp only at hSw); go_simp; rw [dif_pos (by omega)]; exact congrArg (fun z : Nat => Result.ok (Next.value (Value.int IntKind.u8 (z : Int))) w) (hex_hi x.toNat hx _))
      try simp only [Act.put, List.setIfInBounds_toArray, List.set_cons_zero, List.set_cons_succ]
      refine wpAnyH_take (i := 4) (oi := { dst := some 27, op := Op.move (Operand.tmp 1), type := 5, pos := "text.go:52", after := #[], guard := none }) (v := ?vu31) rfl (by kernel_rfl) (by kernel_rfl) (by kernel_rfl) (by intro _ _ _ h; exact h) (Or.inl ⟨by rfl, ?hyu31⟩) (by assumption) ?restu31
      case hyu31 => (intro w hSw; (try dsimp only at hSw); go_simp; (try with_reducible rfl))
      try simp only [Act.put, List.setIfInBounds_toArray, List.set_cons_zero, List.set_cons_succ]
      refine wpAnyH_take (i := 5) (oi := { dst := some 28, op := Op.binOp BinOp.and 5 (Operand.tmp 27) (Operand.const (Value.int IntKind.u8 15)) 5, type := 5, pos := "text.go:52", after := #[{ on := 4, ground := Ground.data }], guard := none }) (v := ?vu32) rfl (by kernel_rfl) (by kernel_rfl) (by kernel_rfl) (by intro _ _ _ h; exact h) (Or.inl ⟨by rfl, ?hyu32⟩) (by assumption) ?restu32
      case hyu32 => (intro w hSw; (try dsimp only at hSw); go_simp; exact congrArg (Value.int IntKind.u8) (and15 x.toNat hx))
      try simp only [Act.put, List.setIfInBounds_toArray, List.set_cons_zero, List.set_cons_succ]
      refine wpAnyH_take (i := 6) (oi := { dst := some 29, op := Op.index 9 (Operand.const (Value.string { data := #[48, 49, 50, 51, 52, 53, 54, 55, 56, 57, 97, 98, 99, 100, 101, 102] })) (Operand.tmp 28), type := 5, pos := "text.go:52", after := #[{ on := 5, ground := Ground.data }], guard := none }) (v := ?vu33) rfl (by kernel_rfl) (by kernel_rfl) (by kernel_rfl) (by intro _ _ _ h; exact h) (Or.inl ⟨by rfl, ?hyu33⟩) (by assumption) ?restu33
      case hyu33 => (intro w hSw; (try dsimp only at hSw); go_simp; rw [dif_pos (by omega)]; exact congrArg (fun z : Nat => Result.ok (Next.value (Value.int IntKind.u8 (z : Int))) w) (hex_lo x.toNat hx _))
      try simp only [Act.put, List.setIfInBounds_toArray, List.set_cons_zero, List.set_cons_succ]
      refine wpAnyH_ready (rs := [7]) (by kernel_rfl) (by simp) ?_
      refine AllReadyH.cons (o := { dst := some 30, op := Op.buildSlice 50 3 #[(0, Operand.const (Value.int IntKind.u8 92)), (1, Operand.tmp 26), (2, Operand.tmp 29)], type := 50, pos := "text.go:52", after := #[{ on := 3, ground := Ground.data }, { on := 6, ground := Ground.data }], guard := none }) rfl (fun K hK => ?_) AllReadyH.nil
      go_simp
      
      refine hK.out _ _ ?_ (fun hHeldB => ?_)
      · (try dsimp only); exact Kp.of_below ((below1 w _).drew)
      clear hK K hHeld
      have hHeld := hHeldB
      clear hHeldB
      try simp only [Act.put, List.setIfInBounds_toArray, List.set_cons_zero, List.set_cons_succ]
      refine wpAnyH_ready (rs := [8]) (by kernel_rfl) (by simp) ?_
      refine AllReadyH.cons (o := { dst := some 31, op := Op.call { callee := Callee.builtin Builtin.append, args := #[Operand.tmp 23, Operand.tmp 30], argTypes := #[50, 50] }, type := 50, pos := "text.go:52", after := #[{ on := 0, ground := Ground.data }, { on := 7, ground := Ground.data }], guard := none }) rfl (fun K hK => ?_) AllReadyH.nil
      refine step_app_at eByte rfl _ _ rfl ((HO.out.alloc _).drew) (Nat.le_trans HBB.out (below1 w _).size) (three_cells w _ _) (by decide) (fun _ _ => rfl) (L.length + 3) rfl (by omega) (bvs (L ++ [92, hexD (x.toNat / 16), hexD (x.toNat % 16)])) (fun j hj => catV_bvs L [92, hexD (x.toNat / 16), hexD (x.toNat % 16)] j) rfl rfl ?_
      intro a7 c7 w7 hO7 hG7 hA7
      refine hK.out _ _ ?_ (fun hHeldB => ?_)
      · (try dsimp only); exact (Kp.of_below (F := fun b => (Value.slice a L.length c).ownBlock = some b) ((below1 w _).drew)).trans (Kp.of_grown (F := fun b => (Value.slice a L.length c).ownBlock = some b) hG7 fun _ h => h) fun _ _ h => h
      clear hK K hHeld
      have hHeld := hHeldB
      clear hHeldB
      try simp only [Act.put, List.setIfInBounds_toArray, List.set_cons_zero, List.set_cons_succ]
      refine wpAnyH_take (i := 9) (oi := { dst := some 4, op := Op.assign (Operand.tmp 31), type := 50, pos := "text.go:52", after := #[{ on := 8, ground := Ground.data }, { on := 8, ground := Ground.chain }, { on := 0, ground := Ground.phase }, { on := 1, ground := Ground.phase }, { on := 2, ground := Ground.phase }, { on := 3, ground := Ground.phase }, { on := 4, ground := Ground.phase }, { on := 5, ground := Ground.phase }, { on := 6, ground := Ground.phase }, { on := 7, ground := Ground.phase }, { on := 8, ground := Ground.phase }], guard := none }) (v := ?vu34) rfl (by kernel_rfl) (by kernel_rfl) (by kernel_rfl) (by intro _ _ _ h; exact h) (Or.inl ⟨by rfl, ?hyu34⟩) (by assumption) ?restu34
      case hyu34 => (intro w hSw; (try dsimp only at hSw); go_simp; (try with_reducible rfl))
      try simp only [Act.put, List.setIfInBounds_toArray, List.set_cons_zero, List.set_cons_succ]
      refine wpAnyH_done (by kernel_rfl) ?_ _
      go_wp2
      go_ret
      refine ⟨a7, c7, by simp, by simpa using hO7, ?_⟩
      exact (Kp.of_below (F := fun b => (Value.slice a L.length c).ownBlock = some b) ((below1 w _).drew)).trans (Kp.of_grown (F := fun b => (Value.slice a L.length c).ownBlock = some b) hG7 fun _ h => h) fun _ _ h => h
    have g2 : ((x.toNat : Int) == 60) = false := by simp; omega
    by_cases h3 : x.toNat = 62
    · have g3 : ((x.toNat : Int) == 62) = true := by simp [h3]
      clear h3
      go_enter Tryz.func31, Tryz.ntmps31
      go_wp2
      refine wp_region_held_drew (S := (fun w' => Kp (fun b => (Value.slice a L.length c).ownBlock = some b) w w')) (by kernel_rfl) ?_ (fun hHeld => ?_)
      · (try dsimp only); exact Kp.of_below (below_refl w).drew
      refine wpAnyH_take (i := 0) (oi := { dst := some 23, op := Op.move (Operand.tmp 0), type := 50, pos := "text.go:52", after := #[], guard := none }) (v := ?vu35) rfl (by kernel_rfl) (by kernel_rfl) (by kernel_rfl) (by intro _ _ _ h; exact h) (Or.inl ⟨by rfl, ?hyu35⟩) (by assumption) ?restu35
      case hyu35 => (intro w hSw; (try dsimp only at hSw); go_simp; (try with_reducible rfl))
      try simp only [Act.put, List.setIfInBounds_toArray, List.set_cons_zero, List.set_cons_succ]
      refine wpAnyH_take (i := 1) (oi := { dst := some 24, op := Op.move (Operand.tmp 1), type := 5, pos := "text.go:52", after := #[], guard := none }) (v := ?vu36) rfl (by kernel_rfl) (by kernel_rfl) (by kernel_rfl) (by intro _ _ _ h; exact h) (Or.inl ⟨by rfl, ?hyu36⟩) (by assumption) ?restu36
      case hyu36 => (intro w hSw; (try dsimp only at hSw); go_simp; (try with_reducible rfl))
      try simp only [Act.put, List.setIfInBounds_toArray, List.set_cons_zero, List.set_cons_succ]
      refine wpAnyH_take (i := 2) (oi := { dst := some 25, op := Op.binOp BinOp.shr 5 (Operand.tmp 24) (Operand.const (Value.int IntKind.u64 4)) 52, type := 5, pos := "text.go:52", after := #[{ on := 1, ground := Ground.data }], guard := none }) (v := ?vu37) rfl (by kernel_rfl) (by kernel_rfl) (by kernel_rfl) (by intro _ _ _ h; exact h) (Or.inl ⟨by rfl, ?hyu37⟩) (by assumption) ?restu37
      case hyu37 => (intro w hSw; (try dsimp only at hSw); go_simp; (try with_reducible rfl))
      try simp only [Act.put, List.setIfInBounds_toArray, List.set_cons_zero, List.set_cons_succ]
      refine wpAnyH_take (i := 3) (oi := { dst := some 26, op := Op.index 9 (Operand.const (Value.string { data := #[48, 49, 50, 51, 52, 53, 54, 55, 56, 57, 97, 98, 99, 100, 101, 102] })) (Operand.tmp 25), type := 5, pos := "text.go:52", after := #[{ on := 2, ground := Ground.data }], guard := none }) (v := ?vu38) rfl (by kernel_rfl) (by kernel_rfl) (by kernel_rfl) (by intro _ _ _ h; exact h) (Or.inl ⟨by rfl, ?hyu38⟩) (by assumption) ?restu38
      case hyu38 => (intro w hSw; (try dsimp only at hSw); go_simp; rw [dif_pos (by omega)]; exact congrArg (fun z : Nat => Result.ok (Next.value (Value.int IntKind.u8 (z : Int))) w) (hex_hi x.toNat hx _))
      try simp only [Act.put, List.setIfInBounds_toArray, List.set_cons_zero, List.set_cons_succ]
      refine wpAnyH_take (i := 4) (oi := { dst := some 27, op := Op.move (Operand.tmp 1), type := 5, pos := "text.go:52", after := #[], guard := none }) (v := ?vu39) rfl (by kernel_rfl) (by kernel_rfl) (by kernel_rfl) (by intro _ _ _ h; exact h) (Or.inl ⟨by rfl, ?hyu39⟩) (by assumption) ?restu39
      case hyu39 => (intro w hSw; (try dsimp only at hSw); go_simp; (try with_reducible rfl))
      try simp only [Act.put, List.setIfInBounds_toArray, List.set_cons_zero, List.set_cons_succ]
      refine wpAnyH_take (i := 5) (oi := { dst := some 28, op := Op.binOp BinOp.and 5 (Operand.tmp 27) (Operand.const (Value.int IntKind.u8 15)) 5, type := 5, pos := "text.go:52", after := #[{ on := 4, ground := Ground.data }], guard := none }) (v := ?vu40) rfl (by kernel_rfl) (by kernel_rfl) (by kernel_rfl) (by intro _ _ _ h; exact h) (Or.inl ⟨by rfl, ?hyu40⟩) (by assumption) ?restu40
      case hyu40 => (intro w hSw; (try dsimp only at hSw); go_simp; exact congrArg (Value.int IntKind.u8) (and15 x.toNat hx))
      try simp only [Act.put, List.setIfInBounds_toArray, List.set_cons_zero, List.set_cons_succ]
      refine wpAnyH_take (i := 6) (oi := { dst := some 29, op := Op.index 9 (Operand.const (Value.string { data := #[48, 49, 50, 51, 52, 53, 54, 55, 56, 57, 97, 98, 99, 100, 101, 102] })) (Operand.tmp 28), type := 5, pos := "text.go:52", after := #[{ on := 5, ground := Ground.data }], guard := none }) (v := ?vu41) rfl (by kernel_rfl) (by kernel_rfl) (by kernel_rfl) (by intro _ _ _ h; exact h) (Or.inl ⟨by rfl, ?hyu41⟩) (by assumption) ?restu41
      case hyu41 => (intro w hSw; (try dsimp only at hSw); go_simp; rw [dif_pos (by omega)]; exact congrArg (fun z : Nat => Result.ok (Next.value (Value.int IntKind.u8 (z : Int))) w) (hex_lo x.toNat hx _))
      try simp only [Act.put, List.setIfInBounds_toArray, List.set_cons_zero, List.set_cons_succ]
      refine wpAnyH_ready (rs := [7]) (by kernel_rfl) (by simp) ?_
      refine AllReadyH.cons (o := { dst := some 30, op := Op.buildSlice 50 3 #[(0, Operand.const (Value.int IntKind.u8 92)), (1, Operand.tmp 26), (2, Operand.tmp 29)], type := 50, pos := "text.go:52", after := #[{ on := 3, ground := Ground.data }, { on := 6, ground := Ground.data }], guard := none }) rfl (fun K hK => ?_) AllReadyH.nil
      go_simp
      
      refine hK.out _ _ ?_ (fun hHeldB => ?_)
      · (try dsimp only); exact Kp.of_below ((below1 w _).drew)
      clear hK K hHeld
      have hHeld := hHeldB
      clear hHeldB
      try simp only [Act.put, List.setIfInBounds_toArray, List.set_cons_zero, List.set_cons_succ]
      refine wpAnyH_ready (rs := [8]) (by kernel_rfl) (by simp) ?_
      refine AllReadyH.cons (o := { dst := some 31, op := Op.call { callee := Callee.builtin Builtin.append, args := #[Operand.tmp 23, Operand.tmp 30], argTypes := #[50, 50] }, type := 50, pos := "text.go:52", after := #[{ on := 0, ground := Ground.data }, { on := 7, ground := Ground.data }], guard := none }) rfl (fun K hK => ?_) AllReadyH.nil
      refine step_app_at eByte rfl _ _ rfl ((HO.out.alloc _).drew) (Nat.le_trans HBB.out (below1 w _).size) (three_cells w _ _) (by decide) (fun _ _ => rfl) (L.length + 3) rfl (by omega) (bvs (L ++ [92, hexD (x.toNat / 16), hexD (x.toNat % 16)])) (fun j hj => catV_bvs L [92, hexD (x.toNat / 16), hexD (x.toNat % 16)] j) rfl rfl ?_
      intro a7 c7 w7 hO7 hG7 hA7
      refine hK.out _ _ ?_ (fun hHeldB => ?_)
      · (try dsimp only); exact (Kp.of_below (F := fun b => (Value.slice a L.length c).ownBlock = some b) ((below1 w _).drew)).trans (Kp.of_grown (F := fun b => (Value.slice a L.length c).ownBlock = some b) hG7 fun _ h => h) fun _ _ h => h
      clear hK K hHeld
      have hHeld := hHeldB
      clear hHeldB
      try simp only [Act.put, List.setIfInBounds_toArray, List.set_cons_zero, List.set_cons_succ]
      refine wpAnyH_take (i := 9) (oi := { dst := some 4, op := Op.assign (Operand.tmp 31), type := 50, pos := "text.go:52", after := #[{ on := 8, ground := Ground.data }, { on := 8, ground := Ground.chain }, { on := 0, ground := Ground.phase }, { on := 1, ground := Ground.phase }, { on := 2, ground := Ground.phase }, { on := 3, ground := Ground.phase }, { on := 4, ground := Ground.phase }, { on := 5, ground := Ground.phase }, { on := 6, ground := Ground.phase }, { on := 7, ground := Ground.phase }, { on := 8, ground := Ground.phase }], guard := none }) (v := ?vu42) rfl (by kernel_rfl) (by kernel_rfl) (by kernel_rfl) (by intro _ _ _ h; exact h) (Or.inl ⟨by rfl, ?hyu42⟩) (by assumption) ?restu42
      case hyu42 => (intro w hSw; (try dsimp only at hSw); go_simp; (try with_reducible rfl))
      try simp only [Act.put, List.setIfInBounds_toArray, List.set_cons_zero, List.set_cons_succ]
      refine wpAnyH_done (by kernel_rfl) ?_ _
      go_wp2
      go_ret
      refine ⟨a7, c7, by simp, by simpa using hO7, ?_⟩
      exact (Kp.of_below (F := fun b => (Value.slice a L.length c).ownBlock = some b) ((below1 w _).drew)).trans (Kp.of_grown (F := fun b => (Value.slice a L.length c).ownBlock = some b) hG7 fun _ h => h) fun _ _ h => h
    have g3 : ((x.toNat : Int) == 62) = false := by simp; omega
    by_cases h4 : x.toNat = 92
    · have g4 : ((x.toNat : Int) == 92) = true := by simp [h4]
      clear h4
      go_enter Tryz.func31, Tryz.ntmps31
      go_wp2
      refine wp_region_held_drew (S := (fun w' => Kp (fun b => (Value.slice a L.length c).ownBlock = some b) w w')) (by kernel_rfl) ?_ (fun hHeld => ?_)
      · (try dsimp only); exact Kp.of_below (below_refl w).drew
      refine wpAnyH_take (i := 0) (oi := { dst := some 23, op := Op.move (Operand.tmp 0), type := 50, pos := "text.go:52", after := #[], guard := none }) (v := ?vu43) rfl (by kernel_rfl) (by kernel_rfl) (by kernel_rfl) (by intro _ _ _ h; exact h) (Or.inl ⟨by rfl, ?hyu43⟩) (by assumption) ?restu43
      case hyu43 => (intro w hSw; (try dsimp only at hSw); go_simp; (try with_reducible rfl))
      try simp only [Act.put, List.setIfInBounds_toArray, List.set_cons_zero, List.set_cons_succ]
      refine wpAnyH_take (i := 1) (oi := { dst := some 24, op := Op.move (Operand.tmp 1), type := 5, pos := "text.go:52", after := #[], guard := none }) (v := ?vu44) rfl (by kernel_rfl) (by kernel_rfl) (by kernel_rfl) (by intro _ _ _ h; exact h) (Or.inl ⟨by rfl, ?hyu44⟩) (by assumption) ?restu44
      case hyu44 => (intro w hSw; (try dsimp only at hSw); go_simp; (try with_reducible rfl))
      try simp only [Act.put, List.setIfInBounds_toArray, List.set_cons_zero, List.set_cons_succ]
      refine wpAnyH_take (i := 2) (oi := { dst := some 25, op := Op.binOp BinOp.shr 5 (Operand.tmp 24) (Operand.const (Value.int IntKind.u64 4)) 52, type := 5, pos := "text.go:52", after := #[{ on := 1, ground := Ground.data }], guard := none }) (v := ?vu45) rfl (by kernel_rfl) (by kernel_rfl) (by kernel_rfl) (by intro _ _ _ h; exact h) (Or.inl ⟨by rfl, ?hyu45⟩) (by assumption) ?restu45
      case hyu45 => (intro w hSw; (try dsimp only at hSw); go_simp; (try with_reducible rfl))
      try simp only [Act.put, List.setIfInBounds_toArray, List.set_cons_zero, List.set_cons_succ]
      refine wpAnyH_take (i := 3) (oi := { dst := some 26, op := Op.index 9 (Operand.const (Value.string { data := #[48, 49, 50, 51, 52, 53, 54, 55, 56, 57, 97, 98, 99, 100, 101, 102] })) (Operand.tmp 25), type := 5, pos := "text.go:52", after := #[{ on := 2, ground := Ground.data }], guard := none }) (v := ?vu46) rfl (by kernel_rfl) (by kernel_rfl) (by kernel_rfl) (by intro _ _ _ h; exact h) (Or.inl ⟨by rfl, ?hyu46⟩) (by assumption) ?restu46
      case hyu46 => (intro w hSw; (try dsimp only at hSw); go_simp; rw [dif_pos (by omega)]; exact congrArg (fun z : Nat => Result.ok (Next.value (Value.int IntKind.u8 (z : Int))) w) (hex_hi x.toNat hx _))
      try simp only [Act.put, List.setIfInBounds_toArray, List.set_cons_zero, List.set_cons_succ]
      refine wpAnyH_take (i := 4) (oi := { dst := some 27, op := Op.move (Operand.tmp 1), type := 5, pos := "text.go:52", after := #[], guard := none }) (v := ?vu47) rfl (by kernel_rfl) (by kernel_rfl) (by kernel_rfl) (by intro _ _ _ h; exact h) (Or.inl ⟨by rfl, ?hyu47⟩) (by assumption) ?restu47
      case hyu47 => (intro w hSw; (try dsimp only at hSw); go_simp; (try with_reducible rfl))
      try simp only [Act.put, List.setIfInBounds_toArray, List.set_cons_zero, List.set_cons_succ]
      refine wpAnyH_take (i := 5) (oi := { dst := some 28, op := Op.binOp BinOp.and 5 (Operand.tmp 27) (Operand.const (Value.int IntKind.u8 15)) 5, type := 5, pos := "text.go:52", after := #[{ on := 4, ground := Ground.data }], guard := none }) (v := ?vu48) rfl (by kernel_rfl) (by kernel_rfl) (by kernel_rfl) (by intro _ _ _ h; exact h) (Or.inl ⟨by rfl, ?hyu48⟩) (by assumption) ?restu48
      case hyu48 => (intro w hSw; (try dsimp only at hSw); go_simp; exact congrArg (Value.int IntKind.u8) (and15 x.toNat hx))
      try simp only [Act.put, List.setIfInBounds_toArray, List.set_cons_zero, List.set_cons_succ]
      refine wpAnyH_take (i := 6) (oi := { dst := some 29, op := Op.index 9 (Operand.const (Value.string { data := #[48, 49, 50, 51, 52, 53, 54, 55, 56, 57, 97, 98, 99, 100, 101, 102] })) (Operand.tmp 28), type := 5, pos := "text.go:52", after := #[{ on := 5, ground := Ground.data }], guard := none }) (v := ?vu49) rfl (by kernel_rfl) (by kernel_rfl) (by kernel_rfl) (by intro _ _ _ h; exact h) (Or.inl ⟨by rfl, ?hyu49⟩) (by assumption) ?restu49
      case hyu49 => (intro w hSw; (try dsimp only at hSw); go_simp; rw [dif_pos (by omega)]; exact congrArg (fun z : Nat => Result.ok (Next.value (Value.int IntKind.u8 (z : Int))) w) (hex_lo x.toNat hx _))
      try simp only [Act.put, List.setIfInBounds_toArray, List.set_cons_zero, List.set_cons_succ]
      refine wpAnyH_ready (rs := [7]) (by kernel_rfl) (by simp) ?_
      refine AllReadyH.cons (o := { dst := some 30, op := Op.buildSlice 50 3 #[(0, Operand.const (Value.int IntKind.u8 92)), (1, Operand.tmp 26), (2, Operand.tmp 29)], type := 50, pos := "text.go:52", after := #[{ on := 3, ground := Ground.data }, { on := 6, ground := Ground.data }], guard := none }) rfl (fun K hK => ?_) AllReadyH.nil
      go_simp
      
      refine hK.out _ _ ?_ (fun hHeldB => ?_)
      · (try dsimp only); exact Kp.of_below ((below1 w _).drew)
      clear hK K hHeld
      have hHeld := hHeldB
      clear hHeldB
      try simp only [Act.put, List.setIfInBounds_toArray, List.set_cons_zero, List.set_cons_succ]
      refine wpAnyH_ready (rs := [8]) (by kernel_rfl) (by simp) ?_
      refine AllReadyH.cons (o := { dst := some 31, op := Op.call { callee := Callee.builtin Builtin.append, args := #[Operand.tmp 23, Operand.tmp 30], argTypes := #[50, 50] }, type := 50, pos := "text.go:52", after := #[{ on := 0, ground := Ground.data }, { on := 7, ground := Ground.data }], guard := none }) rfl (fun K hK => ?_) AllReadyH.nil
      refine step_app_at eByte rfl _ _ rfl ((HO.out.alloc _).drew) (Nat.le_trans HBB.out (below1 w _).size) (three_cells w _ _) (by decide) (fun _ _ => rfl) (L.length + 3) rfl (by omega) (bvs (L ++ [92, hexD (x.toNat / 16), hexD (x.toNat % 16)])) (fun j hj => catV_bvs L [92, hexD (x.toNat / 16), hexD (x.toNat % 16)] j) rfl rfl ?_
      intro a7 c7 w7 hO7 hG7 hA7
      refine hK.out _ _ ?_ (fun hHeldB => ?_)
      · (try dsimp only); exact (Kp.of_below (F := fun b => (Value.slice a L.length c).ownBlock = some b) ((below1 w _).drew)).trans (Kp.of_grown (F := fun b => (Value.slice a L.length c).ownBlock = some b) hG7 fun _ h => h) fun _ _ h => h
      clear hK K hHeld
      have hHeld := hHeldB
      clear hHeldB
      try simp only [Act.put, List.setIfInBounds_toArray, List.set_cons_zero, List.set_cons_succ]
      refine wpAnyH_take (i := 9) (oi := { dst := some 4, op := Op.assign (Operand.tmp 31), type := 50, pos := "text.go:52", after := #[{ on := 8, ground := Ground.data }, { on := 8, ground := Ground.chain }, { on := 0, ground := Ground.phase }, { on := 1, ground := Ground.phase }, { on := 2, ground := Ground.phase }, { on := 3, ground := Ground.phase }, { on := 4, ground := Ground.phase }, { on := 5, ground := Ground.phase }, { on := 6, ground := Ground.phase }, { on := 7, ground := Ground.phase }, { on := 8, ground := Ground.phase }], guard := none }) (v := ?vu50) rfl (by kernel_rfl) (by kernel_rfl) (by kernel_rfl) (by intro _ _ _ h; exact h) (Or.inl ⟨by rfl, ?hyu50⟩) (by assumption) ?restu50
      case hyu50 => (intro w hSw; (try dsimp only at hSw); go_simp; (try with_reducible rfl))
      try simp only [Act.put, List.setIfInBounds_toArray, List.set_cons_zero, List.set_cons_succ]
      refine wpAnyH_done (by kernel_rfl) ?_ _
      go_wp2
      go_ret
      refine ⟨a7, c7, by simp, by simpa using hO7, ?_⟩
      exact (Kp.of_below (F := fun b => (Value.slice a L.length c).ownBlock = some b) ((below1 w _).drew)).trans (Kp.of_grown (F := fun b => (Value.slice a L.length c).ownBlock = some b) hG7 fun _ h => h) fun _ _ h => h
    have g4 : ((x.toNat : Int) == 92) = false := by simp; omega
    omega
end Go.Proofs.YtbgkfjelgnbfmaaGreatDoor
