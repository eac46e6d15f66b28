/- nat's isDecimal. nat's shiftIn: a decimal digit behind those of a number, in the memory of the call's own. -/
import Derived.Test.YtjdbapkmaggllaaGreatDoorR38
import Derived.Lib.ConvBytes
import Derived.Outline
import Derived.Test.YtjdbapkmaggllaaGreatDoorR37
namespace Go.Proofs.YtjdbapkmaggllaaGreatDoor
open Go.RowKit Fo
set_option maxRecDepth 100000

/-- The byte at a place. -/
def byt (l : List UInt8) (j : Nat) : Nat := (l.getD j 0).toNat
theorem byt_lt (l : List UInt8) (j : Nat) : byt l j < 256 := (l.getD j 0).toNat_lt
def u8s (L : Nat → Nat) (j : Nat) : Value := .int .u8 (L j)
/-- '[]byte(s)'. -/
theorem conv_bytes (l : List UInt8) (w : World) : ∃ c w1, (convert 9 90 (.string ⟨l.toArray⟩)).run Tryz.prog w = .ok (.slice (some ⟨w.heap.size, 0, none⟩) l.length c) w1 ∧ Below w.heap.size w w1 ∧ ∀ j, j < l.length → w1.cell? ⟨w.heap.size, j, none⟩ = some (.int .u8 (byt l j : Int)) := by
  have h := Lib.run_convert_string_bytes (P := Tryz.prog) w 9 90 5 ⟨l.toArray⟩ Tryz.underlying9 Tryz.underlying90 Tryz.underlying5
  have hsz : (⟨l.toArray⟩ : ByteArray).size = l.length := by simp [ByteArray.size]
  rw [hsz] at h
  refine ⟨_, _, h, ⟨?_, ?_, ?_, ?_, fun k hk => Lib.bytesWorld_at_old w 5 _ k hk⟩, fun j hj => ?_⟩
  · rfl
  · rfl
  · rfl
  · rw [Lib.bytesWorld_size]; omega
  · rw [Lib.bytesWorld_cell w 5 ⟨l.toArray⟩ j (by rw [hsz]; exact hj)]
    rfl
/-- Decimal digits alone. -/
def digB (l : List UInt8) : Prop := ∀ j, j < l.length → 48 ≤ byt l j ∧ byt l j ≤ 57
theorem first_byte (l : List UInt8) (h : 0 < (⟨l.toArray⟩ : ByteArray).size) : ((⟨l.toArray⟩ : ByteArray)[0]'h).toNat = byt l 0 := by
  cases l with
  | nil => simp [ByteArray.size] at h
  | cons a r => rfl
theorem isd_yes (l : List UInt8) (hl : l.length ≤ 100000) (w : World) (R : Bool) (h0 : l ≠ []) (h1 : byt l 0 ≠ 48 ∨ l = [48]) (hT : digB l → true = R) (hF : ∀ j, j < l.length → ¬ (48 ≤ byt l j ∧ byt l j ≤ 57) → false = R) :
    Calls Tryz.prog 110 #[.string ⟨l.toArray⟩] w fun e w' => e = .returned (.bool R) ∧ Below w.heap.size w w' := by
  obtain ⟨c, w1, hcv, hB, hcell⟩ := conv_bytes l w
  have HB : Hid (Below w.heap.size w w1) := hB
  have HT : Hid (digB l → true = R) := hT
  have HF : Hid (∀ j, j < l.length → ¬ (48 ≤ byt l j ∧ byt l j ≤ 57) → false = R) := hF
  have HCELL : Hid (∀ j, j < l.length → w1.cell? ⟨w.heap.size, j, none⟩ = some (.int .u8 (byt l j : Int))) := hcell
  clear hB hT hF hcell
  have hne : l.isEmpty = false := by cases l <;> simp_all
  have hpos : 0 < l.length := by cases l <;> simp_all
  have hfb := first_byte l
  rcases h1 with hz | rfl
  · have hz' : ¬ ((byt l 0 : Nat) : Int) = 48 := by omega
    clear hz h0
    go_enter Tryz.func110, Tryz.ntmps110
    go_wp2
    clear hcv hfb hz' hne
    go_loop [19] (fun v => ∃ k : Nat, k ≤ l.length ∧ v = .int .i64 k ∧ Hid (∀ j, j < k → 48 ≤ byt l j ∧ byt l j ≤ 57)) (fun v => l.length - (intOf v).toNat)
    case atStart => exact ⟨0, Nat.zero_le _, rfl, fun j hj => absurd hj (by omega)⟩
    case round =>
      obtain ⟨k, hk, rfl, HK⟩ := hrel
      by_cases hkl : k < l.length
      · have hck := HCELL.out k hkl
        have i1 : (0 : Int) ≤ (k : Int) := by omega
        have i2 : (k : Int) < (l.length : Int) := by omega
        obtain ⟨x, hx⟩ : ∃ x, x = byt l k := ⟨_, rfl⟩
        rw [← hx] at hck
        have hx256 : x < 256 := by rw [hx]; exact byt_lt _ _
        by_cases hlo : x < 48
        · have HE : Hid (false = R) := HF.out k hkl (by rw [← hx]; omega)
          have j1 : (x : Int) < 48 := by omega
          clear hx
          go_wp2
          go_ret
          exact ⟨ret_bool HE.out, HB.out⟩
        · by_cases hhi : 57 < x
          · have HE : Hid (false = R) := HF.out k hkl (by rw [← hx]; omega)
            have j1 : ¬ (x : Int) < 48 := by omega
            have j2 : (57 : Int) < (x : Int) := by omega
            clear hx
            go_wp2
            go_ret
            exact ⟨ret_bool HE.out, HB.out⟩
          · have HK' : Hid (∀ j, j < k + 1 → 48 ≤ byt l j ∧ byt l j ≤ 57) := fun j hj => by
              by_cases e : j = k
              · rw [e, ← hx]; omega
              · exact HK.out j (by omega)
            have j1 : ¬ (x : Int) < 48 := by omega
            have j2 : ¬ (57 : Int) < (x : Int) := by omega
            clear hx HK
            go_wp2
            go_round
            case rel => exact ⟨k + 1, by omega, by go_num, HK'⟩
            case measure => simp [intOf]; omega
      · obtain rfl : k = l.length := by omega
        have HE : Hid (true = R) := HT.out HK.out
        clear HK
        go_wp2
        go_ret
        exact ⟨ret_bool HE.out, HB.out⟩
  · have hlen : ([48] : List UInt8).length = 1 := rfl
    clear h0 hfb
    go_enter Tryz.func110, Tryz.ntmps110
    go_wp2
    clear hcv hne
    go_loop [19] (fun v => ∃ k : Nat, k ≤ ([48] : List UInt8).length ∧ v = .int .i64 k ∧ Hid (∀ j, j < k → 48 ≤ byt [48] j ∧ byt [48] j ≤ 57)) (fun v => ([48] : List UInt8).length - (intOf v).toNat)
    case atStart => exact ⟨0, Nat.zero_le _, rfl, fun j hj => absurd hj (by omega)⟩
    case round =>
      obtain ⟨k, hk, rfl, HK⟩ := hrel
      by_cases hkl : k < ([48] : List UInt8).length
      · have hck := HCELL.out k hkl
        have i1 : (0 : Int) ≤ (k : Int) := by omega
        have i2 : (k : Int) < (([48] : List UInt8).length : Int) := by omega
        obtain ⟨x, hx⟩ : ∃ x, x = byt [48] k := ⟨_, rfl⟩
        rw [← hx] at hck
        have hx256 : x < 256 := by rw [hx]; exact byt_lt _ _
        by_cases hlo : x < 48
        · have HE : Hid (false = R) := HF.out k hkl (by rw [← hx]; omega)
          have j1 : (x : Int) < 48 := by omega
          clear hx
          go_wp2
          go_ret
          exact ⟨ret_bool HE.out, HB.out⟩
        · by_cases hhi : 57 < x
          · have HE : Hid (false = R) := HF.out k hkl (by rw [← hx]; omega)
            have j1 : ¬ (x : Int) < 48 := by omega
            have j2 : (57 : Int) < (x : Int) := by omega
            clear hx
            go_wp2
            go_ret
            exact ⟨ret_bool HE.out, HB.out⟩
          · have HK' : Hid (∀ j, j < k + 1 → 48 ≤ byt [48] j ∧ byt [48] j ≤ 57) := fun j hj => by
              by_cases e : j = k
              · rw [e, ← hx]; omega
              · exact HK.out j (by omega)
            have j1 : ¬ (x : Int) < 48 := by omega
            have j2 : ¬ (57 : Int) < (x : Int) := by omega
            clear hx HK
            go_wp2
            go_round
            case rel => exact ⟨k + 1, by omega, by go_num, HK'⟩
            case measure => simp [intOf]; omega
      · obtain rfl : k = ([48] : List UInt8).length := by omega
        have HE : Hid (true = R) := HT.out HK.out
        clear HK
        go_wp2
        go_ret
        exact ⟨ret_bool HE.out, HB.out⟩
theorem isd_no0 (w : World) : Calls Tryz.prog 110 #[.string ⟨([] : List UInt8).toArray⟩] w fun e w' => e = .returned (.bool false) ∧ Below w.heap.size w w' := by
  go_enter Tryz.func110, Tryz.ntmps110
  go_wp2
  go_ret
  exact ⟨rfl, below_refl w⟩
theorem isd_no48 (l : List UInt8) (w : World) (h0 : l ≠ []) (h48 : byt l 0 = 48) (h1 : l ≠ [48]) : Calls Tryz.prog 110 #[.string ⟨l.toArray⟩] w fun e w' => e = .returned (.bool false) ∧ Below w.heap.size w w' := by
  have hne : l.isEmpty = false := by cases l <;> simp_all
  have hpos : 0 < l.length := by cases l <;> simp_all
  have hfb := first_byte l
  rw [h48] at hfb
  have h1' : (l == [48]) = false := by simpa using h1
  clear h0 h1 h48
  go_enter Tryz.func110, Tryz.ntmps110
  go_wp2
  go_ret
  exact ⟨rfl, below_refl w⟩
/-- A number's text: decimal digits, without noughts ahead. -/
def decT (l : List UInt8) : Prop := l ≠ [] ∧ (byt l 0 ≠ 48 ∨ l = [48]) ∧ digB l
theorem isd_any (l : List UInt8) (hl : l.length ≤ 100000) (w : World) (R : Bool) (hT : decT l → true = R) (hF : ¬ decT l → false = R) : Calls Tryz.prog 110 #[.string ⟨l.toArray⟩] w fun e w' => e = .returned (.bool R) ∧ Below w.heap.size w w' := by
  by_cases h0 : l = []
  · subst h0
    rw [← hF fun h => h.1 rfl]
    exact isd_no0 w
  · by_cases h1 : byt l 0 ≠ 48 ∨ l = [48]
    · exact isd_yes l hl w R h0 h1 (fun h => hT ⟨h0, h1, h⟩) (fun j hj h => hF fun hd => h (hd.2.2 j hj))
    · rw [← hF fun h => h1 h.2.1]
      have h48 : byt l 0 = 48 := by
        rcases Nat.decEq (byt l 0) 48 with h | h
        · exact absurd (Or.inl h) h1
        · exact h
      exact isd_no48 l w h0 h48 (fun h => h1 (Or.inr h))
end Go.Proofs.YtjdbapkmaggllaaGreatDoor

namespace Go.Proofs.YtjdbapkmaggllaaGreatDoor
open Go.RowKit Fo
set_option maxRecDepth 100000

theorem Fo.Ow.upd {B : Nat} {w : World} {g n cap : Nat} {K : Nat → Nat} (h : Ow 66 B w (.slice (some ⟨g, 0, none⟩) n cap) n (u32s K)) (p t : Nat) (hp : p < n) :
    Ow 66 B (w.setCell ⟨g, p, none⟩ (.int .u32 (t : Int))) (.slice (some ⟨g, 0, none⟩) n cap) n (u32s (upd K p t)) := by
  obtain ⟨h1, h2⟩ := h
  refine ⟨by rw [fl_len, Nat.mul_one], ?_⟩
  rcases h2 with ⟨h2, -⟩ | ⟨g', cap', cur, e, hb, hg, hnc, hcm, hcs, ht⟩
  · cases h2
  · obtain ⟨rfl, rfl⟩ : g = g' ∧ cap = cap' := by simpa using e
    refine Or.inr ⟨g, cap, cur.setIfInBounds p (.int .u32 (t : Int)), rfl, hb, by simp [World.setCell, Array.getElem?_modify, hg], hnc, hcm, by simpa using hcs, ?_⟩
    have hu := congrArg Array.toList (fl_upd K n p t hp)
    simp only [Array.toList_setIfInBounds] at hu
    rw [← hu, ← ht, Array.toList_setIfInBounds, List.take_set]
theorem shift_step (K L : Nat → Nat) (k cc d : Nat) (h : lv K k + cc * 4294967296 ^ k = lv L k * 10 + d) :
    lv (upd K k ((cc + L k * 10) % 4294967296)) (k + 1) + (cc + L k * 10) / 4294967296 * 4294967296 ^ (k + 1) = lv L (k + 1) * 10 + d := by
  have h0 : lv (upd K k ((cc + L k * 10) % 4294967296)) k = lv K k := lv_congr k (fun j hj => upd_ne K k _ j (by omega))
  rw [lv, lv, h0, upd_at]
  have h2 := Nat.div_add_mod (cc + L k * 10) 4294967296
  have h3 : (cc + L k * 10) / 4294967296 * 4294967296 ^ (k + 1) + (cc + L k * 10) % 4294967296 * 4294967296 ^ k = (cc + L k * 10) * 4294967296 ^ k := by
    rw [Nat.pow_succ, Nat.mul_comm (4294967296 ^ k), ← Nat.mul_assoc, ← Nat.add_mul, Nat.mul_comm _ 4294967296, h2]
  rw [Nat.add_mul, Nat.mul_right_comm] at h3
  rw [Nat.add_mul (lv L k)]
  omega
/-- What shiftIn leaves. -/
def Sh (B : Nat) (w' : World) (e : Ending) (V n : Nat) : Prop := ∃ a' n' c' K, e = .returned (.slice a' n' c') ∧ n' ≤ n + 1 ∧ Ow 66 B w' (.slice a' n' c') n' (u32s K) ∧ (∀ j, K j < 4294967296) ∧ lv K n' = V
theorem shift_cat (K : Nat → Nat) (n x : Nat) (j : Nat) (hj : j < n + 1) : catV (u32s K) n (u32s fun _ => x) j = u32s (upd K n x) j := by
  unfold catV u32s
  split
  · rw [upd_ne _ _ _ _ (by omega)]
  · obtain rfl : j = n := by omega
    rw [upd_at]
set_option maxHeartbeats 4000000 in
theorem shift_any (B : Nat) (a : Option Addr) (n c : Nat) (L : Nat → Nat) (d : Nat) (w : World) (hO : Ow 66 B w (.slice a n c) n (u32s L)) (hL : ∀ j, L j < 4294967296) (hn : n ≤ 100000) (hd : d < 10) (hB : B ≤ w.heap.size) :
    Calls Tryz.prog 111 #[.slice a n c, .int .u32 d] w fun e w' => Sh B w' e (lv L n * 10 + d) n ∧ Below B w w' := by
  have HO0 : Hid (Ow 66 B w (.slice a n c) n (u32s L)) := hO
  have HL : Hid (∀ j, L j < 4294967296) := hL
  have HB0 : Hid (B ≤ w.heap.size) := hB
  have hnc : n ≤ c := hO.rd1.1
  have hcm : c ≤ 9223372036854775807 := hO.rd1.2.1
  have hwd : IntKind.u64.wrap (d : Int) = (d : Int) := by rw [IntKind.wrap_u64]; omega
  clear hO hL hB
  go_enter Tryz.func111, Tryz.ntmps111
  go_wp2
  go_loopw [5, 12] (fun v5 v12 wq => ∃ (k cc : Nat) (K : Nat → Nat), k ≤ n ∧ v12 = .int .i64 k ∧ v5 = .int .u64 cc ∧ cc < 10 ∧ Hid (Below B w wq) ∧ Hid (Ow 66 B wq (.slice a n c) n (u32s K)) ∧ Hid ((∀ j, K j < 4294967296) ∧ (∀ j, k ≤ j → K j = L j) ∧ lv K k + cc * 4294967296 ^ k = lv L k * 10 + d)) (fun _ v12 _ => n - (intOf v12).toNat)
  case atStart => exact ⟨0, d, L, Nat.zero_le _, rfl, rfl, hd, Below.refl _ _, HO0, HL.out, fun _ _ => rfl, by simp [lv]⟩
  case round =>
    obtain ⟨k, cc, K, hk, rfl, rfl, hcc, HW, HO, HI⟩ := hrel
    rename World => wq
    clear HO0
    by_cases hkn : k < n
    · rcases HO.out.wt with ⟨-, h⟩ | ⟨g, cap, e, hg, -, -, hWt⟩
      · exfalso; omega
      obtain ⟨rfl, rfl⟩ : a = some ⟨g, 0, none⟩ ∧ c = cap := by simpa using e
      have hKk := HI.out.2.1 k (Nat.le_refl _)
      have hck := hWt.cell k hkn
      have hfk := hWt.frozen k
      obtain ⟨x, hx⟩ : ∃ x, x = L k := ⟨_, rfl⟩
      rw [hKk, ← hx] at hck
      have hxl : x < 4294967296 := by rw [hx]; exact HL.out k
      obtain ⟨T, hT⟩ : ∃ T, T = cc + x * 10 := ⟨_, rfl⟩
      have hTl : T ≤ 42949672959 := by omega
      have HJ := shift_step K L k cc d HI.out.2.2
      rw [← hx, ← hT] at HJ
      have HJ' : Hid ((∀ j, upd K k (T % 4294967296) j < 4294967296) ∧ (∀ j, k + 1 ≤ j → upd K k (T % 4294967296) j = L j) ∧ lv (upd K k (T % 4294967296)) (k + 1) + T / 4294967296 * 4294967296 ^ (k + 1) = lv L (k + 1) * 10 + d) := ⟨fun j => by
        unfold upd; split
        · exact Nat.mod_lt _ (by decide)
        · exact HI.out.1 j, fun j hj => by rw [upd_ne _ _ _ _ (by omega)]; exact HI.out.2.1 j (by omega), HJ⟩
      have i1 : (0 : Int) ≤ (k : Int) := by omega
      have i2 : (k : Int) < (n : Int) := by omega
      have hw1 : IntKind.u64.wrap (x : Int) = (x : Int) := by rw [IntKind.wrap_u64]; omega
      have hw2 : IntKind.u64.wrap ((x : Int) * 10) = (x : Int) * 10 := by rw [IntKind.wrap_u64]; omega
      have hsum : (cc : Int) + (x : Int) * 10 = (T : Int) := by omega
      have hw3 : IntKind.u64.wrap ((cc : Int) + (x : Int) * 10) = (T : Int) := by rw [hsum, IntKind.wrap_u64]; omega
      have ht1 : (T : Int) % 4294967296 = ((T % 4294967296 : Nat) : Int) := by omega
      have ht2 : (T : Int) / 4294967296 = ((T / 4294967296 : Nat) : Int) := by omega
      have hq : T / 4294967296 < 10 := by omega
      clear HJ HI hKk hx hT hWt hsum
      generalize hQ0 : T % 4294967296 = t0 at HJ' ht1
      generalize hQ1 : T / 4294967296 = t1 at HJ' ht2 hq
      clear hQ0 hQ1
      go_wp2
      go_roundw
      case rel => exact ⟨k + 1, t1, upd K k t0, by omega, by go_num, rfl, hq, HW.out.setCell hg _, HO.out.upd k t0 hkn, HJ'.out⟩
      case measure => simp [intOf]; omega
    · obtain rfl : k = n := by omega
      have HD : Hid (∀ j, K j < 4294967296) := HI.out.1
      have HV : Hid (lv K k + cc * 4294967296 ^ k = lv L k * 10 + d) := HI.out.2.2
      clear HI
      by_cases h0 : cc = 0
      · subst h0
        have HE : Hid (lv K k = lv L k * 10 + d) := by
          have := HV.out
          rw [Nat.zero_mul, Nat.add_zero] at this
          exact this
        clear HV
        go_wp2
        go_ret
        exact ⟨⟨a, k, c, K, rfl, by omega, HO.out, HD.out, HE.out⟩, HW.out⟩
      · have hpos : (0 : Int) < (cc : Int) := by omega
        have ht1 : (cc : Int) % 4294967296 = (cc : Int) := by omega
        have HR : Hid (Rd (wq.alloc (.cells #[.int .u32 (cc : Int)] 66)) (some ⟨wq.heap.size, 0, none⟩) 1 1 (u32s fun _ => cc)) := one_rd wq _
        have HSA : Hid (B ≤ (wq.alloc (.cells #[.int .u32 (cc : Int)] 66)).heap.size) := by
          show _ ≤ _
          have h1 := HW.out.size
          have h2 := HB0.out
          simp; omega
        go_wp2_with (at_builtin; refine wpList_app eU32 rfl _ _ rfl (HO.out.alloc _) HSA.out HR.out (u32s_one _ 1) (k + 1) rfl ?_ (u32s (upd K k cc)) (shift_cat K k cc) rfl rfl ?_; omega; intro a3 c3 w3 hO3 hG3)
        have HE : lv (upd K k cc) (k + 1) = lv L k * 10 + d := by
          rw [lv, upd_at, lv_congr (K := K) k (fun j hj => upd_ne K k cc j (by omega))]
          exact HV.out
        have HB3 : Below B w w3 := (HW.out.alloc (by have h1 := HW.out.size; have h2 := HB0.out; omega) _).grown hG3 HSA.out (fun k' hk' => HO.out.row k' hk')
        go_ret
        exact ⟨⟨a3, k + 1, c3, upd K k cc, rfl, by omega, hO3, fun j => by unfold upd; split; omega; exact HD.out j, HE⟩, HB3⟩
end Go.Proofs.YtjdbapkmaggllaaGreatDoor
