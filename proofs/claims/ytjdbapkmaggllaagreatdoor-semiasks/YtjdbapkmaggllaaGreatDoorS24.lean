/- nat's addRow: so many times a number is added to the digits of another one, from a place on. -/
import Derived.Test.YtjdbapkmaggllaaGreatDoorS08
import Derived.Test.YtjdbapkmaggllaaGreatDoorS06
namespace Go.Proofs.YtjdbapkmaggllaaGreatDoor
open Go.RowKit Fo
set_option maxRecDepth 100000

theorem room_of {K : Nat → Nat} {n r k cc TOT : Nat} (h : lv K n + cc * 4294967296 ^ (r + k) = TOT) (hT : TOT < 4294967296 ^ n) (hc : 0 < cc) : r + k < n := by
  rcases Nat.lt_or_ge (r + k) n with h' | h'
  · exact h'
  · exfalso
    have h1 : 4294967296 ^ n ≤ 4294967296 ^ (r + k) := Nat.pow_le_pow_right (by decide) h'
    have h2 : 1 * 4294967296 ^ (r + k) ≤ cc * 4294967296 ^ (r + k) := Nat.mul_le_mul_right _ hc
    omega
set_option maxHeartbeats 4000000 in
theorem addrow_any (W : World) (b : Option Addr) (m d B x g r n q : Nat) (L : Nat → Nat) (w : World) (hRb : Rd W b m d (u32s (dg B))) (hm : ln B ≤ m)
    (hW : Below W.heap.size W w) (hg : W.heap.size ≤ g) (hK : Bk w g n L) (hL : ∀ j, L j < 4294967296) (hx : x < 4294967296) (hq : r + q = n) (hmq : m ≤ q) (hn : n ≤ 1000000)
    (TOT : Nat) (hT : lv L n + x * 4294967296 ^ r * B = TOT) (hTn : TOT < 4294967296 ^ n) :
    Calls Tryz.prog 92 #[.slice (some ⟨g, r, none⟩) q q, .slice b m d, .int .u32 x] w fun e w' => e = .returned (.tuple #[]) ∧ ∃ K, Bk w' g n K ∧ (∀ j, K j < 4294967296) ∧ lv K n = TOT ∧ Below W.heap.size W w' := by
  have HRb : Hid (Rd W b m d (u32s (dg B))) := hRb
  have HmB : Hid (B % 4294967296 ^ m = B) := Nat.mod_eq_of_lt (lt_of_ln hm)
  have HW0 : Hid (Below W.heap.size W w) := hW
  have HK0 : Hid (Bk w g n L) := hK
  have HL0 : Hid (∀ j, L j < 4294967296) := hL
  have HT : Hid (lv L n + x * 4294967296 ^ r * B = TOT) := hT
  have HTn : Hid (TOT < 4294967296 ^ n) := hTn
  clear hRb hm hW hK hL hT hTn
  go_enter Tryz.func92, Tryz.ntmps92
  go_wp2
  go_loopw [6, 12] (fun v6 v12 wq => ∃ (k cc : Nat) (K : Nat → Nat), k ≤ m ∧ v12 = .int .i64 k ∧ v6 = .int .u64 cc ∧ cc < 4294967296 ∧ Hid (Below W.heap.size W wq) ∧ Hid (Bk wq g n K) ∧ Hid ((∀ j, K j < 4294967296) ∧ lv K n + cc * 4294967296 ^ (r + k) = lv L n + x * 4294967296 ^ r * (B % 4294967296 ^ k))) (fun _ v12 _ => m - (intOf v12).toNat)
  case atStart => exact ⟨0, 0, L, Nat.zero_le _, rfl, rfl, by decide, HW0, HK0, HL0.out, by rw [Nat.pow_zero, Nat.mod_one, Nat.zero_mul, Nat.mul_zero]⟩
  case round =>
    obtain ⟨k, cc, K, hk, rfl, rfl, hcc2, HW, HK, HL⟩ := hrel
    rename World => wq
    by_cases hkm : k < m
    · obtain ⟨gb, ob, rfl, hcb⟩ := (HRb.out.below HW.out).at (by omega)
      have hdk := hcb k hkm
      unfold u32s at hdk
      have hwk := HK.out.cell (r + k) (by omega)
      have hfk := HK.out.frozen (r + k)
      obtain ⟨y, hy⟩ : ∃ y, y = dg B k := ⟨_, rfl⟩
      obtain ⟨e, he⟩ : ∃ e, e = K (r + k) := ⟨_, rfl⟩
      have hyl : y < 4294967296 := by rw [hy]; exact dg_lt _ _
      have hel : e < 4294967296 := by rw [he]; exact HL.out.1 _
      obtain ⟨z, hz⟩ : ∃ z, z = x * y := ⟨_, rfl⟩
      have hzl : z ≤ 18446744065119617025 := by rw [hz]; exact Nat.le_trans (Nat.mul_le_mul (show x ≤ 4294967295 by omega) (show y ≤ 4294967295 by omega)) (by decide)
      obtain ⟨T, hT⟩ : ∃ T, T = cc + z + e := ⟨_, rfl⟩
      have hTl : T ≤ 18446744073709551615 := by omega
      have HINV : Hid (lv (upd K (r + k) (T % 4294967296)) n + T / 4294967296 * 4294967296 ^ (r + (k + 1)) = lv L n + x * 4294967296 ^ r * (B % 4294967296 ^ (k + 1))) := by
        have h1 := mul_step K n (r + k) cc x y (lv L n) (x * 4294967296 ^ r * (B % 4294967296 ^ k)) (by omega) HL.out.2
        rw [← he, ← hz, ← hT] at h1
        show lv (upd K (r + k) (T % 4294967296)) n + T / 4294967296 * 4294967296 ^ (r + (k + 1)) = _
        rw [← Nat.add_assoc, h1, hz, hy, mul_q]
      have HDG : Hid (∀ j, upd K (r + k) (T % 4294967296) j < 4294967296) := fun j => by
        unfold upd; split
        · exact Nat.mod_lt _ (by decide)
        · exact HL.out.1 j
      rw [← hy] at hdk
      rw [← he] at hwk
      have hxy : (x : Int) * (y : Int) = (z : Int) := by rw [hz]; rfl
      have hsum : (cc : Int) + ((z : Int) + (e : Int)) = (T : Int) := by omega
      have ht1 : (T : Int) % 4294967296 = ((T % 4294967296 : Nat) : Int) := by omega
      have ht2 : (T : Int) / 4294967296 = ((T / 4294967296 : Nat) : Int) := by omega
      have hw1 : IntKind.u64.wrap (x : Int) = (x : Int) := by rw [IntKind.wrap_u64]; omega
      have hw2 : IntKind.u64.wrap (y : Int) = (y : Int) := by rw [IntKind.wrap_u64]; omega
      have hw3 : IntKind.u64.wrap ((x : Int) * (y : Int)) = (z : Int) := by rw [hxy, IntKind.wrap_u64]; omega
      have hw4 : IntKind.u64.wrap ((z : Int) + (e : Int)) = (z : Int) + (e : Int) := by rw [IntKind.wrap_u64]; omega
      have hw5 : IntKind.u64.wrap ((cc : Int) + ((z : Int) + (e : Int))) = (T : Int) := by rw [hsum, IntKind.wrap_u64]; omega
      clear hxy hsum
      have hq1 : T / 4294967296 < 4294967296 := by omega
      have i3 : (0 : Int) ≤ (k : Int) := by omega
      have i4 : (k : Int) < (m : Int) := by omega
      have i6 : (k : Int) < (q : Int) := by omega
      clear hcb HL hy he hz hT HRb HmB HW0 HK0 HL0 HT HTn hyl
      generalize hQ0 : T % 4294967296 = t0 at HINV HDG ht1
      generalize hQ1 : T / 4294967296 = t1 at HINV ht2 hq1
      clear hQ0 hQ1
      go_wp2
      go_roundw
      case rel => exact ⟨k + 1, t1, upd K (r + k) t0, by omega, by go_num, rfl, hq1, HW.out.setCell hg _, HK.out.set (r + k) t0 (by omega), HDG.out, HINV.out⟩
      case measure => simp [intOf]; omega
    · obtain rfl : k = m := by omega
      have HT2 : Hid (lv K n + cc * 4294967296 ^ (r + k) = TOT) := by
        show lv K n + cc * 4294967296 ^ (r + k) = TOT
        rw [HL.out.2, HmB.out]; exact HT.out
      have HDG0 : Hid (∀ j, K j < 4294967296) := HL.out.1
      clear HL HT HRb HmB HW0 HK0 HL0
      go_wp2
      go_loopw [6, 9] (fun v6 v9 wq => ∃ (p cc : Nat) (K : Nat → Nat), p ≤ q ∧ v9 = .int .i64 p ∧ v6 = .int .u64 cc ∧ cc < 4294967296 ∧ Hid (Below W.heap.size W wq) ∧ Hid (Bk wq g n K) ∧ Hid ((∀ j, K j < 4294967296) ∧ lv K n + cc * 4294967296 ^ (r + p) = TOT)) (fun _ v9 _ => q - (intOf v9).toNat)
      case atStart => exact ⟨k, cc, K, hmq, rfl, rfl, hcc2, HW, HK, HDG0.out, HT2.out⟩
      case round =>
        clear HW HK HT2 HDG0 hcc2
        obtain ⟨p, c2, K2, hp, rfl, rfl, hc2, HW, HK, HL⟩ := hrel
        rename World => wp
        by_cases h0 : c2 = 0
        · subst h0
          have HE : Hid (lv K2 n = TOT) := by
            have := HL.out.2
            rw [Nat.zero_mul, Nat.add_zero] at this
            exact this
          have HDG : Hid (∀ j, K2 j < 4294967296) := HL.out.1
          clear HL HTn
          go_wp2
          go_end0
          exact ⟨rfl, K2, HK.out, HDG.out, HE.out, HW.out⟩
        · have hrm : r + p < n := room_of HL.out.2 HTn.out (by omega)
          have hwk := HK.out.cell (r + p) (by omega)
          have hfk := HK.out.frozen (r + p)
          obtain ⟨e, he⟩ : ∃ e, e = K2 (r + p) := ⟨_, rfl⟩
          have hel : e < 4294967296 := by rw [he]; exact HL.out.1 _
          obtain ⟨T, hT⟩ : ∃ T, T = c2 + e := ⟨_, rfl⟩
          have hTl : T ≤ 18446744073709551615 := by omega
          have HINV : Hid (lv (upd K2 (r + p) (T % 4294967296)) n + T / 4294967296 * 4294967296 ^ (r + (p + 1)) = TOT) := by
            have h1 := mul_step K2 n (r + p) c2 0 0 TOT 0 (by omega) (by rw [Nat.add_zero]; exact HL.out.2)
            simp only [Nat.zero_mul, Nat.mul_zero, Nat.add_zero] at h1
            rw [← he, ← hT] at h1
            show lv (upd K2 (r + p) (T % 4294967296)) n + T / 4294967296 * 4294967296 ^ (r + (p + 1)) = TOT
            rw [← Nat.add_assoc, h1]
          have HDG : Hid (∀ j, upd K2 (r + p) (T % 4294967296) j < 4294967296) := fun j => by
            unfold upd; split
            · exact Nat.mod_lt _ (by decide)
            · exact HL.out.1 j
          rw [← he] at hwk
          have hsum : (c2 : Int) + (e : Int) = (T : Int) := by omega
          have ht1 : (T : Int) % 4294967296 = ((T % 4294967296 : Nat) : Int) := by omega
          have ht2 : (T : Int) / 4294967296 = ((T / 4294967296 : Nat) : Int) := by omega
          have hw2 : IntKind.u64.wrap (e : Int) = (e : Int) := by rw [IntKind.wrap_u64]; omega
          have hw5 : IntKind.u64.wrap ((c2 : Int) + (e : Int)) = (T : Int) := by rw [hsum, IntKind.wrap_u64]; omega
          clear hsum
          have hq1 : T / 4294967296 < 4294967296 := by omega
          have hpos : (0 : Int) < (c2 : Int) := by omega
          have i3 : (0 : Int) ≤ (p : Int) := by omega
          have i6 : (p : Int) < (q : Int) := by omega
          clear HL he hT HTn
          generalize hQ0 : T % 4294967296 = t0 at HINV HDG ht1
          generalize hQ1 : T / 4294967296 = t1 at HINV ht2 hq1
          clear hQ0 hQ1
          go_wp2
          go_roundw
          case rel => exact ⟨p + 1, t1, upd K2 (r + p) t0, by omega, by go_num, rfl, hq1, HW.out.setCell hg _, HK.out.set (r + p) t0 (by omega), HDG.out, HINV.out⟩
          case measure => simp [intOf]; omega
end Go.Proofs.YtjdbapkmaggllaaGreatDoor
