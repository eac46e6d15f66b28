/- nat's divide: digits of the call's own are divided by a thousand millions in place, and the remainder is told. -/
import Derived.Test.YtjdbapkmaggllaaGreatDoorS07
import Derived.Laws.BitsAllLaws
namespace Go.Proofs.YtjdbapkmaggllaaGreatDoor
open Go.RowKit Fo
set_option maxRecDepth 100000

/-- A block of the call's own whose first cells are these digits. -/
def Wt (w : World) (g n : Nat) (L : Nat → Nat) : Prop := ∃ cur, w.heap[g]? = some (.cells cur 66 (0, 0)) ∧ n ≤ cur.size ∧ ∀ j, j < n → cur[j]? = some (.int .u32 (L j : Int))
theorem Wt.cell {w : World} {g n : Nat} {L : Nat → Nat} (h : Wt w g n L) (j : Nat) (hj : j < n) : w.cell? ⟨g, j, none⟩ = some (.int .u32 (L j)) := by
  obtain ⟨cur, h1, -, h3⟩ := h
  rw [cell_of_row w g j _ _ _ h1]; exact h3 j hj
theorem Wt.frozen {w : World} {g n : Nat} {L : Nat → Nat} (h : Wt w g n L) (j : Nat) : w.frozen? ⟨g, j, none⟩ = false := by
  obtain ⟨cur, h1, -⟩ := h
  simp [World.frozen?, h1]
theorem Wt.set {w : World} {g n : Nat} {L : Nat → Nat} (h : Wt w g n L) (p v : Nat) : Wt (w.setCell ⟨g, p, none⟩ (.int .u32 (v : Int))) g n (upd L p v) := by
  obtain ⟨cur, h1, h2, h3⟩ := h
  refine ⟨cur.setIfInBounds p (.int .u32 (v : Int)), by simp [World.setCell, Array.getElem?_modify, h1], by simpa using h2, fun j hj => ?_⟩
  rw [Array.getElem?_setIfInBounds]
  by_cases e : p = j
  · subst e
    rw [if_pos rfl, if_pos (by omega), upd_at]
  · rw [if_neg e, upd_ne L p v j (by omega)]; exact h3 j hj
theorem Wt.rd {w : World} {g n c : Nat} {L : Nat → Nat} (h : Wt w g n L) (hc : n ≤ c) (hm : c ≤ 9223372036854775807) : Rd w (some ⟨g, 0, none⟩) n c (u32s L) :=
  ⟨hc, hm, Or.inr ⟨g, 0, rfl, fun j hj => by rw [Nat.zero_add]; exact h.cell j hj⟩⟩
theorem Wt.kept {w w' : World} {g n : Nat} {L : Nat → Nat} (h : Wt w g n L) (e : w'.heap[g]? = w.heap[g]?) : Wt w' g n L := by
  obtain ⟨cur, h1, h2⟩ := h
  exact ⟨cur, e.trans h1, h2⟩
theorem Wt.head {w : World} {g n m : Nat} {L K : Nat → Nat} (h : Wt w g n L) (hm : m ≤ n) (he : ∀ j, j < m → L j = K j) : Wt w g m K := by
  obtain ⟨cur, h1, h2, h3⟩ := h
  exact ⟨cur, h1, by omega, fun j hj => by rw [← he j hj]; exact h3 j (by omega)⟩
theorem Wt.lt {w : World} {g n : Nat} {L : Nat → Nat} (h : Wt w g n L) : g < w.heap.size := by
  obtain ⟨cur, h1, -⟩ := h
  exact (Array.getElem?_eq_some_iff.1 h1).1
theorem Fo.Ow.wt {B : Nat} {w : World} {v : Value} {n : Nat} {L : Nat → Nat} (h : Ow 66 B w v n (u32s L)) : (v = .slice none 0 0 ∧ n = 0) ∨ ∃ g cap, v = .slice (some ⟨g, 0, none⟩) n cap ∧ B ≤ g ∧ n ≤ cap ∧ cap ≤ 9223372036854775807 ∧ Wt w g n L := by
  rcases h.2 with h' | ⟨g, cap, cur, rfl, hb, hg, hnc, hcm, hcs, ht⟩
  · exact Or.inl h'
  · refine Or.inr ⟨g, cap, rfl, hb, hnc, by unfold maxLen at hcm; omega, cur, hg, by omega, fun j hj => ?_⟩
    have h1 : (cur.toList.take (n * 1))[j]? = (fl (u32s L) n)[j]? := by rw [ht]
    rw [fl_get _ n j hj, List.getElem?_take_of_lt (by omega)] at h1
    simpa [u32s] using h1
theorem grown_refl (w : World) (r : Option Nat) : w.grownBy w r := ⟨rfl, rfl, rfl, Nat.le_refl _, fun _ _ _ => rfl⟩
theorem grown_set {a w : World} {g : Nat} (h : a.grownBy w (some g)) (p : Nat) (u : Value) : a.grownBy (w.setCell ⟨g, p, none⟩ u) (some g) :=
  ⟨h.os, h.tape, h.output, Nat.le_trans h.size (by simp [World.setCell]), fun k hk hne => by
    rw [Below.heap_setCell w ⟨g, p, none⟩ u k (fun e => hne (by rw [e]))]; exact h.block k hk hne⟩
theorem grown_drew {a w : World} {r : Option Nat} (h : a.grownBy w r) : a.grownBy w.drew r := ⟨h.os, h.tape, h.output, h.size, h.block⟩
theorem grown_drewN {a w : World} {r : Option Nat} (h : a.grownBy w r) (n : Nat) : a.grownBy (w.drewN n) r := ⟨h.os, h.tape, h.output, h.size, h.block⟩
theorem shl_or (r e : Nat) (h : e < 4294967296) : r * 4294967296 ||| e = r * 4294967296 + e := by
  have h1 := Nat.two_pow_add_eq_or_of_lt (i := 32) (b := e) (by simpa using h) r
  have h2 : (2 : Nat) ^ 32 = 4294967296 := by decide
  rw [h2, Nat.mul_comm] at h1
  exact h1.symm
theorem div_core (D x y z V qm em rm sm : Nat) (h3 : D * qm + sm = rm + em) (h1 : x + em = y + qm) (h : y * D + rm + (z + em) = V + (z + em) * D) : x * D + sm + z = V + z * D := by
  have h4 : (x + em) * D = (y + qm) * D := by rw [h1]
  rw [Nat.add_mul, Nat.add_mul] at h4
  rw [Nat.add_mul] at h
  rw [Nat.mul_comm D] at h3
  omega
theorem div_inv (K L : Nat → Nat) (n m r V : Nat) (hm : m < n) (hK : K m = L m) (h : lv K n * 1000000000 + r * 4294967296 ^ (m + 1) + lv L (m + 1) = V + lv L (m + 1) * 1000000000) :
    lv (upd K m ((r * 4294967296 + L m) / 1000000000)) n * 1000000000 + (r * 4294967296 + L m) % 1000000000 * 4294967296 ^ m + lv L m = V + lv L m * 1000000000 := by
  have h1 := lv_upd K m ((r * 4294967296 + L m) / 1000000000) n hm
  rw [hK] at h1
  have h2 := Nat.div_add_mod (r * 4294967296 + L m) 1000000000
  generalize (r * 4294967296 + L m) / 1000000000 = q at h1 h2 ⊢
  generalize (r * 4294967296 + L m) % 1000000000 = s at h2 ⊢
  rw [lv, Nat.pow_succ] at h
  have h3 : (1000000000 * q + s) * 4294967296 ^ m = (r * 4294967296 + L m) * 4294967296 ^ m := by rw [h2]
  rw [Nat.add_mul, Nat.add_mul] at h3
  rw [show r * (4294967296 ^ m * 4294967296) = r * 4294967296 * 4294967296 ^ m by rw [Nat.mul_comm (4294967296 ^ m), Nat.mul_assoc]] at h
  rw [Nat.mul_assoc 1000000000] at h3
  generalize q * 4294967296 ^ m = qm at h1 h3
  generalize L m * 4294967296 ^ m = em at h1 h3 h
  generalize r * 4294967296 * 4294967296 ^ m = rm at h3 h
  generalize s * 4294967296 ^ m = sm at h3 ⊢
  generalize lv (upd K m q) n = x at h1 ⊢
  generalize lv K n = y at h1 h
  generalize lv L m = z at h ⊢
  exact div_core 1000000000 x y z V qm em rm sm h3 h1 h
set_option maxHeartbeats 4000000 in
theorem divide_any (g n c : Nat) (L : Nat → Nat) (w : World) (hW : Wt w g n L) (hL : ∀ j, L j < 4294967296) (hn : n ≤ 100000) (hc : n ≤ c) (hcm : c ≤ 9223372036854775807) (V : Nat) (hV : lv L n = V) :
    Calls Tryz.prog 101 #[.slice (some ⟨g, 0, none⟩) n c, .int .u64 1000000000] w fun e w' => e = .returned (.int .u32 ((V % 1000000000 : Nat) : Int)) ∧ (∃ K, Wt w' g n K ∧ (∀ j, K j < 4294967296) ∧ lv K n = V / 1000000000) ∧ w.grownBy w' (some g) := by
  have HW0 : Hid (Wt w g n L) := hW
  have HL0 : Hid (∀ j, L j < 4294967296) := hL
  have HV : Hid (lv L n = V) := hV
  clear hW hL hV
  go_enter Tryz.func101, Tryz.ntmps101
  go_wp2
  go_loopw [5, 6] (fun v5 v6 wq => ∃ (k r : Nat) (K : Nat → Nat), k ≤ n ∧ v6 = .int .i64 ((k : Int) - 1) ∧ v5 = .int .u64 r ∧ r < 1000000000 ∧ Hid (w.grownBy wq (some g)) ∧ Hid (Wt wq g n K) ∧ Hid ((∀ j, K j < 4294967296) ∧ (∀ j, j < k → K j = L j) ∧ lv K n * 1000000000 + r * 4294967296 ^ k + lv L k = V + lv L k * 1000000000)) (fun _ v6 _ => (intOf v6 + 1).toNat)
  case atStart => exact ⟨n, 0, L, Nat.le_refl _, by go_num, rfl, by decide, grown_refl _ _, HW0, HL0.out, fun _ _ => rfl, by rw [Nat.zero_mul, HV.out]; omega⟩
  case round =>
    obtain ⟨k, r, K, hk, rfl, rfl, hr, HG, HK, HI⟩ := hrel
    rename World => wq
    by_cases h0 : k = 0
    · subst h0
      have HE : Hid (lv K n = V / 1000000000 ∧ r = V % 1000000000) := by
        have h1 := HI.out.2.2
        rw [Nat.pow_zero] at h1
        simp only [lv] at h1
        show lv K n = V / 1000000000 ∧ r = V % 1000000000
        omega
      have HD : Hid (∀ j, K j < 4294967296) := HI.out.1
      have hw1 : IntKind.u32.wrap (r : Int) = (r : Int) := by rw [IntKind.wrap_u32]; omega
      clear HI HV HW0 HL0
      go_wp2
      go_ret
      exact ⟨ret_int (by rw [HE.out.2]), ⟨K, HK.out, HD.out, HE.out.1⟩, HG.out⟩
    · obtain ⟨m, rfl⟩ : ∃ m, k = m + 1 := ⟨k - 1, by omega⟩
      have hKm := HI.out.2.1 m (by omega)
      have HINV := div_inv K L n m r V (by omega) hKm HI.out.2.2
      obtain ⟨e, he⟩ : ∃ e, e = L m := ⟨_, rfl⟩
      have hel : e < 4294967296 := by rw [he]; exact HL0.out m
      have hck := HK.out.cell m (by omega)
      have hfk := HK.out.frozen m
      rw [hKm, ← he] at hck
      rw [← he] at HINV
      obtain ⟨T, hT⟩ : ∃ T, T = r * 4294967296 + e := ⟨_, rfl⟩
      rw [← hT] at HINV
      have hTl : T < 4294967296000000000 := by omega
      have hq1 : T / 1000000000 < 4294967296 := by omega
      have hq2 : T % 1000000000 < 1000000000 := Nat.mod_lt _ (by decide)
      have HJ : Hid ((∀ j, upd K m (T / 1000000000) j < 4294967296) ∧ (∀ j, j < m → upd K m (T / 1000000000) j = L j) ∧ lv (upd K m (T / 1000000000)) n * 1000000000 + T % 1000000000 * 4294967296 ^ m + lv L m = V + lv L m * 1000000000) := ⟨fun j => by
        unfold upd; split
        · exact hq1
        · exact HI.out.1 j, fun j hj => by rw [upd_ne _ _ _ _ (by omega)]; exact HI.out.2.1 j (by omega), HINV⟩
      have hor : bits .or .u64 ((r : Int) * 4294967296) (e : Int) = (T : Int) := by
        have h1 := u64_or_nat (r * 4294967296) e (by omega) (by omega)
        rw [shl_or r e hel, ← hT] at h1
        rw [← h1]; congr 1
      have htm : (T : Int).tmod 1000000000 = ((T % 1000000000 : Nat) : Int) := by rw [Int.tmod_eq_emod_of_nonneg (by omega)]; omega
      have htd : (T : Int).tdiv 1000000000 = ((T / 1000000000 : Nat) : Int) := by rw [Int.tdiv_eq_ediv_of_nonneg (by omega)]; omega
      have hwd : IntKind.u64.wrap ((T / 1000000000 : Nat) : Int) = ((T / 1000000000 : Nat) : Int) := by rw [IntKind.wrap_u64]; omega
      have hwe : ((T / 1000000000 : Nat) : Int) % 4294967296 = ((T / 1000000000 : Nat) : Int) := by omega
      clear HINV HI hKm he HW0 HL0 HV hT
      generalize hQ0 : T % 1000000000 = t0 at HJ htm hq2
      generalize hQ1 : T / 1000000000 = t1 at HJ htd hwd hwe hq1
      clear hQ0 hQ1
      go_wp2
      go_roundw
      case rel => exact ⟨m, t0, upd K m t1, by omega, rfl, rfl, hq2, grown_set HG.out m _, HK.out.set m t1, HJ.out⟩
      case measure => simp [intOf]
end Go.Proofs.YtjdbapkmaggllaaGreatDoor
