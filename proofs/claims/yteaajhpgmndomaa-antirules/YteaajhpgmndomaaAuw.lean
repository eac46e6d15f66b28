/- addUnions: the walk. -/
import Derived.Test.YteaajhpgmndomaaAun
namespace Go.Proofs.Yteaajhpgmndomaa
open Go.RowKit Fo
set_option maxRecDepth 100000

theorem own_len (a : Option Addr) (n m c : Nat) : (Value.slice a n c).ownBlock = (Value.slice a m c).ownBlock := by
  cases a <;> rfl
set_option maxHeartbeats 16000000 in
theorem addUnions_any (F : Nat → Prop) (w : World) (kp vl vr : Value) (most : Int) (KK l r : List (List Int)) (h : KIn F w kp most KK) (hL : LIO F w vl l) (hR : LIO F w vr r) (rL : ∀ a, a ∈ l → Rise a) (rR : ∀ a, a ∈ r → Rise a) (lL : ∀ a, a ∈ l → a.length ≤ 5000) (lR : ∀ a, a ∈ r → a.length ≤ 5000) (nL : l.length ≤ 5000) (nR : r.length ≤ 5000) (hm5 : most ≤ 5000) (hm : (KK.length : Int) ≤ most) :
    Calls Try.prog 48 #[kp, vl, vr] w fun e w' => AuR F most KK l r kp w e w' := by
  have HIL : IsLL w vl l := by obtain ⟨a, c, V, e, q, s⟩ := hL; exact ⟨a, c, V, e, q.1, fun j hj => (s j hj).setIn.isL⟩
  have HIR : IsLL w vr r := by obtain ⟨a, c, V, e, q, s⟩ := hR; exact ⟨a, c, V, e, q.1, fun j hj => (s j hj).setIn.isL⟩
  have HSZ := sizes_any w vl vr l r HIL HIR rL rR (fun a ha => by have := lL a ha; omega) (fun a ha => by have := lR a ha; omega) nL nR
  obtain ⟨la, lc, VL, rfl, hrl, hsl⟩ := hL
  obtain ⟨ra, rc, VR, rfl, hrr, hsr⟩ := hR
  obtain ⟨kb, rfl⟩ : ∃ kb, kp = .pointer (some ⟨kb, 0, none⟩) := by obtain ⟨kb, _, _, _, _, _, _, e, _⟩ := id h; exact ⟨kb, e⟩
  obtain ⟨n, hn⟩ : ∃ n, n = l.length := ⟨_, rfl⟩
  obtain ⟨m, hmm⟩ : ∃ m, m = r.length := ⟨_, rfl⟩
  obtain ⟨P, hP⟩ : ∃ P, P = n * m := ⟨_, rfl⟩
  rw [← hn, ← hmm, ← hP] at HSZ
  rw [← hn] at hrl hsl nL ⊢
  rw [← hmm] at hrr hsr nR ⊢
  have HNq : Hid (n = l.length) := hn
  have HMq : Hid (m = r.length) := hmm
  have hPle : P ≤ 25000000 := by rw [hP]; exact Nat.le_trans (Nat.mul_le_mul nL nR) (by decide)
  have HPq : Hid (P = l.length * r.length) := by show _ = _; rw [hP, hn, hmm]
  have HKI : Hid (KIn F w (.pointer (some ⟨kb, 0, none⟩)) most KK) := h
  have HRL : Hid (RdO 23 F w la n lc VL) := hrl
  have HRR : Hid (RdO 23 F w ra m rc VR) := hrr
  have HSL : Hid (∀ j, j < n → SIO F w (VL j) (gs l j)) := hsl
  have HSR : Hid (∀ j, j < m → SIO F w (VR j) (gs r j)) := hsr
  have HrL : Hid (∀ a, a ∈ l → Rise a) := rL
  have HrR : Hid (∀ a, a ∈ r → Rise a) := rR
  have HlL : Hid (∀ a, a ∈ l → a.length ≤ 5000) := lL
  have HlR : Hid (∀ a, a ∈ r → a.length ≤ 5000) := lR
  have HM : Hid ((KK.length : Int) ≤ most) := hm
  have HM5 : Hid (most ≤ 5000) := hm5
  have HFl : Hid (∀ b, F b → b < w.heap.size) := h.lt
  have hl1 := hrl.1.1
  have hl2 := hrl.1.2.1
  have hr1 := hrr.1.1
  have hr2 := hrr.1.2.1
  have HDec : Hid (∀ k, k < P → k / m < n ∧ k % m < m ∧ 0 < m) := fun k hk => by
    have := pair_lt (l := l) (r := r) (k := k) (by rw [← HPq.out]; exact hk)
    rw [← HNq.out, ← HMq.out] at this
    exact ⟨this.1, this.2, by omega⟩
  have HSzl : Hid (∀ k, k < P → szs l r k ≤ 10000) := fun k hk => by
    have hd := HDec.out k hk
    have ha := gs_mem.2 ⟨k / m, by rw [← HNq.out]; exact hd.1, rfl⟩
    have hb := gs_mem.2 ⟨k % m, by rw [← HMq.out]; exact hd.2.1, rfl⟩
    unfold szs
    rw [← HMq.out]
    have := uni_le _ _ (HrL.out _ ha) (HrR.out _ hb)
    have := HlL.out _ ha
    have := HlR.out _ hb
    omega
  clear h hrl hrr hsl hsr rL rR lL lR hn hmm hP hm hm5 HIL HIR
  go_enter Try.func48, Try.ntmps48
  go_wp2_with (go_at_call 60; fail)
  refine HSZ.mono ?_
  rintro e w1 ⟨⟨u, rfl, hu⟩, b1⟩
  obtain ⟨za, zc, rfl, hzd⟩ := id hu.rd
  have hz1 := hzd.1
  have hz2 := hzd.2.1
  have HZ : Hid (Ow 21 w.heap.size w1 (.slice za P zc) P (szV l r)) := hu
  have HB1 : Hid (Below w.heap.size w w1) := b1
  have HKI1 : Hid (KIn F w1 (.pointer (some ⟨kb, 0, none⟩)) most KK) := HKI.out.frame (Kp.of_below (F := fun _ => False) b1) fun _ _ h => h
  have HW1 : Hid (w.heap.size ≤ w1.heap.size) := b1.size
  clear HSZ hu b1 hzd HKI
  go_wp2
  go_loopw [7, 8] (fun v7 v8 wr => ∃ (k : Nat) (U : List (List Int)) (Fi : Nat → Prop) (a7 : Option Addr) (k7 c7 : Nat) (X : Nat → Value), v8 = .int .i32 k ∧ k ≤ 2147483647 ∧ v7 = .slice a7 k7 c7 ∧ k7 ≤ c7 ∧ c7 ≤ 9223372036854775807 ∧ Hid (UO l r k 0 U) ∧ Hid (KIn Fi wr (.pointer (some ⟨kb, 0, none⟩)) most (adds KK U)) ∧ Hid (∀ b, Fi b → F b ∨ w1.heap.size ≤ b) ∧ Hid (Kp F w1 wr) ∧ Hid (Ow 3 w1.heap.size wr (.slice a7 k7 c7) k7 X) ∧ Hid (∀ g, (Value.slice a7 k7 c7).ownBlock = some g → ¬ Fi g) ∧ Hid (((adds KK U).length : Int) ≤ most)) (fun _ v8 _ => 2147483647 - (intOf v8).toNat)
  case atStart => exact ⟨0, [], F, none, 0, 0, fun _ => .int .i64 0, rfl, by omega, rfl, Nat.le_refl _, by omega, UO.zero l r, HKI1, fun b h => Or.inl h, Kp.refl _ _, Ow.nil _ _ _ _, fun g h => (by cases h), HM⟩
  case round =>
    obtain ⟨k, U, Fi, a7, k7, c7, X, rfl, hk, rfl, hk7, hc7, HU, HKi, HFi, HKp, HOu, HNu, HLe⟩ := hrel
    rename World => wr
    by_cases hkn : k < 2147483647
    · have hkn' : (k : Int) < 2147483647 := by omega
      go_wp2
      go_loopw [7, 9, 19] (fun v7 v9 v19 wq => ∃ (q x : Nat) (U : List (List Int)) (Fi : Nat → Prop) (a7 : Option Addr) (k7 c7 : Nat) (X : Nat → Value), v19 = .int .i64 q ∧ q ≤ P ∧ v9 = .int .i32 x ∧ x ≤ 2147483647 ∧ v7 = .slice a7 k7 c7 ∧ k7 ≤ c7 ∧ c7 ≤ 9223372036854775807 ∧ Hid (k < x ∧ ∀ j, j < q → k < szs l r j → x ≤ szs l r j) ∧ Hid (UO l r k q U) ∧ Hid (KIn Fi wq (.pointer (some ⟨kb, 0, none⟩)) most (adds KK U)) ∧ Hid (∀ b, Fi b → F b ∨ w1.heap.size ≤ b) ∧ Hid (Kp F w1 wq) ∧ Hid (Ow 3 w1.heap.size wq (.slice a7 k7 c7) k7 X) ∧ Hid (∀ g, (Value.slice a7 k7 c7).ownBlock = some g → ¬ Fi g) ∧ Hid (((adds KK U).length : Int) ≤ most)) (fun _ _ v19 _ => P - (intOf v19).toNat)
      case atStart => exact ⟨0, 2147483647, U, Fi, a7, k7, c7, X, rfl, Nat.zero_le _, rfl, Nat.le_refl _, rfl, hk7, hc7, ⟨hkn, fun j hj => absurd hj (Nat.not_lt_zero j)⟩, HU, HKi, HFi, HKp, HOu, HNu, HLe⟩
      case round =>
        clear HU HKi HFi HKp HOu HNu HLe hk7 hc7 hkn' U Fi X
        obtain ⟨q, x, U, Fi, a7, k7, c7, X, rfl, hq, rfl, hx, rfl, hk7, hc7, HX, HU, HKi, HFi, HKp, HOu, HNu, HLe⟩ := hrel
        rename World => wq
        by_cases hlt : q < P
        · have hOz := HZ.out.keepB (w' := wq) fun g hg => HKp.out.block g (HZ.out.ltb hg) fun hf => by have := HZ.out.row g hg; have := HFl.out g hf; omega
          obtain ⟨zb, rfl, -, hzc, -⟩ := hOz.cells (by omega)
          have hcz := hzc q hlt
          obtain ⟨s, hs⟩ : ∃ s, s = szs l r q := ⟨_, rfl⟩
          have HSq : Hid (s = szs l r q) := hs
          unfold szV at hcz
          rw [← hs] at hcz
          have hsl : s ≤ 10000 := by rw [hs]; exact HSzl.out q hlt
          have j1 : (0 : Int) ≤ (q : Int) := by omega
          have j2 : (q : Int) < (P : Int) := by omega
          clear hOz hzc hs
          rcases Nat.lt_trichotomy s k with hlt3 | heq | hgt
          · have e1 : ¬ (s : Int) = (k : Int) := by omega
            have e2 : ¬ (k : Int) < (s : Int) := by omega
            have HU2 : Hid (UO l r k (q + 1) U) := HU.out.skip (by rw [← HSq.out]; omega)
            have HX2 : Hid (k < x ∧ ∀ j, j < q + 1 → k < szs l r j → x ≤ szs l r j) := ⟨HX.out.1, fun j hj hh => by
              by_cases e : j = q
              · rw [e, ← HSq.out] at hh; omega
              · exact HX.out.2 j (by omega) hh⟩
            go_wp2
            go_roundw
            case rel => exact ⟨q + 1, x, U, Fi, a7, k7, c7, X, by go_num, by omega, rfl, hx, rfl, hk7, hc7, HX2, HU2, HKi, HFi, HKp, HOu, HNu, HLe⟩
            case measure => simp [intOf]; omega
          · have e1 : (s : Int) = (k : Int) := by omega
            have hd := HDec.out q hlt
            obtain ⟨i, hi⟩ : ∃ i, i = q / m := ⟨_, rfl⟩
            obtain ⟨j, hj⟩ : ∃ j, j = q % m := ⟨_, rfl⟩
            rw [← hi, ← hj] at hd
            obtain ⟨hd1, hd2, hd3⟩ := hd
            have hdiv : (q : Int) / (m : Int) = (i : Int) := by rw [hi]; exact (Int.natCast_ediv q m).symm
            have hmod : (q : Int) % (m : Int) = (j : Int) := by rw [hj]; exact (Int.natCast_emod q m).symm
            have HUk : Hid (uniK l r q = uniL (gs l i) (gs r j)) := by show _ = _; unfold uniK; rw [← HMq.out, ← hi, ← hj]
            have HKw : Hid (Kp F w wq) := (Kp.of_below (F := F) HB1.out).trans HKp.out fun _ _ h => h
            obtain ⟨b, off, rfl, hcl⟩ := (HRL.out.step HKw.out fun _ _ h => h).1.at (by omega)
            obtain ⟨b2, off2, rfl, hcr⟩ := (HRR.out.step HKw.out fun _ _ h => h).1.at (by omega)
            have hbl : b < w.heap.size := by
              rcases HRL.out.2 with h0 | ⟨b', off', cur, fr, ea, -, hc⟩
              · omega
              · obtain ⟨rfl, rfl⟩ : b = b' ∧ off = off' := by simpa using ea
                exact lt_of_heap hc
            have hbr : b2 < w.heap.size := by
              rcases HRR.out.2 with h0 | ⟨b', off', cur, fr, ea, -, hc⟩
              · omega
              · obtain ⟨rfl, rfl⟩ : b2 = b' ∧ off2 = off' := by simpa using ea
                exact lt_of_heap hc
            have hci := hcl i hd1
            have hcj := hcr j hd2
            obtain ⟨sa, sc, hvi, -⟩ := id (HSL.out i hd1)
            obtain ⟨ta, tc, hvj, -⟩ := id (HSR.out j hd2)
            rw [hvi] at hci
            rw [hvj] at hcj
            have HSi : Hid (SIO F w (.slice sa (gs l i).length sc) (gs l i)) := by have := HSL.out i hd1; rw [hvi] at this; exact this
            have HSj : Hid (SIO F w (.slice ta (gs r j).length tc) (gs r j)) := by have := HSR.out j hd2; rw [hvj] at this; exact this
            have HRo : Hid (∀ g, (Value.slice a7 0 c7).ownBlock = some g → w1.heap.size ≤ g ∧ ¬ Fi g) := fun g hg => ⟨HOu.out.row g (own_len a7 0 k7 c7 ▸ hg), HNu.out g (own_len a7 0 k7 c7 ▸ hg)⟩
            have hmi := gs_mem.2 ⟨i, by rw [← HNq.out]; exact hd1, rfl⟩
            have hmj := gs_mem.2 ⟨j, by rw [← HMq.out]; exact hd2, rfl⟩
            have HRi : Hid (Rise (gs l i) ∧ (gs l i).length ≤ 5000) := ⟨HrL.out _ hmi, HlL.out _ hmi⟩
            have HRj : Hid (Rise (gs r j) ∧ (gs r j).length ≤ 5000) := ⟨HrR.out _ hmj, HlR.out _ hmj⟩
            have i1 : (0 : Int) ≤ (i : Int) := by omega
            have i2 : (i : Int) < (n : Int) := by omega
            have i3 : (0 : Int) ≤ (j : Int) := by omega
            have i4 : (j : Int) < (m : Int) := by omega
            have i5 : (1 : Int) ≤ (m : Int) := by omega
            have i6 : ¬ m = 0 := by omega
            have hwi : IntKind.i64.wrap (i : Int) = (i : Int) := Go.IntWalk.i64_in _ (by omega)
            have hwj : IntKind.i64.wrap (j : Int) = (j : Int) := Go.IntWalk.i64_in _ (by omega)
            have htm : (q : Int).tmod (m : Int) = (j : Int) := by rw [Int.tmod_eq_emod_of_nonneg (by omega)]; exact hmod
            have HCI : Hid (wq.cell? ⟨b, off + i, none⟩ = some (.slice sa (gs l i).length sc)) := hci
            have HCJ : Hid (wq.cell? ⟨b2, off2 + j, none⟩ = some (.slice ta (gs r j).length tc)) := hcj
            have HCB : Hid (¬ (Value.slice a7 0 c7).ownBlock = some b ∧ ¬ (Value.slice a7 0 c7).ownBlock = some b2) := ⟨fun h => by
              have h1 := (HRo.out b h).1
              have h2 := hbl
              have h3 := HW1.out
              omega, fun h => by
              have h1 := (HRo.out b2 h).1
              have h2 := hbr
              have h3 := HW1.out
              omega⟩
            have hO0 := HOu.out.head0
            have HO0 : Hid (Ow 3 w1.heap.size wq (.slice a7 0 c7) 0 X) := hO0
            have HQl : Hid (q < l.length * r.length) := by show _ < _; rw [← HPq.out]; exact hlt
            have HQs : Hid (szs l r q = k) := by show _ = _; rw [← HSq.out]; exact heq
            clear hcl hcr hvi hvj hmi hmj hi hj hO0 heq hbl hbr
            go_wp2
            go_upto_region 9 with fail
            refine wp_region_held_drew (S := (fun w' => w'.cell? ⟨b, off + i, none⟩ = some (.slice sa (gs l i).length sc) ∧ w'.cell? ⟨b2, off2 + j, none⟩ = some (.slice ta (gs r j).length tc))) (by kernel_rfl) ?_ (fun hHeld => ?_)
            · (try dsimp only); exact ⟨hci, hcj⟩
            refine wpAnyH_take (i := 0) (oi := { dst := some 27, op := Op.move (Operand.tmp 7), type := 23, pos := "anti.go:212", after := #[], guard := none }) (v := ?vu12) rfl (by kernel_rfl) (by kernel_rfl) (by kernel_rfl) (fun _ _ _ h => h) (Or.inl ⟨by rfl, ?hyu12⟩) (by assumption) ?restu12
            case hyu12 => (intro w' hSw; (try dsimp only at hSw); obtain ⟨hq1, hq2⟩ := hSw; go_simp; (try with_reducible rfl))
            try simp only [Act.put, List.setIfInBounds_toArray, List.set_cons_zero, List.set_cons_succ]
            refine wpAnyH_take (i := 1) (oi := { dst := some 28, op := Op.slice 23 (Operand.tmp 27) none (some (Operand.const (Value.int IntKind.i64 0))) none, type := 23, pos := "anti.go:212", after := #[{ on := 0, ground := Ground.data }], guard := none }) (v := ?vu13) rfl (by kernel_rfl) (by kernel_rfl) (by kernel_rfl) (fun _ _ _ h => h) (Or.inl ⟨by rfl, ?hyu13⟩) (by assumption) ?restu13
            case hyu13 => (intro w' hSw; (try dsimp only at hSw); obtain ⟨hq1, hq2⟩ := hSw; go_simp; (try with_reducible rfl))
            try simp only [Act.put, List.setIfInBounds_toArray, List.set_cons_zero, List.set_cons_succ]
            refine wpAnyH_take (i := 2) (oi := { dst := some 29, op := Op.move (Operand.tmp 1), type := 22, pos := "anti.go:212", after := #[], guard := none }) (v := ?vu14) rfl (by kernel_rfl) (by kernel_rfl) (by kernel_rfl) (fun _ _ _ h => h) (Or.inl ⟨by rfl, ?hyu14⟩) (by assumption) ?restu14
            case hyu14 => (intro w' hSw; (try dsimp only at hSw); obtain ⟨hq1, hq2⟩ := hSw; go_simp; (try with_reducible rfl))
            try simp only [Act.put, List.setIfInBounds_toArray, List.set_cons_zero, List.set_cons_succ]
            refine wpAnyH_take (i := 3) (oi := { dst := some 30, op := Op.move (Operand.tmp 10), type := 3, pos := "anti.go:212", after := #[], guard := none }) (v := ?vu15) rfl (by kernel_rfl) (by kernel_rfl) (by kernel_rfl) (fun _ _ _ h => h) (Or.inl ⟨by rfl, ?hyu15⟩) (by assumption) ?restu15
            case hyu15 => (intro w' hSw; (try dsimp only at hSw); obtain ⟨hq1, hq2⟩ := hSw; go_simp; (try with_reducible rfl))
            try simp only [Act.put, List.setIfInBounds_toArray, List.set_cons_zero, List.set_cons_succ]
            refine wpAnyH_take (i := 4) (oi := { dst := some 31, op := Op.move (Operand.tmp 2), type := 22, pos := "anti.go:212", after := #[], guard := none }) (v := ?vu16) rfl (by kernel_rfl) (by kernel_rfl) (by kernel_rfl) (fun _ _ _ h => h) (Or.inl ⟨by rfl, ?hyu16⟩) (by assumption) ?restu16
            case hyu16 => (intro w' hSw; (try dsimp only at hSw); obtain ⟨hq1, hq2⟩ := hSw; go_simp; (try with_reducible rfl))
            try simp only [Act.put, List.setIfInBounds_toArray, List.set_cons_zero, List.set_cons_succ]
            refine wpAnyH_take (i := 5) (oi := { dst := some 32, op := Op.call { callee := Callee.builtin Builtin.len, args := #[Operand.tmp 31], argTypes := #[22] }, type := 3, pos := "anti.go:212", after := #[{ on := 4, ground := Ground.data }], guard := none }) (v := ?vu17) rfl (by kernel_rfl) (by kernel_rfl) (by kernel_rfl) (fun _ _ _ h => h) (Or.inl ⟨by rfl, ?hyu17⟩) (by assumption) ?restu17
            case hyu17 => (intro w' hSw; (try dsimp only at hSw); obtain ⟨hq1, hq2⟩ := hSw; go_simp; (try with_reducible rfl))
            try simp only [Act.put, List.setIfInBounds_toArray, List.set_cons_zero, List.set_cons_succ]
            refine wpAnyH_take (i := 6) (oi := { dst := some 33, op := Op.binOp BinOp.quo 3 (Operand.tmp 30) (Operand.tmp 32) 3, type := 3, pos := "anti.go:212", after := #[{ on := 3, ground := Ground.data }, { on := 5, ground := Ground.data }], guard := none }) (v := ?vu18) rfl (by kernel_rfl) (by kernel_rfl) (by kernel_rfl) (fun _ _ _ h => h) (Or.inl ⟨by rfl, ?hyu18⟩) (by assumption) ?restu18
            case hyu18 => (intro w' hSw; (try dsimp only at hSw); obtain ⟨hq1, hq2⟩ := hSw; go_simp; (try with_reducible rfl))
            try simp only [Act.put, List.setIfInBounds_toArray, List.set_cons_zero, List.set_cons_succ]
            refine wpAnyH_take (i := 7) (oi := { dst := some 34, op := Op.indexAddr 22 (Operand.tmp 29) (Operand.tmp 33), type := 0, pos := "anti.go:212", after := #[{ on := 2, ground := Ground.data }, { on := 6, ground := Ground.data }], guard := none }) (v := ?vu19) rfl (by kernel_rfl) (by kernel_rfl) (by kernel_rfl) (fun _ _ _ h => h) (Or.inl ⟨by rfl, ?hyu19⟩) (by assumption) ?restu19
            case hyu19 => (intro w' hSw; (try dsimp only at hSw); obtain ⟨hq1, hq2⟩ := hSw; go_simp; (try with_reducible rfl))
            try simp only [Act.put, List.setIfInBounds_toArray, List.set_cons_zero, List.set_cons_succ]
            refine wpAnyH_take (i := 8) (oi := { dst := some 35, op := Op.load 23 (Operand.tmp 34), type := 23, pos := "anti.go:212", after := #[{ on := 7, ground := Ground.data }], guard := none }) (v := ?vu20) rfl (by kernel_rfl) (by kernel_rfl) (by kernel_rfl) (fun _ _ _ h => h) (Or.inl ⟨by rfl, ?hyu20⟩) (by assumption) ?restu20
            case hyu20 => (intro w' hSw; (try dsimp only at hSw); obtain ⟨hq1, hq2⟩ := hSw; go_simp; (try with_reducible rfl))
            try simp only [Act.put, List.setIfInBounds_toArray, List.set_cons_zero, List.set_cons_succ]
            refine wpAnyH_take (i := 9) (oi := { dst := some 36, op := Op.move (Operand.tmp 2), type := 22, pos := "anti.go:212", after := #[], guard := none }) (v := ?vu21) rfl (by kernel_rfl) (by kernel_rfl) (by kernel_rfl) (fun _ _ _ h => h) (Or.inl ⟨by rfl, ?hyu21⟩) (by assumption) ?restu21
            case hyu21 => (intro w' hSw; (try dsimp only at hSw); obtain ⟨hq1, hq2⟩ := hSw; go_simp; (try with_reducible rfl))
            try simp only [Act.put, List.setIfInBounds_toArray, List.set_cons_zero, List.set_cons_succ]
            refine wpAnyH_take (i := 10) (oi := { dst := some 37, op := Op.move (Operand.tmp 10), type := 3, pos := "anti.go:212", after := #[], guard := none }) (v := ?vu22) rfl (by kernel_rfl) (by kernel_rfl) (by kernel_rfl) (fun _ _ _ h => h) (Or.inl ⟨by rfl, ?hyu22⟩) (by assumption) ?restu22
            case hyu22 => (intro w' hSw; (try dsimp only at hSw); obtain ⟨hq1, hq2⟩ := hSw; go_simp; (try with_reducible rfl))
            try simp only [Act.put, List.setIfInBounds_toArray, List.set_cons_zero, List.set_cons_succ]
            refine wpAnyH_take (i := 11) (oi := { dst := some 38, op := Op.move (Operand.tmp 2), type := 22, pos := "anti.go:212", after := #[], guard := none }) (v := ?vu23) rfl (by kernel_rfl) (by kernel_rfl) (by kernel_rfl) (fun _ _ _ h => h) (Or.inl ⟨by rfl, ?hyu23⟩) (by assumption) ?restu23
            case hyu23 => (intro w' hSw; (try dsimp only at hSw); obtain ⟨hq1, hq2⟩ := hSw; go_simp; (try with_reducible rfl))
            try simp only [Act.put, List.setIfInBounds_toArray, List.set_cons_zero, List.set_cons_succ]
            refine wpAnyH_take (i := 12) (oi := { dst := some 39, op := Op.call { callee := Callee.builtin Builtin.len, args := #[Operand.tmp 38], argTypes := #[22] }, type := 3, pos := "anti.go:212", after := #[{ on := 11, ground := Ground.data }], guard := none }) (v := ?vu24) rfl (by kernel_rfl) (by kernel_rfl) (by kernel_rfl) (fun _ _ _ h => h) (Or.inl ⟨by rfl, ?hyu24⟩) (by assumption) ?restu24
            case hyu24 => (intro w' hSw; (try dsimp only at hSw); obtain ⟨hq1, hq2⟩ := hSw; go_simp; (try with_reducible rfl))
            try simp only [Act.put, List.setIfInBounds_toArray, List.set_cons_zero, List.set_cons_succ]
            refine wpAnyH_take (i := 13) (oi := { dst := some 40, op := Op.binOp BinOp.rem 3 (Operand.tmp 37) (Operand.tmp 39) 3, type := 3, pos := "anti.go:212", after := #[{ on := 10, ground := Ground.data }, { on := 12, ground := Ground.data }], guard := none }) (v := ?vu25) rfl (by kernel_rfl) (by kernel_rfl) (by kernel_rfl) (fun _ _ _ h => h) (Or.inl ⟨by rfl, ?hyu25⟩) (by assumption) ?restu25
            case hyu25 => (intro w' hSw; (try dsimp only at hSw); obtain ⟨hq1, hq2⟩ := hSw; go_simp; (try with_reducible rfl))
            try simp only [Act.put, List.setIfInBounds_toArray, List.set_cons_zero, List.set_cons_succ]
            refine wpAnyH_take (i := 14) (oi := { dst := some 41, op := Op.indexAddr 22 (Operand.tmp 36) (Operand.tmp 40), type := 0, pos := "anti.go:212", after := #[{ on := 9, ground := Ground.data }, { on := 13, ground := Ground.data }], guard := none }) (v := ?vu26) rfl (by kernel_rfl) (by kernel_rfl) (by kernel_rfl) (fun _ _ _ h => h) (Or.inl ⟨by rfl, ?hyu26⟩) (by assumption) ?restu26
            case hyu26 => (intro w' hSw; (try dsimp only at hSw); obtain ⟨hq1, hq2⟩ := hSw; go_simp; (try with_reducible rfl))
            try simp only [Act.put, List.setIfInBounds_toArray, List.set_cons_zero, List.set_cons_succ]
            refine wpAnyH_take (i := 15) (oi := { dst := some 42, op := Op.load 23 (Operand.tmp 41), type := 23, pos := "anti.go:212", after := #[{ on := 14, ground := Ground.data }], guard := none }) (v := ?vu27) rfl (by kernel_rfl) (by kernel_rfl) (by kernel_rfl) (fun _ _ _ h => h) (Or.inl ⟨by rfl, ?hyu27⟩) (by assumption) ?restu27
            case hyu27 => (intro w' hSw; (try dsimp only at hSw); obtain ⟨hq1, hq2⟩ := hSw; go_simp; (try with_reducible rfl))
            try simp only [Act.put, List.setIfInBounds_toArray, List.set_cons_zero, List.set_cons_succ]
            refine wpAnyH_ready (rs := [16]) (by kernel_rfl) (by simp) ?_
            refine AllReadyH.cons (o := { dst := some 43, op := Op.call { callee := Callee.value (Operand.func 61), args := #[Operand.tmp 28, Operand.tmp 35, Operand.tmp 42], argTypes := #[23, 23, 23] }, type := 23, pos := "anti.go:212", after := #[{ on := 1, ground := Ground.data }, { on := 8, ground := Ground.data }, { on := 15, ground := Ground.data }], guard := none }) rfl (fun K hK => ?_) AllReadyH.nil
            go_simp
            go_at_call 61
            refine (appendUnion_any _ w1.heap.size (.slice a7 0 c7) _ _ (gs l i) (gs r j) X (HO0.out.below (below_refl wq).drew) (by exact HKp.out.size) (by exact (HSi.out.step HKw.out fun b hb h => by have := (HRo.out b h).1; have := HW1.out; omega).below (below_refl wq).drew) (by exact (HSj.out.step HKw.out fun b hb h => by have := (HRo.out b h).1; have := HW1.out; omega).below (below_refl wq).drew) HRi.out.1 HRj.out.1 (by have := HRi.out.2; have := HRj.out.2; omega)).mono ?_
            rintro e w5 ⟨⟨u, rfl, hu, hug⟩, hk5⟩
            have hk5' : Kp (fun b => (Value.slice a7 0 c7).ownBlock = some b) wq w5 := ⟨hk5.os, hk5.tape, hk5.output, hk5.size, hk5.block⟩
            have HK5 : Hid (Kp (fun b => (Value.slice a7 0 c7).ownBlock = some b) wq w5) := hk5'
            have HUG : Hid (∀ g, u.ownBlock = some g → (Value.slice a7 0 c7).ownBlock = some g ∨ wq.heap.size ≤ g) := hug
            have HU5 : Hid (Ow 3 w1.heap.size w5 u (uniL (gs l i) (gs r j)).length (ivs (gt (uniL (gs l i) (gs r j))))) := hu
            have hci5 : w5.cell? ⟨b, off + i, none⟩ = some (.slice sa (gs l i).length sc) := HK5.out.cell HCI.out fun h => HCB.out.1 h
            have hcj5 : w5.cell? ⟨b2, off2 + j, none⟩ = some (.slice ta (gs r j).length tc) := HK5.out.cell HCJ.out fun h => HCB.out.2 h
            obtain ⟨ua, uc, rfl, hur⟩ := hu.rd
            have hu7 := hur.1
            have hu8 := hur.2.1
            clear hu hug hk5 hk5' hur
            refine hK.out _ _ ?_ (fun hHeldB => ?_)
            · (try dsimp only); exact ⟨hci5, hcj5⟩
            clear hK K hHeld
            have hHeld := hHeldB
            clear hHeldB
            try simp only [Act.put, List.setIfInBounds_toArray, List.set_cons_zero, List.set_cons_succ]
            refine wpAnyH_take (i := 17) (oi := { dst := some 7, op := Op.assign (Operand.tmp 43), type := 23, pos := "anti.go:212", after := #[{ on := 16, ground := Ground.data }, { on := 16, ground := Ground.chain }, { on := 0, ground := Ground.phase }, { on := 1, ground := Ground.phase }, { on := 2, ground := Ground.phase }, { on := 3, ground := Ground.phase }, { on := 4, ground := Ground.phase }, { on := 5, ground := Ground.phase }, { on := 6, ground := Ground.phase }, { on := 7, ground := Ground.phase }, { on := 8, ground := Ground.phase }, { on := 9, ground := Ground.phase }, { on := 10, ground := Ground.phase }, { on := 11, ground := Ground.phase }, { on := 12, ground := Ground.phase }, { on := 13, ground := Ground.phase }, { on := 14, ground := Ground.phase }, { on := 15, ground := Ground.phase }, { on := 16, ground := Ground.phase }], guard := none }) (v := ?vu28) rfl (by kernel_rfl) (by kernel_rfl) (by kernel_rfl) (fun _ _ _ h => h) (Or.inl ⟨by rfl, ?hyu28⟩) (by assumption) ?restu28
            case hyu28 => (intro w' hSw; (try dsimp only at hSw); obtain ⟨hq1, hq2⟩ := hSw; go_simp; (try with_reducible rfl))
            try simp only [Act.put, List.setIfInBounds_toArray, List.set_cons_zero, List.set_cons_succ]
            refine wpAnyH_done (by kernel_rfl) ?_ _
            have HUO : Hid (UO l r k (q + 1) (U ++ [uniK l r q])) := HU.out.put HQl.out HQs.out
            have HUn : Hid (adds KK (U ++ [uniK l r q]) = addL (adds KK U) (uniL (gs l i) (gs r j))) := by show _ = _; rw [adds_snoc, HUk.out]
            have HKi5 : Hid (KIn Fi w5 (.pointer (some ⟨kb, 0, none⟩)) most (adds KK U)) := HKi.out.frame HK5.out fun b hb h => (HRo.out b h).2 hb
            have HNu5 : Hid (∀ g, (Value.slice ua (uniL (gs l i) (gs r j)).length uc).ownBlock = some g → ¬ Fi g) := fun g hg hf => by
              rcases HUG.out g hg with h | h
              · exact (HRo.out g h).2 hf
              · have := HKi.out.lt g hf; omega
            have HKp5 : Hid (Kp F w1 w5) := HKp.out.trans HK5.out fun b hb h => by have := (HRo.out b h).1; omega
            have hX2 : k < x ∧ ∀ t, t < q + 1 → k < szs l r t → x ≤ szs l r t := ⟨HX.out.1, fun t ht hh => by
              by_cases e : t = q
              · rw [e, HQs.out] at hh; omega
              · exact HX.out.2 t (by omega) hh⟩
            have HX2 : Hid (k < x ∧ ∀ t, t < q + 1 → k < szs l r t → x ≤ szs l r t) := hX2
            clear hX2 hHeld HKi HKp HOu HNu HU HX hci hcj hci5 hcj5 HO0
            go_wp2_with (go_at_call 52; fail)
            refine (kadd_any Fi w5 _ _ most _ (uniL (gs l i) (gs r j)) HKi5.out (HU5.out.sio HNu5.out) (uni_rise _ _ HRi.out.1 HRj.out.1) (by have := uni_le _ _ HRi.out.1 HRj.out.1; have := HRi.out.2; have := HRj.out.2; omega) (by have := HLe.out; have := HM5.out; omega) HLe.out).mono ?_
            rintro e w6 ⟨hres, hk6⟩
            have HK6 : Hid (Kp F w1 w6) := HKp5.out.trans hk6 fun b hb h => (HFi.out b h).elim id fun q => by omega
            rcases hres with ⟨rfl, hle6, hki6⟩ | ⟨he, hgt⟩
            · have HKi6 : Hid (KIn (newF Fi w5 w6) w6 (.pointer (some ⟨kb, 0, none⟩)) most (adds KK (U ++ [uniK l r q]))) := by show KIn _ _ _ _ _; rw [HUn.out]; exact hki6
              have HLe6 : Hid (((adds KK (U ++ [uniK l r q])).length : Int) ≤ most) := by show _ ≤ _; rw [HUn.out]; exact hle6
              have HF6 : Hid (∀ b, newF Fi w5 w6 b → F b ∨ w1.heap.size ≤ b) := newF_step HFi.out HKp5.out.size
              have HO6 : Hid (Ow 3 w1.heap.size w6 (.slice ua (uniL (gs l i) (gs r j)).length uc) (uniL (gs l i) (gs r j)).length (ivs (gt (uniL (gs l i) (gs r j))))) := HU5.out.keepB fun g hg => hk6.block g (HU5.out.ltb hg) (HNu5.out g hg)
              have HN6 : Hid (∀ g, (Value.slice ua (uniL (gs l i) (gs r j)).length uc).ownBlock = some g → ¬ newF Fi w5 w6 g) := fun g hg hf => HNu5.out g hg (newF_old (HU5.out.ltb hg) hf)
              clear hk6 hle6 hki6 HKi5 HU5
              go_wp2
              go_roundw
              case rel => exact ⟨q + 1, x, _, newF Fi w5 w6, ua, _, uc, _, by go_num, by omega, rfl, hx, rfl, hu7, hu8, HX2, HUO, HKi6, HF6, HK6, HO6, HN6, HLe6⟩
              case measure => simp [intOf]; omega
            · have HE : Hid (AuR F most KK l r (.pointer (some ⟨kb, 0, none⟩)) w pB w6) := by
                obtain ⟨rest, hr⟩ := HUO.out.rest HrL.out HrR.out
                refine ⟨_, hr, Or.inr ⟨rfl, ?_⟩, (Kp.of_below (F := F) HB1.out).trans HK6.out fun _ _ h => h⟩
                rw [adds_append, HUn.out]
                have := adds_len rest (addL (adds KK U) (uniL (gs l i) (gs r j)))
                omega
              unfold pB at he
              subst he
              clear hk6 hgt
              exact ⟨rfl, HE.out⟩
          · have e1 : ¬ (s : Int) = (k : Int) := by omega
            have e2 : (k : Int) < (s : Int) := by omega
            obtain ⟨y, hy⟩ : ∃ y, y = min x s := ⟨_, rfl⟩
            have hmin : min (x : Int) (s : Int) = (y : Int) := by omega
            have HU2 : Hid (UO l r k (q + 1) U) := HU.out.skip (by rw [← HSq.out]; omega)
            have HX2 : Hid (k < y ∧ ∀ j, j < q + 1 → k < szs l r j → y ≤ szs l r j) := ⟨by have := HX.out.1; omega, fun j hj hh => by
              by_cases e : j = q
              · rw [e, ← HSq.out]; omega
              · have := HX.out.2 j (by omega) hh; omega⟩
            have hyx : y ≤ 2147483647 := by omega
            clear hy
            go_wp2
            go_roundw
            case rel => exact ⟨q + 1, y, U, Fi, a7, k7, c7, X, by go_num, by omega, rfl, hyx, rfl, hk7, hc7, HX2, HU2, HKi, HFi, HKp, HOu, HNu, HLe⟩
            case measure => simp [intOf]; omega
        · obtain rfl : q = P := by omega
          have hge : ¬ (q : Int) < (q : Int) := by omega
          have HU2 : Hid (UO l r x 0 U) := by
            have h1 := HU.out
            rw [HPq.out] at h1
            exact h1.next HX.out.1 fun j hj hh => HX.out.2 j (by rw [HPq.out]; exact hj) hh
          have hxk : k < x := HX.out.1
          go_wp2
          go_roundw
          case rel => exact ⟨x, U, Fi, a7, k7, c7, X, rfl, hx, rfl, hk7, hc7, HU2, HKi, HFi, HKp, HOu, HNu, HLe⟩
          case measure => simp [intOf]; omega
    · obtain rfl : k = 2147483647 := by omega
      have HE : Hid (AuR F most KK l r (.pointer (some ⟨kb, 0, none⟩)) w (.returned (.tuple #[])) wr) := by
        refine ⟨U, HU.out.done HrL.out HrR.out fun j hj => by have := HSzl.out j (by rw [HPq.out]; exact hj); omega, Or.inl ⟨rfl, HLe.out, ?_⟩, (Kp.of_below (F := F) HB1.out).trans HKp.out fun _ _ h => h⟩
        exact HKi.out.to (fun b hb => (HFi.out b hb).imp id fun q => Nat.le_trans HW1.out q) HFl.out (Nat.le_trans HW1.out HKp.out.size)
      clear HU HKi HFi HKp HOu HNu HLe
      go_wp2
      all_goals first | go_end0 | go_ret | (refine bodyPost_ret (results_none rfl _ _ _) rfl ?_)
      all_goals exact HE.out
end Go.Proofs.Yteaajhpgmndomaa
