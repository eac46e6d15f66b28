/- The document's own ParseNat. -/
import Derived.Test.YtklkcnpcjmeejaaDoorRtx
import Derived.Test.YtklkcnpcjmeejaaDoorBmt
import Derived.Test.YtklkcnpcjmeejaaDoorRun
import Derived.Test.YtklkcnpcjmeejaaDoorLaw
import Derived.Deep.RegionHeld3
namespace Go.Proofs.YtklkcnpcjmeejaaDoor
open Go.RowKit Fo
set_option maxRecDepth 100000

/-- What is read, and the error. -/
def PRef (w' : World) (e : Ending) (l : List UInt8) : Prop := ∃ u X q, e = .returned (.tuple #[u, .int .i64 q]) ∧ NOut w' u X ∧ PR l X q
theorem idx_byte (l : List UInt8) (k : Nat) (h : k < (⟨l.toArray⟩ : ByteArray).size) : ((⟨l.toArray⟩ : ByteArray)[k]'h).toNat = byt l k := by
  have hk : k < l.length := by simpa [ByteArray.size] using h
  unfold byt
  rw [List.getD_eq_getElem?_getD, List.getElem?_eq_getElem hk]
  rfl
theorem dv_lt (l : List UInt8) : ∀ k, (∀ j, j < k → byt l j ≤ 57) → dv l k < 10 ^ k
  | 0, _ => by show 0 < 1; decide
  | k + 1, h => by
    have ih := dv_lt l k (fun j hj => h j (by omega))
    have h9 := h k (by omega)
    show dv l k * 10 + (byt l k - 48) < 10 ^ (k + 1)
    rw [Nat.pow_succ]
    omega
theorem dv_ln (l : List UInt8) (k : Nat) (h : ∀ j, j < k → byt l j ≤ 57) : ln (dv l k) ≤ k :=
  ln_le _ _ (Nat.lt_of_lt_of_le (dv_lt l k h) (Nat.pow_le_pow_left (by decide) _))
theorem rparse_big (l : List UInt8) (w : World) (h : 700 < l.length) : Calls Tryd.prog 24 #[.string ⟨l.toArray⟩] w fun e w' => PRef w' e l ∧ Below w.heap.size w w' := by
  have hsz : (⟨l.toArray⟩ : ByteArray).size = l.length := by simp [ByteArray.size]
  have h' : (700 : Int) < (l.length : Int) := by omega
  have HB : Hid (Below w.heap.size w (w.alloc (.cells #[.bool false, .slice none 0 0] 24))) := (below_refl w).alloc (Nat.le_refl _) _
  have HP : Hid (PR l (some 0) 5) := Or.inl ⟨h, rfl, rfl⟩
  clear h
  go_enter Tryd.func24, Tryd.ntmps24
  go_wp2
  exact bodyPost_ret (v := .tuple #[.agg #[.bool false, .slice none 0 0], .int .i64 5]) (by simp [results, Tryd.results24, go_sem]) rfl ⟨⟨_, some 0, 5, rfl, nout_zero _, HP.out⟩, HB.out⟩
theorem rparse_inf (w : World) : Calls Tryd.prog 24 #[.string ⟨([105, 110, 102] : List UInt8).toArray⟩] w fun e w' => PRef w' e [105, 110, 102] ∧ Below w.heap.size w w' := by
  have HB : Hid (Below w.heap.size w (w.alloc (.cells #[.bool true, .slice none 0 0] 24))) := (below_refl w).alloc (Nat.le_refl _) _
  have HP : Hid (PR [105, 110, 102] none 0) := Or.inr (Or.inl ⟨by decide, rfl, rfl, rfl⟩)
  go_enter Tryd.func24, Tryd.ntmps24
  go_wp2
  exact bodyPost_ret (v := .tuple #[.agg #[.bool true, .slice none 0 0], .int .i64 0]) (by simp [results, Tryd.results24, go_sem]) rfl ⟨⟨_, none, 0, rfl, nout_inf _, HP.out⟩, HB.out⟩
set_option maxHeartbeats 16000000 in
theorem rparse_more (l : List UInt8) (w : World) (h : l.length ≤ 700) (h1 : l ≠ [105, 110, 102]) : Calls Tryd.prog 24 #[.string ⟨l.toArray⟩] w fun e w' => PRef w' e l ∧ Below w.heap.size w w' := by
  have hsz : (⟨l.toArray⟩ : ByteArray).size = l.length := by simp [ByteArray.size]
  have h' : ¬ (700 : Int) < (l.length : Int) := by omega
  have hl : (l == [105, 110, 102]) = false := by simpa using h1
  have H1 : Hid (l ≠ [105, 110, 102]) := h1
  have HB0 : Hid (Below w.heap.size w ((w.alloc (.cells #[.bool false, .slice none 0 0] 24)).alloc (.cells #[.bool false, .slice none 0 0] 24))) := below2 w _ _
  have Hg0 : Hid (((w.alloc (.cells #[.bool false, .slice none 0 0] 24)).alloc (.cells #[.bool false, .slice none 0 0] 24)).heap[w.heap.size]? = some (.cells #[.bool false, .slice none 0 0] 24)) := heap_1st w _ _
  have Hg1 : Hid (((w.alloc (.cells #[.bool false, .slice none 0 0] 24)).alloc (.cells #[.bool false, .slice none 0 0] 24)).heap[w.heap.size + 1]? = some (.cells #[.bool false, .slice none 0 0] 24)) := heap_2nd w _ _
  clear h1
  go_enter Tryd.func24, Tryd.ntmps24
  go_wp2
  go_loopw [5] (fun v5 wq => ∃ (k : Nat) (a4 : Option Addr) (n4 c4 : Nat), k ≤ l.length ∧ v5 = .int .i64 k ∧ Hid (∀ j, j < k → 48 ≤ byt l j ∧ byt l j ≤ 57) ∧ Hid (Below w.heap.size w wq) ∧ Hid (wq.heap[w.heap.size]? = some (.cells #[.bool false, .slice none 0 0] 24)) ∧ Hid (wq.heap[w.heap.size + 1]? = some (.cells #[.bool false, .slice a4 n4 c4] 24)) ∧ Hid (NOut wq (.agg #[.bool false, .slice a4 n4 c4]) (some (dv l k)))) (fun v5 _ => l.length - (intOf v5).toNat)
  case atStart => exact ⟨0, none, 0, 0, Nat.zero_le _, rfl, fun j hj => absurd hj (by omega), HB0, Hg0, Hg1, nout_zero _⟩
  case round =>
    obtain ⟨k, a4, n4, c4, hk, rfl, HK, HB, HgR, HgA, HN⟩ := hrel
    rename World => wq
    clear HB0 Hg0 Hg1
    obtain ⟨p0, p1, p2, p3, p4, p5⟩ := box_facts HgR.out
    by_cases hkl : k < l.length
    · have hib := idx_byte l k
      obtain ⟨x, hx⟩ : ∃ x, x = byt l k := ⟨_, rfl⟩
      have hx256 : x < 256 := by rw [hx]; exact byt_lt _ _
      rw [← hx] at hib
      have i1 : (0 : Int) ≤ (k : Int) := by omega
      have i2 : (k : Int) < (l.length : Int) := by omega
      by_cases hbad : x < 48 ∨ 57 < x
      · have HP : Hid (PR l (some 0) 16) := Or.inr (Or.inr (Or.inl ⟨h, H1.out, fun hd => by have := hd.2.2 k hkl; rw [← hx] at this; omega, rfl, rfl⟩))
        clear hx
        by_cases hlo : x < 48
        · have j1 : (x : Int) < 48 := by omega
          clear hbad
          go_wp2
          exact bodyPost_ret (v := .tuple #[.agg #[.bool false, .slice none 0 0], .int .i64 16]) (by simp [results, Tryd.results24, go_sem, p4, p5]) rfl ⟨⟨_, some 0, 16, rfl, nout_zero _, HP.out⟩, below_set HB.out (Nat.le_refl _) _ _⟩
        · have j1 : ¬ (x : Int) < 48 := by omega
          have j2 : (57 : Int) < (x : Int) := by omega
          clear hbad
          go_wp2
          exact bodyPost_ret (v := .tuple #[.agg #[.bool false, .slice none 0 0], .int .i64 16]) (by simp [results, Tryd.results24, go_sem, p4, p5]) rfl ⟨⟨_, some 0, 16, rfl, nout_zero _, HP.out⟩, below_set HB.out (Nat.le_refl _) _ _⟩
      · have j1 : ¬ (x : Int) < 48 := by omega
        have j2 : ¬ (57 : Int) < (x : Int) := by omega
        have HK' : Hid (∀ j, j < k + 1 → 48 ≤ byt l j ∧ byt l j ≤ 57) := fun j hj => by
          by_cases e : j = k
          · rw [e, ← hx]; omega
          · exact HK.out j (by omega)
        obtain ⟨d, hd⟩ : ∃ d, d = x - 48 := ⟨_, rfl⟩
        obtain ⟨V, hV⟩ : ∃ V, Hid (V = dv l k) := ⟨_, rfl⟩
        have hd10 : d < 10 := by omega
        have HVn : Hid (dv l (k + 1) = V * 10 + d) := by
          show dv l k * 10 + (byt l k - 48) = _
          rw [hV.out, hd, hx]
        have hlv := dv_ln l k (fun j hj => (HK.out j hj).2)
        have hlv1 := dv_ln l (k + 1) (fun j hj => (HK'.out j hj).2)
        rw [← hV.out] at HN hlv
        rw [HVn.out] at hlv1
        have hlv2 : ln (V * 10) ≤ ln (V * 10 + d) := ln_mono (by omega)
        have HLV : Hid (ln V ≤ 10000) := by show ln V ≤ 10000; omega
        have HLV10' : Hid (ln (V * 10) ≤ 10000) := by show ln (V * 10) ≤ 10000; omega
        have HLV10 : Hid (ln (V * 10) ≤ 100000) := Nat.le_trans HLV10'.out (by decide)
        have HLD' : Hid (ln d ≤ 10000) := Nat.le_trans (ln_word (by omega)) (by decide)
        have HLD : Hid (ln d ≤ 100000) := Nat.le_trans HLD'.out (by decide)
        have HLT' : Hid (ln 10 ≤ 10000) := Nat.le_trans (ln_word (by decide)) (by decide)
        have HLT : Hid (ln 10 ≤ 100000) := Nat.le_trans HLT'.out (by decide)
        have HNI : Hid (NIn wq (.agg #[.bool false, .slice a4 n4 c4]) (some V)) := HN.out.word (by omega)
        have hw1 : IntKind.u8.wrap ((x : Int) - 48) = (d : Int) := by rw [IntKind.wrap_u8]; omega
        have hw2 : IntKind.u64.wrap (d : Int) = (d : Int) := by rw [IntKind.wrap_u64]; omega
        obtain ⟨z0, z1⟩ := box_cell HgA.out (below_refl wq)
        have HW : Below wq.heap.size wq wq := below_refl wq
        clear hx hd hbad hlv hlv1 hlv2 HK HN p0 p1 p2 p3 p4 p5
        go_upto_region 11 with fail
        refine wp_region_held_drew (S := (fun _ => True)) (by kernel_rfl) ?_ (fun hHeld => ?_)
        · (try dsimp only); first | done | trivial
        refine wpAnyH_take (i := 3) (oi := { dst := some 34, op := Op.move (Operand.tmp 0), type := 9, pos := "num.go:409", after := #[], guard := none }) (v := ?v1) rfl (by kernel_rfl) (by kernel_rfl) (by kernel_rfl) (fun _ _ _ h => h) (Or.inl ⟨by rfl, ?hy1⟩) (by assumption) ?rest1
        case hy1 => (intro w hSw; (try dsimp only at hSw); go_simp; (try with_reducible rfl))
        try simp only [Act.put, List.setIfInBounds_toArray, List.set_cons_zero, List.set_cons_succ]
        refine wpAnyH_take (i := 4) (oi := { dst := some 35, op := Op.move (Operand.tmp 5), type := 3, pos := "num.go:409", after := #[], guard := none }) (v := ?v2) rfl (by kernel_rfl) (by kernel_rfl) (by kernel_rfl) (fun _ _ _ h => h) (Or.inl ⟨by rfl, ?hy2⟩) (by assumption) ?rest2
        case hy2 => (intro w hSw; (try dsimp only at hSw); go_simp; (try with_reducible rfl))
        try simp only [Act.put, List.setIfInBounds_toArray, List.set_cons_zero, List.set_cons_succ]
        refine wpAnyH_take (i := 5) (oi := { dst := some 36, op := Op.index 9 (Operand.tmp 34) (Operand.tmp 35), type := 5, pos := "num.go:409", after := #[{ on := 3, ground := Ground.data }, { on := 4, ground := Ground.data }], guard := none }) (v := ?v3) rfl (by kernel_rfl) (by kernel_rfl) (by kernel_rfl) (fun _ _ _ h => h) (Or.inl ⟨by rfl, ?hy3⟩) (by assumption) ?rest3
        case hy3 => (intro w hSw; (try dsimp only at hSw); go_simp; (try with_reducible rfl))
        try simp only [Act.put, List.setIfInBounds_toArray, List.set_cons_zero, List.set_cons_succ]
        refine wpAnyH_take (i := 6) (oi := { dst := some 37, op := Op.binOp BinOp.sub 5 (Operand.tmp 36) (Operand.const (Value.int IntKind.u8 48)) 5, type := 5, pos := "num.go:409", after := #[{ on := 5, ground := Ground.data }], guard := none }) (v := ?v4) rfl (by kernel_rfl) (by kernel_rfl) (by kernel_rfl) (fun _ _ _ h => h) (Or.inl ⟨by rfl, ?hy4⟩) (by assumption) ?rest4
        case hy4 => (intro w hSw; (try dsimp only at hSw); go_simp; (try with_reducible rfl))
        try simp only [Act.put, List.setIfInBounds_toArray, List.set_cons_zero, List.set_cons_succ]
        refine wpAnyH_take (i := 7) (oi := { dst := some 38, op := Op.convert 5 25 (Operand.tmp 37), type := 25, pos := "num.go:409", after := #[{ on := 6, ground := Ground.data }], guard := none }) (v := ?v5) rfl (by kernel_rfl) (by kernel_rfl) (by kernel_rfl) (fun _ _ _ h => h) (Or.inl ⟨by rfl, ?hy5⟩) (by assumption) ?rest5
        case hy5 => (intro w hSw; (try dsimp only at hSw); go_simp; (try with_reducible rfl))
        try simp only [Act.put, List.setIfInBounds_toArray, List.set_cons_zero, List.set_cons_succ]
        refine wpAnyH_ready (rs := [0, 1]) (by kernel_rfl) (by simp) ?_
        refine AllReadyH.cons (o := { dst := some 31, op := Op.load 24 (Operand.tmp 4), type := 24, pos := "num.go:409", after := #[], guard := none }) rfl (fun K hK => ?_) ?_
        · skip
          go_simp
          refine hK.out _ _ ?_ (fun hHeldB => ?_)
          · (try dsimp only); first | done | trivial
          clear hK K hHeld
          have hHeld := hHeldB
          clear hHeldB
          try simp only [Act.put, List.setIfInBounds_toArray, List.set_cons_zero, List.set_cons_succ]
          refine wpAnyH_ready (rs := [1]) (by kernel_rfl) (by simp) ?_
          refine AllReadyH.cons (o := { dst := some 32, op := Op.call { callee := Callee.value (Operand.func 22), args := #[Operand.const (Value.int IntKind.u64 10)], argTypes := #[25] }, type := 24, pos := "num.go:409", after := #[], guard := none }) rfl (fun K hK => ?_) AllReadyH.nil
          go_simp
          go_at_call 22
          refine (rof_any 10 (by decide) _).mono ?_
          rintro e v1 ⟨⟨u1, rfl, o1⟩, b1⟩
          replace HW := below_step (by first | exact HW | exact HW.drew) b1
          clear b1 z0 z1
          obtain ⟨z0, z1⟩ := box_cell HgA.out HW
          refine hK.out _ _ ?_ (fun hHeldB => ?_)
          · (try dsimp only); first | done | trivial
          clear hK K hHeld
          have hHeld := hHeldB
          clear hHeldB
          try simp only [Act.put, List.setIfInBounds_toArray, List.set_cons_zero, List.set_cons_succ]
          refine wpAnyH_ready (rs := [2]) (by kernel_rfl) (by simp) ?_
          refine AllReadyH.cons (o := { dst := some 33, op := Op.call { callee := Callee.value (Operand.func 15), args := #[Operand.tmp 31, Operand.tmp 32], argTypes := #[24, 24] }, type := 24, pos := "num.go:409", after := #[{ on := 0, ground := Ground.data }, { on := 1, ground := Ground.data }, { on := 1, ground := Ground.chain }], guard := none }) rfl (fun K hK => ?_) AllReadyH.nil
          go_simp
          go_at_call 15
          refine (rmul_any _ _ _ (some V) (some 10) (by exact HNI.out.below (by first | exact HW | exact HW.drew)) (by exact Fo.NOut.word (by exact o1) HLT.out) (some_le HLV.out) (some_le HLT'.out)).mono ?_
          rintro e v2 ⟨⟨u2, rfl, o2⟩, b2⟩
          replace HW := below_step (by first | exact HW | exact HW.drew) b2
          clear b2 z0 z1
          obtain ⟨z0, z1⟩ := box_cell HgA.out HW
          refine hK.out _ _ ?_ (fun hHeldB => ?_)
          · (try dsimp only); first | done | trivial
          clear hK K hHeld
          have hHeld := hHeldB
          clear hHeldB
          try simp only [Act.put, List.setIfInBounds_toArray, List.set_cons_zero, List.set_cons_succ]
          refine wpAnyH_ready (rs := [8]) (by kernel_rfl) (by simp) ?_
          refine AllReadyH.cons (o := { dst := some 39, op := Op.call { callee := Callee.value (Operand.func 22), args := #[Operand.tmp 38], argTypes := #[25] }, type := 24, pos := "num.go:409", after := #[{ on := 7, ground := Ground.data }, { on := 2, ground := Ground.chain }], guard := none }) rfl (fun K hK => ?_) AllReadyH.nil
          go_simp
          go_at_call 22
          refine (rof_any d (by omega) _).mono ?_
          rintro e v8 ⟨⟨u8, rfl, o8⟩, b8⟩
          replace o2 := Fo.NOut.below (by exact o2) b8
          replace HW := below_step (by first | exact HW | exact HW.drew) b8
          clear b8 z0 z1
          obtain ⟨z0, z1⟩ := box_cell HgA.out HW
          refine hK.out _ _ ?_ (fun hHeldB => ?_)
          · (try dsimp only); first | done | trivial
          clear hK K hHeld
          have hHeld := hHeldB
          clear hHeldB
          try simp only [Act.put, List.setIfInBounds_toArray, List.set_cons_zero, List.set_cons_succ]
          refine wpAnyH_ready (rs := [9]) (by kernel_rfl) (by simp) ?_
          refine AllReadyH.cons (o := { dst := some 40, op := Op.call { callee := Callee.value (Operand.func 13), args := #[Operand.tmp 33, Operand.tmp 39], argTypes := #[24, 24] }, type := 24, pos := "num.go:409", after := #[{ on := 2, ground := Ground.data }, { on := 8, ground := Ground.data }, { on := 8, ground := Ground.chain }], guard := none }) rfl (fun K hK => ?_) AllReadyH.nil
          go_simp
          go_at_call 13
          refine (radd_any _ _ _ (some (V * 10)) (some d) (by exact Fo.NOut.word (by exact o2) HLV10.out) (by exact Fo.NOut.word (by exact o8) HLD.out) (some_le HLV10'.out) (some_le HLD'.out)).mono ?_
          rintro e v9 ⟨⟨u9, rfl, o9⟩, b9⟩
          replace HW := below_step (by first | exact HW | exact HW.drew) b9
          clear b9 z0 z1
          obtain ⟨z0, z1⟩ := box_cell HgA.out HW
          have o9' : NOut v9 u9 (some (V * 10 + d)) := o9
          obtain ⟨a9, c9, rfl⟩ := nout_fin o9'
          have HgA9 : Hid (v9.heap[w.heap.size + 1]? = some (.cells #[.bool false, .slice a4 n4 c4] 24)) := (HW.block _ (box_lt HgA.out)).trans HgA.out
          have HgR9 : Hid (v9.heap[w.heap.size]? = some (.cells #[.bool false, .slice none 0 0] 24)) := (HW.block _ (box_lt HgR.out)).trans HgR.out
          clear z0 z1
          obtain ⟨z0, z1, z2, z3, z4, z5⟩ := box_facts HgA9.out
          refine hK.out _ _ ?_ (fun hHeldB => ?_)
          · (try dsimp only); first | done | trivial
          clear hK K hHeld
          have hHeld := hHeldB
          clear hHeldB
          try simp only [Act.put, List.setIfInBounds_toArray, List.set_cons_zero, List.set_cons_succ]
          refine wpAnyH_ready (rs := [10]) (by kernel_rfl) (by simp) ?_
          refine AllReadyH.cons (o := { dst := none, op := Op.store 24 (Operand.tmp 4) (Operand.tmp 40), type := 0, pos := "num.go:409", after := #[{ on := 9, ground := Ground.data }, { on := 9, ground := Ground.chain }, { on := 0, ground := Ground.phase }, { on := 1, ground := Ground.phase }, { on := 2, ground := Ground.phase }, { on := 3, ground := Ground.phase }, { on := 4, ground := Ground.phase }, { on := 5, ground := Ground.phase }, { on := 6, ground := Ground.phase }, { on := 7, ground := Ground.phase }, { on := 8, ground := Ground.phase }, { on := 9, ground := Ground.phase }], guard := none }) rfl (fun K hK => ?_) AllReadyH.nil
          go_simp
          refine hK.out _ _ ?_ (fun hHeldB => ?_)
          · (try dsimp only); first | done | trivial
          clear hK K hHeld
          have hHeld := hHeldB
          clear hHeldB
          try simp only [Act.put, List.setIfInBounds_toArray, List.set_cons_zero, List.set_cons_succ]
          refine wpAnyH_done (by kernel_rfl) ?_ _
          have HO9 : Hid (NOut v9 (.agg #[.bool false, .slice a9 (ln (V * 10 + d)) c9]) (some (V * 10 + d))) := o9'
          have HB9 : Hid (Below w.heap.size w v9) := below_step HB.out HW
          obtain ⟨n9, hn9⟩ : ∃ n9, Hid (n9 = ln (V * 10 + d)) := ⟨_, rfl⟩
          rw [← hn9.out] at HO9 ⊢
          have HgS : Hid (((v9.setCell ⟨w.heap.size + 1, 0, none⟩ (.bool false)).setCell ⟨w.heap.size + 1, 1, none⟩ (.slice a9 n9 c9)).heap[w.heap.size + 1]? = some (.cells #[.bool false, .slice a9 n9 c9] 24)) := set_block1 (set_block HgA9.out)
          have HgT : Hid (((v9.setCell ⟨w.heap.size + 1, 0, none⟩ (.bool false)).setCell ⟨w.heap.size + 1, 1, none⟩ (.slice a9 n9 c9)).heap[w.heap.size]? = some (.cells #[.bool false, .slice none 0 0] 24)) := (Below.heap_setCell _ ⟨w.heap.size + 1, 1, none⟩ _ w.heap.size (by show w.heap.size ≠ w.heap.size + 1; omega)).trans ((Below.heap_setCell _ ⟨w.heap.size + 1, 0, none⟩ _ w.heap.size (by show w.heap.size ≠ w.heap.size + 1; omega)).trans HgR9.out)
          have HNS : Hid (NOut ((v9.setCell ⟨w.heap.size + 1, 0, none⟩ (.bool false)).setCell ⟨w.heap.size + 1, 1, none⟩ (.slice a9 n9 c9)) (.agg #[.bool false, .slice a9 n9 c9]) (some (dv l (k + 1)))) := by
            rw [HVn.out]
            exact HO9.out.set HgA9.out false _
          have HBS : Hid (Below w.heap.size w ((v9.setCell ⟨w.heap.size + 1, 0, none⟩ (.bool false)).setCell ⟨w.heap.size + 1, 1, none⟩ (.slice a9 n9 c9))) := below_set HB9.out (by omega) _ _
          clear o1 o2 o8 o9 o9' z0 z1 z2 z3 z4 z5 HW hHeld
          go_wp2
          go_roundw
          case rel => exact ⟨k + 1, a9, n9, c9, by omega, by go_num, HK', HBS, HgT, HgS, HNS⟩
          case measure => simp [intOf]; omega
        refine AllReadyH.cons (o := { dst := some 32, op := Op.call { callee := Callee.value (Operand.func 22), args := #[Operand.const (Value.int IntKind.u64 10)], argTypes := #[25] }, type := 24, pos := "num.go:409", after := #[], guard := none }) rfl (fun K hK => ?_) AllReadyH.nil
        go_simp
        go_at_call 22
        refine (rof_any 10 (by decide) _).mono ?_
        rintro e v1 ⟨⟨u1, rfl, o1⟩, b1⟩
        replace HW := below_step (by first | exact HW | exact HW.drew) b1
        clear b1 z0 z1
        obtain ⟨z0, z1⟩ := box_cell HgA.out HW
        refine hK.out _ _ ?_ (fun hHeldB => ?_)
        · (try dsimp only); first | done | trivial
        clear hK K hHeld
        have hHeld := hHeldB
        clear hHeldB
        try simp only [Act.put, List.setIfInBounds_toArray, List.set_cons_zero, List.set_cons_succ]
        refine wpAnyH_ready (rs := [0]) (by kernel_rfl) (by simp) ?_
        refine AllReadyH.cons (o := { dst := some 31, op := Op.load 24 (Operand.tmp 4), type := 24, pos := "num.go:409", after := #[], guard := none }) rfl (fun K hK => ?_) AllReadyH.nil
        go_simp
        refine hK.out _ _ ?_ (fun hHeldB => ?_)
        · (try dsimp only); first | done | trivial
        clear hK K hHeld
        have hHeld := hHeldB
        clear hHeldB
        try simp only [Act.put, List.setIfInBounds_toArray, List.set_cons_zero, List.set_cons_succ]
        refine wpAnyH_ready (rs := [2]) (by kernel_rfl) (by simp) ?_
        refine AllReadyH.cons (o := { dst := some 33, op := Op.call { callee := Callee.value (Operand.func 15), args := #[Operand.tmp 31, Operand.tmp 32], argTypes := #[24, 24] }, type := 24, pos := "num.go:409", after := #[{ on := 0, ground := Ground.data }, { on := 1, ground := Ground.data }, { on := 1, ground := Ground.chain }], guard := none }) rfl (fun K hK => ?_) AllReadyH.nil
        go_simp
        go_at_call 15
        refine (rmul_any _ _ _ (some V) (some 10) (by exact HNI.out.below (by first | exact HW | exact HW.drew)) (by exact Fo.NOut.word (by exact o1) HLT.out) (some_le HLV.out) (some_le HLT'.out)).mono ?_
        rintro e v2 ⟨⟨u2, rfl, o2⟩, b2⟩
        replace HW := below_step (by first | exact HW | exact HW.drew) b2
        clear b2 z0 z1
        obtain ⟨z0, z1⟩ := box_cell HgA.out HW
        refine hK.out _ _ ?_ (fun hHeldB => ?_)
        · (try dsimp only); first | done | trivial
        clear hK K hHeld
        have hHeld := hHeldB
        clear hHeldB
        try simp only [Act.put, List.setIfInBounds_toArray, List.set_cons_zero, List.set_cons_succ]
        refine wpAnyH_ready (rs := [8]) (by kernel_rfl) (by simp) ?_
        refine AllReadyH.cons (o := { dst := some 39, op := Op.call { callee := Callee.value (Operand.func 22), args := #[Operand.tmp 38], argTypes := #[25] }, type := 24, pos := "num.go:409", after := #[{ on := 7, ground := Ground.data }, { on := 2, ground := Ground.chain }], guard := none }) rfl (fun K hK => ?_) AllReadyH.nil
        go_simp
        go_at_call 22
        refine (rof_any d (by omega) _).mono ?_
        rintro e v8 ⟨⟨u8, rfl, o8⟩, b8⟩
        replace o2 := Fo.NOut.below (by exact o2) b8
        replace HW := below_step (by first | exact HW | exact HW.drew) b8
        clear b8 z0 z1
        obtain ⟨z0, z1⟩ := box_cell HgA.out HW
        refine hK.out _ _ ?_ (fun hHeldB => ?_)
        · (try dsimp only); first | done | trivial
        clear hK K hHeld
        have hHeld := hHeldB
        clear hHeldB
        try simp only [Act.put, List.setIfInBounds_toArray, List.set_cons_zero, List.set_cons_succ]
        refine wpAnyH_ready (rs := [9]) (by kernel_rfl) (by simp) ?_
        refine AllReadyH.cons (o := { dst := some 40, op := Op.call { callee := Callee.value (Operand.func 13), args := #[Operand.tmp 33, Operand.tmp 39], argTypes := #[24, 24] }, type := 24, pos := "num.go:409", after := #[{ on := 2, ground := Ground.data }, { on := 8, ground := Ground.data }, { on := 8, ground := Ground.chain }], guard := none }) rfl (fun K hK => ?_) AllReadyH.nil
        go_simp
        go_at_call 13
        refine (radd_any _ _ _ (some (V * 10)) (some d) (by exact Fo.NOut.word (by exact o2) HLV10.out) (by exact Fo.NOut.word (by exact o8) HLD.out) (some_le HLV10'.out) (some_le HLD'.out)).mono ?_
        rintro e v9 ⟨⟨u9, rfl, o9⟩, b9⟩
        replace HW := below_step (by first | exact HW | exact HW.drew) b9
        clear b9 z0 z1
        obtain ⟨z0, z1⟩ := box_cell HgA.out HW
        have o9' : NOut v9 u9 (some (V * 10 + d)) := o9
        obtain ⟨a9, c9, rfl⟩ := nout_fin o9'
        have HgA9 : Hid (v9.heap[w.heap.size + 1]? = some (.cells #[.bool false, .slice a4 n4 c4] 24)) := (HW.block _ (box_lt HgA.out)).trans HgA.out
        have HgR9 : Hid (v9.heap[w.heap.size]? = some (.cells #[.bool false, .slice none 0 0] 24)) := (HW.block _ (box_lt HgR.out)).trans HgR.out
        clear z0 z1
        obtain ⟨z0, z1, z2, z3, z4, z5⟩ := box_facts HgA9.out
        refine hK.out _ _ ?_ (fun hHeldB => ?_)
        · (try dsimp only); first | done | trivial
        clear hK K hHeld
        have hHeld := hHeldB
        clear hHeldB
        try simp only [Act.put, List.setIfInBounds_toArray, List.set_cons_zero, List.set_cons_succ]
        refine wpAnyH_ready (rs := [10]) (by kernel_rfl) (by simp) ?_
        refine AllReadyH.cons (o := { dst := none, op := Op.store 24 (Operand.tmp 4) (Operand.tmp 40), type := 0, pos := "num.go:409", after := #[{ on := 9, ground := Ground.data }, { on := 9, ground := Ground.chain }, { on := 0, ground := Ground.phase }, { on := 1, ground := Ground.phase }, { on := 2, ground := Ground.phase }, { on := 3, ground := Ground.phase }, { on := 4, ground := Ground.phase }, { on := 5, ground := Ground.phase }, { on := 6, ground := Ground.phase }, { on := 7, ground := Ground.phase }, { on := 8, ground := Ground.phase }, { on := 9, ground := Ground.phase }], guard := none }) rfl (fun K hK => ?_) AllReadyH.nil
        go_simp
        refine hK.out _ _ ?_ (fun hHeldB => ?_)
        · (try dsimp only); first | done | trivial
        clear hK K hHeld
        have hHeld := hHeldB
        clear hHeldB
        try simp only [Act.put, List.setIfInBounds_toArray, List.set_cons_zero, List.set_cons_succ]
        refine wpAnyH_done (by kernel_rfl) ?_ _
        have HO9 : Hid (NOut v9 (.agg #[.bool false, .slice a9 (ln (V * 10 + d)) c9]) (some (V * 10 + d))) := o9'
        have HB9 : Hid (Below w.heap.size w v9) := below_step HB.out HW
        obtain ⟨n9, hn9⟩ : ∃ n9, Hid (n9 = ln (V * 10 + d)) := ⟨_, rfl⟩
        rw [← hn9.out] at HO9 ⊢
        have HgS : Hid (((v9.setCell ⟨w.heap.size + 1, 0, none⟩ (.bool false)).setCell ⟨w.heap.size + 1, 1, none⟩ (.slice a9 n9 c9)).heap[w.heap.size + 1]? = some (.cells #[.bool false, .slice a9 n9 c9] 24)) := set_block1 (set_block HgA9.out)
        have HgT : Hid (((v9.setCell ⟨w.heap.size + 1, 0, none⟩ (.bool false)).setCell ⟨w.heap.size + 1, 1, none⟩ (.slice a9 n9 c9)).heap[w.heap.size]? = some (.cells #[.bool false, .slice none 0 0] 24)) := (Below.heap_setCell _ ⟨w.heap.size + 1, 1, none⟩ _ w.heap.size (by show w.heap.size ≠ w.heap.size + 1; omega)).trans ((Below.heap_setCell _ ⟨w.heap.size + 1, 0, none⟩ _ w.heap.size (by show w.heap.size ≠ w.heap.size + 1; omega)).trans HgR9.out)
        have HNS : Hid (NOut ((v9.setCell ⟨w.heap.size + 1, 0, none⟩ (.bool false)).setCell ⟨w.heap.size + 1, 1, none⟩ (.slice a9 n9 c9)) (.agg #[.bool false, .slice a9 n9 c9]) (some (dv l (k + 1)))) := by
          rw [HVn.out]
          exact HO9.out.set HgA9.out false _
        have HBS : Hid (Below w.heap.size w ((v9.setCell ⟨w.heap.size + 1, 0, none⟩ (.bool false)).setCell ⟨w.heap.size + 1, 1, none⟩ (.slice a9 n9 c9))) := below_set HB9.out (by omega) _ _
        clear o1 o2 o8 o9 o9' z0 z1 z2 z3 z4 z5 HW hHeld
        go_wp2
        go_roundw
        case rel => exact ⟨k + 1, a9, n9, c9, by omega, by go_num, HK', HBS, HgT, HgS, HNS⟩
        case measure => simp [intOf]; omega
    · obtain rfl : k = l.length := by omega
      obtain ⟨z0, z1, z2, z3, z4, z5⟩ := box_facts HgA.out
      have hdl := dv_ln l l.length (fun j hj => (HK.out j hj).2)
      have CT : Hid (Calls Tryd.prog 30 #[.agg #[.bool false, .slice a4 n4 c4]] wq fun e w' => e = .returned (.string ⟨(otext (some (dv l l.length))).toArray⟩) ∧ Below wq.heap.size wq w') := by
        refine rtext_any wq _ _ ?_
        rcases HN.out with ⟨h0, -⟩ | ⟨M, a', c', e1, e2, hr⟩
        · cases h0
        · obtain rfl := Option.some.inj e1
          obtain ⟨rfl, rfl, rfl⟩ : a4 = a' ∧ n4 = ln (dv l l.length) ∧ c4 = c' := by simpa using e2
          exact ⟨false, a4, _, c4, dg (dv l l.length), rfl, hr, dg_lt _, by omega, by rw [lv_ln]; rfl⟩
      obtain ⟨t, ht⟩ : ∃ t, Hid (t = Lib.decDigits (dv l l.length)) := ⟨_, rfl⟩
      have CT' : Hid (Calls Tryd.prog 30 #[.agg #[.bool false, .slice a4 n4 c4]] wq fun e w' => e = .returned (.string ⟨t.toArray⟩) ∧ Below wq.heap.size wq w') := by
        show Calls _ _ _ _ _
        rw [ht.out]; exact CT.out
      clear CT hdl
      go_wp2_with (go_at_call 30; fail)
      refine CT'.out.mono ?_
      rintro e w2 ⟨rfl, b2⟩
      have hgA2 := (b2.block _ (box_lt HgA.out)).trans HgA.out
      have hgR2 := (b2.block _ (box_lt HgR.out)).trans HgR.out
      clear z0 z1 z2 z3 z4 z5 p0 p1 p2 p3 p4 p5
      obtain ⟨z0, z1, z2, z3, z4, z5⟩ := box_facts hgA2
      obtain ⟨p0, p1, p2, p3, p4, p5⟩ := box_facts hgR2
      have HgR2 : Hid (w2.heap[w.heap.size]? = some (.cells #[.bool false, .slice none 0 0] 24)) := hgR2
      have HB2 : Hid (Below w.heap.size w w2) := below_step HB.out b2
      have HN2 : Hid (NOut w2 (.agg #[.bool false, .slice a4 n4 c4]) (some (dv l l.length))) := HN.out.below b2
      clear hgA2 hgR2 b2 CT' HN HB HgA HgR
      by_cases hd : decT l
      · have heq : (t == l) = true := by rw [ht.out, dv_dec l hd]; simp
        have HP : Hid (PR l (some (dv l l.length)) 0) := Or.inr (Or.inr (Or.inr ⟨h, hd, rfl, rfl⟩))
        clear hd
        go_wp2
        exact bodyPost_ret (v := .tuple #[.agg #[.bool false, .slice a4 n4 c4], .int .i64 0]) (by simp [results, Tryd.results24, go_sem, p4, p5]) rfl ⟨⟨_, some (dv l l.length), 0, rfl, HN2.out.set HgR2.out false _, HP.out⟩, below_set HB2.out (Nat.le_refl _) _ _⟩
      · have heq : (t == l) = false := by
          have : t ≠ l := fun e => hd (by rw [← e, ht.out]; exact dec_dec _)
          simpa using this
        have HP : Hid (PR l (some 0) 16) := Or.inr (Or.inr (Or.inl ⟨h, H1.out, hd, rfl, rfl⟩))
        clear hd
        go_wp2
        exact bodyPost_ret (v := .tuple #[.agg #[.bool false, .slice none 0 0], .int .i64 16]) (by simp [results, Tryd.results24, go_sem, p4, p5]) rfl ⟨⟨_, some 0, 16, rfl, nout_zero _, HP.out⟩, below_set HB2.out (Nat.le_refl _) _ _⟩
/-- The document's own ParseNat. -/
theorem rparse_any (l : List UInt8) (w : World) : Calls Tryd.prog 24 #[.string ⟨l.toArray⟩] w fun e w' => PRef w' e l ∧ Below w.heap.size w w' := by
  by_cases h : 700 < l.length
  · exact rparse_big l w h
  · by_cases h1 : l = [105, 110, 102]
    · subst h1; exact rparse_inf w
    · exact rparse_more l w (by omega) h1
end Go.Proofs.YtklkcnpcjmeejaaDoor
