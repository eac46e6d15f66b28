/- The document's own Unions. -/
import Derived.Test.YteaajhpgmndomaaLil
namespace Go.Proofs.Yteaajhpgmndomaa
open Go.RowKit Fo
set_option maxRecDepth 100000

namespace Fo
theorem SetIn.grown {B : Nat} {w w' : World} {v : Value} {l : List Int} {a : Option Addr} {n c : Nat} {V : Nat → Value} (h : SetIn w v l) (ho : Ow 23 B w (.slice a n c) n V) (hg : w.grownBy w' (Value.slice a n c).ownBlock) : SetIn w' v l := by
  refine h.keep fun b cur fr hb => hg.block b (Array.getElem?_eq_some_iff.1 hb).1 (fun e => ?_)
  rcases ho.2 with ⟨h0, -⟩ | ⟨g, cap, cur2, e2, hb2, hg2, -⟩
  · rw [h0] at e; cases e
  · rw [e2] at e
    obtain rfl : b = g := by simpa [Value.ownBlock] using e
    rw [hb] at hg2
    have e3 := Option.some.inj hg2
    injection e3 with _ e4
    exact absurd e4 (by decide)
theorem len_unions : ∀ (l r : List (List Int)), (unionsL l r).length = l.length * r.length
  | [], r => by simp [unionsL]
  | a :: l, r => by
    have ih := len_unions l r
    unfold unionsL at ih ⊢
    rw [List.flatMap_cons, List.length_append, List.length_map, ih, List.length_cons, Nat.succ_mul, Nat.add_comm]
theorem unions_more {l r : List (List Int)} {i : Nat} (hi : i < l.length) : unionsL (l.take (i + 1)) r = unionsL (l.take i) r ++ r.map fun b => gs l i ++ b := by
  rw [take_more hi]
  unfold unionsL
  rw [List.flatMap_append, List.flatMap_cons, List.flatMap_nil, List.append_nil]
theorem map_more {r : List (List Int)} {a : List Int} {k : Nat} (hk : k < r.length) : (r.take (k + 1)).map (fun b => a ++ b) = (r.take k).map (fun b => a ++ b) ++ [a ++ gs r k] := by
  rw [take_more hk, List.map_append]; rfl
theorem gt_app (l m : List Int) (j : Nat) : gt (l ++ m) j = if j < l.length then gt l j else gt m (j - l.length) := by
  unfold gt
  rw [List.getD_eq_getElem?_getD]
  by_cases h : j < l.length
  · rw [if_pos h, List.getElem?_append_left h, List.getD_eq_getElem?_getD]
  · rw [if_neg h, List.getElem?_append_right (by omega), List.getD_eq_getElem?_getD]
theorem Ow.setInL {B : Nat} {w : World} {v : Value} {l : List Int} (h : Ow 3 B w v l.length (ivs (gt l))) : SetIn w v l := by
  have e : lst (gt l) l.length = l := gt_ext (lst_len _ _) fun j hj => gt_lst _ _ j (by rw [lst_len] at hj; exact hj)
  have := h.setIn
  rwa [e] at this
end Fo
theorem below1 (w : World) (o : Obj) : Below w.heap.size w (w.alloc o) := (below_refl w).alloc (Nat.le_refl _) o
theorem Fo.FamIn.mono {B B' : Nat} {w : World} {v : Value} {F : List (List Int)} (h : FamIn B w v F) (hB : B' ≤ B) : FamIn B' w v F := by
  obtain ⟨V, ho, hs⟩ := h
  exact ⟨V, ho.mono hB, hs⟩
theorem rleast_at (w : World) (a : Option Addr) (n c : Nat) (VS : Nat → Value) (Fs : List (List Int)) (hq : n = Fs.length) (h1 : Rd w a n c VS) (hs : ∀ j, j < n → IsL w (VS j) (gs Fs j)) (hn : n ≤ 100000) (hl : ∀ j, j < n → (gs Fs j).length ≤ 100000) :
    Calls Try.prog 17 #[.slice a n c] w fun e w' => (∃ u R, e = .returned u ∧ FamIn w.heap.size w' u R ∧ FamOf Fs R ∧ R.length ≤ n) ∧ Below w.heap.size w w' := by
  subst hq
  exact rleast_any w a c VS Fs h1 hs hn hl
theorem own_le {g k m c : Nat} (h : (Value.slice (some ⟨g, 0, none⟩) m c).ownBlock = some k) : g ≤ k := by
  have : g = k := by simpa [Value.ownBlock] using h
  omega
set_option maxHeartbeats 16000000 in
theorem runions_any (w : World) (v1 v2 : Value) (F G : List (List Int)) (h1 : IsLL w v1 F) (h2 : IsLL w v2 G) (hFG : F.length * G.length ≤ 100000) (hl1 : ∀ j, j < F.length → (gs F j).length ≤ 50000) (hl2 : ∀ j, j < G.length → (gs G j).length ≤ 50000) :
    Calls Try.prog 22 #[v1, v2] w fun e w' => (∃ u R, e = .returned u ∧ FamIn w.heap.size w' u R ∧ FamOf (unionsL F G) R ∧ R.length ≤ F.length * G.length) ∧ Below w.heap.size w w' := by
  obtain ⟨a, c, V, rfl, h1, hs1⟩ := h1
  obtain ⟨b, d, U, rfl, h2, hs2⟩ := h2
  have H1 : Hid (Rd w a F.length c V) := h1
  have H2 : Hid (Rd w b G.length d U) := h2
  have HS1 : Hid (∀ j, j < F.length → IsL w (V j) (gs F j)) := hs1
  have HS2 : Hid (∀ j, j < G.length → IsL w (U j) (gs G j)) := hs2
  have HL1 : Hid (∀ j, j < F.length → (gs F j).length ≤ 50000) := hl1
  have HL2 : Hid (∀ j, j < G.length → (gs G j).length ≤ 50000) := hl2
  have HFG : Hid (F.length * G.length ≤ 100000) := hFG
  have hn := h1.1
  have hm := h2.1
  have hc := h1.2.1
  have hd := h2.2.1
  clear h1 h2 hs1 hs2 hl1 hl2 hFG
  obtain ⟨n, hN0⟩ : ∃ n, n = F.length := ⟨_, rfl⟩
  obtain ⟨m, hM0⟩ : ∃ q, q = G.length := ⟨_, rfl⟩
  rw [← hN0] at H1 hn HS1 HL1 ⊢
  rw [← hM0] at H2 hm HS2 HL2 ⊢
  have HN : Hid (n = F.length) := hN0
  have HM : Hid (m = G.length) := hM0
  clear hN0 hM0
  go_enter Try.func22, Try.ntmps22
  go_wp2
  go_loopw [5, 6] (fun v5 v6 wr => ∃ (i q : Nat) (a5 : Option Addr) (c5 : Nat) (Z : Nat → Value), i ≤ n ∧ v6 = .int .i64 i ∧ v5 = .slice a5 q c5 ∧ Hid (q = (unionsL (F.take i) G).length) ∧ Hid (Below w.heap.size w wr) ∧ Hid (Ow 23 w.heap.size wr (.slice a5 q c5) q Z) ∧ Hid (∀ j, j < q → SetIn wr (Z j) (gs (unionsL (F.take i) G) j))) (fun _ v6 _ => n - (intOf v6).toNat)
  case atStart => exact ⟨0, 0, none, 0, fun _ => .slice none 0 0, Nat.zero_le _, rfl, rfl, rfl, below_refl _, Ow.nil _ _ _ _, fun j h => absurd h (by omega)⟩
  case round =>
    obtain ⟨i, q, a5, c5, Z, hi, rfl, rfl, HQ, HW, HO, HZ⟩ := hrel
    rename World => wr0
    by_cases hlt : i < n
    · have hlt' : (i : Int) < (n : Int) := by omega
      go_wp2
      go_loopw [5, 7] (fun v5 v7 wr => ∃ (k q : Nat) (a5 : Option Addr) (c5 : Nat) (Z : Nat → Value), k ≤ m ∧ v7 = .int .i64 k ∧ v5 = .slice a5 q c5 ∧ Hid (q = (unionsL (F.take i) G ++ (G.take k).map (fun b => gs F i ++ b)).length) ∧ Hid (Below w.heap.size w wr) ∧ Hid (Ow 23 w.heap.size wr (.slice a5 q c5) q Z) ∧ Hid (∀ j, j < q → SetIn wr (Z j) (gs (unionsL (F.take i) G ++ (G.take k).map (fun b => gs F i ++ b)) j))) (fun _ v7 _ => m - (intOf v7).toNat)
      case atStart => exact ⟨0, q, a5, c5, Z, Nat.zero_le _, rfl, rfl, by show _ = _; simp only [List.take_zero, List.map_nil, List.append_nil]; exact HQ.out, HW, HO, fun j hj => by simp only [List.take_zero, List.map_nil, List.append_nil]; exact HZ.out j hj⟩
      case round =>
        clear HQ HW HO HZ
        obtain ⟨k, q, a5, c5, Z, hk, rfl, rfl, HQ, HW, HO, HZ⟩ := hrel
        rename World => wr
        by_cases hkm : k < m
        · obtain ⟨ga, oa, rfl, hca⟩ := H1.out.at (by omega)
          obtain ⟨gb, ob, rfl, hcb0⟩ := H2.out.at (by omega)
          have hci := hca i hlt
          have hcb := hcb0 k hkm
          have hga : ga < w.heap.size := World.block_lt_of_cell? w _ hci
          have hgb : gb < w.heap.size := World.block_lt_of_cell? w _ hcb
          obtain ⟨ai, ci, evi, hri⟩ := HS1.out i hlt
          obtain ⟨ak, ck, evk, hrk⟩ := HS2.out k hkm
          rw [evi] at hci
          rw [evk] at hcb
          have HRi : Hid (Rd wr ai (gs F i).length ci (ivs (gt (gs F i)))) := hri.below HW.out
          have HRk : Hid (Rd wr ak (gs G k).length ck (ivs (gt (gs G k)))) := hrk.below HW.out
          have j1 : (0 : Int) ≤ (i : Int) := by omega
          have j2 : (i : Int) < (n : Int) := by omega
          have k1 : (0 : Int) ≤ (k : Int) := by omega
          have k2 : (k : Int) < (m : Int) := by omega
          have HW0 : Below w.heap.size w wr := HW.out
          have HSZ : Hid (w.heap.size ≤ wr.heap.size) := HW.out.size
          have HLi : Hid ((gs F i).length ≤ 50000) := HL1.out i hlt
          have HLk : Hid ((gs G k).length ≤ 50000) := HL2.out k hkm
          have HQb : Hid (q + 1 ≤ 1000000000) := by
            show _ ≤ _
            have h1 := HQ.out
            rw [List.length_append, len_unions, List.length_map, List.length_take, List.length_take] at h1
            have h2 : min i F.length * G.length ≤ F.length * G.length := Nat.mul_le_mul_right _ (Nat.min_le_right _ _)
            have h3 := HFG.out
            have h4 := HM.out
            have h5 := HN.out
            have h6 : G.length ≤ F.length * G.length := Nat.le_mul_of_pos_left _ (by omega)
            omega
          have HQ' : Hid (q + 1 = (unionsL (F.take i) G ++ (G.take (k + 1)).map (fun b => gs F i ++ b)).length) := by
            show _ = _
            rw [map_more (by rw [← HM.out]; exact hkm), ← List.append_assoc, List.length_append, ← HQ.out]; rfl
          clear hca hcb0 evi evk hri hrk
          go_wp2
          go_upto_region 8 with fail
          refine wp_region_held_drew (S := (fun w' => Below w.heap.size w w')) (by kernel_rfl) ?_ (fun hHeld => ?_)
          · (try dsimp only); first | exact HW0 | exact HW0.drew
          refine wpAnyH_take (i := 0) (oi := { dst := some 20, op := Op.move (Operand.tmp 5), type := 22, pos := "path.go:104", after := #[], guard := none }) (v := ?vu19) rfl (by kernel_rfl) (by kernel_rfl) (by kernel_rfl) (fun _ _ _ h => h) (Or.inl ⟨by rfl, ?hyu19⟩) (by assumption) ?restu19
          case hyu19 => (intro w hSw; (try dsimp only at hSw); go_simp; (try with_reducible rfl))
          try simp only [Act.put, List.setIfInBounds_toArray, List.set_cons_zero, List.set_cons_succ]
          refine wpAnyH_take (i := 2) (oi := { dst := some 22, op := Op.move (Operand.tmp 0), type := 22, pos := "path.go:104", after := #[], guard := none }) (v := ?vu20) rfl (by kernel_rfl) (by kernel_rfl) (by kernel_rfl) (fun _ _ _ h => h) (Or.inl ⟨by rfl, ?hyu20⟩) (by assumption) ?restu20
          case hyu20 => (intro w hSw; (try dsimp only at hSw); go_simp; (try with_reducible rfl))
          try simp only [Act.put, List.setIfInBounds_toArray, List.set_cons_zero, List.set_cons_succ]
          refine wpAnyH_take (i := 3) (oi := { dst := some 23, op := Op.move (Operand.tmp 6), type := 3, pos := "path.go:104", after := #[], guard := none }) (v := ?vu21) rfl (by kernel_rfl) (by kernel_rfl) (by kernel_rfl) (fun _ _ _ h => h) (Or.inl ⟨by rfl, ?hyu21⟩) (by assumption) ?restu21
          case hyu21 => (intro w hSw; (try dsimp only at hSw); go_simp; (try with_reducible rfl))
          try simp only [Act.put, List.setIfInBounds_toArray, List.set_cons_zero, List.set_cons_succ]
          refine wpAnyH_take (i := 4) (oi := { dst := some 24, op := Op.indexAddr 22 (Operand.tmp 22) (Operand.tmp 23), type := 0, pos := "path.go:104", after := #[{ on := 2, ground := Ground.data }, { on := 3, ground := Ground.data }], guard := none }) (v := ?vu22) rfl (by kernel_rfl) (by kernel_rfl) (by kernel_rfl) (fun _ _ _ h => h) (Or.inl ⟨by rfl, ?hyu22⟩) (by assumption) ?restu22
          case hyu22 => (intro w hSw; (try dsimp only at hSw); go_simp; (try with_reducible rfl))
          try simp only [Act.put, List.setIfInBounds_toArray, List.set_cons_zero, List.set_cons_succ]
          refine wpAnyH_take (i := 5) (oi := { dst := some 25, op := Op.load 23 (Operand.tmp 24), type := 23, pos := "path.go:104", after := #[{ on := 4, ground := Ground.data }], guard := none }) (v := ?vu23) rfl (by kernel_rfl) (by kernel_rfl) (by kernel_rfl) (fun _ _ _ h => h) (Or.inl ⟨by rfl, ?hyu23⟩) (by assumption) ?restu23
          case hyu23 => (intro w hSw; (try dsimp only at hSw); have q1 := (Below.cell hSw (p := ⟨ga, oa + i, none⟩) hga).trans hci; have q2 := (Below.cell hSw (p := ⟨gb, ob + k, none⟩) hgb).trans hcb; go_simp; (try with_reducible rfl))
          try simp only [Act.put, List.setIfInBounds_toArray, List.set_cons_zero, List.set_cons_succ]
          refine wpAnyH_take (i := 7) (oi := { dst := some 27, op := Op.move (Operand.tmp 1), type := 22, pos := "path.go:104", after := #[], guard := none }) (v := ?vu24) rfl (by kernel_rfl) (by kernel_rfl) (by kernel_rfl) (fun _ _ _ h => h) (Or.inl ⟨by rfl, ?hyu24⟩) (by assumption) ?restu24
          case hyu24 => (intro w hSw; (try dsimp only at hSw); go_simp; (try with_reducible rfl))
          try simp only [Act.put, List.setIfInBounds_toArray, List.set_cons_zero, List.set_cons_succ]
          refine wpAnyH_take (i := 8) (oi := { dst := some 28, op := Op.move (Operand.tmp 7), type := 3, pos := "path.go:104", after := #[], guard := none }) (v := ?vu25) rfl (by kernel_rfl) (by kernel_rfl) (by kernel_rfl) (fun _ _ _ h => h) (Or.inl ⟨by rfl, ?hyu25⟩) (by assumption) ?restu25
          case hyu25 => (intro w hSw; (try dsimp only at hSw); go_simp; (try with_reducible rfl))
          try simp only [Act.put, List.setIfInBounds_toArray, List.set_cons_zero, List.set_cons_succ]
          refine wpAnyH_take (i := 9) (oi := { dst := some 29, op := Op.indexAddr 22 (Operand.tmp 27) (Operand.tmp 28), type := 0, pos := "path.go:104", after := #[{ on := 7, ground := Ground.data }, { on := 8, ground := Ground.data }], guard := none }) (v := ?vu26) rfl (by kernel_rfl) (by kernel_rfl) (by kernel_rfl) (fun _ _ _ h => h) (Or.inl ⟨by rfl, ?hyu26⟩) (by assumption) ?restu26
          case hyu26 => (intro w hSw; (try dsimp only at hSw); go_simp; (try with_reducible rfl))
          try simp only [Act.put, List.setIfInBounds_toArray, List.set_cons_zero, List.set_cons_succ]
          refine wpAnyH_take (i := 10) (oi := { dst := some 30, op := Op.load 23 (Operand.tmp 29), type := 23, pos := "path.go:104", after := #[{ on := 9, ground := Ground.data }], guard := none }) (v := ?vu27) rfl (by kernel_rfl) (by kernel_rfl) (by kernel_rfl) (fun _ _ _ h => h) (Or.inl ⟨by rfl, ?hyu27⟩) (by assumption) ?restu27
          case hyu27 => (intro w hSw; (try dsimp only at hSw); have q1 := (Below.cell hSw (p := ⟨ga, oa + i, none⟩) hga).trans hci; have q2 := (Below.cell hSw (p := ⟨gb, ob + k, none⟩) hgb).trans hcb; go_simp; (try with_reducible rfl))
          try simp only [Act.put, List.setIfInBounds_toArray, List.set_cons_zero, List.set_cons_succ]
          refine wpAnyH_ready (rs := [1]) (by kernel_rfl) (by simp) ?_
          refine AllReadyH.cons (o := { dst := some 21, op := Op.buildSlice 23 0 #[], type := 23, pos := "path.go:104", after := #[], guard := none }) rfl (fun K hK => ?_) AllReadyH.nil
          go_simp
          skip
          refine hK.out _ _ ?_ (fun hHeldB => ?_)
          · (try dsimp only); exact HW0.drew.alloc HSZ.out _
          clear hK K hHeld
          have hHeld := hHeldB
          clear hHeldB
          try simp only [Act.put, List.setIfInBounds_toArray, List.set_cons_zero, List.set_cons_succ]
          refine wpAnyH_ready (rs := [6]) (by kernel_rfl) (by simp) ?_
          refine AllReadyH.cons (o := { dst := some 26, op := Op.call { callee := Callee.builtin Builtin.append, args := #[Operand.tmp 21, Operand.tmp 25], argTypes := #[23, 23] }, type := 23, pos := "path.go:104", after := #[{ on := 1, ground := Ground.data }, { on := 5, ground := Ground.data }], guard := none }) rfl (fun K hK => ?_) AllReadyH.nil
          refine step_app eInt rfl _ _ rfl (Ow.made 3 wr.heap.size _ (fun _ => .int .i64 0) (by first | exact Nat.le_refl _ | simp)) (by simp) (HRi.out.below ((below_refl wr).drew.alloc (Nat.le_refl _) (.cells #[] 3))) (ivs_one _ _) (gs F i).length (by omega) (by have := HLi.out; omega) (ivs (gt (gs F i))) (fun j hj => by unfold catV; rw [if_neg (by omega), Nat.sub_zero]) rfl rfl ?_
          intro a3 c3 w3 hO3 hG3
          have HW3 : Hid (Below wr.heap.size wr w3) := ((below_refl wr).drew.alloc (Nat.le_refl _) (.cells #[] 3)).grown hG3 (by simp) (fun k' hk' => own_le hk')
          have HO3 : Hid (Ow 3 wr.heap.size w3 (.slice a3 (gs F i).length c3) (gs F i).length (ivs (gt (gs F i)))) := hO3
          clear hO3 hG3
          refine hK.out _ _ ?_ (fun hHeldB => ?_)
          · (try dsimp only); exact below_step HW0 HW3.out
          clear hK K hHeld
          have hHeld := hHeldB
          clear hHeldB
          try simp only [Act.put, List.setIfInBounds_toArray, List.set_cons_zero, List.set_cons_succ]
          refine wpAnyH_ready (rs := [11]) (by kernel_rfl) (by simp) ?_
          refine AllReadyH.cons (o := { dst := some 31, op := Op.call { callee := Callee.builtin Builtin.append, args := #[Operand.tmp 26, Operand.tmp 30], argTypes := #[23, 23] }, type := 23, pos := "path.go:104", after := #[{ on := 6, ground := Ground.data }, { on := 10, ground := Ground.data }, { on := 6, ground := Ground.chain }], guard := none }) rfl (fun K hK => ?_) AllReadyH.nil
          refine step_app eInt rfl _ _ rfl HO3.out HW3.out.size (HRk.out.below HW3.out) (ivs_one _ _) ((gs F i).length + (gs G k).length) rfl (by have := HLi.out; have := HLk.out; omega) (ivs (gt (gs F i ++ gs G k))) (fun j hj => by unfold catV ivs; rw [gt_app]; split <;> rfl) rfl rfl ?_
          intro a4 c4 w4 hO4 hG4
          have HW4 : Hid (Below wr.heap.size wr w4) := HW3.out.grown hG4 HW3.out.size (fun k' hk' => HO3.out.row k' hk')
          have HO4 : Hid (SetIn w4 (.slice a4 ((gs F i).length + (gs G k).length) c4) (gs F i ++ gs G k)) := Ow.setInL (by rw [List.length_append]; exact hO4)
          clear hO4 hG4 HO3 HW3
          refine hK.out _ _ ?_ (fun hHeldB => ?_)
          · (try dsimp only); exact below_step HW0 HW4.out
          clear hK K hHeld
          have hHeld := hHeldB
          clear hHeldB
          try simp only [Act.put, List.setIfInBounds_toArray, List.set_cons_zero, List.set_cons_succ]
          refine wpAnyH_ready (rs := [12]) (by kernel_rfl) (by simp) ?_
          refine AllReadyH.cons (o := { dst := some 32, op := Op.buildSlice 22 1 #[(0, Operand.tmp 31)], type := 22, pos := "path.go:104", after := #[{ on := 11, ground := Ground.data }], guard := none }) rfl (fun K hK => ?_) AllReadyH.nil
          go_simp
          skip
          refine hK.out _ _ ?_ (fun hHeldB => ?_)
          · (try dsimp only); exact (below_step HW0 HW4.out).alloc (Nat.le_trans HSZ.out HW4.out.size) _
          clear hK K hHeld
          have hHeld := hHeldB
          clear hHeldB
          try simp only [Act.put, List.setIfInBounds_toArray, List.set_cons_zero, List.set_cons_succ]
          refine wpAnyH_ready (rs := [13]) (by kernel_rfl) (by simp) ?_
          refine AllReadyH.cons (o := { dst := some 33, op := Op.call { callee := Callee.builtin Builtin.append, args := #[Operand.tmp 20, Operand.tmp 32], argTypes := #[22, 22] }, type := 22, pos := "path.go:104", after := #[{ on := 0, ground := Ground.data }, { on := 12, ground := Ground.data }, { on := 11, ground := Ground.chain }], guard := none }) rfl (fun K hK => ?_) AllReadyH.nil
          refine step_app eSet rfl _ _ rfl ((HO.out.below HW4.out).alloc _) (Nat.le_trans HSZ.out (Nat.le_trans HW4.out.size (by simp))) (one_cell _ _ _) (fun _ _ => rfl) (q + 1) rfl HQb.out (catV Z q fun _ => .slice a4 ((gs F i).length + (gs G k).length) c4) (fun _ _ => rfl) rfl rfl ?_
          intro a6 c6 w6 hO6 hG6
          have HO6 : Hid (Ow 23 w.heap.size w6 (.slice a6 (q + 1) c6) (q + 1) (catV Z q fun _ => .slice a4 ((gs F i).length + (gs G k).length) c4)) := hO6
          have HW6 : Hid (Below w.heap.size w w6) := ((below_step HW0 HW4.out).alloc (Nat.le_trans HSZ.out HW4.out.size) _).grown hG6 (Nat.le_trans HSZ.out (Nat.le_trans HW4.out.size (by simp))) (fun k' hk' => HO.out.row k' hk')
          have HZ6 : Hid (∀ j, j < q + 1 → SetIn w6 (catV Z q (fun _ => .slice a4 ((gs F i).length + (gs G k).length) c4) j) (gs (unionsL (F.take i) G ++ (G.take (k + 1)).map (fun b => gs F i ++ b)) j)) := fun j hj => by
            rw [map_more (by rw [← HM.out]; exact hkm), ← List.append_assoc]
            unfold catV
            by_cases h : j < q
            · rw [if_pos h, gs_app_l (by rw [← HQ.out]; exact h)]
              exact (((HZ.out j h).below HW4.out).below (below1 _ _)).grown ((HO.out.below HW4.out).alloc _) hG6
            · rw [if_neg h, gs_app_r (by rw [← HQ.out]; omega), show j - (unionsL (F.take i) G ++ (G.take k).map (fun b => gs F i ++ b)).length = 0 by rw [← HQ.out]; omega]
              exact (HO4.out.below (below1 _ _)).grown ((HO.out.below HW4.out).alloc _) hG6
          clear hO6 hG6 HO4 HW4
          refine hK.out _ _ ?_ (fun hHeldB => ?_)
          · (try dsimp only); exact HW6.out
          clear hK K hHeld
          have hHeld := hHeldB
          clear hHeldB
          try simp only [Act.put, List.setIfInBounds_toArray, List.set_cons_zero, List.set_cons_succ]
          refine wpAnyH_take (i := 14) (oi := { dst := some 5, op := Op.assign (Operand.tmp 33), type := 22, pos := "path.go:104", after := #[{ on := 13, ground := Ground.data }, { on := 13, ground := Ground.chain }, { on := 0, ground := Ground.phase }, { on := 1, ground := Ground.phase }, { on := 2, ground := Ground.phase }, { on := 3, ground := Ground.phase }, { on := 4, ground := Ground.phase }, { on := 5, ground := Ground.phase }, { on := 6, ground := Ground.phase }, { on := 7, ground := Ground.phase }, { on := 8, ground := Ground.phase }, { on := 9, ground := Ground.phase }, { on := 10, ground := Ground.phase }, { on := 11, ground := Ground.phase }, { on := 12, ground := Ground.phase }, { on := 13, ground := Ground.phase }], guard := none }) (v := ?vu28) rfl (by kernel_rfl) (by kernel_rfl) (by kernel_rfl) (fun _ _ _ h => h) (Or.inl ⟨by rfl, ?hyu28⟩) (by assumption) ?restu28
          case hyu28 => (intro w hSw; (try dsimp only at hSw); go_simp; (try with_reducible rfl))
          try simp only [Act.put, List.setIfInBounds_toArray, List.set_cons_zero, List.set_cons_succ]
          refine wpAnyH_done (by kernel_rfl) ?_ _
          clear HO HZ HQ HW HW0 hHeld
          go_wp2
          go_roundw
          case rel => exact ⟨k + 1, q + 1, a6, c6, _, by omega, by go_num, rfl, HQ', HW6, HO6, HZ6⟩
          case measure => simp [intOf]; omega
        · obtain rfl : k = m := by omega
          have HX : Hid (unionsL (F.take i) G ++ (G.take k).map (fun b => gs F i ++ b) = unionsL (F.take (i + 1)) G) := by
            show _ = _
            rw [unions_more (by rw [← HN.out]; exact hlt), HM.out, List.take_length]
          have HQ2 : Hid (q = (unionsL (F.take (i + 1)) G).length) := by show _ = _; rw [← HX.out]; exact HQ.out
          have HZ2 : Hid (∀ j, j < q → SetIn wr (Z j) (gs (unionsL (F.take (i + 1)) G) j)) := by rw [← HX.out]; exact HZ.out
          clear HQ HZ HX
          go_wp2
          go_roundw
          case rel => exact ⟨i + 1, q, a5, c5, Z, by omega, by go_num, rfl, HQ2, HW, HO, HZ2⟩
          case measure => simp [intOf]; omega
    · obtain rfl : i = n := by omega
      have HX : Hid (unionsL (F.take i) G = unionsL F G) := by show _ = _; rw [HN.out, List.take_length]
      have HQ2 : Hid (q = (unionsL F G).length) := by show _ = _; rw [← HX.out]; exact HQ.out
      have HR : Hid (Rd wr0 a5 q c5 Z) := HO.out.rd1
      have HIs : Hid (∀ j, j < q → IsL wr0 (Z j) (gs (unionsL F G) j)) := fun j hj => by rw [← HX.out]; exact (HZ.out j hj).isL
      have HQl : Hid (q ≤ i * m) := by
        show _ ≤ _
        rw [HQ2.out, len_unions, ← HN.out, ← HM.out]; exact Nat.le_refl _
      have HQm : Hid (q ≤ 100000) := by
        show _ ≤ _
        rw [HQ2.out, len_unions]; exact HFG.out
      have HLn : Hid (∀ j, j < q → (gs (unionsL F G) j).length ≤ 100000) := fun j hj => by
        have hm : gs (unionsL F G) j ∈ unionsL F G := gs_mem.2 ⟨j, by rw [← HQ2.out]; exact hj, rfl⟩
        unfold unionsL at hm
        obtain ⟨x, hx, hy⟩ := List.mem_flatMap.1 hm
        obtain ⟨y, hy, e⟩ := List.mem_map.1 hy
        obtain ⟨p, hp, ep⟩ := gs_mem.1 hx
        obtain ⟨r, hr, er⟩ := gs_mem.1 hy
        have h1 := HL1.out p (by rw [HN.out]; exact hp)
        have h2 := HL2.out r (by rw [HM.out]; exact hr)
        rw [ep] at h1
        rw [er] at h2
        show (gs (List.flatMap _ F) j).length ≤ _
        rw [← e, List.length_append]
        omega
      clear HX HQ HZ HO H1 H2 HS1 HS2 HL1 HL2
      go_wp2_with (go_at_call 17; fail)
      refine (rleast_at _ _ q c5 Z (unionsL F G) HQ2.out HR.out HIs.out HQm.out HLn.out).mono ?_
      rintro e w2 ⟨⟨u, R, rfl, hf, ho, hl⟩, b⟩
      have HF2 : Hid (FamIn w.heap.size w2 u R ∧ FamOf (unionsL F G) R ∧ R.length ≤ i * m) := ⟨hf.mono HW.out.size, ho, Nat.le_trans hl HQl.out⟩
      have HW2 : Hid (Below w.heap.size w w2) := below_step HW.out b
      clear hf ho hl b HQl
      go_wp2
      go_ret
      exact ⟨⟨_, R, rfl, HF2.out⟩, HW2.out⟩
end Go.Proofs.Yteaajhpgmndomaa
