/- BailMeters, out of what bail answers. -/
import Derived.Test.YtgighebohbpkiaaBaw
import Derived.Test.YtgighebohbpkiaaBli
import Derived.Deep.RegionHeld3
namespace Go.Proofs.Ytgighebohbpkiaa
open Go.RowKit Fo
set_option maxRecDepth 100000
set_option linter.unusedSimpArgs false

namespace Fo
/-- A meter at a pointer, as what is in memory. -/
def MS (M : (Nat → Prop) → World → Value → Int → Prop) (v : Value) (F : Nat → Prop) (w : World) (l : Int) : Prop := M F w v l
theorem ms_st {M : (Nat → Prop) → World → Value → Int → Prop} (D : MeterSays M) (v : Value) : StF (MS M v) := ⟨fun h k g => D.frame h k g, fun h => D.lt h⟩
end Fo
set_option maxHeartbeats 16000000 in
theorem mt1_plays {M : (Nat → Prop) → World → Value → Int → Prop} (D : MeterSays M) (F : Nat → Prop) (w : World) (p : Option Addr) (left x : Int) (bm bl bi ba off n c i : Nat) (hm : M F w (.pointer p) left)
    (h1 : w.cell? ⟨bm, 0, none⟩ = some (.pointer p)) (h2 : w.cell? ⟨bl, 0, none⟩ = some (.slice (some ⟨ba, off, none⟩) n c)) (h3 : w.cell? ⟨bi, 0, none⟩ = some (.int .i64 i)) (h4 : w.cell? ⟨ba, off + i, none⟩ = some (.int .i64 x)) (hi : i < n) (n1 : ¬ F bm) (n2 : ¬ F bl) (n3 : ¬ F bi) (n4 : ¬ F ba) :
    Plays Try.prog 25 #[.pointer (some ⟨bm, 0, none⟩), .pointer (some ⟨bl, 0, none⟩), .pointer (some ⟨bi, 0, none⟩)] w (Fins (MS M (.pointer p)) F w (useE left x) (useL left x)) := by
  refine ⟨_, _, Try.func25, rfl, ?_⟩
  simp only [Try.ntmps25, List.size_toArray, List.length_cons, List.length_nil, Nat.reduceAdd, Nat.reduceSub, Array.replicate_succ, Array.replicate_zero, List.push_toArray, List.append_toArray, List.nil_append, List.cons_append]
  have HM : Hid (M F w (.pointer p) left) := hm
  clear hm
  refine wp_region_held_drew (S := (fun w' => w'.cell? ⟨bm, 0, none⟩ = some (.pointer p) ∧ w'.cell? ⟨bl, 0, none⟩ = some (.slice (some ⟨ba, off, none⟩) n c) ∧ w'.cell? ⟨bi, 0, none⟩ = some (.int .i64 i) ∧ w'.cell? ⟨ba, off + i, none⟩ = some (.int .i64 x))) (by kernel_rfl) ?_ (fun hHeld => ?_)
  · (try dsimp only); exact ⟨h1, h2, h3, h4⟩
  refine wpAnyH_take (i := 0) (oi := { dst := some 3, op := Op.load 28 (Operand.tmp 0), type := 28, pos := "law.go:236", after := #[], guard := none }) (v := ?vu1) rfl (by kernel_rfl) (by kernel_rfl) (by kernel_rfl) (fun _ _ _ h => bp_put _ _ _ h) (Or.inl ⟨by rfl, ?hyu1⟩) (by assumption) ?restu1
  case hyu1 => (intro w hSw; (try dsimp only at hSw); obtain ⟨q1, q2, q3, q4⟩ := hSw; go_simp; (try with_reducible rfl))
  try simp only [Act.put, List.setIfInBounds_toArray, List.set_cons_zero, List.set_cons_succ]
  refine wpAnyH_take (i := 1) (oi := { dst := some 4, op := Op.load 30 (Operand.tmp 1), type := 30, pos := "law.go:236", after := #[], guard := none }) (v := ?vu2) rfl (by kernel_rfl) (by kernel_rfl) (by kernel_rfl) (fun _ _ _ h => bp_put _ _ _ h) (Or.inl ⟨by rfl, ?hyu2⟩) (by assumption) ?restu2
  case hyu2 => (intro w hSw; (try dsimp only at hSw); obtain ⟨q1, q2, q3, q4⟩ := hSw; go_simp; (try with_reducible rfl))
  try simp only [Act.put, List.setIfInBounds_toArray, List.set_cons_zero, List.set_cons_succ]
  refine wpAnyH_take (i := 2) (oi := { dst := some 5, op := Op.load 3 (Operand.tmp 2), type := 3, pos := "law.go:236", after := #[], guard := none }) (v := ?vu3) rfl (by kernel_rfl) (by kernel_rfl) (by kernel_rfl) (fun _ _ _ h => bp_put _ _ _ h) (Or.inl ⟨by rfl, ?hyu3⟩) (by assumption) ?restu3
  case hyu3 => (intro w hSw; (try dsimp only at hSw); obtain ⟨q1, q2, q3, q4⟩ := hSw; go_simp; (try with_reducible rfl))
  try simp only [Act.put, List.setIfInBounds_toArray, List.set_cons_zero, List.set_cons_succ]
  refine wpAnyH_take (i := 3) (oi := { dst := some 6, op := Op.indexAddr 30 (Operand.tmp 4) (Operand.tmp 5), type := 0, pos := "law.go:236", after := #[{ on := 1, ground := Ground.data }, { on := 2, ground := Ground.data }], guard := none }) (v := ?vu4) rfl (by kernel_rfl) (by kernel_rfl) (by kernel_rfl) (fun _ _ _ h => bp_put _ _ _ h) (Or.inl ⟨by rfl, ?hyu4⟩) (by assumption) ?restu4
  case hyu4 => (intro w hSw; (try dsimp only at hSw); go_simp; (try with_reducible rfl))
  try simp only [Act.put, List.setIfInBounds_toArray, List.set_cons_zero, List.set_cons_succ]
  refine wpAnyH_take (i := 4) (oi := { dst := some 7, op := Op.load 3 (Operand.tmp 6), type := 3, pos := "law.go:236", after := #[{ on := 3, ground := Ground.data }], guard := none }) (v := ?vu5) rfl (by kernel_rfl) (by kernel_rfl) (by kernel_rfl) (fun _ _ _ h => bp_put _ _ _ h) (Or.inl ⟨by rfl, ?hyu5⟩) (by assumption) ?restu5
  case hyu5 => (intro w hSw; (try dsimp only at hSw); obtain ⟨q1, q2, q3, q4⟩ := hSw; go_simp; (try with_reducible rfl))
  try simp only [Act.put, List.setIfInBounds_toArray, List.set_cons_zero, List.set_cons_succ]
  refine wpAnyH_ready (rs := [5]) (by kernel_rfl) (by simp) ?_
  refine AllReadyH.cons (o := { dst := some 8, op := Op.call { callee := Callee.value (Operand.func 26), args := #[Operand.tmp 3, Operand.tmp 7], argTypes := #[28, 3] }, type := 0, pos := "law.go:236", after := #[{ on := 0, ground := Ground.data }, { on := 4, ground := Ground.data }], guard := none }) rfl (fun K hK => ?_) AllReadyH.nil
  go_simp
  go_at_call 26
  refine (D.use F _ (.pointer p) left x ((ms_st D _).drew HM.out)).mono ?_
  rintro e w' ⟨hm, hk, he⟩
  have HM' : Hid (M F w' (.pointer p) (useL left x)) := hm
  have HK' : Hid (Kp F w w') := hk.undrew
  clear hm hk
  rcases he with ⟨hr, rfl⟩ | ⟨v, old, rfl, ho, hv⟩
  case inr => exact ⟨rfl, F, ⟨HM'.out, fun _ h => Or.inl h, HK'.out⟩, Or.inr ⟨v, old, rfl, ho, hv⟩⟩
  have HR : Hid (useE left x = .ret) := hr
  clear hr
  replace h1 := HK'.out.cell h1 n1
  replace h2 := HK'.out.cell h2 n2
  replace h3 := HK'.out.cell h3 n3
  replace h4 := HK'.out.cell h4 n4
  refine hK.out _ _ ?_ (fun hHeldB => ?_)
  · (try dsimp only); exact ⟨h1, h2, h3, h4⟩
  clear hK K hHeld
  have hHeld := hHeldB
  clear hHeldB
  try simp only [Act.put, List.setIfInBounds_toArray, List.set_cons_zero, List.set_cons_succ]
  refine wpAnyH_done (by kernel_rfl) ?_ _
  go_wp2
  go_end0
  exact ⟨F, ⟨HM'.out, fun _ h => Or.inl h, HK'.out⟩, Or.inl ⟨HR.out, rfl⟩⟩
set_option maxHeartbeats 4000000 in
theorem mt2_plays {M : (Nat → Prop) → World → Value → Int → Prop} (D : MeterSays M) (w : World) (bn : Nat) (h1 : w.cell? ⟨bn, 0, none⟩ = some (.pointer none)) :
    Plays Try.prog 27 #[.pointer (some ⟨bn, 0, none⟩)] w (Fins NoS (fun _ => False) w (.bail 10 1) ()) := by
  refine ⟨_, _, Try.func27, rfl, ?_⟩
  simp only [Try.ntmps27, List.size_toArray, List.length_cons, List.length_nil, Nat.reduceAdd, Nat.reduceSub, Array.replicate_succ, Array.replicate_zero, List.push_toArray, List.append_toArray, List.nil_append, List.cons_append]
  go_wp2_with (go_at_call 26; fail)
  refine (D.use (fun _ => False) w (.pointer none) 0 1 (D.none w)).mono ?_
  rintro e w' ⟨-, hk, he⟩
  have HK : Hid (Kp (fun _ => False) w w') := hk
  rcases id he with ⟨h, -⟩ | ⟨v, old, rfl, -⟩
  · cases h
  have HE : Hid (EnIn w.heap.size (fun _ => False) w' (.bail 10 1) (.panicked ({ v := v, recovered := false } :: old))) := he
  clear hk he
  go_wp2
  exact ⟨rfl, _, ⟨nos w', fun _ h => Or.inl h, HK.out⟩, HE.out⟩
theorem fnv_mt1 (cap : Array Value) : Fnv Try.prog 25 cap := enters_of Try.func25 (by kernel_rfl) rfl cap
theorem fnv_mt2 (cap : Array Value) : Fnv Try.prog 27 cap := enters_of Try.func27 (by kernel_rfl) rfl cap
set_option maxHeartbeats 16000000 in
theorem meters_any {M : (Nat → Prop) → World → Value → Int → Prop} (C : BailSays) (D : MeterSays M) (w : World) (b : Int) (lv : Value) (l : List Int) (h : IsL w lv l) (hb1 : b ≤ 9223372036854775807) :
    Calls Try.prog 5 #[.int .i64 b, lv] w fun e w' => e = .returned (.bool true) ∧ Below w.heap.size w w' := by
  obtain ⟨a, c, rfl, hr⟩ := h
  have hl1 := hr.1
  have hl2 := hr.2.1
  have HR : Hid (Rd w a l.length c (ivs (gt l))) := hr
  have HA : Hid (∀ k, a.map (·.block) = some k → 0 < l.length → k < w.heap.size) := fun k hk h0 => by
    obtain ⟨b, off, rfl, hc⟩ := hr.at h0
    have h1 : b < w.heap.size := World.block_lt_of_cell? w _ (hc 0 h0)
    have h2 : b = k := by simpa using hk
    omega
  have hmf : ∀ (fn : Fn) (first cap : Array Value) (w : World), (Instr.makeFunc fn first cap).run Try.prog w = .ok (.func fn first cap) w := fun _ _ _ _ => rfl
  clear hr
  by_cases hs : 100 < l.length
  · go_enter Try.func5, Try.ntmps5
    go_wp2_with (go_at_call 9; fail)
    refine (awake_of C D _).mono ?_
    rintro e w1 ⟨rfl, b1⟩
    have HB : Hid (Below w.heap.size w w1) := below_step (below1 w _) b1
    clear b1
    go_wp2
    go_ret
    exact ⟨rfl, HB.out⟩
  · have hs' : l.length ≤ 100 := by omega
    clear hs
    go_enter Try.func5, Try.ntmps5
    go_wp2_with (go_at_call 10; fail)
    obtain ⟨W0, hW0⟩ : ∃ W0, W0 = w.alloc (.cells #[.slice a l.length c] 30) := ⟨_, rfl⟩
    rw [← hW0]
    have HB0 : Hid (Below w.heap.size w W0) := by rw [hW0]; exact below1 w _
    have HG0 : Hid (W0.heap[w.heap.size]? = some (.cells #[.slice a l.length c] 30)) := by show W0.heap[_]? = _; rw [hW0]; exact heap_new1 w _
    have HZ : Hid (W0.heap.size = w.heap.size + 1) := by show W0.heap.size = _; rw [hW0]; simp
    clear hW0
    refine (D.new W0 b (max b 0) hb1 rfl).mono ?_
    rintro e w1 ⟨⟨F, p, rfl, hm, hF⟩, b1⟩
    have HM : Hid (M F w1 (.pointer p) (max b 0)) := hm
    have HF : Hid (∀ k, F k → W0.heap.size ≤ k) := hF
    have HB1 : Hid (Below w.heap.size w w1) := below_step HB0.out b1
    have HB01 : Hid (Below W0.heap.size W0 w1) := b1
    clear hm hF b1
    by_cases hb : b < 0
    · skip
      have hmx : max b 0 = 0 := by omega
      rw [hmx] at HM
      clear hmx
      have HBs : Hid (Below w.heap.size w ((w1.alloc (.cells #[.pointer p] 28)).alloc (.cells #[.int .i64 0] 3))) := (HB1.out.alloc HB1.out.size _).alloc (by have := HB1.out.size; simp; omega) _
      have hkp : Kp (fun _ => False) w1 ((w1.alloc (.cells #[.pointer p] 28)).alloc (.cells #[.int .i64 0] 3)) := ((Kp.refl _ w1).alloc _).alloc _
      have HMs : Hid (M F ((w1.alloc (.cells #[.pointer p] 28)).alloc (.cells #[.int .i64 0] 3)) (.pointer p) 0) := D.frame HM.out hkp fun _ _ h => h
      have hz : W0.heap.size = w.heap.size + 1 := HZ.out
      have hz1 : w.heap.size + 1 ≤ w1.heap.size := by rw [← hz]; exact HB01.out.size
      have HCs : Hid (((w1.alloc (.cells #[.pointer p] 28)).alloc (.cells #[.int .i64 0] 3)).heap[w1.heap.size + 1]? = some (.cells #[.int .i64 (0 : Nat)] 3) ∧ ((w1.alloc (.cells #[.pointer p] 28)).alloc (.cells #[.int .i64 0] 3)).heap[w1.heap.size]? = some (.cells #[.pointer p] 28) ∧ ((w1.alloc (.cells #[.pointer p] 28)).alloc (.cells #[.int .i64 0] 3)).heap[w.heap.size]? = some (.cells #[.slice a l.length c] 30)) := by
        refine ⟨?_, heap_new2 w1 _ _, hkp.heap ((HB01.out.block _ (by omega)).trans HG0.out) id⟩
        have := heap_new1 (w1.alloc (.cells #[.pointer p] 28)) (.cells #[.int .i64 0] 3)
        simpa using this
      have HNs : Hid (¬ F (w1.heap.size + 1) ∧ ¬ F w1.heap.size ∧ ¬ F w.heap.size ∧ ∀ k, F k → w.heap.size ≤ k) := by
        refine ⟨fun k => ?_, fun k => ?_, fun k => ?_, fun k h => ?_⟩
        · have := D.lt HM.out _ k; omega
        · have := D.lt HM.out _ k; omega
        · have := HF.out _ k; omega
        · have := HF.out _ h; omega
      clear hkp HB01 HG0 HM HF HB1
      obtain ⟨bm, hbm⟩ : ∃ bm, bm = w1.heap.size := ⟨_, rfl⟩
      go_wp2
      rw [← hbm] at HCs HNs
      rw [← hbm]
      clear hbm
      go_loopw [6, 7] (fun v6 v7 wr => ∃ (i bi : Nat) (left : Int) (F : Nat → Prop), i ≤ l.length ∧ v6 = .int .i64 left ∧ v7 = .pointer (some ⟨bi, 0, none⟩) ∧ Hid (0 ≤ left ∧ left ≤ 9223372036854775807) ∧ Hid (Below w.heap.size w wr) ∧ Hid (M F wr (.pointer p) left) ∧
        Hid (wr.heap[bi]? = some (.cells #[.int .i64 i] 3) ∧ wr.heap[bm]? = some (.cells #[.pointer p] 28) ∧ wr.heap[w.heap.size]? = some (.cells #[.slice a l.length c] 30)) ∧ Hid (¬ F bi ∧ ¬ F bm ∧ ¬ F w.heap.size ∧ ∀ k, F k → w.heap.size ≤ k)) (fun _ v wr => l.length - (boxInt wr v).toNat)
      case atStart => exact ⟨0, bm + 1, 0, F, Nat.zero_le _, rfl, by simp, ⟨by omega, by omega⟩, HBs.out, HMs.out, HCs.out, HNs.out⟩
      case round =>
        obtain ⟨i, bi, left, F, hi, rfl, rfl, HL, HB, HM, HC, HN⟩ := hrel
        rename World => wr
        have c1 : wr.cell? ⟨bi, 0, none⟩ = some (.int .i64 i) := by rw [cell_of_row _ _ _ _ _ _ HC.out.1]; rfl
        have c2 : wr.cell? ⟨bm, 0, none⟩ = some (.pointer p) := by rw [cell_of_row _ _ _ _ _ _ HC.out.2.1]; rfl
        have c3 : wr.cell? ⟨w.heap.size, 0, none⟩ = some (.slice a l.length c) := by rw [cell_of_row _ _ _ _ _ _ HC.out.2.2]; rfl
        by_cases hlt : i < l.length
        · obtain ⟨ba, off, rfl, hca⟩ := (HR.out.below HB.out).at (by omega)
          have c4 := hca i hlt
          unfold ivs at c4
          obtain ⟨x, hx⟩ : ∃ x, x = gt l i := ⟨_, rfl⟩
          rw [← hx] at c4
          clear hca hx
          have n4 : ¬ F ba := fun k => by
            have h1 := HN.out.2.2.2 ba k
            have h2 := HA.out
            simp at h2
            omega
          have j1 : (0 : Int) ≤ (i : Int) := by omega
          have j2 : (i : Int) < (l.length : Int) := by omega
          have hfn := fun (w1 : World) (hb : Below wr.heap.size wr w1) (hs : MS M (.pointer p) F w1 left) => mt1_plays D F w1 p left x bm w.heap.size bi ba off l.length c i hs (by rw [hb.cell (World.block_lt_of_cell? wr _ c2)]; exact c2) (by rw [hb.cell (World.block_lt_of_cell? wr _ c3)]; exact c3) (by rw [hb.cell (World.block_lt_of_cell? wr _ c1)]; exact c1) (by rw [hb.cell (World.block_lt_of_cell? wr _ c4)]; exact c4) hlt HN.out.2.1 HN.out.2.2.1 HN.out.1 n4
          have HFn : Hid (∀ w1, Below wr.heap.size wr w1 → MS M (.pointer p) F w1 left → Plays Try.prog 25 #[.pointer (some ⟨bm, 0, none⟩), .pointer (some ⟨w.heap.size, 0, none⟩), .pointer (some ⟨bi, 0, none⟩)] w1 (Fins (MS M (.pointer p)) F w1 (useE left x) (useL left x))) := hfn
          have HX : Hid (wr.cell? ⟨ba, off + i, none⟩ = some (.int .i64 x) ∧ ¬ F ba) := ⟨c4, n4⟩
          clear hfn c4 n4
          by_cases hx : x < 0
          · skip
            obtain ⟨hue, hul⟩ := use_neg hx (l := left)
            have HUE : Hid (useE left x = _) := hue
            have HUL : Hid (useL left x = _) := hul
            clear hue hul
            go_wp2_with (go_at_call 22; fail)
            refine (C.catches (ms_st D (.pointer p)) F wr left _ _ _ _ (fnv_mt1 _) HM.out HFn.out).mono ?_
            rintro e w2 ⟨G, hl, he⟩
            rw [HUE.out] at he
            change e = _ at he
            subst he
            have HM2 : Hid (M G w2 (.pointer p) (useL left x)) := hl.1
            have HK2 : Hid (Kp F wr w2) := hl.2.2
            have HG2 : Hid (∀ b, G b → F b ∨ wr.heap.size ≤ b) := hl.2.1
            clear hl
            replace c1 := HK2.out.cell c1 HN.out.1
            replace c2 := HK2.out.cell c2 HN.out.2.1
            replace c3 := HK2.out.cell c3 HN.out.2.2.1
            have c4 := HK2.out.cell HX.out.1 HX.out.2
            rw [HUL.out] at HM2
            have j3 := HL.out.1
            have j4 := HL.out.2
            go_wp2_with (go_at_call 16; fail)
            refine (D.left G w2 _ _ HM2.out).mono ?_
            rintro e w3 ⟨rfl, b3⟩
            have HM3 : Hid (M G w3 (.pointer p) _) := (ms_st D _).below HM2.out b3
            have HK3 : Hid (Kp F wr w3) := HK2.out.trans (Kp.of_below (F := F) b3) fun _ _ h => h
            have HB3 : Hid (Below w.heap.size w w3) := HB.out.trans (HK3.out.below HB.out.size fun b hb k => by have := HN.out.2.2.2 b k; omega)
            have HS3 : Hid (w2.heap.size ≤ w3.heap.size) := b3.size
            rw [← b3.cell (World.block_lt_of_cell? w2 _ c1)] at c1
            rw [← b3.cell (World.block_lt_of_cell? w2 _ c2)] at c2
            rw [← b3.cell (World.block_lt_of_cell? w2 _ c3)] at c3
            rw [← b3.cell (World.block_lt_of_cell? w2 _ c4)] at c4
            clear b3
            go_wp2
            have k2 := HK3.out.heap HC.out.2.1 HN.out.2.1
            have k3 := HK3.out.heap HC.out.2.2 HN.out.2.2.1
            have l2 := lt_of_heap HC.out.2.1
            have l3 := lt_of_heap HC.out.2.2
            have hG := HG2.out
            refine ⟨⟨i + 1, w3.heap.size, _, G, by omega, rfl, rfl, ⟨by omega, by omega⟩, HB3.out.alloc HB3.out.size _, (ms_st D _).below HM3.out (below1 w3 _), ⟨(heap_new1 w3 _).trans (by simp), ((below1 w3 _).block _ (lt_of_heap k2)).trans k2, ((below1 w3 _).block _ (lt_of_heap k3)).trans k3⟩, ⟨fun k => by have := D.lt HM3.out _ k; omega, fun k => ?_, fun k => ?_, fun b k => ?_⟩⟩, ?_⟩
            · rcases hG _ k with q | q
              · exact HN.out.2.1 q
              · omega
            · rcases hG _ k with q | q
              · exact HN.out.2.2.1 q
              · omega
            · rcases hG _ k with q | q
              · exact HN.out.2.2.2 b q
              · omega
            have m1 : (w3.alloc (.cells #[.int .i64 ((i : Int) + 1)] 3)).cell? ⟨w3.heap.size, 0, none⟩ = some (.int .i64 ((i : Int) + 1)) := by rw [cell_of_row _ _ _ _ _ _ (heap_new1 w3 _)]; rfl
            have m0 : wr.cell? ⟨bi, 0, none⟩ = some (.int .i64 i) := by rw [cell_of_row _ _ _ _ _ _ HC.out.1]; rfl
            simp only [boxInt, m1, m0, Option.getD_some, intOf]
            omega
          · by_cases hy : left < x
            · skip
              obtain ⟨hue, hul⟩ := use_big hx hy (l := left)
              have HUE : Hid (useE left x = _) := hue
              have HUL : Hid (useL left x = _) := hul
              clear hue hul
              go_wp2_with (go_at_call 22; fail)
              refine (C.catches (ms_st D (.pointer p)) F wr left _ _ _ _ (fnv_mt1 _) HM.out HFn.out).mono ?_
              rintro e w2 ⟨G, hl, he⟩
              rw [HUE.out] at he
              change e = _ at he
              subst he
              have HM2 : Hid (M G w2 (.pointer p) (useL left x)) := hl.1
              have HK2 : Hid (Kp F wr w2) := hl.2.2
              have HG2 : Hid (∀ b, G b → F b ∨ wr.heap.size ≤ b) := hl.2.1
              clear hl
              replace c1 := HK2.out.cell c1 HN.out.1
              replace c2 := HK2.out.cell c2 HN.out.2.1
              replace c3 := HK2.out.cell c3 HN.out.2.2.1
              have c4 := HK2.out.cell HX.out.1 HX.out.2
              rw [HUL.out] at HM2
              have j3 := HL.out.1
              have j4 := HL.out.2
              go_wp2_with (go_at_call 16; fail)
              refine (D.left G w2 _ _ HM2.out).mono ?_
              rintro e w3 ⟨rfl, b3⟩
              have HM3 : Hid (M G w3 (.pointer p) _) := (ms_st D _).below HM2.out b3
              have HK3 : Hid (Kp F wr w3) := HK2.out.trans (Kp.of_below (F := F) b3) fun _ _ h => h
              have HB3 : Hid (Below w.heap.size w w3) := HB.out.trans (HK3.out.below HB.out.size fun b hb k => by have := HN.out.2.2.2 b k; omega)
              have HS3 : Hid (w2.heap.size ≤ w3.heap.size) := b3.size
              rw [← b3.cell (World.block_lt_of_cell? w2 _ c1)] at c1
              rw [← b3.cell (World.block_lt_of_cell? w2 _ c2)] at c2
              rw [← b3.cell (World.block_lt_of_cell? w2 _ c3)] at c3
              rw [← b3.cell (World.block_lt_of_cell? w2 _ c4)] at c4
              clear b3
              go_wp2
              have k2 := HK3.out.heap HC.out.2.1 HN.out.2.1
              have k3 := HK3.out.heap HC.out.2.2 HN.out.2.2.1
              have l2 := lt_of_heap HC.out.2.1
              have l3 := lt_of_heap HC.out.2.2
              have hG := HG2.out
              refine ⟨⟨i + 1, w3.heap.size, _, G, by omega, rfl, rfl, ⟨by omega, by omega⟩, HB3.out.alloc HB3.out.size _, (ms_st D _).below HM3.out (below1 w3 _), ⟨(heap_new1 w3 _).trans (by simp), ((below1 w3 _).block _ (lt_of_heap k2)).trans k2, ((below1 w3 _).block _ (lt_of_heap k3)).trans k3⟩, ⟨fun k => by have := D.lt HM3.out _ k; omega, fun k => ?_, fun k => ?_, fun b k => ?_⟩⟩, ?_⟩
              · rcases hG _ k with q | q
                · exact HN.out.2.1 q
                · omega
              · rcases hG _ k with q | q
                · exact HN.out.2.2.1 q
                · omega
              · rcases hG _ k with q | q
                · exact HN.out.2.2.2 b q
                · omega
              have m1 : (w3.alloc (.cells #[.int .i64 ((i : Int) + 1)] 3)).cell? ⟨w3.heap.size, 0, none⟩ = some (.int .i64 ((i : Int) + 1)) := by rw [cell_of_row _ _ _ _ _ _ (heap_new1 w3 _)]; rfl
              have m0 : wr.cell? ⟨bi, 0, none⟩ = some (.int .i64 i) := by rw [cell_of_row _ _ _ _ _ _ HC.out.1]; rfl
              simp only [boxInt, m1, m0, Option.getD_some, intOf]
              omega
            · skip
              obtain ⟨hue, hul⟩ := use_ok hx hy (l := left)
              have HUE : Hid (useE left x = _) := hue
              have HUL : Hid (useL left x = _) := hul
              clear hue hul
              go_wp2_with (go_at_call 22; fail)
              refine (C.catches (ms_st D (.pointer p)) F wr left _ _ _ _ (fnv_mt1 _) HM.out HFn.out).mono ?_
              rintro e w2 ⟨G, hl, he⟩
              rw [HUE.out] at he
              change e = _ at he
              subst he
              have HM2 : Hid (M G w2 (.pointer p) (useL left x)) := hl.1
              have HK2 : Hid (Kp F wr w2) := hl.2.2
              have HG2 : Hid (∀ b, G b → F b ∨ wr.heap.size ≤ b) := hl.2.1
              clear hl
              replace c1 := HK2.out.cell c1 HN.out.1
              replace c2 := HK2.out.cell c2 HN.out.2.1
              replace c3 := HK2.out.cell c3 HN.out.2.2.1
              have c4 := HK2.out.cell HX.out.1 HX.out.2
              rw [HUL.out] at HM2
              have j3 := HL.out.1
              have j4 := HL.out.2
              go_wp2_with (go_at_call 16; fail)
              refine (D.left G w2 _ _ HM2.out).mono ?_
              rintro e w3 ⟨rfl, b3⟩
              have HM3 : Hid (M G w3 (.pointer p) _) := (ms_st D _).below HM2.out b3
              have HK3 : Hid (Kp F wr w3) := HK2.out.trans (Kp.of_below (F := F) b3) fun _ _ h => h
              have HB3 : Hid (Below w.heap.size w w3) := HB.out.trans (HK3.out.below HB.out.size fun b hb k => by have := HN.out.2.2.2 b k; omega)
              have HS3 : Hid (w2.heap.size ≤ w3.heap.size) := b3.size
              rw [← b3.cell (World.block_lt_of_cell? w2 _ c1)] at c1
              rw [← b3.cell (World.block_lt_of_cell? w2 _ c2)] at c2
              rw [← b3.cell (World.block_lt_of_cell? w2 _ c3)] at c3
              rw [← b3.cell (World.block_lt_of_cell? w2 _ c4)] at c4
              clear b3
              go_wp2
              have k2 := HK3.out.heap HC.out.2.1 HN.out.2.1
              have k3 := HK3.out.heap HC.out.2.2 HN.out.2.2.1
              have l2 := lt_of_heap HC.out.2.1
              have l3 := lt_of_heap HC.out.2.2
              have hG := HG2.out
              refine ⟨⟨i + 1, w3.heap.size, _, G, by omega, rfl, rfl, ⟨by omega, by omega⟩, HB3.out.alloc HB3.out.size _, (ms_st D _).below HM3.out (below1 w3 _), ⟨(heap_new1 w3 _).trans (by simp), ((below1 w3 _).block _ (lt_of_heap k2)).trans k2, ((below1 w3 _).block _ (lt_of_heap k3)).trans k3⟩, ⟨fun k => by have := D.lt HM3.out _ k; omega, fun k => ?_, fun k => ?_, fun b k => ?_⟩⟩, ?_⟩
              · rcases hG _ k with q | q
                · exact HN.out.2.1 q
                · omega
              · rcases hG _ k with q | q
                · exact HN.out.2.2.1 q
                · omega
              · rcases hG _ k with q | q
                · exact HN.out.2.2.2 b q
                · omega
              have m1 : (w3.alloc (.cells #[.int .i64 ((i : Int) + 1)] 3)).cell? ⟨w3.heap.size, 0, none⟩ = some (.int .i64 ((i : Int) + 1)) := by rw [cell_of_row _ _ _ _ _ _ (heap_new1 w3 _)]; rfl
              have m0 : wr.cell? ⟨bi, 0, none⟩ = some (.int .i64 i) := by rw [cell_of_row _ _ _ _ _ _ HC.out.1]; rfl
              simp only [boxInt, m1, m0, Option.getD_some, intOf]
              omega
        · skip
          obtain ⟨bn, hbn⟩ : ∃ bn, bn = wr.heap.size := ⟨_, rfl⟩
          have HBx : Hid (Below w.heap.size w (wr.alloc (.cells #[.pointer none] 28))) := by show Below _ _ _; exact below_step HB.out (below1 wr _)
          have hcn : (wr.alloc (.cells #[.pointer none] 28)).heap[wr.heap.size]? = some (.cells #[.pointer none] 28) := heap_new1 wr _
          clear hbn
          go_wp2_with (go_at_call 22; fail)
          refine (C.catches nos_st (fun _ => False) _ () () _ _ (.bail 10 1) (fnv_mt2 _) (nos _) fun w2 hb2 _ => mt2_plays D w2 _ (by rw [hb2.cell (lt_of_heap hcn), cell_of_row _ _ _ _ _ _ hcn]; rfl)).mono ?_
          rintro e w2 ⟨G, hl, he⟩
          have HB2 : Hid (Below w.heap.size w w2) := below_step HBx.out hl.nos_below
          have hc2 : w2.cell? ⟨wr.heap.size, 0, none⟩ = some (.pointer none) := by rw [hl.nos_below.cell (lt_of_heap hcn), cell_of_row _ _ _ _ _ _ hcn]; rfl
          change e = _ at he
          subst he
          clear hl hcn
          go_wp2_with (first | (go_at_call 16; fail) | (go_at_call 9; fail))
          refine (D.left (fun _ => False) w2 _ 0 (D.none w2)).mono ?_
          rintro e w3 ⟨rfl, b3⟩
          have HB3 : Hid (Below w.heap.size w w3) := below_step HB2.out b3
          clear b3
          go_wp2_with (go_at_call 9; fail)
          refine (awake_of C D w3).mono ?_
          rintro e w4 ⟨rfl, b4⟩
          have HB4 : Hid (Below w.heap.size w w4) := below_step HB3.out b4
          clear b4
          go_wp2
          go_ret
          exact ⟨rfl, HB4.out⟩
    · skip
      have hmx : max b 0 = b := by omega
      rw [hmx] at HM
      clear hmx
      have HBs : Hid (Below w.heap.size w ((w1.alloc (.cells #[.pointer p] 28)).alloc (.cells #[.int .i64 0] 3))) := (HB1.out.alloc HB1.out.size _).alloc (by have := HB1.out.size; simp; omega) _
      have hkp : Kp (fun _ => False) w1 ((w1.alloc (.cells #[.pointer p] 28)).alloc (.cells #[.int .i64 0] 3)) := ((Kp.refl _ w1).alloc _).alloc _
      have HMs : Hid (M F ((w1.alloc (.cells #[.pointer p] 28)).alloc (.cells #[.int .i64 0] 3)) (.pointer p) b) := D.frame HM.out hkp fun _ _ h => h
      have hz : W0.heap.size = w.heap.size + 1 := HZ.out
      have hz1 : w.heap.size + 1 ≤ w1.heap.size := by rw [← hz]; exact HB01.out.size
      have HCs : Hid (((w1.alloc (.cells #[.pointer p] 28)).alloc (.cells #[.int .i64 0] 3)).heap[w1.heap.size + 1]? = some (.cells #[.int .i64 (0 : Nat)] 3) ∧ ((w1.alloc (.cells #[.pointer p] 28)).alloc (.cells #[.int .i64 0] 3)).heap[w1.heap.size]? = some (.cells #[.pointer p] 28) ∧ ((w1.alloc (.cells #[.pointer p] 28)).alloc (.cells #[.int .i64 0] 3)).heap[w.heap.size]? = some (.cells #[.slice a l.length c] 30)) := by
        refine ⟨?_, heap_new2 w1 _ _, hkp.heap ((HB01.out.block _ (by omega)).trans HG0.out) id⟩
        have := heap_new1 (w1.alloc (.cells #[.pointer p] 28)) (.cells #[.int .i64 0] 3)
        simpa using this
      have HNs : Hid (¬ F (w1.heap.size + 1) ∧ ¬ F w1.heap.size ∧ ¬ F w.heap.size ∧ ∀ k, F k → w.heap.size ≤ k) := by
        refine ⟨fun k => ?_, fun k => ?_, fun k => ?_, fun k h => ?_⟩
        · have := D.lt HM.out _ k; omega
        · have := D.lt HM.out _ k; omega
        · have := HF.out _ k; omega
        · have := HF.out _ h; omega
      clear hkp HB01 HG0 HM HF HB1
      obtain ⟨bm, hbm⟩ : ∃ bm, bm = w1.heap.size := ⟨_, rfl⟩
      go_wp2
      rw [← hbm] at HCs HNs
      rw [← hbm]
      clear hbm
      go_loopw [6, 7] (fun v6 v7 wr => ∃ (i bi : Nat) (left : Int) (F : Nat → Prop), i ≤ l.length ∧ v6 = .int .i64 left ∧ v7 = .pointer (some ⟨bi, 0, none⟩) ∧ Hid (0 ≤ left ∧ left ≤ 9223372036854775807) ∧ Hid (Below w.heap.size w wr) ∧ Hid (M F wr (.pointer p) left) ∧
        Hid (wr.heap[bi]? = some (.cells #[.int .i64 i] 3) ∧ wr.heap[bm]? = some (.cells #[.pointer p] 28) ∧ wr.heap[w.heap.size]? = some (.cells #[.slice a l.length c] 30)) ∧ Hid (¬ F bi ∧ ¬ F bm ∧ ¬ F w.heap.size ∧ ∀ k, F k → w.heap.size ≤ k)) (fun _ v wr => l.length - (boxInt wr v).toNat)
      case atStart => exact ⟨0, bm + 1, b, F, Nat.zero_le _, rfl, by simp, ⟨by omega, by omega⟩, HBs.out, HMs.out, HCs.out, HNs.out⟩
      case round =>
        obtain ⟨i, bi, left, F, hi, rfl, rfl, HL, HB, HM, HC, HN⟩ := hrel
        rename World => wr
        have c1 : wr.cell? ⟨bi, 0, none⟩ = some (.int .i64 i) := by rw [cell_of_row _ _ _ _ _ _ HC.out.1]; rfl
        have c2 : wr.cell? ⟨bm, 0, none⟩ = some (.pointer p) := by rw [cell_of_row _ _ _ _ _ _ HC.out.2.1]; rfl
        have c3 : wr.cell? ⟨w.heap.size, 0, none⟩ = some (.slice a l.length c) := by rw [cell_of_row _ _ _ _ _ _ HC.out.2.2]; rfl
        by_cases hlt : i < l.length
        · obtain ⟨ba, off, rfl, hca⟩ := (HR.out.below HB.out).at (by omega)
          have c4 := hca i hlt
          unfold ivs at c4
          obtain ⟨x, hx⟩ : ∃ x, x = gt l i := ⟨_, rfl⟩
          rw [← hx] at c4
          clear hca hx
          have n4 : ¬ F ba := fun k => by
            have h1 := HN.out.2.2.2 ba k
            have h2 := HA.out
            simp at h2
            omega
          have j1 : (0 : Int) ≤ (i : Int) := by omega
          have j2 : (i : Int) < (l.length : Int) := by omega
          have hfn := fun (w1 : World) (hb : Below wr.heap.size wr w1) (hs : MS M (.pointer p) F w1 left) => mt1_plays D F w1 p left x bm w.heap.size bi ba off l.length c i hs (by rw [hb.cell (World.block_lt_of_cell? wr _ c2)]; exact c2) (by rw [hb.cell (World.block_lt_of_cell? wr _ c3)]; exact c3) (by rw [hb.cell (World.block_lt_of_cell? wr _ c1)]; exact c1) (by rw [hb.cell (World.block_lt_of_cell? wr _ c4)]; exact c4) hlt HN.out.2.1 HN.out.2.2.1 HN.out.1 n4
          have HFn : Hid (∀ w1, Below wr.heap.size wr w1 → MS M (.pointer p) F w1 left → Plays Try.prog 25 #[.pointer (some ⟨bm, 0, none⟩), .pointer (some ⟨w.heap.size, 0, none⟩), .pointer (some ⟨bi, 0, none⟩)] w1 (Fins (MS M (.pointer p)) F w1 (useE left x) (useL left x))) := hfn
          have HX : Hid (wr.cell? ⟨ba, off + i, none⟩ = some (.int .i64 x) ∧ ¬ F ba) := ⟨c4, n4⟩
          clear hfn c4 n4
          by_cases hx : x < 0
          · skip
            obtain ⟨hue, hul⟩ := use_neg hx (l := left)
            have HUE : Hid (useE left x = _) := hue
            have HUL : Hid (useL left x = _) := hul
            clear hue hul
            go_wp2_with (go_at_call 22; fail)
            refine (C.catches (ms_st D (.pointer p)) F wr left _ _ _ _ (fnv_mt1 _) HM.out HFn.out).mono ?_
            rintro e w2 ⟨G, hl, he⟩
            rw [HUE.out] at he
            change e = _ at he
            subst he
            have HM2 : Hid (M G w2 (.pointer p) (useL left x)) := hl.1
            have HK2 : Hid (Kp F wr w2) := hl.2.2
            have HG2 : Hid (∀ b, G b → F b ∨ wr.heap.size ≤ b) := hl.2.1
            clear hl
            replace c1 := HK2.out.cell c1 HN.out.1
            replace c2 := HK2.out.cell c2 HN.out.2.1
            replace c3 := HK2.out.cell c3 HN.out.2.2.1
            have c4 := HK2.out.cell HX.out.1 HX.out.2
            rw [HUL.out] at HM2
            have j3 := HL.out.1
            have j4 := HL.out.2
            go_wp2_with (go_at_call 16; fail)
            refine (D.left G w2 _ _ HM2.out).mono ?_
            rintro e w3 ⟨rfl, b3⟩
            have HM3 : Hid (M G w3 (.pointer p) _) := (ms_st D _).below HM2.out b3
            have HK3 : Hid (Kp F wr w3) := HK2.out.trans (Kp.of_below (F := F) b3) fun _ _ h => h
            have HB3 : Hid (Below w.heap.size w w3) := HB.out.trans (HK3.out.below HB.out.size fun b hb k => by have := HN.out.2.2.2 b k; omega)
            have HS3 : Hid (w2.heap.size ≤ w3.heap.size) := b3.size
            rw [← b3.cell (World.block_lt_of_cell? w2 _ c1)] at c1
            rw [← b3.cell (World.block_lt_of_cell? w2 _ c2)] at c2
            rw [← b3.cell (World.block_lt_of_cell? w2 _ c3)] at c3
            rw [← b3.cell (World.block_lt_of_cell? w2 _ c4)] at c4
            clear b3
            go_wp2
            have k2 := HK3.out.heap HC.out.2.1 HN.out.2.1
            have k3 := HK3.out.heap HC.out.2.2 HN.out.2.2.1
            have l2 := lt_of_heap HC.out.2.1
            have l3 := lt_of_heap HC.out.2.2
            have hG := HG2.out
            refine ⟨⟨i + 1, w3.heap.size, _, G, by omega, rfl, rfl, ⟨by omega, by omega⟩, HB3.out.alloc HB3.out.size _, (ms_st D _).below HM3.out (below1 w3 _), ⟨(heap_new1 w3 _).trans (by simp), ((below1 w3 _).block _ (lt_of_heap k2)).trans k2, ((below1 w3 _).block _ (lt_of_heap k3)).trans k3⟩, ⟨fun k => by have := D.lt HM3.out _ k; omega, fun k => ?_, fun k => ?_, fun b k => ?_⟩⟩, ?_⟩
            · rcases hG _ k with q | q
              · exact HN.out.2.1 q
              · omega
            · rcases hG _ k with q | q
              · exact HN.out.2.2.1 q
              · omega
            · rcases hG _ k with q | q
              · exact HN.out.2.2.2 b q
              · omega
            have m1 : (w3.alloc (.cells #[.int .i64 ((i : Int) + 1)] 3)).cell? ⟨w3.heap.size, 0, none⟩ = some (.int .i64 ((i : Int) + 1)) := by rw [cell_of_row _ _ _ _ _ _ (heap_new1 w3 _)]; rfl
            have m0 : wr.cell? ⟨bi, 0, none⟩ = some (.int .i64 i) := by rw [cell_of_row _ _ _ _ _ _ HC.out.1]; rfl
            simp only [boxInt, m1, m0, Option.getD_some, intOf]
            omega
          · by_cases hy : left < x
            · skip
              obtain ⟨hue, hul⟩ := use_big hx hy (l := left)
              have HUE : Hid (useE left x = _) := hue
              have HUL : Hid (useL left x = _) := hul
              clear hue hul
              go_wp2_with (go_at_call 22; fail)
              refine (C.catches (ms_st D (.pointer p)) F wr left _ _ _ _ (fnv_mt1 _) HM.out HFn.out).mono ?_
              rintro e w2 ⟨G, hl, he⟩
              rw [HUE.out] at he
              change e = _ at he
              subst he
              have HM2 : Hid (M G w2 (.pointer p) (useL left x)) := hl.1
              have HK2 : Hid (Kp F wr w2) := hl.2.2
              have HG2 : Hid (∀ b, G b → F b ∨ wr.heap.size ≤ b) := hl.2.1
              clear hl
              replace c1 := HK2.out.cell c1 HN.out.1
              replace c2 := HK2.out.cell c2 HN.out.2.1
              replace c3 := HK2.out.cell c3 HN.out.2.2.1
              have c4 := HK2.out.cell HX.out.1 HX.out.2
              rw [HUL.out] at HM2
              have j3 := HL.out.1
              have j4 := HL.out.2
              go_wp2_with (go_at_call 16; fail)
              refine (D.left G w2 _ _ HM2.out).mono ?_
              rintro e w3 ⟨rfl, b3⟩
              have HM3 : Hid (M G w3 (.pointer p) _) := (ms_st D _).below HM2.out b3
              have HK3 : Hid (Kp F wr w3) := HK2.out.trans (Kp.of_below (F := F) b3) fun _ _ h => h
              have HB3 : Hid (Below w.heap.size w w3) := HB.out.trans (HK3.out.below HB.out.size fun b hb k => by have := HN.out.2.2.2 b k; omega)
              have HS3 : Hid (w2.heap.size ≤ w3.heap.size) := b3.size
              rw [← b3.cell (World.block_lt_of_cell? w2 _ c1)] at c1
              rw [← b3.cell (World.block_lt_of_cell? w2 _ c2)] at c2
              rw [← b3.cell (World.block_lt_of_cell? w2 _ c3)] at c3
              rw [← b3.cell (World.block_lt_of_cell? w2 _ c4)] at c4
              clear b3
              go_wp2
              have k2 := HK3.out.heap HC.out.2.1 HN.out.2.1
              have k3 := HK3.out.heap HC.out.2.2 HN.out.2.2.1
              have l2 := lt_of_heap HC.out.2.1
              have l3 := lt_of_heap HC.out.2.2
              have hG := HG2.out
              refine ⟨⟨i + 1, w3.heap.size, _, G, by omega, rfl, rfl, ⟨by omega, by omega⟩, HB3.out.alloc HB3.out.size _, (ms_st D _).below HM3.out (below1 w3 _), ⟨(heap_new1 w3 _).trans (by simp), ((below1 w3 _).block _ (lt_of_heap k2)).trans k2, ((below1 w3 _).block _ (lt_of_heap k3)).trans k3⟩, ⟨fun k => by have := D.lt HM3.out _ k; omega, fun k => ?_, fun k => ?_, fun b k => ?_⟩⟩, ?_⟩
              · rcases hG _ k with q | q
                · exact HN.out.2.1 q
                · omega
              · rcases hG _ k with q | q
                · exact HN.out.2.2.1 q
                · omega
              · rcases hG _ k with q | q
                · exact HN.out.2.2.2 b q
                · omega
              have m1 : (w3.alloc (.cells #[.int .i64 ((i : Int) + 1)] 3)).cell? ⟨w3.heap.size, 0, none⟩ = some (.int .i64 ((i : Int) + 1)) := by rw [cell_of_row _ _ _ _ _ _ (heap_new1 w3 _)]; rfl
              have m0 : wr.cell? ⟨bi, 0, none⟩ = some (.int .i64 i) := by rw [cell_of_row _ _ _ _ _ _ HC.out.1]; rfl
              simp only [boxInt, m1, m0, Option.getD_some, intOf]
              omega
            · skip
              obtain ⟨hue, hul⟩ := use_ok hx hy (l := left)
              have HUE : Hid (useE left x = _) := hue
              have HUL : Hid (useL left x = _) := hul
              clear hue hul
              go_wp2_with (go_at_call 22; fail)
              refine (C.catches (ms_st D (.pointer p)) F wr left _ _ _ _ (fnv_mt1 _) HM.out HFn.out).mono ?_
              rintro e w2 ⟨G, hl, he⟩
              rw [HUE.out] at he
              change e = _ at he
              subst he
              have HM2 : Hid (M G w2 (.pointer p) (useL left x)) := hl.1
              have HK2 : Hid (Kp F wr w2) := hl.2.2
              have HG2 : Hid (∀ b, G b → F b ∨ wr.heap.size ≤ b) := hl.2.1
              clear hl
              replace c1 := HK2.out.cell c1 HN.out.1
              replace c2 := HK2.out.cell c2 HN.out.2.1
              replace c3 := HK2.out.cell c3 HN.out.2.2.1
              have c4 := HK2.out.cell HX.out.1 HX.out.2
              rw [HUL.out] at HM2
              have j3 := HL.out.1
              have j4 := HL.out.2
              go_wp2_with (go_at_call 16; fail)
              refine (D.left G w2 _ _ HM2.out).mono ?_
              rintro e w3 ⟨rfl, b3⟩
              have HM3 : Hid (M G w3 (.pointer p) _) := (ms_st D _).below HM2.out b3
              have HK3 : Hid (Kp F wr w3) := HK2.out.trans (Kp.of_below (F := F) b3) fun _ _ h => h
              have HB3 : Hid (Below w.heap.size w w3) := HB.out.trans (HK3.out.below HB.out.size fun b hb k => by have := HN.out.2.2.2 b k; omega)
              have HS3 : Hid (w2.heap.size ≤ w3.heap.size) := b3.size
              rw [← b3.cell (World.block_lt_of_cell? w2 _ c1)] at c1
              rw [← b3.cell (World.block_lt_of_cell? w2 _ c2)] at c2
              rw [← b3.cell (World.block_lt_of_cell? w2 _ c3)] at c3
              rw [← b3.cell (World.block_lt_of_cell? w2 _ c4)] at c4
              clear b3
              go_wp2
              have k2 := HK3.out.heap HC.out.2.1 HN.out.2.1
              have k3 := HK3.out.heap HC.out.2.2 HN.out.2.2.1
              have l2 := lt_of_heap HC.out.2.1
              have l3 := lt_of_heap HC.out.2.2
              have hG := HG2.out
              refine ⟨⟨i + 1, w3.heap.size, _, G, by omega, rfl, rfl, ⟨by omega, by omega⟩, HB3.out.alloc HB3.out.size _, (ms_st D _).below HM3.out (below1 w3 _), ⟨(heap_new1 w3 _).trans (by simp), ((below1 w3 _).block _ (lt_of_heap k2)).trans k2, ((below1 w3 _).block _ (lt_of_heap k3)).trans k3⟩, ⟨fun k => by have := D.lt HM3.out _ k; omega, fun k => ?_, fun k => ?_, fun b k => ?_⟩⟩, ?_⟩
              · rcases hG _ k with q | q
                · exact HN.out.2.1 q
                · omega
              · rcases hG _ k with q | q
                · exact HN.out.2.2.1 q
                · omega
              · rcases hG _ k with q | q
                · exact HN.out.2.2.2 b q
                · omega
              have m1 : (w3.alloc (.cells #[.int .i64 ((i : Int) + 1)] 3)).cell? ⟨w3.heap.size, 0, none⟩ = some (.int .i64 ((i : Int) + 1)) := by rw [cell_of_row _ _ _ _ _ _ (heap_new1 w3 _)]; rfl
              have m0 : wr.cell? ⟨bi, 0, none⟩ = some (.int .i64 i) := by rw [cell_of_row _ _ _ _ _ _ HC.out.1]; rfl
              simp only [boxInt, m1, m0, Option.getD_some, intOf]
              omega
        · skip
          obtain ⟨bn, hbn⟩ : ∃ bn, bn = wr.heap.size := ⟨_, rfl⟩
          have HBx : Hid (Below w.heap.size w (wr.alloc (.cells #[.pointer none] 28))) := by show Below _ _ _; exact below_step HB.out (below1 wr _)
          have hcn : (wr.alloc (.cells #[.pointer none] 28)).heap[wr.heap.size]? = some (.cells #[.pointer none] 28) := heap_new1 wr _
          clear hbn
          go_wp2_with (go_at_call 22; fail)
          refine (C.catches nos_st (fun _ => False) _ () () _ _ (.bail 10 1) (fnv_mt2 _) (nos _) fun w2 hb2 _ => mt2_plays D w2 _ (by rw [hb2.cell (lt_of_heap hcn), cell_of_row _ _ _ _ _ _ hcn]; rfl)).mono ?_
          rintro e w2 ⟨G, hl, he⟩
          have HB2 : Hid (Below w.heap.size w w2) := below_step HBx.out hl.nos_below
          have hc2 : w2.cell? ⟨wr.heap.size, 0, none⟩ = some (.pointer none) := by rw [hl.nos_below.cell (lt_of_heap hcn), cell_of_row _ _ _ _ _ _ hcn]; rfl
          change e = _ at he
          subst he
          clear hl hcn
          go_wp2_with (first | (go_at_call 16; fail) | (go_at_call 9; fail))
          refine (D.left (fun _ => False) w2 _ 0 (D.none w2)).mono ?_
          rintro e w3 ⟨rfl, b3⟩
          have HB3 : Hid (Below w.heap.size w w3) := below_step HB2.out b3
          clear b3
          go_wp2_with (go_at_call 9; fail)
          refine (awake_of C D w3).mono ?_
          rintro e w4 ⟨rfl, b4⟩
          have HB4 : Hid (Below w.heap.size w w4) := below_step HB3.out b4
          clear b4
          go_wp2
          go_ret
          exact ⟨rfl, HB4.out⟩
end Go.Proofs.Ytgighebohbpkiaa
