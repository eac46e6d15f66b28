/- BailThrough, out of what bail answers. -/
import Derived.Test.YtgighebohbpkiaaBth
namespace Go.Proofs.Ytgighebohbpkiaa
open Go.RowKit Fo
set_option maxRecDepth 100000
set_option linter.unusedSimpArgs false

set_option maxHeartbeats 16000000 in
theorem through_any {M : (Nat → Prop) → World → Value → Int → Prop} (C : BailSays) (D : MeterSays M) (w : World) (code at' n other : Int) :
    Calls Try.prog 4 #[.int .i64 code, .int .i64 at', .int .i64 n, .int .i64 other] w fun e w' => e = .returned (.bool true) ∧ Below w.heap.size w w' := by
  have hmf : ∀ (fn : Fn) (first cap : Array Value) (w : World), (Instr.makeFunc fn first cap).run Try.prog w = .ok (.func fn first cap) w := fun _ _ _ _ => rfl
  by_cases hc0 : code < 1
  · skip
    go_enter Try.func4, Try.ntmps4
    go_wp2_with (go_at_call 9; fail)
    refine (awake_of C D _).mono ?_
    rintro e w1 ⟨rfl, b1⟩
    have HB : Hid (Below w.heap.size w w1) := below_step (fold_below [.cells #[.int .i64 code] 3, .cells #[.int .i64 at'] 3, .cells #[.int .i64 other] 3] w w (below_refl w)) b1
    clear b1
    go_wp2
    go_ret
    exact ⟨rfl, HB.out⟩
  by_cases hc1 : 16 < code
  · skip
    go_enter Try.func4, Try.ntmps4
    go_wp2_with (go_at_call 9; fail)
    refine (awake_of C D _).mono ?_
    rintro e w1 ⟨rfl, b1⟩
    have HB : Hid (Below w.heap.size w w1) := below_step (fold_below [.cells #[.int .i64 code] 3, .cells #[.int .i64 at'] 3, .cells #[.int .i64 other] 3] w w (below_refl w)) b1
    clear b1
    go_wp2
    go_ret
    exact ⟨rfl, HB.out⟩
  by_cases hc2 : n < 0
  · skip
    go_enter Try.func4, Try.ntmps4
    go_wp2_with (go_at_call 9; fail)
    refine (awake_of C D _).mono ?_
    rintro e w1 ⟨rfl, b1⟩
    have HB : Hid (Below w.heap.size w w1) := below_step (fold_below [.cells #[.int .i64 code] 3, .cells #[.int .i64 at'] 3, .cells #[.int .i64 other] 3] w w (below_refl w)) b1
    clear b1
    go_wp2
    go_ret
    exact ⟨rfl, HB.out⟩
  by_cases hc3 : 40 < n
  · skip
    go_enter Try.func4, Try.ntmps4
    go_wp2_with (go_at_call 9; fail)
    refine (awake_of C D _).mono ?_
    rintro e w1 ⟨rfl, b1⟩
    have HB : Hid (Below w.heap.size w w1) := below_step (fold_below [.cells #[.int .i64 code] 3, .cells #[.int .i64 at'] 3, .cells #[.int .i64 other] 3] w w (below_refl w)) b1
    clear b1
    go_wp2
    go_ret
    exact ⟨rfl, HB.out⟩
  by_cases hc4 : other = code
  · skip
    subst hc4
    go_enter Try.func4, Try.ntmps4
    go_wp2_with (go_at_call 9; fail)
    refine (awake_of C D _).mono ?_
    rintro e w1 ⟨rfl, b1⟩
    have HB : Hid (Below w.heap.size w w1) := below_step (fold_below [.cells #[.int .i64 other] 3, .cells #[.int .i64 at'] 3, .cells #[.int .i64 other] 3] w w (below_refl w)) b1
    clear b1
    go_wp2
    go_ret
    exact ⟨rfl, HB.out⟩
  obtain ⟨d, rfl⟩ : ∃ d : Nat, n = d := ⟨n.toNat, by omega⟩
  have hne : other ≠ code := hc4
  have HNE : Hid (other ≠ code) := hne
  have hd : (d : Int) ≤ 40 := by omega
  have HD : Hid (d ≤ 40) := by show d ≤ 40; omega
  clear hne
  go_enter Try.func4, Try.ntmps4
  go_wp2
  obtain ⟨W5, hW5⟩ : ∃ W5, W5 = (World.alloc (World.alloc (World.alloc (World.alloc (World.alloc (World.alloc w (.cells #[.int .i64 code] 3)) (.cells #[.int .i64 at'] 3)) (.cells #[.int .i64 other] 3)) (.cells #[.slice none 0 0] 30)) (.cells #[.func (.func 17) #[] #[.pointer (some ⟨w.heap.size, 0, none⟩), .pointer (some ⟨w.heap.size + 1, 0, none⟩)]] 1)) (.cells #[.int .i64 0] 3)) := ⟨_, rfl⟩
  have hW6 : W5 = List.foldl World.alloc w [.cells #[.int .i64 code] 3, .cells #[.int .i64 at'] 3, .cells #[.int .i64 other] 3, .cells #[.slice none 0 0] 30, .cells #[.func (.func 17) #[] #[.pointer (some ⟨w.heap.size, 0, none⟩), .pointer (some ⟨w.heap.size + 1, 0, none⟩)]] 1, .cells #[.int .i64 0] 3] := hW5
  have HB5 : Hid (Below w.heap.size w W5) := by rw [hW6]; exact fold_below _ w w (below_refl w)
  have HS5 : Hid (W5.heap.size = w.heap.size + 1 + 1 + 1 + 1 + 1 + 1) := by show _ = _; rw [hW6, fold_size]; rfl
  have HC5 : Hid (W5.heap[w.heap.size]? = some (.cells #[.int .i64 code] 3) ∧ W5.heap[w.heap.size + 1]? = some (.cells #[.int .i64 at'] 3) ∧ W5.heap[w.heap.size + 1 + 1]? = some (.cells #[.int .i64 other] 3) ∧ W5.heap[w.heap.size + 1 + 1 + 1]? = some (.cells #[.slice none 0 0] 30) ∧ W5.heap[w.heap.size + 1 + 1 + 1 + 1]? = some (.cells #[.func (.func 17) #[] #[.pointer (some ⟨w.heap.size, 0, none⟩), .pointer (some ⟨w.heap.size + 1, 0, none⟩)]] 1)) := by
    rw [hW6]
    exact ⟨fold_heap _ w 0 _ rfl, fold_heap _ w 1 _ rfl, fold_heap _ w 2 _ rfl, fold_heap _ w 3 _ rfl, fold_heap _ w 4 _ rfl⟩
  have HI5 : Hid (W5.heap[w.heap.size + 1 + 1 + 1 + 1 + 1]? = some (.cells #[.int .i64 (0 : Nat)] 3)) := by
    show W5.heap[_]? = _
    rw [hW6]
    exact fold_heap _ w 5 _ rfl
  rw [← hW5]
  clear hW5 hW6
  go_loopw [11] (fun v11 wr => ∃ (i bi : Nat) (fv : Value), i ≤ d ∧ v11 = .pointer (some ⟨bi, 0, none⟩) ∧ Hid (Below w.heap.size w wr) ∧ Hid (wr.heap[w.heap.size]? = some (.cells #[.int .i64 code] 3) ∧ wr.heap[w.heap.size + 1]? = some (.cells #[.int .i64 at'] 3) ∧ wr.heap[w.heap.size + 1 + 1]? = some (.cells #[.int .i64 other] 3) ∧ wr.heap[w.heap.size + 1 + 1 + 1]? = some (.cells #[.slice none 0 0] 30) ∧ wr.heap[w.heap.size + 1 + 1 + 1 + 1]? = some (.cells #[fv] 1)) ∧ Hid (wr.heap[bi]? = some (.cells #[.int .i64 i] 3) ∧ w.heap.size + 1 + 1 + 1 + 1 < bi) ∧ Hid (Thc (fun b => b = w.heap.size + 1 + 1 + 1 ∨ b = w.heap.size + 1 + 1 + 1 + 1) wr (w.heap.size + 1 + 1 + 1) code at' i fv)) (fun v wr => d - (boxInt wr v).toNat)
  case atStart =>
    refine ⟨0, w.heap.size + 1 + 1 + 1 + 1 + 1, _, Nat.zero_le _, rfl, HB5.out, HC5.out, ⟨HI5.out, Nat.lt_succ_self _⟩, _, _, rfl, by rw [cell_of_row _ _ _ _ _ _ HC5.out.1]; rfl, by rw [cell_of_row _ _ _ _ _ _ HC5.out.2.1]; rfl, ?_, ?_⟩
    · omega
    · omega
  case round =>
    obtain ⟨i, bi, fv, hi, rfl, HB, HC, HI, HT⟩ := hrel
    rename World => wr
    obtain ⟨f, cap, rfl, -⟩ := thc_plays C w.heap.size (w.heap.size + 1 + 1 + 1) code at' i _ wr _ [] HT.out (by simp; omega) HB.out.size
    have ci : wr.cell? ⟨bi, 0, none⟩ = some (.int .i64 i) := by rw [cell_of_row _ _ _ _ _ _ HI.out.1]; rfl
    have cf : wr.cell? ⟨w.heap.size + 1 + 1 + 1 + 1, 0, none⟩ = some (.func (.func f) #[] cap) := by rw [cell_of_row _ _ _ _ _ _ HC.out.2.2.2.2]; rfl
    clear HB5 HC5 HI5 HS5
    by_cases hlt : i < d
    · have j1 : (0 : Int) ≤ (i : Int) := by omega
      have j2 : (i : Int) < (d : Int) := by omega
      have hbi := HI.out.2
      have hsz := lt_of_heap HI.out.1
      obtain ⟨W1, hW1⟩ : ∃ W1, W1 = wr.alloc (.cells #[.func (.func f) #[] cap] 1) := ⟨_, rfl⟩
      have b1 : Below wr.heap.size wr W1 := by rw [hW1]; exact below1 wr _
      have k1 : W1.heap[w.heap.size + 1 + 1 + 1 + 1]? = some (.cells #[.func (.func f) #[] cap] 1) := (b1.block _ (by omega)).trans HC.out.2.2.2.2
      have c1 : W1.cell? ⟨w.heap.size + 1 + 1 + 1 + 1, 0, none⟩ = some (.func (.func f) #[] cap) := by rw [cell_of_row _ _ _ _ _ _ k1]; rfl
      have z1 : W1.frozen? ⟨w.heap.size + 1 + 1 + 1 + 1, 0, none⟩ = false := by simp [World.frozen?, k1]
      have kb1 : W1.heap[bi]? = some (.cells #[.int .i64 i] 3) := (b1.block _ hsz).trans HI.out.1
      have e1 : W1.heap.size = wr.heap.size + 1 := by rw [hW1]; simp
      have g1 : W1.heap[wr.heap.size]? = some (.cells #[.func (.func f) #[] cap] 1) := by rw [hW1]; exact heap_new1 wr _
      have c2 : (W1.setCell ⟨w.heap.size + 1 + 1 + 1 + 1, 0, none⟩ (.func (.func 19) #[] #[.pointer (some ⟨wr.heap.size, 0, none⟩), .pointer (some ⟨w.heap.size + 1 + 1 + 1, 0, none⟩), .pointer (some ⟨bi, 0, none⟩)])).cell? ⟨bi, 0, none⟩ = some (.int .i64 i) := by
        have h1 : (W1.setCell ⟨w.heap.size + 1 + 1 + 1 + 1, 0, none⟩ (.func (.func 19) #[] #[.pointer (some ⟨wr.heap.size, 0, none⟩), .pointer (some ⟨w.heap.size + 1 + 1 + 1, 0, none⟩), .pointer (some ⟨bi, 0, none⟩)])).heap[bi]? = some (.cells #[.int .i64 i] 3) := (Below.heap_setCell W1 _ _ _ (by show bi ≠ w.heap.size + 1 + 1 + 1 + 1; omega)).trans kb1
        rw [cell_of_row _ _ _ _ _ _ h1]; rfl
      have HW1 : Hid (W1 = wr.alloc (.cells #[.func (.func f) #[] cap] 1)) := hW1
      rw [hW1] at c1 z1 c2
      clear hW1
      go_wp2
      rw [← HW1.out]
      have hkp : Kp (fun b => b = w.heap.size + 1 + 1 + 1 + 1) wr (W1.setCell ⟨w.heap.size + 1 + 1 + 1 + 1, 0, none⟩ (.func (.func 19) #[] #[.pointer (some ⟨wr.heap.size, 0, none⟩), .pointer (some ⟨w.heap.size + 1 + 1 + 1, 0, none⟩), .pointer (some ⟨bi, 0, none⟩)])) := (Kp.of_below (F := fun b => b = w.heap.size + 1 + 1 + 1 + 1) b1).set (p := ⟨w.heap.size + 1 + 1 + 1 + 1, 0, none⟩) (Or.inl rfl) _
      have k2 : (W1.setCell ⟨w.heap.size + 1 + 1 + 1 + 1, 0, none⟩ (.func (.func 19) #[] #[.pointer (some ⟨wr.heap.size, 0, none⟩), .pointer (some ⟨w.heap.size + 1 + 1 + 1, 0, none⟩), .pointer (some ⟨bi, 0, none⟩)])).heap[w.heap.size + 1 + 1 + 1 + 1]? = some (.cells #[(.func (.func 19) #[] #[.pointer (some ⟨wr.heap.size, 0, none⟩), .pointer (some ⟨w.heap.size + 1 + 1 + 1, 0, none⟩), .pointer (some ⟨bi, 0, none⟩)])] 1) := by simp [World.setCell, Array.getElem?_modify, k1]
      have g2 : (W1.setCell ⟨w.heap.size + 1 + 1 + 1 + 1, 0, none⟩ (.func (.func 19) #[] #[.pointer (some ⟨wr.heap.size, 0, none⟩), .pointer (some ⟨w.heap.size + 1 + 1 + 1, 0, none⟩), .pointer (some ⟨bi, 0, none⟩)])).heap[wr.heap.size]? = some (.cells #[.func (.func f) #[] cap] 1) := (Below.heap_setCell W1 _ _ _ (by show wr.heap.size ≠ w.heap.size + 1 + 1 + 1 + 1; omega)).trans g1
      have e2 : (W1.setCell ⟨w.heap.size + 1 + 1 + 1 + 1, 0, none⟩ (.func (.func 19) #[] #[.pointer (some ⟨wr.heap.size, 0, none⟩), .pointer (some ⟨w.heap.size + 1 + 1 + 1, 0, none⟩), .pointer (some ⟨bi, 0, none⟩)])).heap.size = wr.heap.size + 1 := by simpa [World.setCell] using e1
      have kb2 := hkp.heap HI.out.1 (by show ¬ bi = w.heap.size + 1 + 1 + 1 + 1; omega)
      clear c1 z1 c2
      generalize W1.setCell ⟨w.heap.size + 1 + 1 + 1 + 1, 0, none⟩ (.func (.func 19) #[] #[.pointer (some ⟨wr.heap.size, 0, none⟩), .pointer (some ⟨w.heap.size + 1 + 1 + 1, 0, none⟩), .pointer (some ⟨bi, 0, none⟩)]) = W2 at hkp k2 g2 e2 kb2 ⊢
      have hk3 := hkp.alloc (.cells #[.int .i64 ((i : Int) + 1)] 3)
      have hb3 : Below W2.heap.size W2 (W2.alloc (.cells #[.int .i64 ((i : Int) + 1)] 3)) := below1 W2 _
      have n1 := heap_new1 W2 (.cells #[.int .i64 ((i : Int) + 1)] 3)
      rw [e2] at n1
      generalize W2.alloc (.cells #[.int .i64 ((i : Int) + 1)] 3) = W3 at hk3 hb3 n1 ⊢
      have g3 := (hb3.block _ (lt_of_heap g2)).trans g2
      have kb3 := (hb3.block _ (lt_of_heap kb2)).trans kb2
      have k3 := (hb3.block _ (lt_of_heap k2)).trans k2
      refine ⟨⟨i + 1, wr.heap.size + 1, _, by omega, rfl, HB.out.trans (hk3.below HB.out.size fun b hb e => by omega), ⟨hk3.heap HC.out.1 (by omega), hk3.heap HC.out.2.1 (by omega), hk3.heap HC.out.2.2.1 (by omega), hk3.heap HC.out.2.2.2.1 (by omega), k3⟩, ⟨by simpa using n1, by omega⟩, _, _, _, rfl, by rw [cell_of_row _ _ _ _ _ _ g3]; rfl, by rw [cell_of_row _ _ _ _ _ _ kb3]; rfl, by omega, by omega, HT.out.step (hk3.mono fun b _ e => Or.inr e) fun _ h => Or.inl h⟩, ?_⟩
      have m1 : W3.cell? ⟨wr.heap.size + 1, 0, none⟩ = some (.int .i64 ((i : Int) + 1)) := by rw [cell_of_row _ _ _ _ _ _ n1]; rfl
      simp only [boxInt, m1, ci, Option.getD_some, intOf]
      omega
    · have hn : i = d := by omega
      subst hn
      have c0 : wr.cell? ⟨w.heap.size, 0, none⟩ = some (.int .i64 code) := by rw [cell_of_row _ _ _ _ _ _ HC.out.1]; rfl
      have c1 : wr.cell? ⟨w.heap.size + 1, 0, none⟩ = some (.int .i64 at') := by rw [cell_of_row _ _ _ _ _ _ HC.out.2.1]; rfl
      have c2 : wr.cell? ⟨w.heap.size + 1 + 1, 0, none⟩ = some (.int .i64 other) := by rw [cell_of_row _ _ _ _ _ _ HC.out.2.2.1]; rfl
      have hos : OS w.heap.size (w.heap.size + 1 + 1 + 1) (fun b => b = w.heap.size + 1 + 1 + 1) wr [] := ⟨⟨.slice none 0 0, HC.out.2.2.2.1, Ow.nil _ _ _ _, fun g h => (by cases h)⟩, rfl, fun b hb => by rw [hb]; exact lt_of_heap HC.out.2.2.2.1, fun b hb => by omega⟩
      have ht : Thc (fun b => b = w.heap.size + 1 + 1 + 1) wr (w.heap.size + 1 + 1 + 1) code at' i (.func (.func f) #[] cap) := HT.out.step (Kp.refl _ wr) fun b hb => Or.inl (Or.inl hb)
      have HOS : Hid (OS w.heap.size (w.heap.size + 1 + 1 + 1) (fun b => b = w.heap.size + 1 + 1 + 1) wr []) := hos
      have HT1 : Hid (Thc (fun b => b = w.heap.size + 1 + 1 + 1) wr (w.heap.size + 1 + 1 + 1) code at' i (.func (.func f) #[] cap)) := ht
      obtain ⟨f', cap', e, hf, hp⟩ := thc_plays C w.heap.size (w.heap.size + 1 + 1 + 1) code at' i _ wr _ [] ht (by simp; omega) HB.out.size
      obtain ⟨rfl, rfl⟩ : f = f' ∧ cap = cap' := by simpa using e
      have HP : Hid (∀ w1, Below wr.heap.size wr w1 → OS w.heap.size (w.heap.size + 1 + 1 + 1) (fun b => b = w.heap.size + 1 + 1 + 1) w1 [] → Plays Try.prog f cap w1 (Fins (OS w.heap.size (w.heap.size + 1 + 1 + 1)) (fun b => b = w.heap.size + 1 + 1 + 1) w1 (.bail code at') (iota i))) := hp
      have HF : Hid (Fnv Try.prog f cap) := hf
      clear e hp hf hos ht
      go_wp2_with (go_at_call 22; fail)
      refine (C.catches (os_st w.heap.size (w.heap.size + 1 + 1 + 1)) (fun b => b = w.heap.size + 1 + 1 + 1) wr [] (iota i) _ _ (.bail code at') (fnv_th3 _) HOS.out fun w1 hb hs => th3_plays C w.heap.size (w.heap.size + 1 + 1 + 1) _ w1 _ _ other code at' f cap [] (iota i) HNE.out hs (by rw [hb.cell (World.block_lt_of_cell? wr _ c2)]; exact c2) (by rw [hb.cell (World.block_lt_of_cell? wr _ cf)]; exact cf) HF.out fun w2 hb2 hs2 => HP.out w2 (hb.trans (hb2.mono hb.size)) hs2).mono ?_
      rintro e w2 ⟨G, hl, he⟩
      change e = _ at he
      subst he
      have HL : Hid (Lft (OS w.heap.size (w.heap.size + 1 + 1 + 1)) (fun b => b = w.heap.size + 1 + 1 + 1) wr (iota i) G w2) := hl
      have HB2 : Hid (Below w.heap.size w w2) := HB.out.trans (hl.2.2.below HB.out.size fun b hb e => by omega)
      have d0 := hl.2.2.cell c0 (by show ¬ w.heap.size = w.heap.size + 1 + 1 + 1; omega)
      have d1 := hl.2.2.cell c1 (by show ¬ w.heap.size + 1 = w.heap.size + 1 + 1 + 1; omega)
      have df := hl.2.2.cell cf (by show ¬ w.heap.size + 1 + 1 + 1 + 1 = w.heap.size + 1 + 1 + 1; omega)
      obtain ⟨v2, hv2, ho2, -⟩ := hl.1.box
      obtain ⟨a2, cc2, rfl, hr2⟩ := ho2.rd
      have hr2' := hr2
      rw [iota_len] at hr2
      have d3 : w2.cell? ⟨w.heap.size + 1 + 1 + 1, 0, none⟩ = some (.slice a2 i cc2) := by rw [cell_of_row _ _ _ _ _ _ hv2, iota_len]; rfl
      have HR2 : Hid (Rd w2 a2 i cc2 (ivs (gt (iota i)))) := hr2
      have hq1 := hr2.1
      have hq2 := hr2.2.1
      clear hl hv2 ho2 hr2 hr2' c0 c1 c2 cf HP HOS
      go_wp2
      go_loopw [15] (fun v15 wq => ∃ k : Nat, k ≤ i ∧ v15 = .int .i64 k ∧ wq = w2) (fun v _ => i - (intOf v).toNat)
      case atStart => exact ⟨0, Nat.zero_le _, rfl, rfl⟩
      case round =>
        obtain ⟨k, hk, rfl, rfl⟩ := hrel
        by_cases hlt2 : k < i
        · obtain ⟨ba, off, rfl, hca⟩ := HR2.out.at (by omega)
          have c4 := hca k hlt2
          rw [show ivs (gt (iota i)) k = .int .i64 k from by unfold ivs iota; rw [gt_lst _ _ _ hlt2]] at c4
          have j1 : (0 : Int) ≤ (k : Int) := by omega
          have j2 : (k : Int) < (i : Int) := by omega
          clear hca
          go_wp2
          exact ⟨⟨k + 1, by omega, by simp, trivial⟩, by simp [intOf]; omega⟩
        · have hn : k = i := by omega
          subst hn
          obtain ⟨f', cap', e, hf, hp⟩ := thc_plays C w.heap.size (w.heap.size + 1 + 1 + 1) code at' k _ _ _ (iota k) (HT1.out.step HL.out.2.2 HL.out.2.1) (by rw [iota_len]; omega) HB2.out.size
          obtain ⟨rfl, rfl⟩ : f = f' ∧ cap = cap' := by simpa using e
          have HP2 : Hid (∀ w1, _ → _ → Plays Try.prog f cap w1 _) := hp
          clear e hp hf
          go_wp2_with (go_at_call 24; fail)
          refine (C.only (os_st w.heap.size (w.heap.size + 1 + 1 + 1)) G _ (iota k) (iota k ++ iota k) code f cap (.bail code at') HF.out HL.out.1 HP2.out).mono ?_
          rintro e w3 ⟨G3, hl, he⟩
          rcases he with ⟨hr, -⟩ | ⟨a, hr, rfl⟩ | ⟨-, hr, -⟩
          · cases hr
          · have HB3 : Hid (Below w.heap.size w w3) := HB2.out.trans (hl.2.2.below HB2.out.size fun b hb e => by have := HL.out.1.lo b e; omega)
            obtain ⟨v3, hv3, ho3, -⟩ := hl.1.box
            obtain ⟨a3, cc3, rfl, -⟩ := ho3.rd
            have d5 : w3.cell? ⟨w.heap.size + 1 + 1 + 1, 0, none⟩ = some (.slice a3 (k + k) cc3) := by rw [cell_of_row _ _ _ _ _ _ hv3, List.length_append, iota_len]; rfl
            clear hl hv3 ho3 hr
            go_wp2_with (go_at_call 9; fail)
            refine (awake_of C D w3).mono ?_
            rintro e w4 ⟨rfl, b4⟩
            have HB4 : Hid (Below w.heap.size w w4) := below_step HB3.out b4
            clear b4
            go_wp2
            go_ret
            exact ⟨rfl, HB4.out⟩
          · exact absurd rfl (hr at')
end Go.Proofs.Ytgighebohbpkiaa
