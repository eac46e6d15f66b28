/- BailNested, out of what bail answers. -/
import Derived.Test.YtgighebohbpkiaaBaw
import Derived.Test.YtgighebohbpkiaaBli
import Derived.Deep.RegionHeld3
import Derived.Laws.EntriesVeiled
namespace Go.Proofs.Ytgighebohbpkiaa
open Go.RowKit Fo
set_option maxRecDepth 100000
set_option linter.unusedSimpArgs false

namespace Fo
/-- Is one of the first i numbers the code? -/
def metB (K : Nat → Int) (code : Int) : Nat → Bool
  | 0 => false
  | i + 1 => metB K code i || decide (K i = code)
/-- How the i-th function ends. -/
def nstE (K : Nat → Int) (code : Int) (i : Nat) : En := if metB K code i = true then .ret else .bail code 5
/-- A function that leaves with the code, behind i others that catch by their codes. -/
def Chn (w : World) (code : Int) (K : Nat → Int) : Nat → Value → Prop
  | 0, v => ∃ bc, v = .func (.func 28) #[] #[.pointer (some ⟨bc, 0, none⟩)] ∧ w.cell? ⟨bc, 0, none⟩ = some (.int .i64 code)
  | i + 1, v => ∃ bk bg g, v = .func (.func 29) #[] #[.pointer (some ⟨bk, 0, none⟩), .pointer (some ⟨bg, 0, none⟩)] ∧ w.cell? ⟨bk, 0, none⟩ = some (.int .i64 (K i)) ∧ w.cell? ⟨bg, 0, none⟩ = some g ∧ Chn w code K i g
theorem Chn.below {w w' : World} {code : Int} {K : Nat → Int} (hb : Below w.heap.size w w') : ∀ {i : Nat} {v : Value}, Chn w code K i v → Chn w' code K i v
  | 0, _, ⟨bc, e, h⟩ => ⟨bc, e, by rw [hb.cell (World.block_lt_of_cell? w _ h)]; exact h⟩
  | _ + 1, _, ⟨bk, bg, g, e, h1, h2, h3⟩ => ⟨bk, bg, g, e, by rw [hb.cell (World.block_lt_of_cell? w _ h1)]; exact h1, by rw [hb.cell (World.block_lt_of_cell? w _ h2)]; exact h2, Chn.below hb h3⟩
end Fo
theorem fnv_ne1 (cap : Array Value) : Fnv Try.prog 28 cap := enters_of Try.func28 (by kernel_rfl) rfl cap
theorem fnv_ne2 (cap : Array Value) : Fnv Try.prog 29 cap := enters_of Try.func29 (by kernel_rfl) rfl cap
set_option maxHeartbeats 4000000 in
theorem ne1_plays (C : BailSays) (w : World) (bc : Nat) (code : Int) (h1 : w.cell? ⟨bc, 0, none⟩ = some (.int .i64 code)) :
    Plays Try.prog 28 #[.pointer (some ⟨bc, 0, none⟩)] w (Fins NoS (fun _ => False) w (.bail code 5) ()) := by
  refine ⟨_, _, Try.func28, rfl, ?_⟩
  simp only [Try.ntmps28, List.size_toArray, List.length_cons, List.length_nil, Nat.reduceAdd, Nat.reduceSub, Array.replicate_succ, Array.replicate_zero, List.push_toArray, List.append_toArray, List.nil_append, List.cons_append]
  go_wp2_with (go_at_call 18; fail)
  refine (C.out w code 5).mono ?_
  rintro e w' ⟨hb, he⟩
  have HB : Hid (Below w.heap.size w w') := hb
  rcases id he with ⟨h, -⟩ | ⟨v, old, rfl, -⟩
  · cases h
  have HE : Hid (EnIn w.heap.size (fun _ => False) w' (.bail code 5) (.panicked ({ v := v, recovered := false } :: old))) := he
  clear hb he
  go_wp2
  exact ⟨rfl, _, nos_st.lft (nos w) HB.out, HE.out⟩
set_option maxHeartbeats 4000000 in
theorem ne2_plays (C : BailSays) (w : World) (bk bg : Nat) (k : Int) (f : FuncId) (cap : Array Value) (r s : En) (h1 : w.cell? ⟨bk, 0, none⟩ = some (.int .i64 k)) (h2 : w.cell? ⟨bg, 0, none⟩ = some (.func (.func f) #[] cap)) (hf : Fnv Try.prog f cap)
    (hp : ∀ w1, Below w.heap.size w w1 → Plays Try.prog f cap w1 (Fins NoS (fun _ => False) w1 r ())) (hs : (r = .ret → s = .ret) ∧ (∀ a, r = .bail k a → s = .ret) ∧ (r ≠ .ret → (∀ a, r ≠ .bail k a) → s = r)) :
    Plays Try.prog 29 #[.pointer (some ⟨bk, 0, none⟩), .pointer (some ⟨bg, 0, none⟩)] w (Fins NoS (fun _ => False) w s ()) := by
  refine ⟨_, _, Try.func29, rfl, ?_⟩
  simp only [Try.ntmps29, List.size_toArray, List.length_cons, List.length_nil, Nat.reduceAdd, Nat.reduceSub, Array.replicate_succ, Array.replicate_zero, List.push_toArray, List.append_toArray, List.nil_append, List.cons_append]
  have HS : Hid ((r = .ret → s = .ret) ∧ (∀ a, r = .bail k a → s = .ret) ∧ (r ≠ .ret → (∀ a, r ≠ .bail k a) → s = r)) := hs
  have HP : Hid (∀ w1, Below w.heap.size w w1 → Plays Try.prog f cap w1 (Fins NoS (fun _ => False) w1 r ())) := hp
  have HF : Hid (Fnv Try.prog f cap) := hf
  clear hs hp hf
  go_wp2_with (go_at_call 24; fail)
  refine (C.only nos_st (fun _ => False) w () () k f cap r HF.out (nos w) fun w1 hb _ => HP.out w1 hb).mono ?_
  rintro e w' ⟨G, hl, he⟩
  have HL : Hid (Lft NoS (fun _ => False) w () G w') := hl
  clear hl
  rcases he with ⟨hr, rfl⟩ | ⟨a, hr, rfl⟩ | ⟨h1, h2, he⟩
  · have HE : Hid (s = .ret) := HS.out.1 hr
    clear hr
    go_wp2
    go_end0
    exact ⟨G, HL.out, Or.inl ⟨HE.out, rfl⟩⟩
  · have HE : Hid (s = .ret) := HS.out.2.1 a hr
    clear hr
    go_wp2
    go_end0
    exact ⟨G, HL.out, Or.inl ⟨HE.out, rfl⟩⟩
  · have HE : Hid (s = r) := HS.out.2.2 h1 h2
    rcases id he with ⟨h, -⟩ | ⟨v, old, rfl, -⟩
    · exact absurd h h1
    have HEn : Hid (EnIn w.heap.size G w' r (.panicked ({ v := v, recovered := false } :: old))) := he
    clear h1 h2 he
    go_wp2
    exact ⟨rfl, G, HL.out, by rw [HE.out]; exact HEn.out⟩
theorem chn_plays (C : BailSays) (code : Int) (K : Nat → Int) : ∀ (i : Nat) (w : World) (v : Value), Chn w code K i v →
    ∃ f cap, v = .func (.func f) #[] cap ∧ Fnv Try.prog f cap ∧ ∀ w1, Below w.heap.size w w1 → Plays Try.prog f cap w1 (Fins NoS (fun _ => False) w1 (nstE K code i) ())
  | 0, w, v, ⟨bc, e, h⟩ => ⟨_, _, e, fnv_ne1 _, fun w1 hb => ne1_plays C w1 bc code (by rw [hb.cell (World.block_lt_of_cell? w _ h)]; exact h)⟩
  | i + 1, w, v, ⟨bk, bg, g, e, h1, h2, h3⟩ => by
    obtain ⟨f, cap, rfl, hf, hp⟩ := chn_plays C code K i w g h3
    refine ⟨_, _, e, fnv_ne2 _, fun w1 hb => ne2_plays C w1 bk bg (K i) f cap (nstE K code i) _ (by rw [hb.cell (World.block_lt_of_cell? w _ h1)]; exact h1) (by rw [hb.cell (World.block_lt_of_cell? w _ h2)]; exact h2) hf (fun w2 hb2 => hp w2 (hb.trans (hb2.mono hb.size))) ?_⟩
    unfold nstE
    simp only [metB, Bool.or_eq_true, decide_eq_true_eq]
    by_cases hm : metB K code i = true
    · simp [hm]
    · by_cases hk : K i = code
      · simp [hm, hk]
      · have hk' : ¬ code = K i := fun e => hk e.symm
        simp [hm, hk, hk']
set_option maxHeartbeats 16000000 in
theorem nested_any {M : (Nat → Prop) → World → Value → Int → Prop} (C : BailSays) (D : MeterSays M) (w : World) (lv : Value) (l : List Int) (code : Int) (h : IsL w lv l) :
    Calls Try.prog 6 #[lv, .int .i64 code] w fun e w' => e = .returned (.bool true) ∧ Below w.heap.size w w' := by
  obtain ⟨a, c, rfl, hr⟩ := h
  have hl1 := hr.1
  have hl2 := hr.2.1
  have HR : Hid (Rd w a l.length c (ivs (gt l))) := hr
  have hmf : ∀ (fn : Fn) (first cap : Array Value) (w : World), (Instr.makeFunc fn first cap).run Try.prog w = .ok (.func fn first cap) w := fun _ _ _ _ => rfl
  clear hr
  by_cases hs : 30 < l.length
  · have hs' : (30 : Int) < (l.length : Int) := by omega
    go_enter Try.func6, Try.ntmps6
    go_wp2_with (go_at_call 9; fail)
    refine (awake_of C D _).mono ?_
    rintro e w1 ⟨rfl, b1⟩
    have HB : Hid (Below w.heap.size w w1) := below_step (below1 w _) b1
    clear b1
    go_wp2
    go_ret
    exact ⟨rfl, HB.out⟩
  by_cases hc1 : code < 1
  · skip
    go_enter Try.func6, Try.ntmps6
    go_wp2_with (go_at_call 9; fail)
    refine (awake_of C D _).mono ?_
    rintro e w1 ⟨rfl, b1⟩
    have HB : Hid (Below w.heap.size w w1) := below_step (below1 w _) b1
    clear b1
    go_wp2
    go_ret
    exact ⟨rfl, HB.out⟩
  by_cases hc2 : 16 < code
  · skip
    go_enter Try.func6, Try.ntmps6
    go_wp2_with (go_at_call 9; fail)
    refine (awake_of C D _).mono ?_
    rintro e w1 ⟨rfl, b1⟩
    have HB : Hid (Below w.heap.size w w1) := below_step (below1 w _) b1
    clear b1
    go_wp2
    go_ret
    exact ⟨rfl, HB.out⟩
  have hs' : l.length ≤ 30 := by omega
  have hs2 : ¬ (30 : Int) < (l.length : Int) := by omega
  clear hs
  go_enter Try.func6, Try.ntmps6
  go_wp2
  obtain ⟨W0, hW0⟩ : ∃ W0, W0 = w.alloc (.cells #[.int .i64 code] 3) := ⟨_, rfl⟩
  have HB0 : Hid (Below w.heap.size w W0) := by rw [hW0]; exact below1 w _
  have HG0 : Hid (W0.cell? ⟨w.heap.size, 0, none⟩ = some (.int .i64 code)) := by show W0.cell? _ = _; rw [hW0, cell_of_row _ _ _ _ _ _ (heap_new1 w _)]; rfl
  rw [← hW0]
  clear hW0
  go_loopw [5, 6] (fun v5 v6 wr => ∃ i : Nat, i ≤ l.length ∧ v6 = .int .i64 i ∧ Hid (Below w.heap.size w wr) ∧ Hid (wr.cell? ⟨w.heap.size, 0, none⟩ = some (.int .i64 code)) ∧ Hid (Chn wr code (gt l) i v5)) (fun _ v _ => l.length - (intOf v).toNat)
  case atStart => exact ⟨0, Nat.zero_le _, rfl, HB0.out, HG0.out, _, rfl, HG0.out⟩
  case round =>
    obtain ⟨i, hi, rfl, HB, HG, HC⟩ := hrel
    rename World => wr
    obtain ⟨f, cap, rfl, -⟩ := chn_plays C code (gt l) i wr _ HC.out
    by_cases hlt : i < l.length
    · obtain ⟨ba, off, rfl, hca⟩ := (HR.out.below HB.out).at (by omega)
      have c4 := hca i hlt
      unfold ivs at c4
      have j1 : (0 : Int) ≤ (i : Int) := by omega
      have j2 : (i : Int) < (l.length : Int) := by omega
      have c5 : (wr.alloc (.cells #[.func (.func f) #[] cap] 1)).cell? ⟨ba, off + i, none⟩ = some (.int .i64 (gt l i)) := by rw [World.cell?_alloc_some _ _ _ (by rw [c4]; rfl)]; exact c4
      clear hca HB0 HG0 c4
      go_wp2
      obtain ⟨W2, hW2⟩ : ∃ W2, W2 = (wr.alloc (.cells #[.func (.func f) #[] cap] 1)).alloc (.cells #[.int .i64 (gt l i)] 47) := ⟨_, rfl⟩
      have hb2 : Below wr.heap.size wr W2 := by rw [hW2]; exact (below1 wr _).alloc (by simp) _
      have hk : W2.cell? ⟨wr.heap.size + 1, 0, none⟩ = some (.int .i64 (gt l i)) := by
        have h1 := heap_new1 (wr.alloc (.cells #[.func (.func f) #[] cap] 1)) (.cells #[.int .i64 (gt l i)] 47)
        rw [← hW2] at h1
        have h2 : W2.heap[wr.heap.size + 1]? = some (.cells #[.int .i64 (gt l i)] 47) := by simpa using h1
        rw [cell_of_row _ _ _ _ _ _ h2]; rfl
      have hg : W2.cell? ⟨wr.heap.size, 0, none⟩ = some (.func (.func f) #[] cap) := by rw [hW2, cell_of_row _ _ _ _ _ _ (heap_new2 wr _ _)]; rfl
      rw [← hW2]
      clear hW2
      exact ⟨⟨i + 1, by omega, by simp, below_step HB.out hb2, by rw [hb2.cell (World.block_lt_of_cell? wr _ HG.out)]; exact HG.out, _, _, _, rfl, hk, hg, HC.out.below hb2⟩, by simp [intOf]; omega⟩
    · have hn : i = l.length := by omega
      subst hn
      clear HB0 HG0
      go_wp2
      go_loopw [9, 10] (fun v9 v10 wr' => ∃ i : Nat, i ≤ l.length ∧ v10 = .int .i64 i ∧ v9 = .bool (metB (gt l) code i) ∧ Hid (Below wr.heap.size wr wr')) (fun _ v _ => l.length - (intOf v).toNat)
      case atStart => exact ⟨0, Nat.zero_le _, rfl, rfl, below_refl wr⟩
      case round =>
        obtain ⟨i, hi, rfl, rfl, HW⟩ := hrel
        rename World => wq
        have HBq : Hid (Below w.heap.size w wq) := below_step HB.out HW.out
        have cc : wq.cell? ⟨w.heap.size, 0, none⟩ = some (.int .i64 code) := by rw [HW.out.cell (World.block_lt_of_cell? wr _ HG.out)]; exact HG.out
        by_cases hlt : i < l.length
        · obtain ⟨ba, off, rfl, hca⟩ := (HR.out.below HBq.out).at (by omega)
          have c4 := hca i hlt
          unfold ivs at c4
          have j1 : (0 : Int) ≤ (i : Int) := by omega
          have j2 : (i : Int) < (l.length : Int) := by omega
          clear hca
          obtain ⟨mb, hmb⟩ : ∃ mb, mb = metB (gt l) code i := ⟨_, rfl⟩
          have HM : Hid (mb = metB (gt l) code i) := hmb
          rw [← hmb]
          clear hmb
          cases mb
          · skip
            go_wp2
            go_quiet (fail)
            go_wp2
            refine ⟨⟨i + 1, by omega, by simp, ?_, HW.out.trans ((below_drewN (Below.refl _ wq) _).mono HW.out.size)⟩, by simp [intOf]; omega⟩
            simp only [metB, ← HM.out]
            first | rfl | (simp; done)
          · skip
            go_wp2
            go_quiet (fail)
            go_wp2
            refine ⟨⟨i + 1, by omega, by simp, ?_, HW.out.trans ((below_drewN (Below.refl _ wq) _).mono HW.out.size)⟩, by simp [intOf]; omega⟩
            simp only [metB, ← HM.out]
            first | rfl | (simp; done)
        · have hn : i = l.length := by omega
          subst hn
          obtain ⟨mb, hmb⟩ : ∃ mb, mb = metB (gt l) code l.length := ⟨_, rfl⟩
          have HM : Hid (mb = metB (gt l) code l.length) := hmb
          rw [← hmb]
          clear hmb
          obtain ⟨f', cap', e, hf, hp⟩ := chn_plays C code (gt l) l.length wr _ HC.out
          obtain ⟨rfl, rfl⟩ : f = f' ∧ cap = cap' := by simpa using e
          clear e
          have HP : Hid (Fnv Try.prog f cap ∧ ∀ w1, Below wr.heap.size wr w1 → Plays Try.prog f cap w1 (Fins NoS (fun _ => False) w1 (nstE (gt l) code l.length) ())) := ⟨hf, hp⟩
          clear hf hp
          cases mb
          · skip
            have HE : Hid (nstE (gt l) code l.length = .bail code 5) := by show nstE _ _ _ = _; unfold nstE; rw [← HM.out]; simp
            go_wp2_with (go_at_call 22; fail)
            refine (C.catches nos_st (fun _ => False) wq () () _ _ _ HP.out.1 (nos wq) fun w1 hb _ => HP.out.2 w1 (HW.out.trans (hb.mono HW.out.size))).mono ?_
            rintro e w3 ⟨G, hl, he⟩
            rw [HE.out] at he
            change e = _ at he
            subst he
            have HB3 : Hid (Below w.heap.size w w3) := below_step HBq.out hl.nos_below
            have cc3 : w3.cell? ⟨w.heap.size, 0, none⟩ = some (.int .i64 code) := by rw [hl.nos_below.cell (World.block_lt_of_cell? wq _ cc)]; exact cc
            clear hl
            go_wp2_with (go_at_call 9; fail)
            refine (awake_of C D w3).mono ?_
            rintro e w4 ⟨rfl, b4⟩
            have HB4 : Hid (Below w.heap.size w w4) := below_step HB3.out b4
            clear b4
            go_wp2
            go_ret
            exact ⟨rfl, HB4.out⟩
          · skip
            have HE : Hid (nstE (gt l) code l.length = .ret) := by show nstE _ _ _ = _; unfold nstE; rw [← HM.out]; simp
            go_wp2_with (go_at_call 22; fail)
            refine (C.catches nos_st (fun _ => False) wq () () _ _ _ HP.out.1 (nos wq) fun w1 hb _ => HP.out.2 w1 (HW.out.trans (hb.mono HW.out.size))).mono ?_
            rintro e w3 ⟨G, hl, he⟩
            rw [HE.out] at he
            change e = _ at he
            subst he
            have HB3 : Hid (Below w.heap.size w w3) := below_step HBq.out hl.nos_below
            have cc3 : w3.cell? ⟨w.heap.size, 0, none⟩ = some (.int .i64 code) := by rw [hl.nos_below.cell (World.block_lt_of_cell? wq _ cc)]; exact cc
            clear hl
            go_wp2_with (go_at_call 9; fail)
            refine (awake_of C D w3).mono ?_
            rintro e w4 ⟨rfl, b4⟩
            have HB4 : Hid (Below w.heap.size w w4) := below_step HB3.out b4
            clear b4
            go_wp2
            go_ret
            exact ⟨rfl, HB4.out⟩
end Go.Proofs.Ytgighebohbpkiaa
