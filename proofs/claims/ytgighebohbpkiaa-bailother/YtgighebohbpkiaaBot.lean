/- BailOther, out of what bail answers. -/
import Derived.Test.YtgighebohbpkiaaBaw
import Derived.Test.YtgighebohbpkiaaBli
import Derived.Deep.RegionHeld3
import Derived.Laws.EntriesVeiled
namespace Go.Proofs.Ytgighebohbpkiaa
open Go.RowKit Fo
set_option maxRecDepth 100000
set_option linter.unusedSimpArgs false

namespace Fo
/-- A function that panics, behind others that catch what is a Bail. -/
def Othn (w : World) (n : Int) : Nat → Value → Prop
  | 0, v => ∃ bn, v = .func (.func 30) #[] #[.pointer (some ⟨bn, 0, none⟩)] ∧ w.cell? ⟨bn, 0, none⟩ = some (.int .i64 n)
  | i + 1, v => ∃ bg g, v = .func (.func 32) #[] #[.pointer (some ⟨bg, 0, none⟩)] ∧ w.cell? ⟨bg, 0, none⟩ = some g ∧ Othn w n i g
theorem Othn.below {w w' : World} {n : Int} (hb : Below w.heap.size w w') : ∀ {i : Nat} {v : Value}, Othn w n i v → Othn w' n i v
  | 0, _, ⟨bc, e, h⟩ => ⟨bc, e, by rw [hb.cell (World.block_lt_of_cell? w _ h)]; exact h⟩
  | _ + 1, _, ⟨bg, g, e, h2, h3⟩ => ⟨bg, g, e, by rw [hb.cell (World.block_lt_of_cell? w _ h2)]; exact h2, Othn.below hb h3⟩
end Fo
theorem fnv_otn0 (cap : Array Value) : Fnv Try.prog 30 cap := enters_of Try.func30 (by kernel_rfl) rfl cap
theorem fnv_otn1 (cap : Array Value) : Fnv Try.prog 32 cap := enters_of Try.func32 (by kernel_rfl) rfl cap
theorem fnv_otn2 (cap : Array Value) : Fnv Try.prog 33 cap := enters_of Try.func33 (by kernel_rfl) rfl cap
set_option maxHeartbeats 4000000 in
theorem otn0_plays (w : World) (bn : Nat) (n : Int) (h1 : w.cell? ⟨bn, 0, none⟩ = some (.int .i64 n)) :
    Plays Try.prog 30 #[.pointer (some ⟨bn, 0, none⟩)] w (Fins NoS (fun _ => False) w (.num n) ()) := by
  refine ⟨_, _, Try.func30, rfl, ?_⟩
  simp only [Try.ntmps30, List.size_toArray, List.length_cons, List.length_nil, Nat.reduceAdd, Nat.reduceSub, Array.replicate_succ, Array.replicate_zero, List.push_toArray, List.append_toArray, List.nil_append, List.cons_append]
  go_wp2
  exact ⟨rfl, _, nos_st.lft (nos w) (below_refl w), Or.inr ⟨_, [], rfl, fun x h => (by cases h), rfl⟩⟩
set_option maxHeartbeats 4000000 in
theorem otn2_plays (C : BailSays) (w : World) (bg : Nat) (n : Int) (f : FuncId) (cap : Array Value) (h2 : w.cell? ⟨bg, 0, none⟩ = some (.func (.func f) #[] cap)) (hf : Fnv Try.prog f cap)
    (hp : ∀ w1, Below w.heap.size w w1 → Plays Try.prog f cap w1 (Fins NoS (fun _ => False) w1 (.num n) ())) :
    Plays Try.prog 33 #[.pointer (some ⟨bg, 0, none⟩)] w (Fins NoS (fun _ => False) w (.num n) ()) := by
  refine ⟨_, _, Try.func33, rfl, ?_⟩
  simp only [Try.ntmps33, List.size_toArray, List.length_cons, List.length_nil, Nat.reduceAdd, Nat.reduceSub, Array.replicate_succ, Array.replicate_zero, List.push_toArray, List.append_toArray, List.nil_append, List.cons_append]
  have HP : Hid (∀ w1, Below w.heap.size w w1 → Plays Try.prog f cap w1 (Fins NoS (fun _ => False) w1 (.num n) ())) := hp
  have HF : Hid (Fnv Try.prog f cap) := hf
  clear hp hf
  go_wp2_with (go_at_call 24; fail)
  refine (C.only nos_st (fun _ => False) w () () 1 f cap (.num n) HF.out (nos w) fun w1 hb _ => HP.out w1 hb).mono ?_
  rintro e w' ⟨G, hl, he⟩
  have HL : Hid (Lft NoS (fun _ => False) w () G w') := hl
  clear hl
  rcases he with ⟨hr, -⟩ | ⟨a, hr, -⟩ | ⟨-, -, he⟩
  · cases hr
  · cases hr
  · rcases id he with ⟨h, -⟩ | ⟨v, old, rfl, -⟩
    · cases h
    have HEn : Hid (EnIn w.heap.size G w' (.num n) (.panicked ({ v := v, recovered := false } :: old))) := he
    clear he
    go_wp2
    exact ⟨rfl, G, HL.out, HEn.out⟩
set_option maxHeartbeats 4000000 in
theorem otn1_plays (C : BailSays) (w : World) (bg : Nat) (n : Int) (f : FuncId) (cap : Array Value) (h2 : w.cell? ⟨bg, 0, none⟩ = some (.func (.func f) #[] cap)) (hf : Fnv Try.prog f cap)
    (hp : ∀ w1, Below w.heap.size w w1 → Plays Try.prog f cap w1 (Fins NoS (fun _ => False) w1 (.num n) ())) :
    Plays Try.prog 32 #[.pointer (some ⟨bg, 0, none⟩)] w (Fins NoS (fun _ => False) w (.num n) ()) := by
  have hmf : ∀ (fn : Fn) (first cap : Array Value) (w : World), (Instr.makeFunc fn first cap).run Try.prog w = .ok (.func fn first cap) w := fun _ _ _ _ => rfl
  refine ⟨_, _, Try.func32, rfl, ?_⟩
  simp only [Try.ntmps32, List.size_toArray, List.length_cons, List.length_nil, Nat.reduceAdd, Nat.reduceSub, Array.replicate_succ, Array.replicate_zero, List.push_toArray, List.append_toArray, List.nil_append, List.cons_append]
  have HP : Hid (∀ w1, Below w.heap.size w w1 → Plays Try.prog f cap w1 (Fins NoS (fun _ => False) w1 (.num n) ())) := hp
  have HF : Hid (Fnv Try.prog f cap) := hf
  have H2 : Hid (w.cell? ⟨bg, 0, none⟩ = some (.func (.func f) #[] cap)) := h2
  clear hp hf
  go_wp2_with (go_at_call 22; fail)
  refine (C.catches nos_st (fun _ => False) w () () _ _ (.num n) (fnv_otn2 _) (nos w) fun w1 hb _ => otn2_plays C w1 bg n f cap (by rw [hb.cell (World.block_lt_of_cell? w _ H2.out)]; exact H2.out) HF.out fun w2 hb2 => HP.out w2 (hb.trans (hb2.mono hb.size))).mono ?_
  rintro e w' ⟨G, hl, he⟩
  have HL : Hid (Lft NoS (fun _ => False) w () G w') := hl
  clear hl
  change EnIn w.heap.size G w' (.num n) e at he
  rcases id he with ⟨h, -⟩ | ⟨v, old, rfl, -⟩
  · cases h
  have HEn : Hid (EnIn w.heap.size G w' (.num n) (.panicked ({ v := v, recovered := false } :: old))) := he
  clear he
  go_wp2
  exact ⟨rfl, G, HL.out, HEn.out⟩
theorem othn_plays (C : BailSays) (n : Int) : ∀ (i : Nat) (w : World) (v : Value), Othn w n i v →
    ∃ f cap, v = .func (.func f) #[] cap ∧ Fnv Try.prog f cap ∧ ∀ w1, Below w.heap.size w w1 → Plays Try.prog f cap w1 (Fins NoS (fun _ => False) w1 (.num n) ())
  | 0, w, v, ⟨bc, e, h⟩ => ⟨_, _, e, fnv_otn0 _, fun w1 hb => otn0_plays w1 bc n (by rw [hb.cell (World.block_lt_of_cell? w _ h)]; exact h)⟩
  | i + 1, w, v, ⟨bg, g, e, h2, h3⟩ => by
    obtain ⟨f, cap, rfl, hf, hp⟩ := othn_plays C n i w g h3
    exact ⟨_, _, e, fnv_otn1 _, fun w1 hb => otn1_plays C w1 bg n f cap (by rw [hb.cell (World.block_lt_of_cell? w _ h2)]; exact h2) hf fun w2 hb2 => hp w2 (hb.trans (hb2.mono hb.size))⟩
namespace Fo
/-- A function that panics, behind others that catch what is a Bail. -/
def Othb (w : World) : Nat → Value → Prop
  | 0, v => v = .func (.func 31) #[] #[]
  | i + 1, v => ∃ bg g, v = .func (.func 34) #[] #[.pointer (some ⟨bg, 0, none⟩)] ∧ w.cell? ⟨bg, 0, none⟩ = some g ∧ Othb w i g
theorem Othb.below {w w' : World} (hb : Below w.heap.size w w') : ∀ {i : Nat} {v : Value}, Othb w i v → Othb w' i v
  | 0, _, h => h
  | _ + 1, _, ⟨bg, g, e, h2, h3⟩ => ⟨bg, g, e, by rw [hb.cell (World.block_lt_of_cell? w _ h2)]; exact h2, Othb.below hb h3⟩
end Fo
theorem fnv_otb0 (cap : Array Value) : Fnv Try.prog 31 cap := enters_of Try.func31 (by kernel_rfl) rfl cap
theorem fnv_otb1 (cap : Array Value) : Fnv Try.prog 34 cap := enters_of Try.func34 (by kernel_rfl) rfl cap
theorem fnv_otb2 (cap : Array Value) : Fnv Try.prog 35 cap := enters_of Try.func35 (by kernel_rfl) rfl cap
set_option maxHeartbeats 4000000 in
theorem otb0_plays (w : World) :
    Plays Try.prog 31 #[] w (Fins NoS (fun _ => False) w .nilB ()) := by
  refine ⟨_, _, Try.func31, rfl, ?_⟩
  simp only [Try.ntmps31, List.size_toArray, List.length_cons, List.length_nil, Nat.reduceAdd, Nat.reduceSub, Array.replicate_succ, Array.replicate_zero, List.push_toArray, List.append_toArray, List.nil_append, List.cons_append]
  go_wp2
  exact ⟨rfl, _, nos_st.lft (nos w) (below_refl w), Or.inr ⟨_, [], rfl, fun x h => (by cases h), rfl⟩⟩
set_option maxHeartbeats 4000000 in
theorem otb2_plays (C : BailSays) (w : World) (bg : Nat) (f : FuncId) (cap : Array Value) (h2 : w.cell? ⟨bg, 0, none⟩ = some (.func (.func f) #[] cap)) (hf : Fnv Try.prog f cap)
    (hp : ∀ w1, Below w.heap.size w w1 → Plays Try.prog f cap w1 (Fins NoS (fun _ => False) w1 .nilB ())) :
    Plays Try.prog 35 #[.pointer (some ⟨bg, 0, none⟩)] w (Fins NoS (fun _ => False) w .nilB ()) := by
  refine ⟨_, _, Try.func35, rfl, ?_⟩
  simp only [Try.ntmps35, List.size_toArray, List.length_cons, List.length_nil, Nat.reduceAdd, Nat.reduceSub, Array.replicate_succ, Array.replicate_zero, List.push_toArray, List.append_toArray, List.nil_append, List.cons_append]
  have HP : Hid (∀ w1, Below w.heap.size w w1 → Plays Try.prog f cap w1 (Fins NoS (fun _ => False) w1 .nilB ())) := hp
  have HF : Hid (Fnv Try.prog f cap) := hf
  clear hp hf
  go_wp2_with (go_at_call 24; fail)
  refine (C.only nos_st (fun _ => False) w () () 1 f cap .nilB HF.out (nos w) fun w1 hb _ => HP.out w1 hb).mono ?_
  rintro e w' ⟨G, hl, he⟩
  have HL : Hid (Lft NoS (fun _ => False) w () G w') := hl
  clear hl
  rcases he with ⟨hr, -⟩ | ⟨a, hr, -⟩ | ⟨-, -, he⟩
  · cases hr
  · cases hr
  · rcases id he with ⟨h, -⟩ | ⟨v, old, rfl, -⟩
    · cases h
    have HEn : Hid (EnIn w.heap.size G w' .nilB (.panicked ({ v := v, recovered := false } :: old))) := he
    clear he
    go_wp2
    exact ⟨rfl, G, HL.out, HEn.out⟩
set_option maxHeartbeats 4000000 in
theorem otb1_plays (C : BailSays) (w : World) (bg : Nat) (f : FuncId) (cap : Array Value) (h2 : w.cell? ⟨bg, 0, none⟩ = some (.func (.func f) #[] cap)) (hf : Fnv Try.prog f cap)
    (hp : ∀ w1, Below w.heap.size w w1 → Plays Try.prog f cap w1 (Fins NoS (fun _ => False) w1 .nilB ())) :
    Plays Try.prog 34 #[.pointer (some ⟨bg, 0, none⟩)] w (Fins NoS (fun _ => False) w .nilB ()) := by
  have hmf : ∀ (fn : Fn) (first cap : Array Value) (w : World), (Instr.makeFunc fn first cap).run Try.prog w = .ok (.func fn first cap) w := fun _ _ _ _ => rfl
  refine ⟨_, _, Try.func34, rfl, ?_⟩
  simp only [Try.ntmps34, List.size_toArray, List.length_cons, List.length_nil, Nat.reduceAdd, Nat.reduceSub, Array.replicate_succ, Array.replicate_zero, List.push_toArray, List.append_toArray, List.nil_append, List.cons_append]
  have HP : Hid (∀ w1, Below w.heap.size w w1 → Plays Try.prog f cap w1 (Fins NoS (fun _ => False) w1 .nilB ())) := hp
  have HF : Hid (Fnv Try.prog f cap) := hf
  have H2 : Hid (w.cell? ⟨bg, 0, none⟩ = some (.func (.func f) #[] cap)) := h2
  clear hp hf
  go_wp2_with (go_at_call 22; fail)
  refine (C.catches nos_st (fun _ => False) w () () _ _ .nilB (fnv_otb2 _) (nos w) fun w1 hb _ => otb2_plays C w1 bg f cap (by rw [hb.cell (World.block_lt_of_cell? w _ H2.out)]; exact H2.out) HF.out fun w2 hb2 => HP.out w2 (hb.trans (hb2.mono hb.size))).mono ?_
  rintro e w' ⟨G, hl, he⟩
  have HL : Hid (Lft NoS (fun _ => False) w () G w') := hl
  clear hl
  change EnIn w.heap.size G w' .nilB e at he
  rcases id he with ⟨h, -⟩ | ⟨v, old, rfl, -⟩
  · cases h
  have HEn : Hid (EnIn w.heap.size G w' .nilB (.panicked ({ v := v, recovered := false } :: old))) := he
  clear he
  go_wp2
  exact ⟨rfl, G, HL.out, HEn.out⟩
theorem othb_plays (C : BailSays) : ∀ (i : Nat) (w : World) (v : Value), Othb w i v →
    ∃ f cap, v = .func (.func f) #[] cap ∧ Fnv Try.prog f cap ∧ ∀ w1, Below w.heap.size w w1 → Plays Try.prog f cap w1 (Fins NoS (fun _ => False) w1 .nilB ())
  | 0, w, v, e => ⟨_, _, e, fnv_otb0 _, fun w1 hb => otb0_plays w1⟩
  | i + 1, w, v, ⟨bg, g, e, h2, h3⟩ => by
    obtain ⟨f, cap, rfl, hf, hp⟩ := othb_plays C i w g h3
    exact ⟨_, _, e, fnv_otb1 _, fun w1 hb => otb1_plays C w1 bg f cap (by rw [hb.cell (World.block_lt_of_cell? w _ h2)]; exact h2) hf fun w2 hb2 => hp w2 (hb.trans (hb2.mono hb.size))⟩
set_option maxHeartbeats 16000000 in
theorem other_any {M : (Nat → Prop) → World → Value → Int → Prop} (C : BailSays) (D : MeterSays M) (w : World) (n deep : Int) :
    Calls Try.prog 7 #[.int .i64 n, .int .i64 deep] w fun e w' => e = .returned (.bool true) ∧ Below w.heap.size w w' := by
  have hmf : ∀ (fn : Fn) (first cap : Array Value) (w : World), (Instr.makeFunc fn first cap).run Try.prog w = .ok (.func fn first cap) w := fun _ _ _ _ => rfl
  by_cases hc1 : deep < 0
  · skip
    go_enter Try.func7, Try.ntmps7
    go_wp2_with (go_at_call 9; fail)
    refine (awake_of C D _).mono ?_
    rintro e w1 ⟨rfl, b1⟩
    have HB : Hid (Below w.heap.size w w1) := below_step (below1 w _) b1
    clear b1
    go_wp2
    go_ret
    exact ⟨rfl, HB.out⟩
  by_cases hc2 : 20 < deep
  · skip
    go_enter Try.func7, Try.ntmps7
    go_wp2_with (go_at_call 9; fail)
    refine (awake_of C D _).mono ?_
    rintro e w1 ⟨rfl, b1⟩
    have HB : Hid (Below w.heap.size w w1) := below_step (below1 w _) b1
    clear b1
    go_wp2
    go_ret
    exact ⟨rfl, HB.out⟩
  obtain ⟨d, rfl⟩ : ∃ d : Nat, deep = d := ⟨deep.toNat, by omega⟩
  go_enter Try.func7, Try.ntmps7
  go_wp2
  obtain ⟨W0, hW0⟩ : ∃ W0, W0 = w.alloc (.cells #[.int .i64 n] 3) := ⟨_, rfl⟩
  have HB0 : Hid (Below w.heap.size w W0) := by rw [hW0]; exact below1 w _
  have HG0 : Hid (W0.cell? ⟨w.heap.size, 0, none⟩ = some (.int .i64 n)) := by show W0.cell? _ = _; rw [hW0, cell_of_row _ _ _ _ _ _ (heap_new1 w _)]; rfl
  rw [← hW0]
  clear hW0
  go_loopw [5, 6, 7] (fun v5 v6 v7 wr => ∃ i : Nat, i ≤ d ∧ v7 = .int .i64 i ∧ Hid (Below w.heap.size w wr) ∧ Hid (wr.cell? ⟨w.heap.size, 0, none⟩ = some (.int .i64 n)) ∧ Hid (Othn wr n i v5) ∧ Hid (Othb wr i v6)) (fun _ _ v _ => d - (intOf v).toNat)
  case atStart => exact ⟨0, Nat.zero_le _, rfl, HB0.out, HG0.out, ⟨_, rfl, HG0.out⟩, rfl⟩
  case round =>
    obtain ⟨i, hi, rfl, HB, HG, HC, HE⟩ := hrel
    rename World => wr
    obtain ⟨f, cap, rfl, hf1, hp1⟩ := othn_plays C n i wr _ HC.out
    obtain ⟨g, cag, rfl, hf2, hp2⟩ := othb_plays C i wr _ HE.out
    have HP : Hid ((Fnv Try.prog f cap ∧ ∀ w1, Below wr.heap.size wr w1 → Plays Try.prog f cap w1 (Fins NoS (fun _ => False) w1 (.num n) ())) ∧ Fnv Try.prog g cag ∧ ∀ w1, Below wr.heap.size wr w1 → Plays Try.prog g cag w1 (Fins NoS (fun _ => False) w1 .nilB ())) := ⟨⟨hf1, hp1⟩, hf2, hp2⟩
    clear hf1 hp1 hf2 hp2 HB0 HG0
    by_cases hlt : i < d
    · have j1 : (0 : Int) ≤ (i : Int) := by omega
      have j2 : (i : Int) < (d : Int) := by omega
      go_wp2
      obtain ⟨W2, hW2⟩ : ∃ W2, W2 = (wr.alloc (.cells #[.func (.func f) #[] cap] 1)).alloc (.cells #[.func (.func g) #[] cag] 1) := ⟨_, rfl⟩
      have hb2 : Below wr.heap.size wr W2 := by rw [hW2]; exact (below1 wr _).alloc (by simp) _
      have hk : W2.cell? ⟨wr.heap.size + 1, 0, none⟩ = some (.func (.func g) #[] cag) := by
        have h1 := heap_new1 (wr.alloc (.cells #[.func (.func f) #[] cap] 1)) (.cells #[.func (.func g) #[] cag] 1)
        rw [← hW2] at h1
        have h2 : W2.heap[wr.heap.size + 1]? = some (.cells #[.func (.func g) #[] cag] 1) := by simpa using h1
        rw [cell_of_row _ _ _ _ _ _ h2]; rfl
      have hg : W2.cell? ⟨wr.heap.size, 0, none⟩ = some (.func (.func f) #[] cap) := by rw [hW2, cell_of_row _ _ _ _ _ _ (heap_new2 wr _ _)]; rfl
      rw [← hW2]
      clear hW2
      exact ⟨⟨i + 1, by omega, by simp, below_step HB.out hb2, by rw [hb2.cell (World.block_lt_of_cell? wr _ HG.out)]; exact HG.out, ⟨_, _, rfl, hg, HC.out.below hb2⟩, _, _, rfl, hk, HE.out.below hb2⟩, by simp [intOf]; omega⟩
    · have hn : i = d := by omega
      subst hn
      have hta : ∀ w, (Instr.typeAssert (.iface 3 (.int .i64 n)) 20 3 true).run Try.prog w = .ok (.tuple #[.int .i64 n, .bool true]) w := fun _ => by kernel_rfl
      have htb : ∀ w, (Instr.typeAssert (.iface 44 (.pointer none)) 20 44 true).run Try.prog w = .ok (.tuple #[.pointer none, .bool true]) w := fun _ => by kernel_rfl
      go_wp2_with (go_at_call 12; fail)
      refine (C.safe nos_st (fun _ => False) wr () () _ _ _ HP.out.1.1 (nos wr) fun w1 hb _ => HP.out.1.2 w1 hb).mono ?_
      rintro e w2 ⟨G, hl, he⟩
      rcases he with ⟨h, -⟩ | ⟨v, rfl, hv⟩
      · cases h
      replace hv : v = .iface 3 (.int .i64 n) := hv
      subst hv
      have HW2 : Hid (Below wr.heap.size wr w2) := hl.nos_below
      clear hl
      go_wp2_with (go_at_call 12; fail)
      refine (C.safe nos_st (fun _ => False) w2 () () _ _ _ HP.out.2.1 (nos w2) fun w1 hb _ => HP.out.2.2 w1 (HW2.out.trans (hb.mono HW2.out.size))).mono ?_
      rintro e w3 ⟨G, hl, he⟩
      rcases he with ⟨h, -⟩ | ⟨v, rfl, hv⟩
      · cases h
      replace hv : v = .iface 44 (.pointer none) := hv
      subst hv
      have HW3 : Below wr.heap.size wr w3 := below_step HW2.out hl.nos_below
      have HB3 : Hid (Below w.heap.size w w3) := below_step HB.out HW3
      have cc3 : w3.cell? ⟨w.heap.size, 0, none⟩ = some (.int .i64 n) := by rw [HW3.cell (World.block_lt_of_cell? wr _ HG.out)]; exact HG.out
      clear hl HW3
      go_wp2_with (go_at_call 9; fail)
      refine (awake_of C D w3).mono ?_
      rintro e w4 ⟨rfl, b4⟩
      have HB4 : Hid (Below w.heap.size w w4) := below_step HB3.out b4
      clear b4
      go_wp2
      go_ret
      exact ⟨rfl, HB4.out⟩
end Go.Proofs.Ytgighebohbpkiaa
