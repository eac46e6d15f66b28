/- read. -/
import Derived.Test.YtbgkfjelgnbfmaaGreatDoorPrs
import Derived.Test.YtbgkfjelgnbfmaaGreatDoorPtz
import Derived.Test.YtbgkfjelgnbfmaaGreatDoorBwx
namespace Go.Proofs.YtbgkfjelgnbfmaaGreatDoor
open Go.RowKit Fo
set_option maxRecDepth 100000
set_option linter.unusedSimpArgs false
set_option linter.unusedVariables false

namespace Fo
/-- What read does. -/
def readM (s : List UInt8) : Except Nat PT :=
  match G RP (4 * s.length + 4) 0 s with
  | .error e => .error e
  | .ok (t, r) => if txt t = s then .ok t else .error r.length
theorem str_inj {a b : List UInt8} : str a = str b ↔ a = b := by
  constructor
  · intro h
    have := congrArg (fun x : ByteArray => x.data.toList) h
    simpa [str] using this
  · intro h; rw [h]
/-- How read ends. -/
def RdE (s : List UInt8) (w : World) (e : Ending) (w' : World) : Prop :=
  Below w.heap.size w w' ∧ match readM s with
  | .ok t => ∃ v, e = .returned v ∧ TOk w.heap.size w' v t
  | .error n => EnIn w.heap.size (fun _ => False) w' (.bail 3 ((s.length - n : Nat) : Int)) e
end Fo
set_option maxHeartbeats 8000000 in
theorem read_any (C : BailSays) (w : World) (s : List UInt8) (hs : s.length ≤ 100000) (lo : Nat) (henv : EnvP lo w) : Calls Tryz.prog 25 #[.string (str s)] w (RdE s w) := by
  obtain ⟨W2, hW2⟩ : ∃ W2, W2 = (w.alloc (.cells #[.int .i64 0, .string ⟨#[]⟩, .slice none 0 0, .int .i64 0, .int .i64 0] 25)).alloc (.cells #[.string (str s), .int .i64 0] 64) := ⟨_, rfl⟩
  have hb2 : Below w.heap.size w W2 := by rw [hW2]; exact (below1 w _).alloc (by simp) _
  have HB2 : Hid (Below w.heap.size w W2) := hb2
  have HR2 : Hid (W2.heap[w.heap.size]? = some (.cells #[.int .i64 0, .string ⟨#[]⟩, .slice none 0 0, .int .i64 0, .int .i64 0] 25)) := by show W2.heap[_]? = _; rw [hW2]; exact heap_new2 w _ _
  have hp2 : W2.heap[w.heap.size + 1]? = some (.cells #[.string (str s), .int .i64 0] 64) := by
    rw [hW2]
    have := heap_new1 (w.alloc (.cells #[.int .i64 0, .string ⟨#[]⟩, .slice none 0 0, .int .i64 0, .int .i64 0] 25)) (.cells #[.string (str s), .int .i64 0] 64)
    simpa using this
  have HP2 : Hid (PIn s (w.heap.size + 1) W2 s) := ⟨by rw [hp2]; simp, Nat.le_refl _, by simp⟩
  have HZ2 : Hid (W2.heap.size = w.heap.size + 2) := by show _ = _; rw [hW2]; simp
  have HE2 : Hid (EnvP w.heap.size W2) := (henv.below hb2).mono henv.le hb2.size
  have HC : Hid (Calls _ _ _ _ _) := (rec_any C w.heap.size s (w.heap.size + 1) hs (by omega) (4 * s.length + 4) W2 s HP2.out HE2.out).1 (Nat.le_refl _)
  have HM : Hid (readM s = match G RP (4 * s.length + 4) 0 s with | .error e => .error e | .ok (t, r) => if txt t = s then .ok t else .error r.length) := rfl
  have HSL : Hid (s.length ≤ 100000) := hs
  clear henv hb2 hp2 hs
  go_enter Tryz.func25, Tryz.ntmps25
  go_wp2_with (go_at_call 41; fail)
  rw [← hW2]
  clear hW2
  refine HC.out.mono ?_
  intro e w3 hw
  clear HC
  cases hwm : G RP (4 * s.length + 4) 0 s with
  | error er =>
    rw [hwm] at hw
    obtain ⟨he, hk⟩ := hw
    have HV : Hid (readM s = .error er) := by show _ = _; rw [HM.out, hwm]
    have HB3 : Hid (Below w.heap.size w w3) := HB2.out.trans (hk.below HB2.out.size fun b hb h => by have h : b = w.heap.size + 1 := h; omega)
    clear hwm hk
    rcases id he with ⟨h, -⟩ | ⟨v, old, rfl, -⟩
    · cases h
    have HE : Hid (EnIn w.heap.size (fun _ => False) w3 (.bail 3 ((s.length - er : Nat) : Int)) (.panicked ({ v := v, recovered := false } :: old))) := he.lo HB2.out.size
    clear he
    go_wp2
    refine ⟨rfl, HB3.out, ?_⟩
    rw [HV.out]
    exact HE.out
  | ok q =>
    obtain ⟨t, r⟩ := q
    rw [hwm] at hw
    obtain ⟨v, rfl, ⟨y, F, hv, hi, hff⟩, hp, hk⟩ := hw
    subst hv
    obtain ⟨y0, y1, y2, y3, y4, y5, y6⟩ := y
    unfold PV.v
    have HMM : Hid (readM s = if txt t = s then .ok t else .error r.length) := by show _ = _; rw [HM.out, hwm]
    have HB3 : Hid (Below w.heap.size w w3) := HB2.out.trans (hk.below HB2.out.size fun b hb h => by have h : b = w.heap.size + 1 := h; omega)
    have HP3 : Hid (PIn s (w.heap.size + 1) w3 r) := hp
    have HR3 : Hid (w3.heap[w.heap.size]? = some (.cells #[.int .i64 0, .string ⟨#[]⟩, .slice none 0 0, .int .i64 0, .int .i64 0] 25)) := hk.heap HR2.out (fun h => by have h : w.heap.size = w.heap.size + 1 := h; omega)
    have HI3 : Hid (IsP F w3 ⟨y0, y1, y2, y3, y4, y5, y6⟩ t) := hi
    have HFF : Hid (∀ b, F b → w.heap.size < b) := fun b hb => by have := hff b hb; have := HZ2.out; omega
    clear hp hk hi hff hwm HM HB2 HR2 HP2 HE2 HZ2
    obtain ⟨W4, hW4⟩ : ∃ W4, W4 = w3.alloc (.cells #[.int .i64 y0, .string y1, .slice y2 y3 y4, .int .i64 y5, .int .i64 y6] 25) := ⟨_, rfl⟩
    have b4 : Below w3.heap.size w3 W4 := by rw [hW4]; exact below1 w3 _
    obtain ⟨bv, hbv⟩ : ∃ bv, bv = w3.heap.size := ⟨_, rfl⟩
    have HBV : Hid (w.heap.size < bv) := by show _ < _; rw [hbv]; exact lt_of_heap HR3.out
    have HG4 : Hid (W4.heap[bv]? = some (.cells #[.int .i64 y0, .string y1, .slice y2 y3 y4, .int .i64 y5, .int .i64 y6] 25)) := by show W4.heap[_]? = _; rw [hW4, hbv]; exact heap_new1 w3 _
    have HB4 : Hid (Below w.heap.size w W4) := below_step HB3.out b4
    have HP4 : Hid (PIn s (w.heap.size + 1) W4 r) := HP3.out.below b4
    have HR4 : Hid (W4.heap[w.heap.size]? = some (.cells #[.int .i64 0, .string ⟨#[]⟩, .slice none 0 0, .int .i64 0, .int .i64 0] 25)) := (b4.block _ (lt_of_heap HR3.out)).trans HR3.out
    have HI4 : Hid (IsP F W4 ⟨y0, y1, y2, y3, y4, y5, y6⟩ t) := HI3.out.bel b4
    go_wp2_with (go_at_call 15; fail)
    rw [← hW4, ← hbv]
    clear hW4 hbv b4 HB3 HP3 HR3 HI3
    refine (text_any t F W4 ⟨y0, y1, y2, y3, y4, y5, y6⟩ HI4.out).mono ?_
    rintro e w5 ⟨rfl, b5⟩
    have HB5 : Hid (Below w.heap.size w w5) := below_step HB4.out b5
    have HP5 : Hid (PIn s (w.heap.size + 1) w5 r) := HP4.out.below b5
    have HR5 : Hid (w5.heap[w.heap.size]? = some (.cells #[.int .i64 0, .string ⟨#[]⟩, .slice none 0 0, .int .i64 0, .int .i64 0] 25)) := (b5.block _ (lt_of_heap HR4.out)).trans HR4.out
    have HG5 : Hid (w5.heap[bv]? = some (.cells #[.int .i64 y0, .string y1, .slice y2 y3 y4, .int .i64 y5, .int .i64 y6] 25)) := (b5.block _ (lt_of_heap HG4.out)).trans HG4.out
    have HI5 : Hid (IsP F w5 ⟨y0, y1, y2, y3, y4, y5, y6⟩ t) := HI4.out.bel b5
    clear b5 HB4 HP4 HR4 HG4 HI4
    by_cases hts : txt t = s
    · have HV : Hid (readM s = .ok t) := by show _ = _; rw [HMM.out, if_pos hts]
      rw [hts]
      have c0 := cell_of_row _ _ 0 _ _ _ HG5.out
      have c1 := cell_of_row _ _ 1 _ _ _ HG5.out
      have c2 := cell_of_row _ _ 2 _ _ _ HG5.out
      have c3 := cell_of_row _ _ 3 _ _ _ HG5.out
      have c4 := cell_of_row _ _ 4 _ _ _ HG5.out
      simp only [List.getElem?_toArray, List.getElem?_cons_zero, List.getElem?_cons_succ] at c0 c1 c2 c3 c4
      obtain ⟨⟨z0, z1, z2, z3, z4⟩, ⟨f0, f1, f2, f3, f4⟩, g0, g1, g2, g3, g4⟩ := box5_facts HR5.out
      have HRX := HR5.out
      clear hts HMM
      go_wp2
      obtain ⟨hs6, hs7⟩ := st5 HRX (.int .i64 y0) (.string y1) (.slice y2 y3 y4) (.int .i64 y5) (.int .i64 y6)
      generalize (((((w5.setCell ⟨w.heap.size, 0, none⟩ (.int .i64 y0)).setCell ⟨w.heap.size, 1, none⟩ (.string y1)).setCell ⟨w.heap.size, 2, none⟩ (.slice y2 y3 y4)).setCell ⟨w.heap.size, 3, none⟩ (.int .i64 y5)).setCell ⟨w.heap.size, 4, none⟩ (.int .i64 y6)) = W10 at hs6 hs7 ⊢
      have r0 := cell_of_row _ _ 0 _ _ _ hs6
      have r1 := cell_of_row _ _ 1 _ _ _ hs6
      have r2 := cell_of_row _ _ 2 _ _ _ hs6
      have r3 := cell_of_row _ _ 3 _ _ _ hs6
      have r4 := cell_of_row _ _ 4 _ _ _ hs6
      simp only [List.getElem?_toArray, List.getElem?_cons_zero, List.getElem?_cons_succ] at r0 r1 r2 r3 r4
      refine bodyPost_ret (v := .agg #[.int .i64 y0, .string y1, .slice y2 y3 y4, .int .i64 y5, .int .i64 y6]) (by simp [results, Tryz.results25, go_sem, r0, r1, r2, r3, r4]) rfl ?_
      refine ⟨HB5.out.trans (hs7.below HB5.out.size fun b hb h => by have h : b = w.heap.size := h; omega), ?_⟩
      rw [HV.out]
      exact ⟨_, rfl, ⟨y0, y1, y2, y3, y4, y5, y6⟩, F, rfl, HI5.out.kp hs7 (fun b hb h => by have h : b = w.heap.size := h; have := HFF.out b hb; omega) fun _ _ h => h, fun b hb => by have := HFF.out b hb; omega⟩
    · have HV : Hid (readM s = .error r.length) := by show _ = _; rw [HMM.out, if_neg hts]
      have hne2 : (str (txt t)).toList ≠ (str s).toList := by
        rw [ByteArray.toList_eq, ByteArray.toList_eq]
        simpa [str] using hts
      have hne3 : ((str (txt t)).toList == (str s).toList) = false := by simpa using hne2
      clear hts HMM
      generalize str (txt t) = S1 at hne2 hne3
      go_wp2_with (go_at_call 42; fail)
      refine (fai_any C s (w.heap.size + 1) w5 r HP5.out).mono ?_
      rintro e w6 ⟨he, hb⟩
      have HB6 : Hid (Below w.heap.size w w6) := below_step HB5.out hb
      rcases id he with ⟨h, -⟩ | ⟨v, old, rfl, -⟩
      · cases h
      have HE : Hid (EnIn w.heap.size (fun _ => False) w6 (.bail 3 ((s.length - r.length : Nat) : Int)) (.panicked ({ v := v, recovered := false } :: old))) := he.lo HB5.out.size
      clear he hb
      go_wp2
      refine ⟨rfl, HB6.out, ?_⟩
      rw [HV.out]
      exact HE.out
namespace Fo
/-- What the closure of Parse sees: the text, and the path that it leaves. -/
def PrS (s : List UInt8) (bs bq : Nat) (F : Nat → Prop) (w : World) (t : PT) : Prop :=
  w.heap[bs]? = some (.cells #[.string (str s)] 9) ∧ (∃ x, w.heap[bq]? = some (pbox x) ∧ IsP (fun b => F b ∧ b ≠ bs ∧ b ≠ bq) w x t) ∧ F bs ∧ F bq ∧ ∀ b, F b → b < w.heap.size
theorem prs_st (s : List UInt8) (bs bq : Nat) : StF (PrS s bs bq) := ⟨fun {F G w w' x} h hk hG => by
    obtain ⟨h1, ⟨y, h2, h3⟩, h4, h5, h6⟩ := h
    exact ⟨hk.heap h1 (hG _ h4), ⟨y, hk.heap h2 (hG _ h5), h3.kp hk (fun b hb => hG b hb.1) fun _ _ h => h⟩, h4, h5, fun b hb => Nat.lt_of_lt_of_le (h6 b hb) hk.size⟩, fun h => h.2.2.2.2⟩
/-- How read ends, for those who catch. -/
def rdR (s : List UInt8) : En := match readM s with | .ok _ => .ret | .error n => .bail 3 ((s.length - n : Nat) : Int)
def rdT (s : List UInt8) : PT := match readM s with | .ok t => t | .error _ => PT.zero
end Fo
theorem fnv_par1 (bs bq : Nat) : Fnv Tryz.prog 24 #[.pointer (some ⟨bs, 0, none⟩), .pointer (some ⟨bq, 0, none⟩)] := enters_of Tryz.func24 (by kernel_rfl) rfl _
set_option maxHeartbeats 8000000 in
theorem par1_plays (C : BailSays) (s : List UInt8) (hs : s.length ≤ 100000) (bs bq : Nat) (hne : bs ≠ bq) (lo : Nat) (F : Nat → Prop) (w : World) (henv : EnvP lo w) (hx : PrS s bs bq F w PT.zero) :
    Plays Tryz.prog 24 #[.pointer (some ⟨bs, 0, none⟩), .pointer (some ⟨bq, 0, none⟩)] w (Fins (PrS s bs bq) F w (rdR s) (rdT s)) := by
  refine ⟨_, _, Tryz.func24, rfl, ?_⟩
  simp only [Tryz.ntmps24, List.size_toArray, List.length_cons, List.length_nil, Nat.reduceAdd, Nat.reduceSub, Array.replicate_succ, Array.replicate_zero, List.push_toArray, List.append_toArray, List.nil_append, List.cons_append]
  have HX : Hid (PrS s bs bq F w PT.zero) := hx
  have HC : Hid (Calls Tryz.prog 25 #[.string (str s)] w (RdE s w)) := read_any C w s hs lo henv
  have c0 : w.cell? ⟨bs, 0, none⟩ = some (.string (str s)) := by rw [cell_of_row _ _ _ _ _ _ hx.1]; rfl
  have HNE : Hid (bs ≠ bq) := hne
  clear hx henv hs hne
  go_wp2_with (go_at_call 25; fail)
  refine HC.out.mono ?_
  rintro e w2 ⟨hb, hw⟩
  have HB : Hid (Below w.heap.size w w2) := hb
  obtain ⟨h1, ⟨x, h2, h3⟩, h4, h5, h6⟩ := HX.out
  cases hwm : readM s with
  | error er =>
    rw [hwm] at hw
    have HR : Hid (rdR s = .bail 3 ((s.length - er : Nat) : Int)) := by show _ = _; unfold rdR; rw [hwm]
    have HT : Hid (rdT s = PT.zero) := by show _ = _; unfold rdT; rw [hwm]
    rcases id hw with ⟨h, -⟩ | ⟨v, old, rfl, -⟩
    · cases h
    have HE : Hid (EnIn w.heap.size (fun _ => False) w2 (.bail 3 ((s.length - er : Nat) : Int)) (.panicked ({ v := v, recovered := false } :: old))) := hw
    clear hw hwm h1 h2 h3 h4 h5 h6 hb
    go_wp2
    refine ⟨rfl, F, ?_, ?_⟩
    · rw [HT.out]; exact (prs_st s bs bq).lft HX.out HB.out
    · rw [HR.out]; exact HE.out.of_no fun b hb => HX.out.2.2.2.2 b hb
  | ok t =>
    rw [hwm] at hw
    obtain ⟨v, rfl, y, Fy, hv, hi, hff⟩ := hw
    subst hv
    obtain ⟨y0, y1, y2, y3, y4, y5, y6⟩ := y
    unfold PV.v
    have HR : Hid (rdR s = .ret) := by show _ = _; unfold rdR; rw [hwm]
    have HT : Hid (rdT s = t) := by show _ = _; unfold rdT; rw [hwm]
    obtain ⟨x0, x1, x2, x3, x4, x5, x6⟩ := x
    have HG2 : Hid (w2.heap[bq]? = some (.cells #[.int .i64 x0, .string x1, .slice x2 x3 x4, .int .i64 x5, .int .i64 x6] 25)) := (hb.block _ (h6 _ h5)).trans h2
    have HI : Hid (IsP Fy w2 ⟨y0, y1, y2, y3, y4, y5, y6⟩ t) := hi
    have HFY : Hid (∀ b, Fy b → w.heap.size ≤ b) := hff
    have HS2 : Hid (w2.heap[bs]? = some (.cells #[.string (str s)] 9)) := (hb.block _ (h6 _ h4)).trans h1
    clear hwm hi hff h1 h2 h3 h4 h5 h6 hb
    obtain ⟨⟨z0, z1, z2, z3, z4⟩, ⟨f0, f1, f2, f3, f4⟩, g0, g1, g2, g3, g4⟩ := box5_facts HG2.out
    obtain ⟨hs6, hs7⟩ := st5 HG2.out (.int .i64 y0) (.string y1) (.slice y2 y3 y4) (.int .i64 y5) (.int .i64 y6)
    have HS6 : Hid (_ = _) := hs6
    have HS7 : Hid (Kp (fun b => b = bq) w2 (((((w2.setCell ⟨bq, 0, none⟩ (.int .i64 y0)).setCell ⟨bq, 1, none⟩ (.string y1)).setCell ⟨bq, 2, none⟩ (.slice y2 y3 y4)).setCell ⟨bq, 3, none⟩ (.int .i64 y5)).setCell ⟨bq, 4, none⟩ (.int .i64 y6))) := hs7
    clear hs6 hs7
    go_wp2
    generalize ((((w2.setCell ⟨bq, 0, none⟩ (.int .i64 y0)).setCell ⟨bq, 1, none⟩ (.string y1)).setCell ⟨bq, 2, none⟩ (.slice y2 y3 y4)).setCell ⟨bq, 3, none⟩ (.int .i64 y5)).setCell ⟨bq, 4, none⟩ (.int .i64 y6) = W5 at HS6 HS7 ⊢
    go_end0
    obtain ⟨-, -, h4, h5, h6⟩ := HX.out
    have hq1 := h6 _ h5
    have hq2 := h6 _ h4
    refine ⟨fun b => F b ∨ (w.heap.size ≤ b ∧ b < W5.heap.size), ⟨?_, ?_, ?_⟩, ?_⟩
    · rw [HT.out]
      refine ⟨HS7.out.heap HS2.out (fun h => HNE.out h), ⟨⟨y0, y1, y2, y3, y4, y5, y6⟩, HS6.out, ?_⟩, Or.inl h4, Or.inl h5, fun b hb => ?_⟩
      · refine (HI.out.lt).kp HS7.out (fun b hb h => by have h : b = bq := h; have := HFY.out b hb.1; omega) fun b _ hb => ?_
        have h7 := HFY.out b hb.1
        have h8 := HS7.out.size
        exact ⟨Or.inr ⟨h7, by have := hb.2; omega⟩, by omega, by omega⟩
      · rcases hb with hb | hb
        · have := h6 b hb; have h8 := HS7.out.size; have h9 := HB.out.size; omega
        · exact hb.2
    · intro b hb
      rcases hb with hb | hb
      · exact Or.inl hb
      · exact Or.inr hb.1
    · exact (Kp.of_below (F := F) HB.out).trans HS7.out fun b _ h => by have h : b = bq := h; rw [h]; exact h5
    · rw [HR.out]; exact Or.inl ⟨rfl, rfl⟩
end Go.Proofs.YtbgkfjelgnbfmaaGreatDoor
