/- The parser: lists. -/
import Derived.Test.YtbgkfjelgnbfmaaGreatDoorPsg
namespace Go.Proofs.YtbgkfjelgnbfmaaGreatDoor
open Go.RowKit Fo
set_option maxRecDepth 100000
set_option linter.unusedSimpArgs false
set_option linter.unusedVariables false

theorem one_row (w : World) (y : PV) : PRow (fun _ => True) (w.alloc (pbox y)) (some ⟨w.heap.size, 0, none⟩) 1 1 fun _ => y := by
  refine ⟨Nat.le_refl _, by decide, Or.inr ⟨_, 0, rfl, trivial, fun j hj => ?_⟩⟩
  obtain rfl : j = 0 := by omega
  exact PAt.of_pbox (heap_new1 w _)
namespace Fo
theorem catP_at {X : Nat → PV} {n : Nat} {Y : Nat → PV} (j : Nat) (h : j < n) : catP X n Y j = X j := by unfold catP; rw [if_pos h]
theorem catP_last {X : Nat → PV} {n : Nat} {y : PV} : catP X n (fun _ => y) n = y := by unfold catP; rw [if_neg (Nat.lt_irrefl n)]
/-- Trees in a row. -/
def Trs (F : Nat → Prop) (w : World) (V : Nat → PV) (ts : List PT) : Prop := ∀ (j : Nat) (h : j < ts.length), IsP F w (V j) ts[j]
theorem Trs.kp {F F' G : Nat → Prop} {w w' : World} {V : Nat → PV} {ts : List PT} (h : Trs F w V ts) (hk : Kp G w w') (hG : ∀ b, F b → ¬ G b) (hF : ∀ b, b < w.heap.size → F b → F' b) : Trs F' w' V ts := fun j hj => (h j hj).kp hk hG hF
theorem Trs.lt {F : Nat → Prop} {w : World} {V : Nat → PV} {ts : List PT} (h : Trs F w V ts) : Trs (fun b => F b ∧ b < w.heap.size) w V ts := fun j hj => (h j hj).lt
theorem Trs.snoc {F : Nat → Prop} {w : World} {V : Nat → PV} {ts : List PT} {t : PT} {y : PV} (h : Trs F w V ts) (hy : IsP F w y t) : Trs F w (catP V ts.length fun _ => y) (ts ++ [t]) := fun j hj => by
  by_cases e : j < ts.length
  · rw [catP_at j e, List.getElem_append_left e]; exact h j e
  · have e' : j = ts.length := by simp at hj; omega
    subst e'
    rw [catP_last]
    simpa using hy
def mstep (one : List UInt8 → Rs) (sign : UInt8) (m : Nat) (ts : List PT) (r : List UInt8) : Except Nat (List PT × List UInt8) :=
  match one r with
  | .error e => .error e
  | .ok (t, r') => more one sign m (ts ++ [t]) r'
end Fo
set_option maxHeartbeats 16000000 in
theorem lst_any (C : BailSays) (lo : Nat) (full : List UInt8) (bp : Nat) (g : FuncId) (hfn : ∀ w : World, (callFunc g #[.pointer (some ⟨bp, 0, none⟩)]).run Tryz.prog w = .ok (.enter g #[.pointer (some ⟨bp, 0, none⟩)]) w)
    (one : List UInt8 → Rs) (k : Int) (sign : UInt8) (s : List UInt8) (hf : full.length ≤ 100000) (hlo : lo ≤ bp)
    (hone : ∀ (w : World) (s' : List UInt8), s'.length ≤ s.length → PIn full bp w s' → EnvP lo w → Calls Tryz.prog g #[.pointer (some ⟨bp, 0, none⟩)] w (PEnd full bp w (one s') (fun w' v t => TOk w.heap.size w' v t)))
    (hlen : ∀ (s' : List UInt8) (t : PT) (r : List UInt8), one s' = .ok (t, r) → r.length ≤ s'.length)
    (w : World) (h : PIn full bp w s) (henv : EnvP lo w) :
    Calls Tryz.prog 63 #[.pointer (some ⟨bp, 0, none⟩), .int .i64 k, .int .u8 sign.toNat, .func (.func g) #[.pointer (some ⟨bp, 0, none⟩)] #[]] w (PEnd full bp w (lstG k sign one s) (fun w' v t => TOk w.heap.size w' v t)) := by
  have HF : Hid (full.length ≤ 100000) := hf
  have HLO : Hid (lo ≤ bp) := hlo
  have HBP : Hid (bp < w.heap.size) := lt_of_heap h.heap
  have HSF : Hid (s.length ≤ full.length) := h.suf.1
  have HONE : Hid (∀ (w : World) (s' : List UInt8), s'.length ≤ s.length → PIn full bp w s' → EnvP lo w → Calls Tryz.prog g #[.pointer (some ⟨bp, 0, none⟩)] w (PEnd full bp w (one s') (fun w' v t => TOk w.heap.size w' v t))) := hone
  have HLEN : Hid (∀ (s' : List UInt8) (t : PT) (r : List UInt8), one s' = .ok (t, r) → r.length ≤ s'.length) := hlen
  have HM : Hid (lstG k sign one s = match one s with | .error e => .error e | .ok (t, r) => match more one sign (r.length + 1) [t] r with | .error e => .error e | .ok (ts, r') => .ok (outL k ts, r')) := rfl
  obtain ⟨M, hM⟩ : ∃ M, M = lstG k sign one s := ⟨_, rfl⟩
  rw [← hM] at HM ⊢
  clear hM
  obtain ⟨W1, hW1⟩ : ∃ W1, W1 = w.alloc (.cells #[.int .i64 0, .string ⟨#[]⟩, .slice none 0 0, .int .i64 0, .int .i64 0] 25) := ⟨_, rfl⟩
  have HBW1 : Hid (Below w.heap.size w W1) := by rw [hW1]; exact below1 w _
  have HGW1 : Hid (W1.heap[w.heap.size]? = some (.cells #[.int .i64 0, .string ⟨#[]⟩, .slice none 0 0, .int .i64 0, .int .i64 0] 25)) := by show W1.heap[_]? = _; rw [hW1]; exact heap_new1 w _
  have HP1 : Hid (PIn full bp W1 s) := h.below HBW1.out
  have HE1 : Hid (EnvP lo W1) := henv.below HBW1.out
  have HZ1 : Hid (W1.heap.size = w.heap.size + 1) := by show _ = _; rw [hW1]; simp
  have HC1 : Hid (Calls _ _ _ _ _) := hone W1 s (Nat.le_refl _) HP1.out HE1.out
  clear h henv hone hf hlo hlen
  go_enter Tryz.func63, Tryz.ntmps63
  go_wp2
  rw [← hW1]
  clear hW1
  refine HC1.out.mono ?_
  intro e w2 hw
  cases hwm : one s with
  | error er =>
    rw [hwm] at hw
    obtain ⟨he, hk⟩ := hw
    have HV : Hid (M = .error er) := by show _ = _; rw [HM.out, hwm]
    clear hwm
    rcases id he with ⟨h, -⟩ | ⟨v, old, rfl, -⟩
    · cases h
    have HE : Hid (EnIn w.heap.size (fun _ => False) _ _ (.panicked ({ v := v, recovered := false } :: old))) := he.lo HBW1.out.size
    have HKE : Hid (Kp (fun b => b = bp) w _) := (Kp.of_below HBW1.out).seq hk
    clear he
    go_wp2
    refine ⟨rfl, ?_⟩
    rw [HV.out]
    exact ⟨HE.out, HKE.out⟩
  | ok q =>
    obtain ⟨t0, s2⟩ := q
    rw [hwm] at hw
    obtain ⟨v, rfl, ⟨x, F0, hv, hi, hf0⟩, hp, hk⟩ := hw
    subst hv
    obtain ⟨x0, x1, x2, x3, x4, x5, x6⟩ := x
    unfold PV.v
    have hv := HM.out
    rw [hwm] at hv
    clear HM
    have HM : Hid (M = match more one sign (s2.length + 1) [t0] s2 with | .error e => .error e | .ok (ts, r') => .ok (outL k ts, r')) := hv
    have HL2 : Hid (s2.length ≤ s.length) := HLEN.out s t0 s2 hwm
    have hsz : W1.heap.size ≤ w2.heap.size := hk.size
    obtain ⟨W3, hW3⟩ : ∃ W3, W3 = w2.alloc (.cells #[.int .i64 x0, .string x1, .slice x2 x3 x4, .int .i64 x5, .int .i64 x6] 25) := ⟨_, rfl⟩
    have b3 : Below w2.heap.size w2 W3 := by rw [hW3]; exact below1 w2 _
    have HPs : Hid (PIn full bp W3 s2) := hp.below b3
    have HKs : Hid (Kp (fun b => b = bp) w W3) := ((Kp.of_below HBW1.out).seq hk).bel b3
    have HEs : Hid (EnvP lo W3) := (HE1.out.kp hk (fun b hb => by rw [hb]; exact HLO.out)).below b3
    have HRs : Hid (W3.heap[w.heap.size]? = some (.cells #[.int .i64 0, .string ⟨#[]⟩, .slice none 0 0, .int .i64 0, .int .i64 0] 25)) := (b3.block _ (by have := HZ1.out; omega)).trans (hk.heap HGW1.out (fun h => by have h : w.heap.size = bp := h; have := HBP.out; omega))
    have HOs : Hid (OwP (w.heap.size + 1) W3 (.slice (some ⟨w2.heap.size, 0, none⟩) 1 1) 1 fun _ => ⟨x0, x1, x2, x3, x4, x5, x6⟩) := by show OwP _ _ _ _ _; rw [hW3]; exact OwP.one w2 _ ⟨x0, x1, x2, x3, x4, x5, x6⟩ (by have := HZ1.out; omega)
    have HTs : Hid (Trs (fun b => F0 b ∧ b < w2.heap.size) W3 (fun _ => ⟨x0, x1, x2, x3, x4, x5, x6⟩) [t0]) := fun j hj => by
      obtain rfl : j = 0 := by simpa using hj
      exact hi.lt.bel b3
    have HFs : Hid (∀ b, (F0 b ∧ b < w2.heap.size) → w.heap.size < b) := fun b hb => by
      have := hf0 b hb.1
      have := HZ1.out
      omega
    have HGs : Hid (∀ b, (F0 b ∧ b < w2.heap.size) → (Value.slice (some ⟨w2.heap.size, 0, none⟩) 1 1).ownBlock ≠ some b) := fun b hb he => by
      have : w2.heap.size = b := by simpa [Value.ownBlock] using he
      have := hb.2
      omega
    go_wp2
    rw [← hW3]
    clear hW3 hp hk hi hf0 b3 hsz hv hwm HBW1 HGW1 HE1 HP1 HZ1 HC1
    go_loopw [9] (fun v9 wr => ∃ (a : Option Addr) (c m : Nat) (ts : List PT) (u : List UInt8) (V : Nat → PV) (F : Nat → Prop), v9 = .slice a ts.length c ∧ Hid (M = match more one sign m ts u with | .error e => .error e | .ok (ts, r') => .ok (outL k ts, r')) ∧ Hid (u.length < m ∧ u.length ≤ s.length ∧ 1 ≤ ts.length ∧ ts.length + u.length ≤ s.length + 1) ∧ Hid (PIn full bp wr u) ∧ Hid (Kp (fun b => b = bp) w wr) ∧ Hid (EnvP lo wr) ∧ Hid (wr.heap[w.heap.size]? = some (.cells #[.int .i64 0, .string ⟨#[]⟩, .slice none 0 0, .int .i64 0, .int .i64 0] 25)) ∧ Hid (OwP (w.heap.size + 1) wr (.slice a ts.length c) ts.length V) ∧ Hid (Trs F wr V ts) ∧ Hid (∀ b, F b → w.heap.size < b) ∧ Hid (∀ b, F b → (Value.slice a ts.length c).ownBlock ≠ some b)) (fun _ wr => full.length - (boxInt wr (.pointer (some ⟨bp, 1, none⟩))).toNat)
    case atStart => exact ⟨_, _, s2.length + 1, [t0], s2, _, _, rfl, HM.out, ⟨Nat.lt_succ_self _, HL2.out, Nat.le_refl _, by have := HL2.out; simp; omega⟩, HPs.out, HKs.out, HEs.out, HRs.out, HOs.out, HTs.out, HFs.out, HGs.out⟩
    case round =>
      obtain ⟨a, c, m, ts, u, V, F, rfl, HQ, HN, HP0, HK0, HE0, HR0, HO0, HT0, HFF, HFG⟩ := hrel
      rename World => w0
      clear HPs HKs HEs HRs HOs HTs HFs HGs HM HL2
      obtain ⟨m', hm'⟩ : ∃ m', m = m' + 1 := ⟨m - 1, by have := HN.out.1; omega⟩
      subst hm'
      have HPOS : Hid (boxInt w0 (.pointer (some ⟨bp, 1, none⟩)) = ((full.length - u.length : Nat) : Int)) := HP0.out.pos
      have HSU : Hid (u.length ≤ full.length) := HP0.out.suf.1
      go_wp2_with (go_at_call 78; fail)
      refine (tak_any full bp w0 u sign.toNat (UInt8.toNat_lt sign) HP0.out HF.out).mono ?_
      intro e w1 ht
      have hcase : (∃ r, u = sign :: r ∧ e = .returned (.bool true) ∧ PIn full bp w1 r ∧ Kp (fun b => b = bp) w0 w1) ∨ (more one sign (m' + 1) ts u = .ok (ts, u) ∧ e = .returned (.bool false) ∧ Below w0.heap.size w0 w1) := by
        cases u with
        | nil =>
          obtain ⟨rfl, b1⟩ := ht
          exact Or.inr ⟨rfl, rfl, b1⟩
        | cons d r =>
          rcases ht with ⟨hc, rfl, hp, hk⟩ | ⟨hc, rfl, b1⟩
          · have hd : d = sign := u8_eq.1 hc
            subst hd
            exact Or.inl ⟨r, rfl, rfl, hp, hk⟩
          · have hd : d ≠ sign := fun e => hc (u8_eq.2 e)
            refine Or.inr ⟨?_, rfl, b1⟩
            show (if d = sign then _ else _) = _
            rw [if_neg hd]
      clear ht
      rcases hcase with ⟨r, rfl, rfl, hp, hk⟩ | ⟨hm, rfl, b1⟩
      · have hmore : more one sign (m' + 1) ts (sign :: r) = mstep one sign m' ts r := by
          show (if sign = sign then _ else _) = _
          rw [if_pos rfl]
          rfl
        have HQ2 : Hid (M = match mstep one sign m' ts r with | .error e => .error e | .ok (ts, r') => .ok (outL k ts, r')) := by show _ = _; rw [HQ.out, hmore]
        have HP1 : Hid (PIn full bp w1 r) := hp
        have HK1 : Hid (Kp (fun b => b = bp) w w1) := HK0.out.seq hk
        have HE1 : Hid (EnvP lo w1) := HE0.out.kp hk (fun b hb => by rw [hb]; exact HLO.out)
        have HR1 : Hid (w1.heap[w.heap.size]? = some (.cells #[.int .i64 0, .string ⟨#[]⟩, .slice none 0 0, .int .i64 0, .int .i64 0] 25)) := hk.heap HR0.out (fun h => by have h : w.heap.size = bp := h; have := HBP.out; omega)
        have HO1 : Hid (OwP (w.heap.size + 1) w1 (.slice a ts.length c) ts.length V) := HO0.out.kp hk fun g hg h => by have h : g = bp := h; have := (HO0.out.lt g hg).1; have := HBP.out; omega
        have HT1 : Hid (Trs F w1 V ts) := HT0.out.kp hk (fun b hb h => by have h : b = bp := h; have := HFF.out b hb; have := HBP.out; omega) fun _ _ h => h
        have HC1 : Hid (Calls _ _ _ _ _) := HONE.out w1 r (by have := HN.out.2.1; simp at this; omega) HP1.out HE1.out
        clear hp hk hmore HQ HP0 HK0 HE0 HR0 HO0 HT0
        go_wp2
        refine HC1.out.mono ?_
        intro e w3 hw
        cases hwm : one r with
        | error er =>
          rw [hwm] at hw
          obtain ⟨he, hk⟩ := hw
          have HV : Hid (M = .error er) := by show _ = _; rw [HQ2.out]; unfold mstep; rw [hwm]
          clear hwm
          rcases id he with ⟨h, -⟩ | ⟨v, old, rfl, -⟩
          · cases h
          have HE : Hid (EnIn w.heap.size (fun _ => False) _ _ (.panicked ({ v := v, recovered := false } :: old))) := he.lo HK1.out.size
          have HKE : Hid (Kp (fun b => b = bp) w _) := HK1.out.seq hk
          clear he
          go_wp2
          refine ⟨rfl, ?_⟩
          rw [HV.out]
          exact ⟨HE.out, HKE.out⟩
        | ok q =>
          obtain ⟨t1, r1⟩ := q
          rw [hwm] at hw
          obtain ⟨v, rfl, ⟨y, Fy, hv, hi, hfy⟩, hp, hk⟩ := hw
          subst hv
          obtain ⟨y0, y1, y2, y3, y4, y5, y6⟩ := y
          unfold PV.v
          have hl1 : r1.length ≤ r.length := HLEN.out r t1 r1 hwm
          have HL1 : Hid (r1.length ≤ r.length) := hl1
          have hq := HQ2.out
          unfold mstep at hq
          rw [hwm] at hq
          have HQ3 : Hid (M = match more one sign m' (ts ++ [t1]) r1 with | .error e => .error e | .ok (ts, r') => .ok (outL k ts, r')) := hq
          have HP3 : Hid (PIn full bp w3 r1) := hp
          have HK3 : Hid (Kp (fun b => b = bp) w w3) := HK1.out.seq hk
          have HE3 : Hid (EnvP lo w3) := HE1.out.kp hk (fun b hb => by rw [hb]; exact HLO.out)
          have HR3 : Hid (w3.heap[w.heap.size]? = some (.cells #[.int .i64 0, .string ⟨#[]⟩, .slice none 0 0, .int .i64 0, .int .i64 0] 25)) := hk.heap HR1.out (fun h => by have h : w.heap.size = bp := h; have := HBP.out; omega)
          have HO3 : Hid (OwP (w.heap.size + 1) w3 (.slice a ts.length c) ts.length V) := HO1.out.kp hk fun g hg h => by have h : g = bp := h; have := (HO1.out.lt g hg).1; have := HBP.out; omega
          have HT3 : Hid (Trs F w3 V ts) := HT1.out.kp hk (fun b hb h => by have h : b = bp := h; have := HFF.out b hb; have := HBP.out; omega) fun _ _ h => h
          have HI3 : Hid (IsP Fy w3 ⟨y0, y1, y2, y3, y4, y5, y6⟩ t1) := hi
          have HFY : Hid (∀ b, Fy b → w1.heap.size ≤ b) := hfy
          have HSZ : Hid (w.heap.size < w1.heap.size) := lt_of_heap HR1.out
          have HOL : Hid (∀ g, (Value.slice a ts.length c).ownBlock = some g → w.heap.size + 1 ≤ g ∧ g < w1.heap.size) := fun g hg => HO1.out.lt g hg
          have HNM : Hid (ts.length + 1 ≤ 100001) := by show _ ≤ _; have h1 := HN.out.2.2.2; have h2 := HF.out; have h3 := HSF.out; simp only [List.length_cons] at h1; omega
          clear hp hk hi hfy hl1 hq hwm HQ2 HP1 HK1 HE1 HR1 HO1 HT1 HC1
          go_wp2_with (at_builtin; refine wpList_appP rfl _ _ rfl (HO3.out.below (below1 w3 _)) (Nat.le_trans (by have := lt_of_heap HR3.out; omega) (below1 w3 _).size) (one_row w3 ⟨y0, y1, y2, y3, y4, y5, y6⟩) (by decide) (ts.length + 1) rfl (by have := HNM.out; omega) rfl rfl ?_; intro a7 c7 w7 hO7 hG7 hA7)
          have hkr : Kp (fun b => (Value.slice a ts.length c).ownBlock = some b) w3 w7 := (Kp.of_below (F := fun b => (Value.slice a ts.length c).ownBlock = some b) (below1 w3 _)).trans (Kp.of_grown (F := fun b => (Value.slice a ts.length c).ownBlock = some b) hG7 fun _ h => h) fun _ _ h => h
          have hp7 : PIn full bp w7 r1 := HP3.out.kp hkr fun h => by have := (HOL.out bp h).1; have := HBP.out; omega
          have hk7 : Kp (fun b => b = bp) w w7 := HK3.out.trans hkr fun b hb h => by have := (HOL.out b h).1; omega
          have he7 : EnvP lo w7 := HE3.out.kp hkr fun b h => by have := (HOL.out b h).1; have := HBP.out; have := HLO.out; omega
          have hr7 : w7.heap[w.heap.size]? = some (.cells #[.int .i64 0, .string ⟨#[]⟩, .slice none 0 0, .int .i64 0, .int .i64 0] 25) := hkr.heap HR3.out fun h => by have := (HOL.out _ h).1; omega
          have ht7 : Trs (fun b => (F b ∨ Fy b) ∧ b < w3.heap.size) w7 (catP V ts.length fun _ => ⟨y0, y1, y2, y3, y4, y5, y6⟩) (ts ++ [t1]) := by
            refine Trs.snoc ?_ ?_
            · exact (HT3.out.lt).kp hkr (fun b hb h => HFG.out b hb.1 h) fun b _ hb => ⟨Or.inl hb.1, hb.2⟩
            · exact (HI3.out.lt).kp hkr (fun b hb h => by have := HFY.out b hb.1; have := (HOL.out b h).2; omega) fun b _ hb => ⟨Or.inr hb.1, hb.2⟩
          have hff : ∀ b, ((F b ∨ Fy b) ∧ b < w3.heap.size) → w.heap.size < b := fun b hb => by
            rcases hb.1 with h | h
            · exact HFF.out b h
            · have := HFY.out b h; have := HSZ.out; omega
          have hfg : ∀ b, ((F b ∨ Fy b) ∧ b < w3.heap.size) → (Value.slice a7 (ts.length + 1) c7).ownBlock ≠ some b := fun b hb he => by
            rcases hA7 with h | h
            · rw [h] at he
              rcases hb.1 with h' | h'
              · exact HFG.out b h' he
              · have := HFY.out b h'; have := (HOL.out b he).2; omega
            · rw [h] at he
              have h2 : (w3.alloc (.cells #[.int .i64 y0, .string y1, .slice y2 y3 y4, .int .i64 y5, .int .i64 y6] 25)).heap.size = b := Option.some.inj he
              have h3 := hb.2
              simp at h2
              omega
          have hm : full.length - (boxInt w7 (.pointer (some ⟨bp, 1, none⟩))).toNat < full.length - (boxInt w0 (.pointer (some ⟨bp, 1, none⟩))).toNat := by
            rw [hp7.pos, HPOS.out]
            have h1 := HSU.out
            have h2 := HL1.out
            simp only [List.length_cons] at h1 ⊢
            omega
          refine ⟨⟨a7, c7, m', ts ++ [t1], r1, _, _, by simp, HQ3.out, ?_, hp7, hk7, he7, hr7, (by show OwP _ _ _ _ _; simpa using hO7), ht7, hff, (by show ∀ b, _ → _; simpa using hfg)⟩, hm⟩
          have h1 := HN.out
          have h2 := HL1.out
          simp only [List.length_cons] at h1
          show _ ∧ _ ∧ _ ∧ _
          simp only [List.length_append, List.length_cons, List.length_nil]
          omega
      · have HV : Hid (M = .ok (outL k ts, u)) := by show _ = _; rw [HQ.out, hm]
        have HPx : Hid (PIn full bp w1 u) := HP0.out.below b1
        have HKx : Hid (Kp (fun b => b = bp) w w1) := HK0.out.bel b1
        have HRx : Hid (w1.heap[w.heap.size]? = some (.cells #[.int .i64 0, .string ⟨#[]⟩, .slice none 0 0, .int .i64 0, .int .i64 0] 25)) := (b1.block _ (lt_of_heap HR0.out)).trans HR0.out
        have HOx : Hid (OwP (w.heap.size + 1) w1 (.slice a ts.length c) ts.length V) := HO0.out.below b1
        have HTx : Hid (Trs F w1 V ts) := HT0.out.kp (Kp.of_below (F := fun _ => False) b1) (fun _ _ h => h) fun _ _ h => h
        clear b1 hm HQ HP0 HK0 HE0 HR0 HO0 HT0
        by_cases h1 : ts.length = 1
        · obtain ⟨t, rfl⟩ := List.length_eq_one_iff.1 h1
          obtain ⟨a', c', e, hr⟩ := HOx.out.row
          have hrr := hr
          injection e with e1 e2 e3
          subst e1 e3
          obtain ⟨g, off, rfl, -, hc⟩ := hr.2.2.resolve_left (by simp)
          have hP := hc 0 (by simp)
          have hT := HTx.out 0 (by simp)
          rw [show ([t] : List PT)[0]'(by simp) = t from rfl] at hT
          obtain ⟨y, hy⟩ : ∃ y, y = V 0 := ⟨_, rfl⟩
          rw [← hy] at hP hT
          have HY : Hid (IsP F w1 y t) := hT
          have HVV : Hid (M = .ok (t, u)) := HV.out
          clear hc hT hy h1 hr hrr HV HOx HTx
          obtain ⟨c0, c1, c2, c3, c4⟩ := hP
          obtain ⟨y0, y1, y2, y3, y4, y5, y6⟩ := y
          simp only [Nat.zero_mul, Nat.add_zero] at c0 c1 c2 c3 c4
          obtain ⟨⟨z0, z1, z2, z3, z4⟩, ⟨f0, f1, f2, f3, f4⟩, g0, g1, g2, g3, g4⟩ := box5_facts HRx.out
          have HRX := HRx.out
          simp only [List.length_cons, List.length_nil, Nat.zero_add]
          go_wp2
          obtain ⟨hs6, hs7⟩ := st5 HRX (.int .i64 y0) (.string y1) (.slice y2 y3 y4) (.int .i64 y5) (.int .i64 y6)
          generalize (((((w1.setCell ⟨w.heap.size, 0, none⟩ (.int .i64 y0)).setCell ⟨w.heap.size, 1, none⟩ (.string y1)).setCell ⟨w.heap.size, 2, none⟩ (.slice y2 y3 y4)).setCell ⟨w.heap.size, 3, none⟩ (.int .i64 y5)).setCell ⟨w.heap.size, 4, none⟩ (.int .i64 y6)) = W10 at hs6 hs7 ⊢
          have r0 := cell_of_row _ _ 0 _ _ _ hs6
          have r1 := cell_of_row _ _ 1 _ _ _ hs6
          have r2 := cell_of_row _ _ 2 _ _ _ hs6
          have r3 := cell_of_row _ _ 3 _ _ _ hs6
          have r4 := cell_of_row _ _ 4 _ _ _ hs6
          simp only [List.getElem?_toArray, List.getElem?_cons_zero, List.getElem?_cons_succ] at r0 r1 r2 r3 r4
          refine bodyPost_ret (v := .agg #[.int .i64 y0, .string y1, .slice y2 y3 y4, .int .i64 y5, .int .i64 y6]) (by simp [results, Tryz.results63, go_sem, r0, r1, r2, r3, r4]) rfl ?_
          rw [HVV.out]
          refine ⟨_, rfl, ⟨⟨y0, y1, y2, y3, y4, y5, y6⟩, F, rfl, HY.out.kp hs7 (fun b hb h => by have h : b = w.heap.size := h; have := HFF.out b hb; omega) fun _ _ h => h, fun b hb => by have := HFF.out b hb; omega⟩, HPx.out.kp hs7 (fun h => by have h : bp = w.heap.size := h; have := HBP.out; omega), HKx.out.trans hs7 fun b hb h => by have h : b = w.heap.size := h; omega⟩
        · have hne : ((ts.length : Int) == 1) = false := by simp; omega
          have HVV : Hid (M = .ok (.mk k [] ts 0 0, u)) := by
            show _ = _
            rw [HV.out]
            match ts, h1 with
            | [], _ => rfl
            | _ :: _ :: _, _ => rfl
          obtain ⟨a', c', e, hr⟩ := HOx.out.row
          injection e with e1 e2 e3
          subst e1 e3
          have HRR : Hid (PRow (fun b => (Value.slice a ts.length c).ownBlock = some b) w1 a ts.length c V) := hr
          clear hr HV h1
          obtain ⟨⟨z0, z1, z2, z3, z4⟩, ⟨f0, f1, f2, f3, f4⟩, g0, g1, g2, g3, g4⟩ := box5_facts HRx.out
          have HRX := HRx.out
          go_wp2
          obtain ⟨hs6, hs7⟩ := st5 HRX (.int .i64 k) (.string ⟨#[]⟩) (.slice a ts.length c) (.int .i64 0) (.int .i64 0)
          generalize (((((w1.setCell ⟨w.heap.size, 0, none⟩ (.int .i64 k)).setCell ⟨w.heap.size, 1, none⟩ (.string ⟨#[]⟩)).setCell ⟨w.heap.size, 2, none⟩ (.slice a ts.length c)).setCell ⟨w.heap.size, 3, none⟩ (.int .i64 0)).setCell ⟨w.heap.size, 4, none⟩ (.int .i64 0)) = W10 at hs6 hs7 ⊢
          have r0 := cell_of_row _ _ 0 _ _ _ hs6
          have r1 := cell_of_row _ _ 1 _ _ _ hs6
          have r2 := cell_of_row _ _ 2 _ _ _ hs6
          have r3 := cell_of_row _ _ 3 _ _ _ hs6
          have r4 := cell_of_row _ _ 4 _ _ _ hs6
          simp only [List.getElem?_toArray, List.getElem?_cons_zero, List.getElem?_cons_succ] at r0 r1 r2 r3 r4
          refine bodyPost_ret (v := .agg #[.int .i64 k, .string ⟨#[]⟩, .slice a ts.length c, .int .i64 0, .int .i64 0]) (by simp [results, Tryz.results63, go_sem, r0, r1, r2, r3, r4]) rfl ?_
          rw [HVV.out]
          refine ⟨_, rfl, ⟨⟨k, ⟨#[]⟩, a, ts.length, c, 0, 0⟩, fun b => F b ∨ (Value.slice a ts.length c).ownBlock = some b, rfl, ?_, fun b hb => ?_⟩, HPx.out.kp hs7 (fun h => by have h : bp = w.heap.size := h; have := HBP.out; omega), HKx.out.trans hs7 fun b hb h => by have h : b = w.heap.size := h; omega⟩
          · have hG : ∀ b, (F b ∨ (Value.slice a ts.length c).ownBlock = some b) → ¬ b = w.heap.size := fun b hb h => by
              rcases hb with hb | hb
              · have := HFF.out b hb; omega
              · have := (HOx.out.lt b hb).1; omega
            exact IsP.mk (F := fun b => F b ∨ (Value.slice a ts.length c).ownBlock = some b) (w := W10) ⟨k, ⟨#[]⟩, a, ts.length, c, 0, 0⟩ V ts rfl ((HRR.out.kp hs7 (fun b hb => hG b (Or.inr hb)) fun _ _ h => Or.inr h)) fun j hj => (HTx.out j hj).kp hs7 (fun b hb => hG b (Or.inl hb)) fun _ _ h => Or.inl h
          · rcases hb with hb | hb
            · have := HFF.out b hb; omega
            · have := (HOx.out.lt b hb).1; omega
end Go.Proofs.YtbgkfjelgnbfmaaGreatDoor
