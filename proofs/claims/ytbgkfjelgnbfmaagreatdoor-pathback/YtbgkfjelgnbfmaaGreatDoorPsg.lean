/- The parser: what is repeated. -/
import Derived.Test.YtbgkfjelgnbfmaaGreatDoorPqt
import Derived.Test.YtbgkfjelgnbfmaaGreatDoorPdp
namespace Go.Proofs.YtbgkfjelgnbfmaaGreatDoor
open Go.RowKit Fo
set_option maxRecDepth 100000
set_option linter.unusedSimpArgs false
set_option linter.unusedVariables false

theorem box5_facts {w : World} {g : Nat} {x0 x1 x2 x3 x4 : Value} {t : TypeId} (hg : w.heap[g]? = some (.cells #[x0, x1, x2, x3, x4] t)) :
    (w.cell? ⟨g, 0, none⟩ = some x0 ∧ w.cell? ⟨g, 1, none⟩ = some x1 ∧ w.cell? ⟨g, 2, none⟩ = some x2 ∧ w.cell? ⟨g, 3, none⟩ = some x3 ∧ w.cell? ⟨g, 4, none⟩ = some x4) ∧
    (w.frozen? ⟨g, 0, none⟩ = false ∧ w.frozen? ⟨g, 1, none⟩ = false ∧ w.frozen? ⟨g, 2, none⟩ = false ∧ w.frozen? ⟨g, 3, none⟩ = false ∧ w.frozen? ⟨g, 4, none⟩ = false) ∧
    (∀ u, (w.setCell ⟨g, 0, none⟩ u).cell? ⟨g, 0, none⟩ = some u) ∧
    (∀ u v, ((w.setCell ⟨g, 0, none⟩ u).setCell ⟨g, 1, none⟩ v).cell? ⟨g, 1, none⟩ = some v) ∧
    (∀ u v y, (((w.setCell ⟨g, 0, none⟩ u).setCell ⟨g, 1, none⟩ v).setCell ⟨g, 2, none⟩ y).cell? ⟨g, 2, none⟩ = some y) ∧
    (∀ u v y z, ((((w.setCell ⟨g, 0, none⟩ u).setCell ⟨g, 1, none⟩ v).setCell ⟨g, 2, none⟩ y).setCell ⟨g, 3, none⟩ z).cell? ⟨g, 3, none⟩ = some z) ∧
    (∀ u v y z q, (((((w.setCell ⟨g, 0, none⟩ u).setCell ⟨g, 1, none⟩ v).setCell ⟨g, 2, none⟩ y).setCell ⟨g, 3, none⟩ z).setCell ⟨g, 4, none⟩ q).cell? ⟨g, 4, none⟩ = some q) := by
  have h0 : w.cell? ⟨g, 0, none⟩ = some x0 := by simp [World.cell?, hg]
  have h1 : w.cell? ⟨g, 1, none⟩ = some x1 := by simp [World.cell?, hg]
  have h2 : w.cell? ⟨g, 2, none⟩ = some x2 := by simp [World.cell?, hg]
  have h3 : w.cell? ⟨g, 3, none⟩ = some x3 := by simp [World.cell?, hg]
  have h4 : w.cell? ⟨g, 4, none⟩ = some x4 := by simp [World.cell?, hg]
  exact ⟨⟨h0, h1, h2, h3, h4⟩, ⟨by simp [World.frozen?, hg], by simp [World.frozen?, hg], by simp [World.frozen?, hg], by simp [World.frozen?, hg], by simp [World.frozen?, hg]⟩,
    fun u => World.cell?_setCell_same' w _ u (by rw [h0]; rfl), fun u v => World.cell?_setCell_same' _ _ v (by simp [h1, go_sem]), fun u v y => World.cell?_setCell_same' _ _ y (by simp [h2, go_sem]),
    fun u v y z => World.cell?_setCell_same' _ _ z (by simp [h3, go_sem]), fun u v y z q => World.cell?_setCell_same' _ _ q (by simp [h4, go_sem])⟩
theorem below_set5 {w w2 : World} {g : Nat} (h : Below w.heap.size w w2) (hg : w.heap.size ≤ g) (u v y z q : Value) :
    Below w.heap.size w (((((w2.setCell ⟨g, 0, none⟩ u).setCell ⟨g, 1, none⟩ v).setCell ⟨g, 2, none⟩ y).setCell ⟨g, 3, none⟩ z).setCell ⟨g, 4, none⟩ q) :=
  ((((h.setCell hg _).setCell hg _).setCell hg _).setCell hg _).setCell hg _
theorem st5 {w : World} {g : Nat} {x0 x1 x2 x3 x4 : Value} {t : TypeId} (hg : w.heap[g]? = some (.cells #[x0, x1, x2, x3, x4] t)) (u v y z q : Value) :
    (((((w.setCell ⟨g, 0, none⟩ u).setCell ⟨g, 1, none⟩ v).setCell ⟨g, 2, none⟩ y).setCell ⟨g, 3, none⟩ z).setCell ⟨g, 4, none⟩ q).heap[g]? = some (.cells #[u, v, y, z, q] t) ∧
    Kp (fun b => b = g) w (((((w.setCell ⟨g, 0, none⟩ u).setCell ⟨g, 1, none⟩ v).setCell ⟨g, 2, none⟩ y).setCell ⟨g, 3, none⟩ z).setCell ⟨g, 4, none⟩ q) := by
  refine ⟨by simp [World.setCell, Array.getElem?_modify, hg], ?_⟩
  exact (((((Kp.refl (fun b => b = g) w).set (p := ⟨g, 0, none⟩) (Or.inl rfl) u).set (p := ⟨g, 1, none⟩) (Or.inl rfl) v).set (p := ⟨g, 2, none⟩) (Or.inl rfl) y).set (p := ⟨g, 3, none⟩) (Or.inl rfl) z).set (p := ⟨g, 4, none⟩) (Or.inl rfl) q
theorem st2 {w : World} {g : Nat} {x0 x1 x2 x3 x4 : Value} {t : TypeId} (hg : w.heap[g]? = some (.cells #[x0, x1, x2, x3, x4] t)) (u v : Value) :
    ((w.setCell ⟨g, 3, none⟩ u).setCell ⟨g, 4, none⟩ v).heap[g]? = some (.cells #[x0, x1, x2, u, v] t) ∧ Kp (fun b => b = g) w ((w.setCell ⟨g, 3, none⟩ u).setCell ⟨g, 4, none⟩ v) ∧ (w.setCell ⟨g, 3, none⟩ u).cell? ⟨g, 4, none⟩ = some x4 := by
  have h1 : (w.setCell ⟨g, 3, none⟩ u).heap[g]? = some (.cells #[x0, x1, x2, u, x4] t) := by simp [World.setCell, Array.getElem?_modify, hg]
  refine ⟨by simp [World.setCell, Array.getElem?_modify, hg], ((Kp.refl (fun b => b = g) w).set (p := ⟨g, 3, none⟩) (Or.inl rfl) u).set (p := ⟨g, 4, none⟩) (Or.inl rfl) v, ?_⟩
  rw [cell_of_row _ _ _ _ _ _ h1]; rfl
namespace Fo
theorem IsP.relo {F : Nat → Prop} {w : World} {a : Int} {b : ByteArray} {c : Option Addr} {d e : Nat} {l0 h0 : Int} {k : Int} {l : List UInt8} {ks : List PT} {lo hi : Int} (h : IsP F w ⟨a, b, c, d, e, l0, h0⟩ (.mk k l ks lo hi)) (lo' hi' : Int) : IsP F w ⟨a, b, c, d, e, lo', hi'⟩ (.mk k l ks lo' hi') := by
  obtain ⟨V, ks', e1, h2, h3, h4⟩ := h.inv
  injection e1 with e1 e2 e3 e4 e5
  subst e1 e2 e3
  exact IsP.mk (F := F) (w := w) ⟨_, b, c, d, e, lo', hi'⟩ V _ h2 h3 h4
/-- A tree in new blocks. -/
def TOk (lo : Nat) (w' : World) (v : Value) (t : PT) : Prop := ∃ (x : PV) (F : Nat → Prop), v = x.v ∧ IsP F w' x t ∧ ∀ b, F b → lo ≤ b
theorem IsP.lt {F : Nat → Prop} {w : World} {x : PV} {t : PT} (h : IsP F w x t) : IsP (fun b => F b ∧ b < w.heap.size) w x t := by
  induction h with
  | mk x V ks hl hr _ ih =>
    refine .mk x V ks hl ?_ ih
    obtain ⟨h1, h2, h3⟩ := hr
    refine ⟨h1, h2, ?_⟩
    rcases h3 with h3 | ⟨b, off, e, hf, hc⟩
    · exact Or.inl h3
    · by_cases h0 : x.len = 0
      · exact Or.inl h0
      · exact Or.inr ⟨b, off, e, ⟨hf, (hc 0 (by omega)).lt⟩, hc⟩
end Fo
set_option maxHeartbeats 4000000 in
theorem ovr_any (F : Nat → Prop) (w : World) (x : PV) (t : PT) (k : Int) (hp : IsP F w x t) :
    Calls Tryz.prog 91 #[.int .i64 k, x.v] w fun e w' => (∃ y, e = .returned y.v ∧ IsP (fun b => F b ∨ w.heap.size ≤ b) w' y (ovr k t)) ∧ Below w.heap.size w w' := by
  have HP : Hid (IsP F w x t) := hp
  clear hp
  obtain ⟨kind, label, a, len, cap, lo', hi'⟩ := x
  unfold PV.v
  go_enter Tryz.func91, Tryz.ntmps91
  go_wp2
  obtain ⟨W3, hW3⟩ : ∃ W3, W3 = ((w.alloc (.cells #[.int .i64 kind, .string label, .slice a len cap, .int .i64 lo', .int .i64 hi'] 25)).alloc (.cells #[.int .i64 k, .string ⟨#[]⟩, .slice (some ⟨w.heap.size + 1 + 1, 0, none⟩) 1 1, .int .i64 0, .int .i64 0] 25)).alloc (.cells #[.int .i64 kind, .string label, .slice a len cap, .int .i64 lo', .int .i64 hi'] 25) := ⟨_, rfl⟩
  have hb : Below w.heap.size w W3 := by rw [hW3]; exact ((below1 w _).alloc (by simp) _).alloc (by simp <;> omega) _
  have hg1 : W3.heap[w.heap.size + 1]? = some (.cells #[.int .i64 k, .string ⟨#[]⟩, .slice (some ⟨w.heap.size + 1 + 1, 0, none⟩) 1 1, .int .i64 0, .int .i64 0] 25) := by
    rw [hW3]
    have := heap_new2 (w.alloc (.cells #[.int .i64 kind, .string label, .slice a len cap, .int .i64 lo', .int .i64 hi'] 25)) (.cells #[.int .i64 k, .string ⟨#[]⟩, .slice (some ⟨w.heap.size + 1 + 1, 0, none⟩) 1 1, .int .i64 0, .int .i64 0] 25) (.cells #[.int .i64 kind, .string label, .slice a len cap, .int .i64 lo', .int .i64 hi'] 25)
    simpa using this
  have hg2 : W3.heap[w.heap.size + 1 + 1]? = some (pbox ⟨kind, label, a, len, cap, lo', hi'⟩) := by
    rw [hW3]
    have := heap_new1 ((w.alloc (.cells #[.int .i64 kind, .string label, .slice a len cap, .int .i64 lo', .int .i64 hi'] 25)).alloc (.cells #[.int .i64 k, .string ⟨#[]⟩, .slice (some ⟨w.heap.size + 1 + 1, 0, none⟩) 1 1, .int .i64 0, .int .i64 0] 25)) (.cells #[.int .i64 kind, .string label, .slice a len cap, .int .i64 lo', .int .i64 hi'] 25)
    unfold pbox
    simpa using this
  rw [← hW3]
  clear hW3
  have r0 := cell_of_row _ _ 0 _ _ _ hg1
  have r1 := cell_of_row _ _ 1 _ _ _ hg1
  have r2 := cell_of_row _ _ 2 _ _ _ hg1
  have r3 := cell_of_row _ _ 3 _ _ _ hg1
  have r4 := cell_of_row _ _ 4 _ _ _ hg1
  simp only [List.getElem?_toArray, List.getElem?_cons_zero, List.getElem?_cons_succ] at r0 r1 r2 r3 r4
  refine bodyPost_ret (v := .agg #[.int .i64 k, .string ⟨#[]⟩, .slice (some ⟨w.heap.size + 1 + 1, 0, none⟩) 1 1, .int .i64 0, .int .i64 0]) (by simp [results, Tryz.results91, go_sem, r0, r1, r2, r3, r4]) rfl ?_
  refine ⟨⟨⟨k, ⟨#[]⟩, some ⟨w.heap.size + 1 + 1, 0, none⟩, 1, 1, 0, 0⟩, rfl, ?_⟩, hb⟩
  refine IsP.mk (F := fun b => F b ∨ w.heap.size ≤ b) (w := W3) ⟨k, ⟨#[]⟩, some ⟨w.heap.size + 1 + 1, 0, none⟩, 1, 1, 0, 0⟩ (fun _ => ⟨kind, label, a, len, cap, lo', hi'⟩) [t] rfl ⟨Nat.le_refl _, (by show (1 : Nat) ≤ _; omega), Or.inr ⟨_, 0, rfl, Or.inr (by omega), fun j hj => ?_⟩⟩ fun j hj => ?_
  · obtain rfl : j = 0 := by simpa using hj
    exact PAt.of_pbox hg2
  · obtain rfl : j = 0 := by simpa using hj
    exact (HP.out.bel hb).mono fun b h => Or.inl h
set_option maxHeartbeats 16000000 in
theorem sgn_any (C : BailSays) (lo : Nat) (full : List UInt8) (bp : Nat) (one : List UInt8 → Rs) (s : List UInt8) (hf : full.length ≤ 100000) (hlo : lo ≤ bp)
    (hone : ∀ w : World, PIn full bp w s → EnvP lo w → Calls Tryz.prog 90 #[.pointer (some ⟨bp, 0, none⟩)] w (PEnd full bp w (one s) (fun w' v t => TOk w.heap.size w' v t)))
    (w : World) (h : PIn full bp w s) (henv : EnvP lo w) :
    Calls Tryz.prog 79 #[.pointer (some ⟨bp, 0, none⟩)] w (PEnd full bp w (sgn RP one s) (fun w' v t => TOk w.heap.size w' v t)) := by
  have HF : Hid (full.length ≤ 100000) := hf
  have HLO : Hid (lo ≤ bp) := hlo
  have HBP : Hid (bp < w.heap.size) := lt_of_heap h.heap
  have HONE : Hid (∀ w : World, PIn full bp w s → EnvP lo w → Calls Tryz.prog 90 #[.pointer (some ⟨bp, 0, none⟩)] w (PEnd full bp w (one s) (fun w' v t => TOk w.heap.size w' v t))) := hone
  have HM : Hid (sgn RP one s = match one s with | .error e => .error e | .ok (p, r) => post RP (r.length + 1) p r) := rfl
  obtain ⟨M, hM⟩ : ∃ M, M = sgn RP one s := ⟨_, rfl⟩
  rw [← hM] at HM ⊢
  clear hM
  obtain ⟨W1, hW1⟩ : ∃ W1, W1 = w.alloc (.cells #[.int .i64 0, .string ⟨#[]⟩, .slice none 0 0, .int .i64 0, .int .i64 0] 25) := ⟨_, rfl⟩
  have HBW1 : Hid (Below w.heap.size w W1) := by rw [hW1]; exact below1 w _
  have HGW1 : Hid (W1.heap[w.heap.size]? = some (.cells #[.int .i64 0, .string ⟨#[]⟩, .slice none 0 0, .int .i64 0, .int .i64 0] 25)) := by show W1.heap[_]? = _; rw [hW1]; exact heap_new1 w _
  have HP1 : Hid (PIn full bp W1 s) := h.below HBW1.out
  have HE1 : Hid (EnvP lo W1) := henv.below HBW1.out
  have HZ1 : Hid (W1.heap.size = w.heap.size + 1) := by show _ = _; rw [hW1]; simp
  clear h henv hone hf hlo
  go_enter Tryz.func79, Tryz.ntmps79
  go_wp2_with (go_at_call 90; fail)
  rw [← hW1]
  clear hW1
  refine (HONE.out W1 HP1.out HE1.out).mono ?_
  intro e w2 hw
  cases hwm : one s with
  | error er =>
    rw [hwm] at hw
    obtain ⟨he, hk⟩ := hw
    have HV : Hid (M = .error er) := by show _ = _; rw [HM.out, hwm]
    clear hwm
    rcases id he with ⟨h, -⟩ | ⟨v, old, rfl, -⟩
    · cases h
    have HE : Hid (EnIn w.heap.size (fun _ => False) _ _ (.panicked ({ v := v, recovered := false } :: old))) := he.lo HBW1.out.size
    have HKE : Hid (Kp (fun b => b = bp) w _) := (Kp.of_below HBW1.out).seq hk
    clear he
    go_wp2
    refine ⟨rfl, ?_⟩
    rw [HV.out]
    exact ⟨HE.out, HKE.out⟩
  | ok q =>
    obtain ⟨t0, s2⟩ := q
    rw [hwm] at hw
    obtain ⟨v, rfl, ⟨x, F0, hv, hi, hf0⟩, hp, hk⟩ := hw
    subst hv
    obtain ⟨x0, x1, x2, x3, x4, x5, x6⟩ := x
    unfold PV.v
    have hv := HM.out
    rw [hwm] at hv
    clear HM hwm
    have HM : Hid (M = post RP (s2.length + 1) t0 s2) := hv
    obtain ⟨bv, hbv⟩ : ∃ bv, bv = w2.heap.size := ⟨_, rfl⟩
    have hsz : W1.heap.size ≤ w2.heap.size := hk.size
    have HBV : Hid (w.heap.size < bv) := by show _ < _; have := HZ1.out; omega
    obtain ⟨W3, hW3⟩ : ∃ W3, W3 = w2.alloc (.cells #[.int .i64 x0, .string x1, .slice x2 x3 x4, .int .i64 x5, .int .i64 x6] 25) := ⟨_, rfl⟩
    have b3 : Below w2.heap.size w2 W3 := by rw [hW3]; exact below1 w2 _
    have HPs : Hid (PIn full bp W3 s2) := hp.below b3
    have HKs : Hid (Kp (fun b => b = bp) w W3) := ((Kp.of_below HBW1.out).seq hk).bel b3
    have HEs : Hid (EnvP lo W3) := (HE1.out.kp hk (fun b hb => by rw [hb]; exact HLO.out)).below b3
    have HGs : Hid (W3.heap[bv]? = some (.cells #[.int .i64 x0, .string x1, .slice x2 x3 x4, .int .i64 x5, .int .i64 x6] 25)) := by show W3.heap[_]? = _; rw [hW3, hbv]; exact heap_new1 w2 _
    have HRs : Hid (W3.heap[w.heap.size]? = some (.cells #[.int .i64 0, .string ⟨#[]⟩, .slice none 0 0, .int .i64 0, .int .i64 0] 25)) := (b3.block _ (by have := HZ1.out; omega)).trans (hk.heap HGW1.out (fun h => by have h : w.heap.size = bp := h; have := HBP.out; omega))
    have HIs : Hid (IsP (fun b => F0 b ∧ b < w2.heap.size) W3 ⟨x0, x1, x2, x3, x4, x5, x6⟩ t0) := hi.lt.bel b3
    have HFs : Hid (∀ b, (F0 b ∧ b < w2.heap.size) → w.heap.size < b ∧ b ≠ bv) := fun b hb => by
      have := hf0 b hb.1
      have := HZ1.out
      have := hb.2
      exact ⟨by omega, by omega⟩
    go_wp2
    rw [← hW3]
    rw [← hbv]
    clear hW3 hp hk hi hf0 b3 hsz hv hbv HBW1 HGW1 HE1 HP1 HZ1
    go_loopw [] (fun wr => ∃ (n : Nat) (t : PT) (u : List UInt8) (x : PV) (F : Nat → Prop), Hid (M = post RP n t u) ∧ Hid (u.length < n) ∧ Hid (PIn full bp wr u) ∧ Hid (Kp (fun b => b = bp) w wr) ∧ Hid (EnvP lo wr) ∧ Hid (wr.heap[bv]? = some (pbox x)) ∧ Hid (wr.heap[w.heap.size]? = some (.cells #[.int .i64 0, .string ⟨#[]⟩, .slice none 0 0, .int .i64 0, .int .i64 0] 25)) ∧ Hid (IsP F wr x t) ∧ Hid (∀ b, F b → w.heap.size < b ∧ b ≠ bv)) (fun wr => full.length - (boxInt wr (.pointer (some ⟨bp, 1, none⟩))).toNat)
    case atStart => exact ⟨s2.length + 1, t0, s2, ⟨x0, x1, x2, x3, x4, x5, x6⟩, _, HM.out, Nat.lt_succ_self _, HPs.out, HKs.out, HEs.out, HGs.out, HRs.out, HIs.out, HFs.out⟩
    case round =>
      obtain ⟨n, t, u, x, F, HQ, HN, HP0, HK0, HE0, HG0', HR0, HI0, HFF⟩ := hrel
      rename World => w0
      clear HPs HKs HEs HGs HRs HIs HFs HM
      obtain ⟨n', hn'⟩ : ∃ n', n = n' + 1 := ⟨n - 1, by have := HN.out; omega⟩
      subst hn'
      have HPOS : Hid (boxInt w0 (.pointer (some ⟨bp, 1, none⟩)) = ((full.length - u.length : Nat) : Int)) := HP0.out.pos
      have HSU : Hid (u.length ≤ full.length) := HP0.out.suf.1
      obtain ⟨k0, k1, k2, k3, k4, k5, k6⟩ := x
      have HG0 : Hid (w0.heap[bv]? = some (.cells #[.int .i64 k0, .string k1, .slice k2 k3 k4, .int .i64 k5, .int .i64 k6] 25)) := HG0'.out
      clear HG0'
      cases u with
      | nil =>
        have HV : Hid (M = .ok (t, [])) := HQ.out
        go_wp2_with (go_at_call 78; fail)
        refine (tak_any full bp w0 [] 42 (by decide) HP0.out HF.out).mono ?_
        rintro e w1 ⟨rfl, b⟩
        have HP1 : Hid (PIn full bp w1 []) := HP0.out.below b
        have HK1 : Hid (Kp (fun b => b = bp) w w1) := HK0.out.bel b
        have HE1 : Hid (EnvP lo w1) := HE0.out.below b
        have HG1 : Hid (w1.heap[bv]? = some (.cells #[.int .i64 k0, .string k1, .slice k2 k3 k4, .int .i64 k5, .int .i64 k6] 25)) := (b.block _ (lt_of_heap HG0.out)).trans HG0.out
        have HR1 : Hid (w1.heap[w.heap.size]? = some (.cells #[.int .i64 0, .string ⟨#[]⟩, .slice none 0 0, .int .i64 0, .int .i64 0] 25)) := (b.block _ (lt_of_heap HR0.out)).trans HR0.out
        have HI1 : Hid (IsP F w1 ⟨k0, k1, k2, k3, k4, k5, k6⟩ t) := HI0.out.bel b
        clear b HP0 HK0 HE0 HG0 HR0 HI0
        go_wp2_with (go_at_call 78; fail)
        refine (tak_any full bp w1 [] 43 (by decide) HP1.out HF.out).mono ?_
        rintro e w2 ⟨rfl, b⟩
        have HP2 : Hid (PIn full bp w2 []) := HP1.out.below b
        have HK2 : Hid (Kp (fun b => b = bp) w w2) := HK1.out.bel b
        have HE2 : Hid (EnvP lo w2) := HE1.out.below b
        have HG2 : Hid (w2.heap[bv]? = some (.cells #[.int .i64 k0, .string k1, .slice k2 k3 k4, .int .i64 k5, .int .i64 k6] 25)) := (b.block _ (lt_of_heap HG1.out)).trans HG1.out
        have HR2 : Hid (w2.heap[w.heap.size]? = some (.cells #[.int .i64 0, .string ⟨#[]⟩, .slice none 0 0, .int .i64 0, .int .i64 0] 25)) := (b.block _ (lt_of_heap HR1.out)).trans HR1.out
        have HI2 : Hid (IsP F w2 ⟨k0, k1, k2, k3, k4, k5, k6⟩ t) := HI1.out.bel b
        clear b HP1 HK1 HE1 HG1 HR1 HI1
        go_wp2_with (go_at_call 78; fail)
        refine (tak_any full bp w2 [] 63 (by decide) HP2.out HF.out).mono ?_
        rintro e w3 ⟨rfl, b⟩
        have HP3 : Hid (PIn full bp w3 []) := HP2.out.below b
        have HK3 : Hid (Kp (fun b => b = bp) w w3) := HK2.out.bel b
        have HE3 : Hid (EnvP lo w3) := HE2.out.below b
        have HG3 : Hid (w3.heap[bv]? = some (.cells #[.int .i64 k0, .string k1, .slice k2 k3 k4, .int .i64 k5, .int .i64 k6] 25)) := (b.block _ (lt_of_heap HG2.out)).trans HG2.out
        have HR3 : Hid (w3.heap[w.heap.size]? = some (.cells #[.int .i64 0, .string ⟨#[]⟩, .slice none 0 0, .int .i64 0, .int .i64 0] 25)) := (b.block _ (lt_of_heap HR2.out)).trans HR2.out
        have HI3 : Hid (IsP F w3 ⟨k0, k1, k2, k3, k4, k5, k6⟩ t) := HI2.out.bel b
        clear b HP2 HK2 HE2 HG2 HR2 HI2
        go_wp2_with (go_at_call 78; fail)
        refine (tak_any full bp w3 [] 123 (by decide) HP3.out HF.out).mono ?_
        rintro e w4 ⟨rfl, b⟩
        have HP4 : Hid (PIn full bp w4 []) := HP3.out.below b
        have HK4 : Hid (Kp (fun b => b = bp) w w4) := HK3.out.bel b
        have HE4 : Hid (EnvP lo w4) := HE3.out.below b
        have HG4 : Hid (w4.heap[bv]? = some (.cells #[.int .i64 k0, .string k1, .slice k2 k3 k4, .int .i64 k5, .int .i64 k6] 25)) := (b.block _ (lt_of_heap HG3.out)).trans HG3.out
        have HR4 : Hid (w4.heap[w.heap.size]? = some (.cells #[.int .i64 0, .string ⟨#[]⟩, .slice none 0 0, .int .i64 0, .int .i64 0] 25)) := (b.block _ (lt_of_heap HR3.out)).trans HR3.out
        have HI4 : Hid (IsP F w4 ⟨k0, k1, k2, k3, k4, k5, k6⟩ t) := HI3.out.bel b
        clear b HP3 HK3 HE3 HG3 HR3 HI3
        have c0 := cell_of_row _ _ 0 _ _ _ HG4.out
        have c1 := cell_of_row _ _ 1 _ _ _ HG4.out
        have c2 := cell_of_row _ _ 2 _ _ _ HG4.out
        have c3 := cell_of_row _ _ 3 _ _ _ HG4.out
        have c4 := cell_of_row _ _ 4 _ _ _ HG4.out
        simp only [List.getElem?_toArray, List.getElem?_cons_zero, List.getElem?_cons_succ] at c0 c1 c2 c3 c4
        obtain ⟨⟨z0, z1, z2, z3, z4⟩, ⟨f0, f1, f2, f3, f4⟩, g0, g1, g2, g3, g4⟩ := box5_facts HR4.out
        go_wp2
        have HRX := HR4.out
        obtain ⟨hs6, hs7⟩ := st5 HRX (.int .i64 k0) (.string k1) (.slice k2 k3 k4) (.int .i64 k5) (.int .i64 k6)
        generalize (((((w4.setCell ⟨w.heap.size, 0, none⟩ (.int .i64 k0)).setCell ⟨w.heap.size, 1, none⟩ (.string k1)).setCell ⟨w.heap.size, 2, none⟩ (.slice k2 k3 k4)).setCell ⟨w.heap.size, 3, none⟩ (.int .i64 k5)).setCell ⟨w.heap.size, 4, none⟩ (.int .i64 k6)) = W10 at hs6 hs7 ⊢
        have r0 := cell_of_row _ _ 0 _ _ _ hs6
        have r1 := cell_of_row _ _ 1 _ _ _ hs6
        have r2 := cell_of_row _ _ 2 _ _ _ hs6
        have r3 := cell_of_row _ _ 3 _ _ _ hs6
        have r4 := cell_of_row _ _ 4 _ _ _ hs6
        simp only [List.getElem?_toArray, List.getElem?_cons_zero, List.getElem?_cons_succ] at r0 r1 r2 r3 r4
        refine bodyPost_ret (v := .agg #[.int .i64 k0, .string k1, .slice k2 k3 k4, .int .i64 k5, .int .i64 k6]) (by simp [results, Tryz.results79, go_sem, r0, r1, r2, r3, r4]) rfl ?_
        rw [HV.out]
        refine ⟨_, rfl, ⟨⟨k0, k1, k2, k3, k4, k5, k6⟩, F, rfl, HI4.out.kp hs7 (fun b hb h => by have h : b = w.heap.size := h; have := (HFF.out b hb).1; omega) fun _ _ h => h, fun b hb => by have := (HFF.out b hb).1; omega⟩, HP4.out.kp hs7 (fun h => by have h : bp = w.heap.size := h; have := HBP.out; omega), HK4.out.trans hs7 fun b hb h => by have h : b = w.heap.size := h; omega⟩
      | cons d r =>
        have hq : M = (if d = 42 then post RP n' (ovr 6 t) r else if d = 43 then post RP n' (ovr 7 t) r else if d = 63 then post RP n' (ovr 8 t) r else if d = 123 then (match RP.bnd r with | .error e => .error e | .ok (lo, hi, r') => post RP n' (.mk 9 [] [t] lo hi) r') else .ok (t, d :: r)) := HQ.out
        clear HQ
        by_cases h42 : d = 42
        · rw [if_pos h42] at hq
          have HQ2 : Hid (M = post RP n' (ovr 6 t) r) := hq
          have HD : Hid (d = 42) := h42
          clear hq h42
          go_wp2_with (go_at_call 78; fail)
          refine (tak_any full bp w0 (d :: r) 42 (by decide) HP0.out HF.out).mono ?_
          intro e w1 ht
          obtain ⟨rfl, hp, hk⟩ : e = .returned (.bool true) ∧ PIn full bp w1 r ∧ Kp (fun b => b = bp) w0 w1 := by
            rcases ht with ⟨-, h1, h2, h3⟩ | ⟨hc, -⟩
            · exact ⟨h1, h2, h3⟩
            · exact absurd (u8_eq.2 HD.out) hc
          clear ht
          have HP1 : Hid (PIn full bp w1 r) := hp
          have HK1 : Hid (Kp (fun b => b = bp) w w1) := HK0.out.seq hk
          have HE1 : Hid (EnvP lo w1) := HE0.out.kp hk (fun b hb => by rw [hb]; exact HLO.out)
          have HG1 : Hid (w1.heap[bv]? = some (.cells #[.int .i64 k0, .string k1, .slice k2 k3 k4, .int .i64 k5, .int .i64 k6] 25)) := hk.heap HG0.out (fun h => by have h : bv = bp := h; have := HBP.out; have := HBV.out; omega)
          have HR1 : Hid (w1.heap[w.heap.size]? = some (.cells #[.int .i64 0, .string ⟨#[]⟩, .slice none 0 0, .int .i64 0, .int .i64 0] 25)) := hk.heap HR0.out (fun h => by have h : w.heap.size = bp := h; have := HBP.out; omega)
          have HI1 : Hid (IsP F w1 ⟨k0, k1, k2, k3, k4, k5, k6⟩ t) := HI0.out.kp hk (fun b hb h => by have h : b = bp := h; have := (HFF.out b hb).1; have := HBP.out; omega) fun _ _ h => h
          clear hp hk HP0 HK0 HE0 HG0 HR0 HI0
          have c0 := cell_of_row _ _ 0 _ _ _ HG1.out
          have c1 := cell_of_row _ _ 1 _ _ _ HG1.out
          have c2 := cell_of_row _ _ 2 _ _ _ HG1.out
          have c3 := cell_of_row _ _ 3 _ _ _ HG1.out
          have c4 := cell_of_row _ _ 4 _ _ _ HG1.out
          simp only [List.getElem?_toArray, List.getElem?_cons_zero, List.getElem?_cons_succ] at c0 c1 c2 c3 c4
          go_wp2_with (go_at_call 91; fail)
          refine (ovr_any F w1 ⟨k0, k1, k2, k3, k4, k5, k6⟩ t 6 HI1.out).mono ?_
          rintro e w2 ⟨⟨y, rfl, hy⟩, b⟩
          obtain ⟨m0, m1, m2, m3, m4, m5, m6⟩ := y
          unfold PV.v
          have HY : Hid (IsP (fun b => F b ∨ w1.heap.size ≤ b) w2 ⟨m0, m1, m2, m3, m4, m5, m6⟩ (ovr 6 t)) := hy
          have HSZ : Hid (w.heap.size < w1.heap.size ∧ bv < w1.heap.size) := ⟨lt_of_heap HR1.out, lt_of_heap HG1.out⟩
          clear hy c0 c1 c2 c3 c4
          have HP2 : Hid (PIn full bp w2 r) := HP1.out.below b
          have HK2 : Hid (Kp (fun b => b = bp) w w2) := HK1.out.bel b
          have HE2 : Hid (EnvP lo w2) := HE1.out.below b
          have HG2 : Hid (w2.heap[bv]? = some (.cells #[.int .i64 k0, .string k1, .slice k2 k3 k4, .int .i64 k5, .int .i64 k6] 25)) := (b.block _ (lt_of_heap HG1.out)).trans HG1.out
          have HR2 : Hid (w2.heap[w.heap.size]? = some (.cells #[.int .i64 0, .string ⟨#[]⟩, .slice none 0 0, .int .i64 0, .int .i64 0] 25)) := (b.block _ (lt_of_heap HR1.out)).trans HR1.out
          have HI2 : Hid (IsP F w2 ⟨k0, k1, k2, k3, k4, k5, k6⟩ t) := HI1.out.bel b
          clear b HP1 HK1 HE1 HG1 HR1 HI1
          obtain ⟨⟨z0, z1, z2, z3, z4⟩, ⟨f0, f1, f2, f3, f4⟩, g0, g1, g2, g3, g4⟩ := box5_facts HG2.out
          obtain ⟨hs6, hs7⟩ := st5 HG2.out (.int .i64 m0) (.string m1) (.slice m2 m3 m4) (.int .i64 m5) (.int .i64 m6)
          have HS6 : Hid ((((((w2.setCell ⟨bv, 0, none⟩ (.int .i64 m0)).setCell ⟨bv, 1, none⟩ (.string m1)).setCell ⟨bv, 2, none⟩ (.slice m2 m3 m4)).setCell ⟨bv, 3, none⟩ (.int .i64 m5)).setCell ⟨bv, 4, none⟩ (.int .i64 m6)).heap[bv]? = some (.cells #[.int .i64 m0, .string m1, .slice m2 m3 m4, .int .i64 m5, .int .i64 m6] 25)) := hs6
          have HS7 : Hid (Kp (fun b => b = bv) w2 (((((w2.setCell ⟨bv, 0, none⟩ (.int .i64 m0)).setCell ⟨bv, 1, none⟩ (.string m1)).setCell ⟨bv, 2, none⟩ (.slice m2 m3 m4)).setCell ⟨bv, 3, none⟩ (.int .i64 m5)).setCell ⟨bv, 4, none⟩ (.int .i64 m6))) := hs7
          have HFF2 : Hid (∀ b, (F b ∨ w1.heap.size ≤ b) → w.heap.size < b ∧ b ≠ bv) := fun b hb => by
            have h1 := HSZ.out
            rcases hb with hb | hb
            · exact HFF.out b hb
            · exact ⟨by omega, by omega⟩
          clear hs6 hs7
          go_wp2
          have HY2 := HY.out
          generalize (((((w2.setCell ⟨bv, 0, none⟩ (.int .i64 m0)).setCell ⟨bv, 1, none⟩ (.string m1)).setCell ⟨bv, 2, none⟩ (.slice m2 m3 m4)).setCell ⟨bv, 3, none⟩ (.int .i64 m5)).setCell ⟨bv, 4, none⟩ (.int .i64 m6)) = W5 at HS6 HS7 ⊢
          obtain ⟨F2, hF2⟩ : ∃ F2 : Nat → Prop, F2 = fun b => F b ∨ w1.heap.size ≤ b := ⟨_, rfl⟩
          rw [← hF2] at HY
          have HFF3 : Hid (∀ b, F2 b → w.heap.size < b ∧ b ≠ bv) := by rw [hF2]; exact HFF2.out
          clear hF2 HFF2 HY2
          have HFF2 : Hid (∀ b, F2 b → w.heap.size < b ∧ b ≠ bv) := HFF3.out
          clear HFF3
          obtain ⟨T2, hT2⟩ : ∃ T2, T2 = ovr 6 t := ⟨_, rfl⟩
          rw [← hT2] at HY HQ2
          clear hT2
          have HPa : Hid (PIn full bp W5 r) := HP2.out.kp HS7.out (fun h => by have h : bp = bv := h; have := HBP.out; have := HBV.out; omega)
          have HKa : Hid (Kp (fun b => b = bp) w W5) := HK2.out.trans HS7.out fun b hb h => by have h : b = bv := h; have := HBV.out; omega
          have HEa : Hid (EnvP lo W5) := HE2.out.kp HS7.out fun b h => by have h : b = bv := h; have h1 := HBV.out; have h2 := HBP.out; have h3 := HLO.out; omega
          have HRa : Hid (W5.heap[w.heap.size]? = some (.cells #[.int .i64 0, .string ⟨#[]⟩, .slice none 0 0, .int .i64 0, .int .i64 0] 25)) := HS7.out.heap HR2.out (fun h => by have h : w.heap.size = bv := h; have := HBV.out; omega)
          have HIa : Hid (IsP F2 W5 ⟨m0, m1, m2, m3, m4, m5, m6⟩ T2) := HY.out.kp HS7.out (fun b hb h => (HFF2.out b hb).2 h) fun _ _ h => h
          have hm : full.length - (boxInt W5 (.pointer (some ⟨bp, 1, none⟩))).toNat < full.length - (boxInt w0 (.pointer (some ⟨bp, 1, none⟩))).toNat := by
            rw [HPa.out.pos, HPOS.out]
            have h1 := HSU.out
            simp only [List.length_cons] at h1 ⊢
            omega
          exact ⟨⟨n', T2, r, ⟨m0, m1, m2, m3, m4, m5, m6⟩, F2, HQ2.out, by have h := HN.out; simp only [List.length_cons] at h; show _ < _; omega, HPa.out, HKa.out, HEa.out, HS6.out, HRa.out, HIa.out, HFF2.out⟩, hm⟩
        by_cases h43 : d = 43
        · rw [if_neg h42, if_pos h43] at hq
          have HQ2 : Hid (M = post RP n' (ovr 7 t) r) := hq
          have HD : Hid (d = 43) := h43
          clear hq h43
          have HN42 : Hid (d ≠ 42) := h42
          clear h42
          go_wp2_with (go_at_call 78; fail)
          refine (tak_any full bp w0 (d :: r) 42 (by decide) HP0.out HF.out).mono ?_
          intro e w1 ht
          obtain ⟨rfl, b⟩ : e = .returned (.bool false) ∧ Below w0.heap.size w0 w1 := by
            rcases ht with ⟨hc, -⟩ | ⟨-, h1, h2⟩
            · exact absurd (u8_eq.1 hc) HN42.out
            · exact ⟨h1, h2⟩
          clear ht
          have HP1 : Hid (PIn full bp w1 (d :: r)) := HP0.out.below b
          have HK1 : Hid (Kp (fun b => b = bp) w w1) := HK0.out.bel b
          have HE1 : Hid (EnvP lo w1) := HE0.out.below b
          have HG1 : Hid (w1.heap[bv]? = some (.cells #[.int .i64 k0, .string k1, .slice k2 k3 k4, .int .i64 k5, .int .i64 k6] 25)) := (b.block _ (lt_of_heap HG0.out)).trans HG0.out
          have HR1 : Hid (w1.heap[w.heap.size]? = some (.cells #[.int .i64 0, .string ⟨#[]⟩, .slice none 0 0, .int .i64 0, .int .i64 0] 25)) := (b.block _ (lt_of_heap HR0.out)).trans HR0.out
          have HI1 : Hid (IsP F w1 ⟨k0, k1, k2, k3, k4, k5, k6⟩ t) := HI0.out.bel b
          clear b HP0 HK0 HE0 HG0 HR0 HI0
          go_wp2_with (go_at_call 78; fail)
          refine (tak_any full bp w1 (d :: r) 43 (by decide) HP1.out HF.out).mono ?_
          intro e w2 ht
          obtain ⟨rfl, hp, hk⟩ : e = .returned (.bool true) ∧ PIn full bp w2 r ∧ Kp (fun b => b = bp) w1 w2 := by
            rcases ht with ⟨-, h1, h2, h3⟩ | ⟨hc, -⟩
            · exact ⟨h1, h2, h3⟩
            · exact absurd (u8_eq.2 HD.out) hc
          clear ht
          have HP2 : Hid (PIn full bp w2 r) := hp
          have HK2 : Hid (Kp (fun b => b = bp) w w2) := HK1.out.seq hk
          have HE2 : Hid (EnvP lo w2) := HE1.out.kp hk (fun b hb => by rw [hb]; exact HLO.out)
          have HG2 : Hid (w2.heap[bv]? = some (.cells #[.int .i64 k0, .string k1, .slice k2 k3 k4, .int .i64 k5, .int .i64 k6] 25)) := hk.heap HG1.out (fun h => by have h : bv = bp := h; have := HBP.out; have := HBV.out; omega)
          have HR2 : Hid (w2.heap[w.heap.size]? = some (.cells #[.int .i64 0, .string ⟨#[]⟩, .slice none 0 0, .int .i64 0, .int .i64 0] 25)) := hk.heap HR1.out (fun h => by have h : w.heap.size = bp := h; have := HBP.out; omega)
          have HI2 : Hid (IsP F w2 ⟨k0, k1, k2, k3, k4, k5, k6⟩ t) := HI1.out.kp hk (fun b hb h => by have h : b = bp := h; have := (HFF.out b hb).1; have := HBP.out; omega) fun _ _ h => h
          clear hp hk HP1 HK1 HE1 HG1 HR1 HI1
          have c0 := cell_of_row _ _ 0 _ _ _ HG2.out
          have c1 := cell_of_row _ _ 1 _ _ _ HG2.out
          have c2 := cell_of_row _ _ 2 _ _ _ HG2.out
          have c3 := cell_of_row _ _ 3 _ _ _ HG2.out
          have c4 := cell_of_row _ _ 4 _ _ _ HG2.out
          simp only [List.getElem?_toArray, List.getElem?_cons_zero, List.getElem?_cons_succ] at c0 c1 c2 c3 c4
          go_wp2_with (go_at_call 91; fail)
          refine (ovr_any F w2 ⟨k0, k1, k2, k3, k4, k5, k6⟩ t 7 HI2.out).mono ?_
          rintro e w3 ⟨⟨y, rfl, hy⟩, b⟩
          obtain ⟨m0, m1, m2, m3, m4, m5, m6⟩ := y
          unfold PV.v
          have HY : Hid (IsP (fun b => F b ∨ w2.heap.size ≤ b) w3 ⟨m0, m1, m2, m3, m4, m5, m6⟩ (ovr 7 t)) := hy
          have HSZ : Hid (w.heap.size < w2.heap.size ∧ bv < w2.heap.size) := ⟨lt_of_heap HR2.out, lt_of_heap HG2.out⟩
          clear hy c0 c1 c2 c3 c4
          have HP3 : Hid (PIn full bp w3 r) := HP2.out.below b
          have HK3 : Hid (Kp (fun b => b = bp) w w3) := HK2.out.bel b
          have HE3 : Hid (EnvP lo w3) := HE2.out.below b
          have HG3 : Hid (w3.heap[bv]? = some (.cells #[.int .i64 k0, .string k1, .slice k2 k3 k4, .int .i64 k5, .int .i64 k6] 25)) := (b.block _ (lt_of_heap HG2.out)).trans HG2.out
          have HR3 : Hid (w3.heap[w.heap.size]? = some (.cells #[.int .i64 0, .string ⟨#[]⟩, .slice none 0 0, .int .i64 0, .int .i64 0] 25)) := (b.block _ (lt_of_heap HR2.out)).trans HR2.out
          have HI3 : Hid (IsP F w3 ⟨k0, k1, k2, k3, k4, k5, k6⟩ t) := HI2.out.bel b
          clear b HP2 HK2 HE2 HG2 HR2 HI2
          obtain ⟨⟨z0, z1, z2, z3, z4⟩, ⟨f0, f1, f2, f3, f4⟩, g0, g1, g2, g3, g4⟩ := box5_facts HG3.out
          obtain ⟨hs6, hs7⟩ := st5 HG3.out (.int .i64 m0) (.string m1) (.slice m2 m3 m4) (.int .i64 m5) (.int .i64 m6)
          have HS6 : Hid ((((((w3.setCell ⟨bv, 0, none⟩ (.int .i64 m0)).setCell ⟨bv, 1, none⟩ (.string m1)).setCell ⟨bv, 2, none⟩ (.slice m2 m3 m4)).setCell ⟨bv, 3, none⟩ (.int .i64 m5)).setCell ⟨bv, 4, none⟩ (.int .i64 m6)).heap[bv]? = some (.cells #[.int .i64 m0, .string m1, .slice m2 m3 m4, .int .i64 m5, .int .i64 m6] 25)) := hs6
          have HS7 : Hid (Kp (fun b => b = bv) w3 (((((w3.setCell ⟨bv, 0, none⟩ (.int .i64 m0)).setCell ⟨bv, 1, none⟩ (.string m1)).setCell ⟨bv, 2, none⟩ (.slice m2 m3 m4)).setCell ⟨bv, 3, none⟩ (.int .i64 m5)).setCell ⟨bv, 4, none⟩ (.int .i64 m6))) := hs7
          have HFF2 : Hid (∀ b, (F b ∨ w2.heap.size ≤ b) → w.heap.size < b ∧ b ≠ bv) := fun b hb => by
            have h1 := HSZ.out
            rcases hb with hb | hb
            · exact HFF.out b hb
            · exact ⟨by omega, by omega⟩
          clear hs6 hs7
          go_wp2
          have HY2 := HY.out
          generalize (((((w3.setCell ⟨bv, 0, none⟩ (.int .i64 m0)).setCell ⟨bv, 1, none⟩ (.string m1)).setCell ⟨bv, 2, none⟩ (.slice m2 m3 m4)).setCell ⟨bv, 3, none⟩ (.int .i64 m5)).setCell ⟨bv, 4, none⟩ (.int .i64 m6)) = W5 at HS6 HS7 ⊢
          obtain ⟨F2, hF2⟩ : ∃ F2 : Nat → Prop, F2 = fun b => F b ∨ w2.heap.size ≤ b := ⟨_, rfl⟩
          rw [← hF2] at HY
          have HFF3 : Hid (∀ b, F2 b → w.heap.size < b ∧ b ≠ bv) := by rw [hF2]; exact HFF2.out
          clear hF2 HFF2 HY2
          have HFF2 : Hid (∀ b, F2 b → w.heap.size < b ∧ b ≠ bv) := HFF3.out
          clear HFF3
          obtain ⟨T2, hT2⟩ : ∃ T2, T2 = ovr 7 t := ⟨_, rfl⟩
          rw [← hT2] at HY HQ2
          clear hT2
          have HPa : Hid (PIn full bp W5 r) := HP3.out.kp HS7.out (fun h => by have h : bp = bv := h; have := HBP.out; have := HBV.out; omega)
          have HKa : Hid (Kp (fun b => b = bp) w W5) := HK3.out.trans HS7.out fun b hb h => by have h : b = bv := h; have := HBV.out; omega
          have HEa : Hid (EnvP lo W5) := HE3.out.kp HS7.out fun b h => by have h : b = bv := h; have h1 := HBV.out; have h2 := HBP.out; have h3 := HLO.out; omega
          have HRa : Hid (W5.heap[w.heap.size]? = some (.cells #[.int .i64 0, .string ⟨#[]⟩, .slice none 0 0, .int .i64 0, .int .i64 0] 25)) := HS7.out.heap HR3.out (fun h => by have h : w.heap.size = bv := h; have := HBV.out; omega)
          have HIa : Hid (IsP F2 W5 ⟨m0, m1, m2, m3, m4, m5, m6⟩ T2) := HY.out.kp HS7.out (fun b hb h => (HFF2.out b hb).2 h) fun _ _ h => h
          have hm : full.length - (boxInt W5 (.pointer (some ⟨bp, 1, none⟩))).toNat < full.length - (boxInt w0 (.pointer (some ⟨bp, 1, none⟩))).toNat := by
            rw [HPa.out.pos, HPOS.out]
            have h1 := HSU.out
            simp only [List.length_cons] at h1 ⊢
            omega
          exact ⟨⟨n', T2, r, ⟨m0, m1, m2, m3, m4, m5, m6⟩, F2, HQ2.out, by have h := HN.out; simp only [List.length_cons] at h; show _ < _; omega, HPa.out, HKa.out, HEa.out, HS6.out, HRa.out, HIa.out, HFF2.out⟩, hm⟩
        by_cases h63 : d = 63
        · rw [if_neg h42, if_neg h43, if_pos h63] at hq
          have HQ2 : Hid (M = post RP n' (ovr 8 t) r) := hq
          have HD : Hid (d = 63) := h63
          clear hq h63
          have HN42 : Hid (d ≠ 42) := h42
          clear h42
          have HN43 : Hid (d ≠ 43) := h43
          clear h43
          go_wp2_with (go_at_call 78; fail)
          refine (tak_any full bp w0 (d :: r) 42 (by decide) HP0.out HF.out).mono ?_
          intro e w1 ht
          obtain ⟨rfl, b⟩ : e = .returned (.bool false) ∧ Below w0.heap.size w0 w1 := by
            rcases ht with ⟨hc, -⟩ | ⟨-, h1, h2⟩
            · exact absurd (u8_eq.1 hc) HN42.out
            · exact ⟨h1, h2⟩
          clear ht
          have HP1 : Hid (PIn full bp w1 (d :: r)) := HP0.out.below b
          have HK1 : Hid (Kp (fun b => b = bp) w w1) := HK0.out.bel b
          have HE1 : Hid (EnvP lo w1) := HE0.out.below b
          have HG1 : Hid (w1.heap[bv]? = some (.cells #[.int .i64 k0, .string k1, .slice k2 k3 k4, .int .i64 k5, .int .i64 k6] 25)) := (b.block _ (lt_of_heap HG0.out)).trans HG0.out
          have HR1 : Hid (w1.heap[w.heap.size]? = some (.cells #[.int .i64 0, .string ⟨#[]⟩, .slice none 0 0, .int .i64 0, .int .i64 0] 25)) := (b.block _ (lt_of_heap HR0.out)).trans HR0.out
          have HI1 : Hid (IsP F w1 ⟨k0, k1, k2, k3, k4, k5, k6⟩ t) := HI0.out.bel b
          clear b HP0 HK0 HE0 HG0 HR0 HI0
          go_wp2_with (go_at_call 78; fail)
          refine (tak_any full bp w1 (d :: r) 43 (by decide) HP1.out HF.out).mono ?_
          intro e w2 ht
          obtain ⟨rfl, b⟩ : e = .returned (.bool false) ∧ Below w1.heap.size w1 w2 := by
            rcases ht with ⟨hc, -⟩ | ⟨-, h1, h2⟩
            · exact absurd (u8_eq.1 hc) HN43.out
            · exact ⟨h1, h2⟩
          clear ht
          have HP2 : Hid (PIn full bp w2 (d :: r)) := HP1.out.below b
          have HK2 : Hid (Kp (fun b => b = bp) w w2) := HK1.out.bel b
          have HE2 : Hid (EnvP lo w2) := HE1.out.below b
          have HG2 : Hid (w2.heap[bv]? = some (.cells #[.int .i64 k0, .string k1, .slice k2 k3 k4, .int .i64 k5, .int .i64 k6] 25)) := (b.block _ (lt_of_heap HG1.out)).trans HG1.out
          have HR2 : Hid (w2.heap[w.heap.size]? = some (.cells #[.int .i64 0, .string ⟨#[]⟩, .slice none 0 0, .int .i64 0, .int .i64 0] 25)) := (b.block _ (lt_of_heap HR1.out)).trans HR1.out
          have HI2 : Hid (IsP F w2 ⟨k0, k1, k2, k3, k4, k5, k6⟩ t) := HI1.out.bel b
          clear b HP1 HK1 HE1 HG1 HR1 HI1
          go_wp2_with (go_at_call 78; fail)
          refine (tak_any full bp w2 (d :: r) 63 (by decide) HP2.out HF.out).mono ?_
          intro e w3 ht
          obtain ⟨rfl, hp, hk⟩ : e = .returned (.bool true) ∧ PIn full bp w3 r ∧ Kp (fun b => b = bp) w2 w3 := by
            rcases ht with ⟨-, h1, h2, h3⟩ | ⟨hc, -⟩
            · exact ⟨h1, h2, h3⟩
            · exact absurd (u8_eq.2 HD.out) hc
          clear ht
          have HP3 : Hid (PIn full bp w3 r) := hp
          have HK3 : Hid (Kp (fun b => b = bp) w w3) := HK2.out.seq hk
          have HE3 : Hid (EnvP lo w3) := HE2.out.kp hk (fun b hb => by rw [hb]; exact HLO.out)
          have HG3 : Hid (w3.heap[bv]? = some (.cells #[.int .i64 k0, .string k1, .slice k2 k3 k4, .int .i64 k5, .int .i64 k6] 25)) := hk.heap HG2.out (fun h => by have h : bv = bp := h; have := HBP.out; have := HBV.out; omega)
          have HR3 : Hid (w3.heap[w.heap.size]? = some (.cells #[.int .i64 0, .string ⟨#[]⟩, .slice none 0 0, .int .i64 0, .int .i64 0] 25)) := hk.heap HR2.out (fun h => by have h : w.heap.size = bp := h; have := HBP.out; omega)
          have HI3 : Hid (IsP F w3 ⟨k0, k1, k2, k3, k4, k5, k6⟩ t) := HI2.out.kp hk (fun b hb h => by have h : b = bp := h; have := (HFF.out b hb).1; have := HBP.out; omega) fun _ _ h => h
          clear hp hk HP2 HK2 HE2 HG2 HR2 HI2
          have c0 := cell_of_row _ _ 0 _ _ _ HG3.out
          have c1 := cell_of_row _ _ 1 _ _ _ HG3.out
          have c2 := cell_of_row _ _ 2 _ _ _ HG3.out
          have c3 := cell_of_row _ _ 3 _ _ _ HG3.out
          have c4 := cell_of_row _ _ 4 _ _ _ HG3.out
          simp only [List.getElem?_toArray, List.getElem?_cons_zero, List.getElem?_cons_succ] at c0 c1 c2 c3 c4
          go_wp2_with (go_at_call 91; fail)
          refine (ovr_any F w3 ⟨k0, k1, k2, k3, k4, k5, k6⟩ t 8 HI3.out).mono ?_
          rintro e w4 ⟨⟨y, rfl, hy⟩, b⟩
          obtain ⟨m0, m1, m2, m3, m4, m5, m6⟩ := y
          unfold PV.v
          have HY : Hid (IsP (fun b => F b ∨ w3.heap.size ≤ b) w4 ⟨m0, m1, m2, m3, m4, m5, m6⟩ (ovr 8 t)) := hy
          have HSZ : Hid (w.heap.size < w3.heap.size ∧ bv < w3.heap.size) := ⟨lt_of_heap HR3.out, lt_of_heap HG3.out⟩
          clear hy c0 c1 c2 c3 c4
          have HP4 : Hid (PIn full bp w4 r) := HP3.out.below b
          have HK4 : Hid (Kp (fun b => b = bp) w w4) := HK3.out.bel b
          have HE4 : Hid (EnvP lo w4) := HE3.out.below b
          have HG4 : Hid (w4.heap[bv]? = some (.cells #[.int .i64 k0, .string k1, .slice k2 k3 k4, .int .i64 k5, .int .i64 k6] 25)) := (b.block _ (lt_of_heap HG3.out)).trans HG3.out
          have HR4 : Hid (w4.heap[w.heap.size]? = some (.cells #[.int .i64 0, .string ⟨#[]⟩, .slice none 0 0, .int .i64 0, .int .i64 0] 25)) := (b.block _ (lt_of_heap HR3.out)).trans HR3.out
          have HI4 : Hid (IsP F w4 ⟨k0, k1, k2, k3, k4, k5, k6⟩ t) := HI3.out.bel b
          clear b HP3 HK3 HE3 HG3 HR3 HI3
          obtain ⟨⟨z0, z1, z2, z3, z4⟩, ⟨f0, f1, f2, f3, f4⟩, g0, g1, g2, g3, g4⟩ := box5_facts HG4.out
          obtain ⟨hs6, hs7⟩ := st5 HG4.out (.int .i64 m0) (.string m1) (.slice m2 m3 m4) (.int .i64 m5) (.int .i64 m6)
          have HS6 : Hid ((((((w4.setCell ⟨bv, 0, none⟩ (.int .i64 m0)).setCell ⟨bv, 1, none⟩ (.string m1)).setCell ⟨bv, 2, none⟩ (.slice m2 m3 m4)).setCell ⟨bv, 3, none⟩ (.int .i64 m5)).setCell ⟨bv, 4, none⟩ (.int .i64 m6)).heap[bv]? = some (.cells #[.int .i64 m0, .string m1, .slice m2 m3 m4, .int .i64 m5, .int .i64 m6] 25)) := hs6
          have HS7 : Hid (Kp (fun b => b = bv) w4 (((((w4.setCell ⟨bv, 0, none⟩ (.int .i64 m0)).setCell ⟨bv, 1, none⟩ (.string m1)).setCell ⟨bv, 2, none⟩ (.slice m2 m3 m4)).setCell ⟨bv, 3, none⟩ (.int .i64 m5)).setCell ⟨bv, 4, none⟩ (.int .i64 m6))) := hs7
          have HFF2 : Hid (∀ b, (F b ∨ w3.heap.size ≤ b) → w.heap.size < b ∧ b ≠ bv) := fun b hb => by
            have h1 := HSZ.out
            rcases hb with hb | hb
            · exact HFF.out b hb
            · exact ⟨by omega, by omega⟩
          clear hs6 hs7
          go_wp2
          have HY2 := HY.out
          generalize (((((w4.setCell ⟨bv, 0, none⟩ (.int .i64 m0)).setCell ⟨bv, 1, none⟩ (.string m1)).setCell ⟨bv, 2, none⟩ (.slice m2 m3 m4)).setCell ⟨bv, 3, none⟩ (.int .i64 m5)).setCell ⟨bv, 4, none⟩ (.int .i64 m6)) = W5 at HS6 HS7 ⊢
          obtain ⟨F2, hF2⟩ : ∃ F2 : Nat → Prop, F2 = fun b => F b ∨ w3.heap.size ≤ b := ⟨_, rfl⟩
          rw [← hF2] at HY
          have HFF3 : Hid (∀ b, F2 b → w.heap.size < b ∧ b ≠ bv) := by rw [hF2]; exact HFF2.out
          clear hF2 HFF2 HY2
          have HFF2 : Hid (∀ b, F2 b → w.heap.size < b ∧ b ≠ bv) := HFF3.out
          clear HFF3
          obtain ⟨T2, hT2⟩ : ∃ T2, T2 = ovr 8 t := ⟨_, rfl⟩
          rw [← hT2] at HY HQ2
          clear hT2
          have HPa : Hid (PIn full bp W5 r) := HP4.out.kp HS7.out (fun h => by have h : bp = bv := h; have := HBP.out; have := HBV.out; omega)
          have HKa : Hid (Kp (fun b => b = bp) w W5) := HK4.out.trans HS7.out fun b hb h => by have h : b = bv := h; have := HBV.out; omega
          have HEa : Hid (EnvP lo W5) := HE4.out.kp HS7.out fun b h => by have h : b = bv := h; have h1 := HBV.out; have h2 := HBP.out; have h3 := HLO.out; omega
          have HRa : Hid (W5.heap[w.heap.size]? = some (.cells #[.int .i64 0, .string ⟨#[]⟩, .slice none 0 0, .int .i64 0, .int .i64 0] 25)) := HS7.out.heap HR4.out (fun h => by have h : w.heap.size = bv := h; have := HBV.out; omega)
          have HIa : Hid (IsP F2 W5 ⟨m0, m1, m2, m3, m4, m5, m6⟩ T2) := HY.out.kp HS7.out (fun b hb h => (HFF2.out b hb).2 h) fun _ _ h => h
          have hm : full.length - (boxInt W5 (.pointer (some ⟨bp, 1, none⟩))).toNat < full.length - (boxInt w0 (.pointer (some ⟨bp, 1, none⟩))).toNat := by
            rw [HPa.out.pos, HPOS.out]
            have h1 := HSU.out
            simp only [List.length_cons] at h1 ⊢
            omega
          exact ⟨⟨n', T2, r, ⟨m0, m1, m2, m3, m4, m5, m6⟩, F2, HQ2.out, by have h := HN.out; simp only [List.length_cons] at h; show _ < _; omega, HPa.out, HKa.out, HEa.out, HS6.out, HRa.out, HIa.out, HFF2.out⟩, hm⟩
        by_cases h123 : d = 123
        · rw [if_neg h42, if_neg h43, if_neg h63, if_pos h123] at hq
          have HQ2 : Hid (M = match bndM r with | .error e => .error e | .ok (lo, hi, r') => post RP n' (.mk 9 [] [t] lo hi) r') := hq
          have HD : Hid (d = 123) := h123
          have HN42 : Hid (d ≠ 42) := h42
          have HN43 : Hid (d ≠ 43) := h43
          have HN63 : Hid (d ≠ 63) := h63
          clear hq h42 h43 h63 h123
          go_wp2_with (go_at_call 78; fail)
          refine (tak_any full bp w0 (d :: r) 42 (by decide) HP0.out HF.out).mono ?_
          intro e w1 ht
          obtain ⟨rfl, b⟩ : e = .returned (.bool false) ∧ Below w0.heap.size w0 w1 := by
            rcases ht with ⟨hc, -⟩ | ⟨-, h1, h2⟩
            · exact absurd (u8_eq.1 hc) HN42.out
            · exact ⟨h1, h2⟩
          clear ht
          have HP1 : Hid (PIn full bp w1 (d :: r)) := HP0.out.below b
          have HK1 : Hid (Kp (fun b => b = bp) w w1) := HK0.out.bel b
          have HE1 : Hid (EnvP lo w1) := HE0.out.below b
          have HG1 : Hid (w1.heap[bv]? = some (.cells #[.int .i64 k0, .string k1, .slice k2 k3 k4, .int .i64 k5, .int .i64 k6] 25)) := (b.block _ (lt_of_heap HG0.out)).trans HG0.out
          have HR1 : Hid (w1.heap[w.heap.size]? = some (.cells #[.int .i64 0, .string ⟨#[]⟩, .slice none 0 0, .int .i64 0, .int .i64 0] 25)) := (b.block _ (lt_of_heap HR0.out)).trans HR0.out
          have HI1 : Hid (IsP F w1 ⟨k0, k1, k2, k3, k4, k5, k6⟩ t) := HI0.out.bel b
          clear b HP0 HK0 HE0 HG0 HR0 HI0
          go_wp2_with (go_at_call 78; fail)
          refine (tak_any full bp w1 (d :: r) 43 (by decide) HP1.out HF.out).mono ?_
          intro e w2 ht
          obtain ⟨rfl, b⟩ : e = .returned (.bool false) ∧ Below w1.heap.size w1 w2 := by
            rcases ht with ⟨hc, -⟩ | ⟨-, h1, h2⟩
            · exact absurd (u8_eq.1 hc) HN43.out
            · exact ⟨h1, h2⟩
          clear ht
          have HP2 : Hid (PIn full bp w2 (d :: r)) := HP1.out.below b
          have HK2 : Hid (Kp (fun b => b = bp) w w2) := HK1.out.bel b
          have HE2 : Hid (EnvP lo w2) := HE1.out.below b
          have HG2 : Hid (w2.heap[bv]? = some (.cells #[.int .i64 k0, .string k1, .slice k2 k3 k4, .int .i64 k5, .int .i64 k6] 25)) := (b.block _ (lt_of_heap HG1.out)).trans HG1.out
          have HR2 : Hid (w2.heap[w.heap.size]? = some (.cells #[.int .i64 0, .string ⟨#[]⟩, .slice none 0 0, .int .i64 0, .int .i64 0] 25)) := (b.block _ (lt_of_heap HR1.out)).trans HR1.out
          have HI2 : Hid (IsP F w2 ⟨k0, k1, k2, k3, k4, k5, k6⟩ t) := HI1.out.bel b
          clear b HP1 HK1 HE1 HG1 HR1 HI1
          go_wp2_with (go_at_call 78; fail)
          refine (tak_any full bp w2 (d :: r) 63 (by decide) HP2.out HF.out).mono ?_
          intro e w3 ht
          obtain ⟨rfl, b⟩ : e = .returned (.bool false) ∧ Below w2.heap.size w2 w3 := by
            rcases ht with ⟨hc, -⟩ | ⟨-, h1, h2⟩
            · exact absurd (u8_eq.1 hc) HN63.out
            · exact ⟨h1, h2⟩
          clear ht
          have HP3 : Hid (PIn full bp w3 (d :: r)) := HP2.out.below b
          have HK3 : Hid (Kp (fun b => b = bp) w w3) := HK2.out.bel b
          have HE3 : Hid (EnvP lo w3) := HE2.out.below b
          have HG3 : Hid (w3.heap[bv]? = some (.cells #[.int .i64 k0, .string k1, .slice k2 k3 k4, .int .i64 k5, .int .i64 k6] 25)) := (b.block _ (lt_of_heap HG2.out)).trans HG2.out
          have HR3 : Hid (w3.heap[w.heap.size]? = some (.cells #[.int .i64 0, .string ⟨#[]⟩, .slice none 0 0, .int .i64 0, .int .i64 0] 25)) := (b.block _ (lt_of_heap HR2.out)).trans HR2.out
          have HI3 : Hid (IsP F w3 ⟨k0, k1, k2, k3, k4, k5, k6⟩ t) := HI2.out.bel b
          clear b HP2 HK2 HE2 HG2 HR2 HI2
          go_wp2_with (go_at_call 78; fail)
          refine (tak_any full bp w3 (d :: r) 123 (by decide) HP3.out HF.out).mono ?_
          intro e w4 ht
          obtain ⟨rfl, hp, hk⟩ : e = .returned (.bool true) ∧ PIn full bp w4 r ∧ Kp (fun b => b = bp) w3 w4 := by
            rcases ht with ⟨-, h1, h2, h3⟩ | ⟨hc, -⟩
            · exact ⟨h1, h2, h3⟩
            · exact absurd (u8_eq.2 HD.out) hc
          clear ht
          have HP4 : Hid (PIn full bp w4 r) := hp
          have HK4 : Hid (Kp (fun b => b = bp) w w4) := HK3.out.seq hk
          have HE4 : Hid (EnvP lo w4) := HE3.out.kp hk (fun b hb => by rw [hb]; exact HLO.out)
          have HG4 : Hid (w4.heap[bv]? = some (.cells #[.int .i64 k0, .string k1, .slice k2 k3 k4, .int .i64 k5, .int .i64 k6] 25)) := hk.heap HG3.out (fun h => by have h : bv = bp := h; have := HBP.out; have := HBV.out; omega)
          have HR4 : Hid (w4.heap[w.heap.size]? = some (.cells #[.int .i64 0, .string ⟨#[]⟩, .slice none 0 0, .int .i64 0, .int .i64 0] 25)) := hk.heap HR3.out (fun h => by have h : w.heap.size = bp := h; have := HBP.out; omega)
          have HI4 : Hid (IsP F w4 ⟨k0, k1, k2, k3, k4, k5, k6⟩ t) := HI3.out.kp hk (fun b hb h => by have h : b = bp := h; have := (HFF.out b hb).1; have := HBP.out; omega) fun _ _ h => h
          clear hp hk HP3 HK3 HE3 HG3 HR3 HI3
          have c0 := cell_of_row _ _ 0 _ _ _ HG4.out
          have c1 := cell_of_row _ _ 1 _ _ _ HG4.out
          have c2 := cell_of_row _ _ 2 _ _ _ HG4.out
          have c3 := cell_of_row _ _ 3 _ _ _ HG4.out
          have c4 := cell_of_row _ _ 4 _ _ _ HG4.out
          simp only [List.getElem?_toArray, List.getElem?_cons_zero, List.getElem?_cons_succ] at c0 c1 c2 c3 c4
          go_wp2_with (go_at_call 91; fail)
          refine (ovr_any F w4 ⟨k0, k1, k2, k3, k4, k5, k6⟩ t 9 HI4.out).mono ?_
          rintro e w5 ⟨⟨y, rfl, hy⟩, b⟩
          obtain ⟨m0, m1, m2, m3, m4, m5, m6⟩ := y
          unfold PV.v
          have HY : Hid (IsP (fun b => F b ∨ w4.heap.size ≤ b) w5 ⟨m0, m1, m2, m3, m4, m5, m6⟩ (ovr 9 t)) := hy
          have HSZ : Hid (w.heap.size < w4.heap.size ∧ bv < w4.heap.size) := ⟨lt_of_heap HR4.out, lt_of_heap HG4.out⟩
          clear hy c0 c1 c2 c3 c4
          have HP5 : Hid (PIn full bp w5 r) := HP4.out.below b
          have HK5 : Hid (Kp (fun b => b = bp) w w5) := HK4.out.bel b
          have HE5 : Hid (EnvP lo w5) := HE4.out.below b
          have HG5 : Hid (w5.heap[bv]? = some (.cells #[.int .i64 k0, .string k1, .slice k2 k3 k4, .int .i64 k5, .int .i64 k6] 25)) := (b.block _ (lt_of_heap HG4.out)).trans HG4.out
          have HR5 : Hid (w5.heap[w.heap.size]? = some (.cells #[.int .i64 0, .string ⟨#[]⟩, .slice none 0 0, .int .i64 0, .int .i64 0] 25)) := (b.block _ (lt_of_heap HR4.out)).trans HR4.out
          have HI5 : Hid (IsP F w5 ⟨k0, k1, k2, k3, k4, k5, k6⟩ t) := HI4.out.bel b
          clear b HP4 HK4 HE4 HG4 HR4 HI4
          obtain ⟨⟨z0, z1, z2, z3, z4⟩, ⟨f0, f1, f2, f3, f4⟩, g0, g1, g2, g3, g4⟩ := box5_facts HG5.out
          obtain ⟨hs6, hs7⟩ := st5 HG5.out (.int .i64 m0) (.string m1) (.slice m2 m3 m4) (.int .i64 m5) (.int .i64 m6)
          have HS6 : Hid ((((((w5.setCell ⟨bv, 0, none⟩ (.int .i64 m0)).setCell ⟨bv, 1, none⟩ (.string m1)).setCell ⟨bv, 2, none⟩ (.slice m2 m3 m4)).setCell ⟨bv, 3, none⟩ (.int .i64 m5)).setCell ⟨bv, 4, none⟩ (.int .i64 m6)).heap[bv]? = some (.cells #[.int .i64 m0, .string m1, .slice m2 m3 m4, .int .i64 m5, .int .i64 m6] 25)) := hs6
          have HS7 : Hid (Kp (fun b => b = bv) w5 (((((w5.setCell ⟨bv, 0, none⟩ (.int .i64 m0)).setCell ⟨bv, 1, none⟩ (.string m1)).setCell ⟨bv, 2, none⟩ (.slice m2 m3 m4)).setCell ⟨bv, 3, none⟩ (.int .i64 m5)).setCell ⟨bv, 4, none⟩ (.int .i64 m6))) := hs7
          have HFF2 : Hid (∀ b, (F b ∨ w4.heap.size ≤ b) → w.heap.size < b ∧ b ≠ bv) := fun b hb => by
            have h1 := HSZ.out
            rcases hb with hb | hb
            · exact HFF.out b hb
            · exact ⟨by omega, by omega⟩
          clear hs6 hs7
          go_wp2_with (go_at_call 92; fail)
          generalize (((((w5.setCell ⟨bv, 0, none⟩ (.int .i64 m0)).setCell ⟨bv, 1, none⟩ (.string m1)).setCell ⟨bv, 2, none⟩ (.slice m2 m3 m4)).setCell ⟨bv, 3, none⟩ (.int .i64 m5)).setCell ⟨bv, 4, none⟩ (.int .i64 m6)) = W5 at HS6 HS7 ⊢
          obtain ⟨F2, hF2⟩ : ∃ F2 : Nat → Prop, F2 = fun b => F b ∨ w4.heap.size ≤ b := ⟨_, rfl⟩
          rw [← hF2] at HY
          have HFF3 : Hid (∀ b, F2 b → w.heap.size < b ∧ b ≠ bv) := by rw [hF2]; exact HFF2.out
          clear hF2 HFF2
          have HFF2 : Hid (∀ b, F2 b → w.heap.size < b ∧ b ≠ bv) := HFF3.out
          clear HFF3
          obtain ⟨T2, hT2⟩ : ∃ T2, T2 = ovr 9 t := ⟨_, rfl⟩
          rw [← hT2] at HY
          have HT2 : Hid (T2 = ovr 9 t) := hT2
          clear hT2
          have HPa : Hid (PIn full bp W5 r) := HP5.out.kp HS7.out (fun h => by have h : bp = bv := h; have := HBP.out; have := HBV.out; omega)
          have HKa : Hid (Kp (fun b => b = bp) w W5) := HK5.out.trans HS7.out fun b hb h => by have h : b = bv := h; have := HBV.out; omega
          have HEa : Hid (EnvP lo W5) := HE5.out.kp HS7.out fun b h => by have h : b = bv := h; have h1 := HBV.out; have h2 := HBP.out; have h3 := HLO.out; omega
          have HRa : Hid (W5.heap[w.heap.size]? = some (.cells #[.int .i64 0, .string ⟨#[]⟩, .slice none 0 0, .int .i64 0, .int .i64 0] 25)) := HS7.out.heap HR5.out (fun h => by have h : w.heap.size = bv := h; have := HBV.out; omega)
          have HIa : Hid (IsP F2 W5 ⟨m0, m1, m2, m3, m4, m5, m6⟩ T2) := HY.out.kp HS7.out (fun b hb h => (HFF2.out b hb).2 h) fun _ _ h => h
          refine (bou_any C lo full bp W5 r HPa.out HF.out HEa.out HLO.out).mono ?_
          intro e w6 hw
          cases hwm : bndM r with
          | error er =>
            rw [hwm] at hw
            obtain ⟨he, hk⟩ := hw
            have HV : Hid (M = .error er) := by show _ = _; rw [HQ2.out]; simp only [hwm]
            clear hwm
            rcases id he with ⟨h, -⟩ | ⟨v, old, rfl, -⟩
            · cases h
            have HE : Hid (EnIn w.heap.size (fun _ => False) _ _ (.panicked ({ v := v, recovered := false } :: old))) := he.lo HKa.out.size
            have HKE : Hid (Kp (fun b => b = bp) w _) := HKa.out.seq hk
            clear he
            go_wp2
            refine ⟨rfl, ?_⟩
            rw [HV.out]
            exact ⟨HE.out, HKE.out⟩
          | ok q =>
            obtain ⟨lo2, hi2, r2⟩ := q
            rw [hwm] at hw
            obtain ⟨v, rfl, hv, hp, hk⟩ := hw
            simp only at hv
            subst hv
            have hlr : r2.length < r.length := bndM_len hwm
            have HLR : Hid (r2.length < r.length) := hlr
            have hq := HQ2.out
            simp only [hwm] at hq
            have HQ3 : Hid (M = post RP n' (.mk 9 [] [t] lo2 hi2) r2) := hq
            have HP6 : Hid (PIn full bp w6 r2) := hp
            have HK6 : Hid (Kp (fun b => b = bp) w w6) := HKa.out.seq hk
            have HE6 : Hid (EnvP lo w6) := HEa.out.kp hk (fun b hb => by rw [hb]; exact HLO.out)
            have HG6 : Hid (w6.heap[bv]? = some (.cells #[.int .i64 m0, .string m1, .slice m2 m3 m4, .int .i64 m5, .int .i64 m6] 25)) := hk.heap HS6.out (fun h => by have h : bv = bp := h; have := HBP.out; have := HBV.out; omega)
            have HR6 : Hid (w6.heap[w.heap.size]? = some (.cells #[.int .i64 0, .string ⟨#[]⟩, .slice none 0 0, .int .i64 0, .int .i64 0] 25)) := hk.heap HRa.out (fun h => by have h : w.heap.size = bp := h; have := HBP.out; omega)
            have HI6 : Hid (IsP F2 w6 ⟨m0, m1, m2, m3, m4, m5, m6⟩ T2) := HIa.out.kp hk (fun b hb h => by have h : b = bp := h; have := (HFF2.out b hb).1; have := HBP.out; omega) fun _ _ h => h
            clear hp hk hwm hlr hq HQ2 HPa HKa HEa HRa HIa HS6 HS7 HY
            obtain ⟨⟨z0, z1, z2, z3, z4⟩, ⟨f0, f1, f2, f3, f4⟩, -⟩ := box5_facts HG6.out
            obtain ⟨hs6, hs7, hs8⟩ := st2 HG6.out (.int .i64 lo2) (.int .i64 hi2)
            have HS6 : Hid (_ = _) := hs6
            have HS7 : Hid (Kp (fun b => b = bv) w6 ((w6.setCell ⟨bv, 3, none⟩ (.int .i64 lo2)).setCell ⟨bv, 4, none⟩ (.int .i64 hi2))) := hs7
            have f5 := hs8
            clear hs6 hs7 hs8
            go_wp2
            generalize (w6.setCell ⟨bv, 3, none⟩ (.int .i64 lo2)).setCell ⟨bv, 4, none⟩ (.int .i64 hi2) = W7 at HS6 HS7 ⊢
            have hp7 : PIn full bp W7 r2 := HP6.out.kp HS7.out (fun h => by have h : bp = bv := h; have := HBP.out; have := HBV.out; omega)
            have hm : full.length - (boxInt W7 (.pointer (some ⟨bp, 1, none⟩))).toNat < full.length - (boxInt w0 (.pointer (some ⟨bp, 1, none⟩))).toNat := by
              rw [hp7.pos, HPOS.out]
              have h1 := HSU.out
              have h2 := HLR.out
              simp only [List.length_cons] at h1 ⊢
              omega
            have hi7 : IsP F2 W7 ⟨m0, m1, m2, m3, m4, lo2, hi2⟩ (.mk 9 [] [t] lo2 hi2) := by
              have h := HI6.out
              rw [HT2.out] at h
              exact (h.relo lo2 hi2).kp HS7.out (fun b hb h => (HFF2.out b hb).2 h) fun _ _ h => h
            refine ⟨⟨n', .mk 9 [] [t] lo2 hi2, r2, ⟨m0, m1, m2, m3, m4, lo2, hi2⟩, F2, HQ3.out, ?_, hp7, HK6.out.trans HS7.out fun b hb h => by have h : b = bv := h; have := HBV.out; omega, HE6.out.kp HS7.out fun b h => by have h : b = bv := h; have h1 := HBV.out; have h2 := HBP.out; have h3 := HLO.out; omega, HS6.out, HS7.out.heap HR6.out (fun h => by have h : w.heap.size = bv := h; have := HBV.out; omega), hi7, HFF2.out⟩, hm⟩
            have h := HN.out
            have h2 := HLR.out
            simp only [List.length_cons] at h
            show _ < _
            omega
        · rw [if_neg h42, if_neg h43, if_neg h63, if_neg h123] at hq
          have HV : Hid (M = .ok (t, d :: r)) := hq
          have HN42 : Hid (d ≠ 42) := h42
          have HN43 : Hid (d ≠ 43) := h43
          have HN63 : Hid (d ≠ 63) := h63
          have HN123 : Hid (d ≠ 123) := h123
          clear hq h42 h43 h63 h123
          go_wp2_with (go_at_call 78; fail)
          refine (tak_any full bp w0 (d :: r) 42 (by decide) HP0.out HF.out).mono ?_
          intro e w1 ht
          obtain ⟨rfl, b⟩ : e = .returned (.bool false) ∧ Below w0.heap.size w0 w1 := by
            rcases ht with ⟨hc, -⟩ | ⟨-, h1, h2⟩
            · exact absurd (u8_eq.1 hc) HN42.out
            · exact ⟨h1, h2⟩
          clear ht
          have HP1 : Hid (PIn full bp w1 (d :: r)) := HP0.out.below b
          have HK1 : Hid (Kp (fun b => b = bp) w w1) := HK0.out.bel b
          have HE1 : Hid (EnvP lo w1) := HE0.out.below b
          have HG1 : Hid (w1.heap[bv]? = some (.cells #[.int .i64 k0, .string k1, .slice k2 k3 k4, .int .i64 k5, .int .i64 k6] 25)) := (b.block _ (lt_of_heap HG0.out)).trans HG0.out
          have HR1 : Hid (w1.heap[w.heap.size]? = some (.cells #[.int .i64 0, .string ⟨#[]⟩, .slice none 0 0, .int .i64 0, .int .i64 0] 25)) := (b.block _ (lt_of_heap HR0.out)).trans HR0.out
          have HI1 : Hid (IsP F w1 ⟨k0, k1, k2, k3, k4, k5, k6⟩ t) := HI0.out.bel b
          clear b HP0 HK0 HE0 HG0 HR0 HI0
          go_wp2_with (go_at_call 78; fail)
          refine (tak_any full bp w1 (d :: r) 43 (by decide) HP1.out HF.out).mono ?_
          intro e w2 ht
          obtain ⟨rfl, b⟩ : e = .returned (.bool false) ∧ Below w1.heap.size w1 w2 := by
            rcases ht with ⟨hc, -⟩ | ⟨-, h1, h2⟩
            · exact absurd (u8_eq.1 hc) HN43.out
            · exact ⟨h1, h2⟩
          clear ht
          have HP2 : Hid (PIn full bp w2 (d :: r)) := HP1.out.below b
          have HK2 : Hid (Kp (fun b => b = bp) w w2) := HK1.out.bel b
          have HE2 : Hid (EnvP lo w2) := HE1.out.below b
          have HG2 : Hid (w2.heap[bv]? = some (.cells #[.int .i64 k0, .string k1, .slice k2 k3 k4, .int .i64 k5, .int .i64 k6] 25)) := (b.block _ (lt_of_heap HG1.out)).trans HG1.out
          have HR2 : Hid (w2.heap[w.heap.size]? = some (.cells #[.int .i64 0, .string ⟨#[]⟩, .slice none 0 0, .int .i64 0, .int .i64 0] 25)) := (b.block _ (lt_of_heap HR1.out)).trans HR1.out
          have HI2 : Hid (IsP F w2 ⟨k0, k1, k2, k3, k4, k5, k6⟩ t) := HI1.out.bel b
          clear b HP1 HK1 HE1 HG1 HR1 HI1
          go_wp2_with (go_at_call 78; fail)
          refine (tak_any full bp w2 (d :: r) 63 (by decide) HP2.out HF.out).mono ?_
          intro e w3 ht
          obtain ⟨rfl, b⟩ : e = .returned (.bool false) ∧ Below w2.heap.size w2 w3 := by
            rcases ht with ⟨hc, -⟩ | ⟨-, h1, h2⟩
            · exact absurd (u8_eq.1 hc) HN63.out
            · exact ⟨h1, h2⟩
          clear ht
          have HP3 : Hid (PIn full bp w3 (d :: r)) := HP2.out.below b
          have HK3 : Hid (Kp (fun b => b = bp) w w3) := HK2.out.bel b
          have HE3 : Hid (EnvP lo w3) := HE2.out.below b
          have HG3 : Hid (w3.heap[bv]? = some (.cells #[.int .i64 k0, .string k1, .slice k2 k3 k4, .int .i64 k5, .int .i64 k6] 25)) := (b.block _ (lt_of_heap HG2.out)).trans HG2.out
          have HR3 : Hid (w3.heap[w.heap.size]? = some (.cells #[.int .i64 0, .string ⟨#[]⟩, .slice none 0 0, .int .i64 0, .int .i64 0] 25)) := (b.block _ (lt_of_heap HR2.out)).trans HR2.out
          have HI3 : Hid (IsP F w3 ⟨k0, k1, k2, k3, k4, k5, k6⟩ t) := HI2.out.bel b
          clear b HP2 HK2 HE2 HG2 HR2 HI2
          go_wp2_with (go_at_call 78; fail)
          refine (tak_any full bp w3 (d :: r) 123 (by decide) HP3.out HF.out).mono ?_
          intro e w4 ht
          obtain ⟨rfl, b⟩ : e = .returned (.bool false) ∧ Below w3.heap.size w3 w4 := by
            rcases ht with ⟨hc, -⟩ | ⟨-, h1, h2⟩
            · exact absurd (u8_eq.1 hc) HN123.out
            · exact ⟨h1, h2⟩
          clear ht
          have HP4 : Hid (PIn full bp w4 (d :: r)) := HP3.out.below b
          have HK4 : Hid (Kp (fun b => b = bp) w w4) := HK3.out.bel b
          have HE4 : Hid (EnvP lo w4) := HE3.out.below b
          have HG4 : Hid (w4.heap[bv]? = some (.cells #[.int .i64 k0, .string k1, .slice k2 k3 k4, .int .i64 k5, .int .i64 k6] 25)) := (b.block _ (lt_of_heap HG3.out)).trans HG3.out
          have HR4 : Hid (w4.heap[w.heap.size]? = some (.cells #[.int .i64 0, .string ⟨#[]⟩, .slice none 0 0, .int .i64 0, .int .i64 0] 25)) := (b.block _ (lt_of_heap HR3.out)).trans HR3.out
          have HI4 : Hid (IsP F w4 ⟨k0, k1, k2, k3, k4, k5, k6⟩ t) := HI3.out.bel b
          clear b HP3 HK3 HE3 HG3 HR3 HI3
          have c0 := cell_of_row _ _ 0 _ _ _ HG4.out
          have c1 := cell_of_row _ _ 1 _ _ _ HG4.out
          have c2 := cell_of_row _ _ 2 _ _ _ HG4.out
          have c3 := cell_of_row _ _ 3 _ _ _ HG4.out
          have c4 := cell_of_row _ _ 4 _ _ _ HG4.out
          simp only [List.getElem?_toArray, List.getElem?_cons_zero, List.getElem?_cons_succ] at c0 c1 c2 c3 c4
          obtain ⟨⟨z0, z1, z2, z3, z4⟩, ⟨f0, f1, f2, f3, f4⟩, g0, g1, g2, g3, g4⟩ := box5_facts HR4.out
          go_wp2
          have HRX := HR4.out
          obtain ⟨hs6, hs7⟩ := st5 HRX (.int .i64 k0) (.string k1) (.slice k2 k3 k4) (.int .i64 k5) (.int .i64 k6)
          generalize (((((w4.setCell ⟨w.heap.size, 0, none⟩ (.int .i64 k0)).setCell ⟨w.heap.size, 1, none⟩ (.string k1)).setCell ⟨w.heap.size, 2, none⟩ (.slice k2 k3 k4)).setCell ⟨w.heap.size, 3, none⟩ (.int .i64 k5)).setCell ⟨w.heap.size, 4, none⟩ (.int .i64 k6)) = W10 at hs6 hs7 ⊢
          have r0 := cell_of_row _ _ 0 _ _ _ hs6
          have r1 := cell_of_row _ _ 1 _ _ _ hs6
          have r2 := cell_of_row _ _ 2 _ _ _ hs6
          have r3 := cell_of_row _ _ 3 _ _ _ hs6
          have r4 := cell_of_row _ _ 4 _ _ _ hs6
          simp only [List.getElem?_toArray, List.getElem?_cons_zero, List.getElem?_cons_succ] at r0 r1 r2 r3 r4
          refine bodyPost_ret (v := .agg #[.int .i64 k0, .string k1, .slice k2 k3 k4, .int .i64 k5, .int .i64 k6]) (by simp [results, Tryz.results79, go_sem, r0, r1, r2, r3, r4]) rfl ?_
          rw [HV.out]
          refine ⟨_, rfl, ⟨⟨k0, k1, k2, k3, k4, k5, k6⟩, F, rfl, HI4.out.kp hs7 (fun b hb h => by have h : b = w.heap.size := h; have := (HFF.out b hb).1; omega) fun _ _ h => h, fun b hb => by have := (HFF.out b hb).1; omega⟩, HP4.out.kp hs7 (fun h => by have h : bp = w.heap.size := h; have := HBP.out; omega), HK4.out.trans hs7 fun b hb h => by have h : b = w.heap.size := h; omega⟩
end Go.Proofs.YtbgkfjelgnbfmaaGreatDoor
