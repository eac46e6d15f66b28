/- The parser, whole. -/
import Derived.Test.YtbgkfjelgnbfmaaGreatDoorPsn
namespace Go.Proofs.YtbgkfjelgnbfmaaGreatDoor
open Go.RowKit Fo
set_option maxRecDepth 100000
set_option linter.unusedSimpArgs false
set_option linter.unusedVariables false

theorem fnv_sgn (bp : Nat) : ∀ w : World, (callFunc 79 #[.pointer (some ⟨bp, 0, none⟩)]).run Tryz.prog w = .ok (.enter 79 #[.pointer (some ⟨bp, 0, none⟩)]) w := enters_of Tryz.func79 (by kernel_rfl) rfl _
theorem fnv_seq (bp : Nat) : ∀ w : World, (callFunc 64 #[.pointer (some ⟨bp, 0, none⟩)]).run Tryz.prog w = .ok (.enter 64 #[.pointer (some ⟨bp, 0, none⟩)]) w := enters_of Tryz.func64 (by kernel_rfl) rfl _
set_option maxHeartbeats 8000000 in
theorem seq_any (C : BailSays) (lo : Nat) (full : List UInt8) (bp : Nat) (one : List UInt8 → Rs) (s : List UInt8) (hf : full.length ≤ 100000) (hlo : lo ≤ bp)
    (hone : ∀ (w : World) (s' : List UInt8), s'.length ≤ s.length → PIn full bp w s' → EnvP lo w → Calls Tryz.prog 79 #[.pointer (some ⟨bp, 0, none⟩)] w (PEnd full bp w (one s') (fun w' v t => TOk w.heap.size w' v t)))
    (hlen : ∀ (s' : List UInt8) (t : PT) (r : List UInt8), one s' = .ok (t, r) → r.length ≤ s'.length)
    (w : World) (h : PIn full bp w s) (henv : EnvP lo w) :
    Calls Tryz.prog 64 #[.pointer (some ⟨bp, 0, none⟩)] w (PEnd full bp w (lstG 4 47 one s) (fun w' v t => TOk w.heap.size w' v t)) := by
  have hmf : ∀ (fn : Fn) (first cap : Array Value) (w : World), (Instr.makeFunc fn first cap).run Tryz.prog w = .ok (.func fn first cap) w := fun _ _ _ _ => rfl
  have HBP : Hid (bp < w.heap.size) := lt_of_heap h.heap
  obtain ⟨W1, hW1⟩ : ∃ W1, W1 = w.alloc (.cells #[.int .i64 0, .string ⟨#[]⟩, .slice none 0 0, .int .i64 0, .int .i64 0] 25) := ⟨_, rfl⟩
  have HBW1 : Hid (Below w.heap.size w W1) := by rw [hW1]; exact below1 w _
  have HGW1 : Hid (W1.heap[w.heap.size]? = some (.cells #[.int .i64 0, .string ⟨#[]⟩, .slice none 0 0, .int .i64 0, .int .i64 0] 25)) := by show W1.heap[_]? = _; rw [hW1]; exact heap_new1 w _
  have HP1 : Hid (PIn full bp W1 s) := h.below HBW1.out
  have HE1 : Hid (EnvP lo W1) := henv.below HBW1.out
  have HZ1 : Hid (W1.heap.size = w.heap.size + 1) := by show _ = _; rw [hW1]; simp
  have HC : Hid (Calls Tryz.prog 63 #[.pointer (some ⟨bp, 0, none⟩), .int .i64 4, .int .u8 47, .func (.func 79) #[.pointer (some ⟨bp, 0, none⟩)] #[]] W1 (PEnd full bp W1 (lstG 4 47 one s) (fun w' v t => TOk W1.heap.size w' v t))) := lst_any C lo full bp 79 (fnv_sgn bp) one 4 47 s hf hlo hone hlen W1 HP1.out HE1.out
  generalize lstG 4 47 one s = M at HC ⊢
  clear hone hlen h henv hf hlo
  go_enter Tryz.func64, Tryz.ntmps64
  go_wp2_with (go_at_call 63; fail)
  rw [← hW1]
  clear hW1
  refine HC.out.mono ?_
  intro e w2 hw
  cases hwm : M with
  | error er =>
    rw [hwm] at hw
    obtain ⟨he, hk⟩ := hw
    have HV : Hid (M = .error er) := hwm
    clear hwm
    rcases id he with ⟨h, -⟩ | ⟨v, old, rfl, -⟩
    · cases h
    have HE : Hid (EnIn w.heap.size (fun _ => False) _ _ (.panicked ({ v := v, recovered := false } :: old))) := he.lo HBW1.out.size
    have HKE : Hid (Kp (fun b => b = bp) w _) := (Kp.of_below HBW1.out).seq hk
    clear he
    go_wp2
    refine ⟨rfl, ?_⟩
    rw [HV.out]
    exact ⟨HE.out, HKE.out⟩
  | ok q =>
    obtain ⟨t, r⟩ := q
    rw [hwm] at hw
    have HV : Hid (M = .ok (t, r)) := hwm
    obtain ⟨v, rfl, ⟨y, F, hv, hi, hff⟩, hp, hk⟩ := hw
    subst hv
    obtain ⟨y0, y1, y2, y3, y4, y5, y6⟩ := y
    unfold PV.v
    have HP2 : Hid (PIn full bp w2 r) := hp
    have HK2 : Hid (Kp (fun b => b = bp) w w2) := (Kp.of_below HBW1.out).seq hk
    have HR2 : Hid (w2.heap[w.heap.size]? = some (.cells #[.int .i64 0, .string ⟨#[]⟩, .slice none 0 0, .int .i64 0, .int .i64 0] 25)) := hk.heap HGW1.out (fun h => by have h : w.heap.size = bp := h; have := HBP.out; omega)
    have HI2 : Hid (IsP F w2 ⟨y0, y1, y2, y3, y4, y5, y6⟩ t) := hi
    have HFF : Hid (∀ b, F b → w.heap.size < b) := fun b hb => by have := hff b hb; have := HZ1.out; omega
    clear hp hk hi hff hwm HBW1 HGW1 HP1 HE1 HZ1 HC
    obtain ⟨⟨z0, z1, z2, z3, z4⟩, ⟨f0, f1, f2, f3, f4⟩, g0, g1, g2, g3, g4⟩ := box5_facts HR2.out
    have HRX := HR2.out
    go_wp2
    obtain ⟨hs6, hs7⟩ := st5 HRX (.int .i64 y0) (.string y1) (.slice y2 y3 y4) (.int .i64 y5) (.int .i64 y6)
    generalize (((((w2.setCell ⟨w.heap.size, 0, none⟩ (.int .i64 y0)).setCell ⟨w.heap.size, 1, none⟩ (.string y1)).setCell ⟨w.heap.size, 2, none⟩ (.slice y2 y3 y4)).setCell ⟨w.heap.size, 3, none⟩ (.int .i64 y5)).setCell ⟨w.heap.size, 4, none⟩ (.int .i64 y6)) = W10 at hs6 hs7 ⊢
    have r0 := cell_of_row _ _ 0 _ _ _ hs6
    have r1 := cell_of_row _ _ 1 _ _ _ hs6
    have r2 := cell_of_row _ _ 2 _ _ _ hs6
    have r3 := cell_of_row _ _ 3 _ _ _ hs6
    have r4 := cell_of_row _ _ 4 _ _ _ hs6
    simp only [List.getElem?_toArray, List.getElem?_cons_zero, List.getElem?_cons_succ] at r0 r1 r2 r3 r4
    refine bodyPost_ret (v := .agg #[.int .i64 y0, .string y1, .slice y2 y3 y4, .int .i64 y5, .int .i64 y6]) (by simp [results, Tryz.results64, go_sem, r0, r1, r2, r3, r4]) rfl ?_
    rw [HV.out]
    refine ⟨_, rfl, ⟨⟨y0, y1, y2, y3, y4, y5, y6⟩, F, rfl, HI2.out.kp hs7 (fun b hb h => by have h : b = w.heap.size := h; have := HFF.out b hb; omega) fun _ _ h => h, fun b hb => by have := HFF.out b hb; omega⟩, HP2.out.kp hs7 (fun h => by have h : bp = w.heap.size := h; have := HBP.out; omega), HK2.out.trans hs7 fun b hb h => by have h : b = w.heap.size := h; omega⟩
set_option maxHeartbeats 8000000 in
theorem alt_any (C : BailSays) (lo : Nat) (full : List UInt8) (bp : Nat) (one : List UInt8 → Rs) (s : List UInt8) (hf : full.length ≤ 100000) (hlo : lo ≤ bp)
    (hone : ∀ (w : World) (s' : List UInt8), s'.length ≤ s.length → PIn full bp w s' → EnvP lo w → Calls Tryz.prog 64 #[.pointer (some ⟨bp, 0, none⟩)] w (PEnd full bp w (one s') (fun w' v t => TOk w.heap.size w' v t)))
    (hlen : ∀ (s' : List UInt8) (t : PT) (r : List UInt8), one s' = .ok (t, r) → r.length ≤ s'.length)
    (w : World) (h : PIn full bp w s) (henv : EnvP lo w) :
    Calls Tryz.prog 41 #[.pointer (some ⟨bp, 0, none⟩)] w (PEnd full bp w (lstG 5 124 one s) (fun w' v t => TOk w.heap.size w' v t)) := by
  have hmf : ∀ (fn : Fn) (first cap : Array Value) (w : World), (Instr.makeFunc fn first cap).run Tryz.prog w = .ok (.func fn first cap) w := fun _ _ _ _ => rfl
  have HBP : Hid (bp < w.heap.size) := lt_of_heap h.heap
  obtain ⟨W1, hW1⟩ : ∃ W1, W1 = w.alloc (.cells #[.int .i64 0, .string ⟨#[]⟩, .slice none 0 0, .int .i64 0, .int .i64 0] 25) := ⟨_, rfl⟩
  have HBW1 : Hid (Below w.heap.size w W1) := by rw [hW1]; exact below1 w _
  have HGW1 : Hid (W1.heap[w.heap.size]? = some (.cells #[.int .i64 0, .string ⟨#[]⟩, .slice none 0 0, .int .i64 0, .int .i64 0] 25)) := by show W1.heap[_]? = _; rw [hW1]; exact heap_new1 w _
  have HP1 : Hid (PIn full bp W1 s) := h.below HBW1.out
  have HE1 : Hid (EnvP lo W1) := henv.below HBW1.out
  have HZ1 : Hid (W1.heap.size = w.heap.size + 1) := by show _ = _; rw [hW1]; simp
  have HC : Hid (Calls Tryz.prog 63 #[.pointer (some ⟨bp, 0, none⟩), .int .i64 5, .int .u8 124, .func (.func 64) #[.pointer (some ⟨bp, 0, none⟩)] #[]] W1 (PEnd full bp W1 (lstG 5 124 one s) (fun w' v t => TOk W1.heap.size w' v t))) := lst_any C lo full bp 64 (fnv_seq bp) one 5 124 s hf hlo hone hlen W1 HP1.out HE1.out
  generalize lstG 5 124 one s = M at HC ⊢
  clear hone hlen h henv hf hlo
  go_enter Tryz.func41, Tryz.ntmps41
  go_wp2_with (go_at_call 63; fail)
  rw [← hW1]
  clear hW1
  refine HC.out.mono ?_
  intro e w2 hw
  cases hwm : M with
  | error er =>
    rw [hwm] at hw
    obtain ⟨he, hk⟩ := hw
    have HV : Hid (M = .error er) := hwm
    clear hwm
    rcases id he with ⟨h, -⟩ | ⟨v, old, rfl, -⟩
    · cases h
    have HE : Hid (EnIn w.heap.size (fun _ => False) _ _ (.panicked ({ v := v, recovered := false } :: old))) := he.lo HBW1.out.size
    have HKE : Hid (Kp (fun b => b = bp) w _) := (Kp.of_below HBW1.out).seq hk
    clear he
    go_wp2
    refine ⟨rfl, ?_⟩
    rw [HV.out]
    exact ⟨HE.out, HKE.out⟩
  | ok q =>
    obtain ⟨t, r⟩ := q
    rw [hwm] at hw
    have HV : Hid (M = .ok (t, r)) := hwm
    obtain ⟨v, rfl, ⟨y, F, hv, hi, hff⟩, hp, hk⟩ := hw
    subst hv
    obtain ⟨y0, y1, y2, y3, y4, y5, y6⟩ := y
    unfold PV.v
    have HP2 : Hid (PIn full bp w2 r) := hp
    have HK2 : Hid (Kp (fun b => b = bp) w w2) := (Kp.of_below HBW1.out).seq hk
    have HR2 : Hid (w2.heap[w.heap.size]? = some (.cells #[.int .i64 0, .string ⟨#[]⟩, .slice none 0 0, .int .i64 0, .int .i64 0] 25)) := hk.heap HGW1.out (fun h => by have h : w.heap.size = bp := h; have := HBP.out; omega)
    have HI2 : Hid (IsP F w2 ⟨y0, y1, y2, y3, y4, y5, y6⟩ t) := hi
    have HFF : Hid (∀ b, F b → w.heap.size < b) := fun b hb => by have := hff b hb; have := HZ1.out; omega
    clear hp hk hi hff hwm HBW1 HGW1 HP1 HE1 HZ1 HC
    obtain ⟨⟨z0, z1, z2, z3, z4⟩, ⟨f0, f1, f2, f3, f4⟩, g0, g1, g2, g3, g4⟩ := box5_facts HR2.out
    have HRX := HR2.out
    go_wp2
    obtain ⟨hs6, hs7⟩ := st5 HRX (.int .i64 y0) (.string y1) (.slice y2 y3 y4) (.int .i64 y5) (.int .i64 y6)
    generalize (((((w2.setCell ⟨w.heap.size, 0, none⟩ (.int .i64 y0)).setCell ⟨w.heap.size, 1, none⟩ (.string y1)).setCell ⟨w.heap.size, 2, none⟩ (.slice y2 y3 y4)).setCell ⟨w.heap.size, 3, none⟩ (.int .i64 y5)).setCell ⟨w.heap.size, 4, none⟩ (.int .i64 y6)) = W10 at hs6 hs7 ⊢
    have r0 := cell_of_row _ _ 0 _ _ _ hs6
    have r1 := cell_of_row _ _ 1 _ _ _ hs6
    have r2 := cell_of_row _ _ 2 _ _ _ hs6
    have r3 := cell_of_row _ _ 3 _ _ _ hs6
    have r4 := cell_of_row _ _ 4 _ _ _ hs6
    simp only [List.getElem?_toArray, List.getElem?_cons_zero, List.getElem?_cons_succ] at r0 r1 r2 r3 r4
    refine bodyPost_ret (v := .agg #[.int .i64 y0, .string y1, .slice y2 y3 y4, .int .i64 y5, .int .i64 y6]) (by simp [results, Tryz.results41, go_sem, r0, r1, r2, r3, r4]) rfl ?_
    rw [HV.out]
    refine ⟨_, rfl, ⟨⟨y0, y1, y2, y3, y4, y5, y6⟩, F, rfl, HI2.out.kp hs7 (fun b hb h => by have h : b = w.heap.size := h; have := HFF.out b hb; omega) fun _ _ h => h, fun b hb => by have := HFF.out b hb; omega⟩, HP2.out.kp hs7 (fun h => by have h : bp = w.heap.size := h; have := HBP.out; omega), HK2.out.trans hs7 fun b hb h => by have h : b = w.heap.size := h; omega⟩
theorem rec_any (C : BailSays) (lo : Nat) (full : List UInt8) (bp : Nat) (hf : full.length ≤ 100000) (hlo : lo ≤ bp) : ∀ (n : Nat) (w : World) (s : List UInt8), PIn full bp w s → EnvP lo w →
    (4 * s.length + 4 ≤ n → Calls Tryz.prog 41 #[.pointer (some ⟨bp, 0, none⟩)] w (PEnd full bp w (G RP n 0 s) (fun w' v t => TOk w.heap.size w' v t))) ∧
    (4 * s.length + 3 ≤ n → Calls Tryz.prog 64 #[.pointer (some ⟨bp, 0, none⟩)] w (PEnd full bp w (G RP n 1 s) (fun w' v t => TOk w.heap.size w' v t))) ∧
    (4 * s.length + 2 ≤ n → Calls Tryz.prog 79 #[.pointer (some ⟨bp, 0, none⟩)] w (PEnd full bp w (G RP n 2 s) (fun w' v t => TOk w.heap.size w' v t))) ∧
    (4 * s.length + 1 ≤ n → Calls Tryz.prog 90 #[.pointer (some ⟨bp, 0, none⟩)] w (PEnd full bp w (G RP n 3 s) (fun w' v t => TOk w.heap.size w' v t))) := by
  intro n
  induction n with
  | zero => intro w s _ _; exact ⟨fun h => by omega, fun h => by omega, fun h => by omega, fun h => by omega⟩
  | succ n ih =>
    intro w s h henv
    have hl := fun (k : Nat) => G_len (R := RP) (fun h => bndM_len h) (fun h => namM_len h) n k
    refine ⟨fun hn => ?_, fun hn => ?_, fun hn => ?_, fun hn => ?_⟩
    · rw [G0]
      exact alt_any C lo full bp (G RP n 1) s hf hlo (fun w' s' hs hp he => (ih w' s' hp he).2.1 (by omega)) (hl 1) w h henv
    · rw [G1]
      exact seq_any C lo full bp (G RP n 2) s hf hlo (fun w' s' hs hp he => (ih w' s' hp he).2.2.1 (by omega)) (hl 2) w h henv
    · rw [G2]
      exact sgn_any C lo full bp (G RP n 3) s hf hlo (fun w' hp he => (ih w' s hp he).2.2.2 (by omega)) w h henv
    · rw [G3]
      exact sin_any C lo full bp (G RP n 0) s hf hlo (fun w' s' hs hp he => (ih w' s' hp he).1 (by omega)) w h henv
end Go.Proofs.YtbgkfjelgnbfmaaGreatDoor
