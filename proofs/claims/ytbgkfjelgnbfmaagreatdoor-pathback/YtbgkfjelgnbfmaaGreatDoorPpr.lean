/- The parser's first steps. -/
import Derived.Test.YtbgkfjelgnbfmaaGreatDoorPnb
import Derived.Test.YtbgkfjelgnbfmaaGreatDoorBcl
import Derived.Deep.RegionHeld3
import Derived.BigQuiet
namespace Go.Proofs.YtbgkfjelgnbfmaaGreatDoor
open Go.RowKit Fo
set_option maxRecDepth 100000
set_option linter.unusedSimpArgs false
set_option linter.unusedVariables false

theorem pset {w : World} {bp : Nat} {S : Value} {v : Value} {T : TypeId} (h : w.heap[bp]? = some (.cells #[S, v] T)) (u : Value) : (w.setCell ⟨bp, 1, none⟩ u).heap[bp]? = some (.cells #[S, u] T) := by
  simp [World.setCell, Array.getElem?_modify, h]
namespace Fo
/-- A parser in memory: s is left of full. -/
structure PIn (full : List UInt8) (bp : Nat) (w : World) (s : List UInt8) : Prop where
  heap : w.heap[bp]? = some (.cells #[.string (str full), .int .i64 ((full.length - s.length : Nat) : Int)] 64)
  suf : s.length ≤ full.length ∧ full.drop (full.length - s.length) = s
theorem PIn.kp {G : Nat → Prop} {full : List UInt8} {bp : Nat} {w w' : World} {s : List UInt8} (h : PIn full bp w s) (hk : Kp G w w') (hG : ¬ G bp) : PIn full bp w' s := ⟨hk.heap h.heap hG, h.suf⟩
theorem PIn.below {full : List UInt8} {bp : Nat} {w w' : World} {s : List UInt8} (h : PIn full bp w s) (hb : Below w.heap.size w w') : PIn full bp w' s := h.kp (Kp.of_below (F := fun _ => False) hb) fun h => h
theorem suf_tail {full : List UInt8} {c : UInt8} {s : List UInt8} (h : (c :: s).length ≤ full.length ∧ full.drop (full.length - (c :: s).length) = c :: s) : s.length ≤ full.length ∧ full.drop (full.length - s.length) = s := by
  obtain ⟨h1, h2⟩ := h
  simp only [List.length_cons] at h1 h2
  refine ⟨by omega, ?_⟩
  rw [show full.length - s.length = (full.length - (s.length + 1)) + 1 by omega, ← List.drop_drop, h2]
  rfl
theorem suf_at {full : List UInt8} {c : UInt8} {s : List UInt8} (h : (c :: s).length ≤ full.length ∧ full.drop (full.length - (c :: s).length) = c :: s) : byt full (full.length - (c :: s).length) = c.toNat := by
  obtain ⟨h1, h2⟩ := h
  unfold byt
  have h3 := congrArg List.head? h2
  rw [List.head?_drop, List.head?_cons] at h3
  rw [List.getD_eq_getElem?_getD, h3]; rfl
/-- How a step of the parser ends. -/
def PEnd {α : Type} (full : List UInt8) (bp : Nat) (w : World) (r : Except Nat (α × List UInt8)) (ok : World → Value → α → Prop) (e : Ending) (w' : World) : Prop :=
  match r with
  | .ok (x, s') => ∃ v, e = .returned v ∧ ok w' v x ∧ PIn full bp w' s' ∧ Kp (fun b => b = bp) w w'
  | .error n => EnIn w.heap.size (fun _ => False) w' (.bail 3 ((full.length - n : Nat) : Int)) e ∧ Kp (fun b => b = bp) w w'
theorem EnIn.lo {lo lo' : Nat} {w : World} {r : En} {e : Ending} (h : EnIn lo (fun _ => False) w r e) (hl : lo' ≤ lo) : EnIn lo' (fun _ => False) w r e := by
  rcases h with h | ⟨v, old, h1, h2, h3⟩
  · exact Or.inl h
  · refine Or.inr ⟨v, old, h1, h2, ?_⟩
    cases r with
    | bail c a =>
      obtain ⟨b, e, hb, hf, hlo⟩ := h3
      exact ⟨b, e, hb, hf, Nat.le_trans hl hlo⟩
    | ret => exact h3
    | num n => exact h3
    | nilB => exact h3
theorem Kp.seq {bp : Nat} {w w1 w2 : World} (h : Kp (fun b => b = bp) w w1) (k : Kp (fun b => b = bp) w1 w2) : Kp (fun b => b = bp) w w2 := h.trans k fun _ _ h => h
theorem Kp.bel {bp : Nat} {w w1 w2 : World} (h : Kp (fun b => b = bp) w w1) (k : Below w1.heap.size w1 w2) : Kp (fun b => b = bp) w w2 := h.trans (Kp.of_below (F := fun b => b = bp) k) fun _ _ h => h
end Fo
namespace Fo
def TakP (full : List UInt8) (bp : Nat) (w : World) (c : Nat) : List UInt8 → Ending → World → Prop
  | [], e, w' => e = .returned (.bool false) ∧ Below w.heap.size w w'
  | d :: r, e, w' => (d.toNat = c ∧ e = .returned (.bool true) ∧ PIn full bp w' r ∧ Kp (fun b => b = bp) w w') ∨ (d.toNat ≠ c ∧ e = .returned (.bool false) ∧ Below w.heap.size w w')
end Fo
set_option maxHeartbeats 4000000 in
theorem tak_any (full : List UInt8) (bp : Nat) (w : World) (s : List UInt8) (c : Nat) (hc : c < 256) (h : PIn full bp w s) (hf : full.length ≤ 100000) :
    Calls Tryz.prog 78 #[.pointer (some ⟨bp, 0, none⟩), .int .u8 c] w (TakP full bp w c s) := by
  have hsz := str_size full
  have hhe := h.heap
  have hsuf := h.suf
  have hat := str_at full
  obtain ⟨S, hSS⟩ : ∃ S, S = str full := ⟨_, rfl⟩
  rw [← hSS] at hsz hhe
  have hat' : ∀ (j : Nat) (h : j < S.size), (S[j]'h).toNat = byt full j := by rw [hSS]; exact hat
  clear hat
  have hat := hat'
  clear hat'
  have HHE2 : Hid (str full = S) := hSS.symm
  clear hSS
  have d0 := cell_of_row _ _ 0 _ _ _ hhe
  have d1 := cell_of_row _ _ 1 _ _ _ hhe
  simp only [List.getElem?_toArray, List.getElem?_cons_zero, List.getElem?_cons_succ] at d0 d1
  have z1 : w.frozen? ⟨bp, 1, none⟩ = false := by simp [World.frozen?, hhe]
  cases s with
  | nil =>
    simp only [List.length_nil, Nat.sub_zero] at d1 ⊢
    clear hat hsuf h hhe
    have hq : ((full.length : Int) == (full.length : Int)) = true := by simp
    go_enter Tryz.func78, Tryz.ntmps78
    go_wp2
    refine wp_region_held_drew (S := (fun w' => Below w.heap.size w w')) (by kernel_rfl) ?_ (fun hHeld => ?_)
    · (try dsimp only); exact (below_refl w).drew
    refine wpAnyH_take (i := 0) (oi := { dst := some 5, op := Op.move (Operand.tmp 0), type := 62, pos := "parse.go:45", after := #[], guard := none }) (v := ?vu61) rfl (by kernel_rfl) (by kernel_rfl) (by kernel_rfl) (by intro _ _ _ h; exact h) (Or.inl ⟨by rfl, ?hyu61⟩) (by assumption) ?restu61
    case hyu61 => (intro w hSw; (try dsimp only at hSw); go_simp; (try with_reducible rfl))
    try simp only [Act.put, List.setIfInBounds_toArray, List.set_cons_zero, List.set_cons_succ]
    refine wpAnyH_take (i := 1) (oi := { dst := some 6, op := Op.nilCheck (Operand.tmp 5), type := 0, pos := "parse.go:45", after := #[{ on := 0, ground := Ground.data }], guard := none }) (v := ?vu62) rfl (by kernel_rfl) (by kernel_rfl) (by kernel_rfl) (by intro _ _ _ h; exact h) (Or.inl ⟨by rfl, ?hyu62⟩) (by assumption) ?restu62
    case hyu62 => (intro w hSw; (try dsimp only at hSw); go_simp; (try with_reducible rfl))
    try simp only [Act.put, List.setIfInBounds_toArray, List.set_cons_zero, List.set_cons_succ]
    refine wpAnyH_take (i := 2) (oi := { dst := some 7, op := Op.fieldAddr 64 (Operand.tmp 6) 1, type := 0, pos := "parse.go:45", after := #[{ on := 1, ground := Ground.data }], guard := none }) (v := ?vu63) rfl (by kernel_rfl) (by kernel_rfl) (by kernel_rfl) (by intro _ _ _ h; exact h) (Or.inl ⟨by rfl, ?hyu63⟩) (by assumption) ?restu63
    case hyu63 => (intro w hSw; (try dsimp only at hSw); go_simp; (try with_reducible rfl))
    try simp only [Act.put, List.setIfInBounds_toArray, List.set_cons_zero, List.set_cons_succ]
    refine wpAnyH_take (i := 3) (oi := { dst := some 8, op := Op.load 3 (Operand.tmp 7), type := 3, pos := "parse.go:45", after := #[{ on := 2, ground := Ground.data }], guard := none }) (v := ?vu64) rfl (by kernel_rfl) (by kernel_rfl) (by kernel_rfl) (by intro _ _ _ h; exact h) (Or.inl ⟨by rfl, ?hyu64⟩) (by assumption) ?restu64
    case hyu64 => (intro wz hSw; (try dsimp only at hSw); have t0 := (hSw.cell (World.block_lt_of_cell? _ _ d0)).trans d0; have t1 := (hSw.cell (World.block_lt_of_cell? _ _ d1)).trans d1; go_simp; (try with_reducible rfl))
    try simp only [Act.put, List.setIfInBounds_toArray, List.set_cons_zero, List.set_cons_succ]
    refine wpAnyH_take (i := 4) (oi := { dst := some 9, op := Op.move (Operand.tmp 0), type := 62, pos := "parse.go:45", after := #[], guard := none }) (v := ?vu65) rfl (by kernel_rfl) (by kernel_rfl) (by kernel_rfl) (by intro _ _ _ h; exact h) (Or.inl ⟨by rfl, ?hyu65⟩) (by assumption) ?restu65
    case hyu65 => (intro w hSw; (try dsimp only at hSw); go_simp; (try with_reducible rfl))
    try simp only [Act.put, List.setIfInBounds_toArray, List.set_cons_zero, List.set_cons_succ]
    refine wpAnyH_take (i := 5) (oi := { dst := some 10, op := Op.nilCheck (Operand.tmp 9), type := 0, pos := "parse.go:45", after := #[{ on := 4, ground := Ground.data }], guard := none }) (v := ?vu66) rfl (by kernel_rfl) (by kernel_rfl) (by kernel_rfl) (by intro _ _ _ h; exact h) (Or.inl ⟨by rfl, ?hyu66⟩) (by assumption) ?restu66
    case hyu66 => (intro w hSw; (try dsimp only at hSw); go_simp; (try with_reducible rfl))
    try simp only [Act.put, List.setIfInBounds_toArray, List.set_cons_zero, List.set_cons_succ]
    refine wpAnyH_take (i := 6) (oi := { dst := some 11, op := Op.fieldAddr 64 (Operand.tmp 10) 0, type := 0, pos := "parse.go:45", after := #[{ on := 5, ground := Ground.data }], guard := none }) (v := ?vu67) rfl (by kernel_rfl) (by kernel_rfl) (by kernel_rfl) (by intro _ _ _ h; exact h) (Or.inl ⟨by rfl, ?hyu67⟩) (by assumption) ?restu67
    case hyu67 => (intro w hSw; (try dsimp only at hSw); go_simp; (try with_reducible rfl))
    try simp only [Act.put, List.setIfInBounds_toArray, List.set_cons_zero, List.set_cons_succ]
    refine wpAnyH_take (i := 7) (oi := { dst := some 12, op := Op.load 9 (Operand.tmp 11), type := 9, pos := "parse.go:45", after := #[{ on := 6, ground := Ground.data }], guard := none }) (v := ?vu68) rfl (by kernel_rfl) (by kernel_rfl) (by kernel_rfl) (by intro _ _ _ h; exact h) (Or.inl ⟨by rfl, ?hyu68⟩) (by assumption) ?restu68
    case hyu68 => (intro wz hSw; (try dsimp only at hSw); have t0 := (hSw.cell (World.block_lt_of_cell? _ _ d0)).trans d0; have t1 := (hSw.cell (World.block_lt_of_cell? _ _ d1)).trans d1; go_simp; (try with_reducible rfl))
    try simp only [Act.put, List.setIfInBounds_toArray, List.set_cons_zero, List.set_cons_succ]
    refine wpAnyH_take (i := 8) (oi := { dst := some 13, op := Op.call { callee := Callee.builtin Builtin.len, args := #[Operand.tmp 12], argTypes := #[9] }, type := 3, pos := "parse.go:45", after := #[{ on := 7, ground := Ground.data }], guard := none }) (v := ?vu69) rfl (by kernel_rfl) (by kernel_rfl) (by kernel_rfl) (by intro _ _ _ h; exact h) (Or.inl ⟨by rfl, ?hyu69⟩) (by assumption) ?restu69
    case hyu69 => (intro w hSw; (try dsimp only at hSw); go_simp; (try with_reducible rfl))
    try simp only [Act.put, List.setIfInBounds_toArray, List.set_cons_zero, List.set_cons_succ]
    refine wpAnyH_take (i := 9) (oi := { dst := some 14, op := Op.binOp BinOp.eql 3 (Operand.tmp 8) (Operand.tmp 13) 3, type := 4, pos := "parse.go:45", after := #[{ on := 3, ground := Ground.data }, { on := 8, ground := Ground.data }], guard := none }) (v := ?vu70) rfl (by kernel_rfl) (by kernel_rfl) (by kernel_rfl) (by intro _ _ _ h; exact h) (Or.inl ⟨by rfl, ?hyu70⟩) (by assumption) ?restu70
    case hyu70 => (intro w hSw; (try dsimp only at hSw); go_simp; (try with_reducible rfl))
    try simp only [Act.put, List.setIfInBounds_toArray, List.set_cons_zero, List.set_cons_succ]
    refine wpAnyH_take (i := 10) (oi := { dst := some 15, op := Op.move (Operand.tmp 14), type := 4, pos := "parse.go:45", after := #[{ on := 9, ground := Ground.data }], guard := none }) (v := ?vu71) rfl (by kernel_rfl) (by kernel_rfl) (by kernel_rfl) (by intro _ _ _ h; exact h) (Or.inl ⟨by rfl, ?hyu71⟩) (by assumption) ?restu71
    case hyu71 => (intro w hSw; (try dsimp only at hSw); go_simp; (try with_reducible rfl))
    try simp only [Act.put, List.setIfInBounds_toArray, List.set_cons_zero, List.set_cons_succ]
    refine wpAnyH_take (i := 11) (oi := { dst := some 16, op := Op.move (Operand.tmp 0), type := 62, pos := "parse.go:45", after := #[{ on := 10, ground := Ground.guard }], guard := some (10, false) }) (v := undef) rfl (by kernel_rfl) (by kernel_rfl) (by kernel_rfl) (by intro _ _ _ h; exact h) (Or.inr ⟨by rfl, rfl⟩) (by assumption) ?_
    try simp only [Act.put, List.setIfInBounds_toArray, List.set_cons_zero, List.set_cons_succ]
    refine wpAnyH_take (i := 12) (oi := { dst := some 17, op := Op.nilCheck (Operand.tmp 16), type := 0, pos := "parse.go:45", after := #[{ on := 11, ground := Ground.data }, { on := 10, ground := Ground.guard }], guard := some (10, false) }) (v := undef) rfl (by kernel_rfl) (by kernel_rfl) (by kernel_rfl) (by intro _ _ _ h; exact h) (Or.inr ⟨by rfl, rfl⟩) (by assumption) ?_
    try simp only [Act.put, List.setIfInBounds_toArray, List.set_cons_zero, List.set_cons_succ]
    refine wpAnyH_take (i := 13) (oi := { dst := some 18, op := Op.fieldAddr 64 (Operand.tmp 17) 0, type := 0, pos := "parse.go:45", after := #[{ on := 12, ground := Ground.data }, { on := 10, ground := Ground.guard }], guard := some (10, false) }) (v := undef) rfl (by kernel_rfl) (by kernel_rfl) (by kernel_rfl) (by intro _ _ _ h; exact h) (Or.inr ⟨by rfl, rfl⟩) (by assumption) ?_
    try simp only [Act.put, List.setIfInBounds_toArray, List.set_cons_zero, List.set_cons_succ]
    refine wpAnyH_take (i := 14) (oi := { dst := some 19, op := Op.load 9 (Operand.tmp 18), type := 9, pos := "parse.go:45", after := #[{ on := 13, ground := Ground.data }, { on := 10, ground := Ground.guard }], guard := some (10, false) }) (v := undef) rfl (by kernel_rfl) (by kernel_rfl) (by kernel_rfl) (by intro _ _ _ h; exact h) (Or.inr ⟨by rfl, rfl⟩) (by assumption) ?_
    try simp only [Act.put, List.setIfInBounds_toArray, List.set_cons_zero, List.set_cons_succ]
    refine wpAnyH_take (i := 15) (oi := { dst := some 20, op := Op.move (Operand.tmp 0), type := 62, pos := "parse.go:45", after := #[{ on := 10, ground := Ground.guard }], guard := some (10, false) }) (v := undef) rfl (by kernel_rfl) (by kernel_rfl) (by kernel_rfl) (by intro _ _ _ h; exact h) (Or.inr ⟨by rfl, rfl⟩) (by assumption) ?_
    try simp only [Act.put, List.setIfInBounds_toArray, List.set_cons_zero, List.set_cons_succ]
    refine wpAnyH_take (i := 16) (oi := { dst := some 21, op := Op.nilCheck (Operand.tmp 20), type := 0, pos := "parse.go:45", after := #[{ on := 15, ground := Ground.data }, { on := 10, ground := Ground.guard }], guard := some (10, false) }) (v := undef) rfl (by kernel_rfl) (by kernel_rfl) (by kernel_rfl) (by intro _ _ _ h; exact h) (Or.inr ⟨by rfl, rfl⟩) (by assumption) ?_
    try simp only [Act.put, List.setIfInBounds_toArray, List.set_cons_zero, List.set_cons_succ]
    refine wpAnyH_take (i := 17) (oi := { dst := some 22, op := Op.fieldAddr 64 (Operand.tmp 21) 1, type := 0, pos := "parse.go:45", after := #[{ on := 16, ground := Ground.data }, { on := 10, ground := Ground.guard }], guard := some (10, false) }) (v := undef) rfl (by kernel_rfl) (by kernel_rfl) (by kernel_rfl) (by intro _ _ _ h; exact h) (Or.inr ⟨by rfl, rfl⟩) (by assumption) ?_
    try simp only [Act.put, List.setIfInBounds_toArray, List.set_cons_zero, List.set_cons_succ]
    refine wpAnyH_take (i := 18) (oi := { dst := some 23, op := Op.load 3 (Operand.tmp 22), type := 3, pos := "parse.go:45", after := #[{ on := 17, ground := Ground.data }, { on := 10, ground := Ground.guard }], guard := some (10, false) }) (v := undef) rfl (by kernel_rfl) (by kernel_rfl) (by kernel_rfl) (by intro _ _ _ h; exact h) (Or.inr ⟨by rfl, rfl⟩) (by assumption) ?_
    try simp only [Act.put, List.setIfInBounds_toArray, List.set_cons_zero, List.set_cons_succ]
    refine wpAnyH_take (i := 19) (oi := { dst := some 24, op := Op.index 9 (Operand.tmp 19) (Operand.tmp 23), type := 5, pos := "parse.go:45", after := #[{ on := 14, ground := Ground.data }, { on := 18, ground := Ground.data }, { on := 10, ground := Ground.guard }], guard := some (10, false) }) (v := undef) rfl (by kernel_rfl) (by kernel_rfl) (by kernel_rfl) (by intro _ _ _ h; exact h) (Or.inr ⟨by rfl, rfl⟩) (by assumption) ?_
    try simp only [Act.put, List.setIfInBounds_toArray, List.set_cons_zero, List.set_cons_succ]
    refine wpAnyH_take (i := 20) (oi := { dst := some 25, op := Op.move (Operand.tmp 1), type := 5, pos := "parse.go:45", after := #[{ on := 10, ground := Ground.guard }], guard := some (10, false) }) (v := undef) rfl (by kernel_rfl) (by kernel_rfl) (by kernel_rfl) (by intro _ _ _ h; exact h) (Or.inr ⟨by rfl, rfl⟩) (by assumption) ?_
    try simp only [Act.put, List.setIfInBounds_toArray, List.set_cons_zero, List.set_cons_succ]
    refine wpAnyH_take (i := 21) (oi := { dst := some 26, op := Op.binOp BinOp.neq 5 (Operand.tmp 24) (Operand.tmp 25) 5, type := 4, pos := "parse.go:45", after := #[{ on := 19, ground := Ground.data }, { on := 20, ground := Ground.data }, { on := 10, ground := Ground.guard }], guard := some (10, false) }) (v := undef) rfl (by kernel_rfl) (by kernel_rfl) (by kernel_rfl) (by intro _ _ _ h; exact h) (Or.inr ⟨by rfl, rfl⟩) (by assumption) ?_
    try simp only [Act.put, List.setIfInBounds_toArray, List.set_cons_zero, List.set_cons_succ]
    refine wpAnyH_take (i := 22) (oi := { dst := some 27, op := Op.pick (Operand.tmp 15) (Operand.const (Value.bool true)) (Operand.tmp 26), type := 4, pos := "parse.go:45", after := #[{ on := 10, ground := Ground.data }, { on := 21, ground := Ground.data }], guard := none }) (v := ?vu72) rfl (by kernel_rfl) (by kernel_rfl) (by kernel_rfl) (by intro _ _ _ h; exact h) (Or.inl ⟨by rfl, ?hyu72⟩) (by assumption) ?restu72
    case hyu72 => (intro w hSw; (try dsimp only at hSw); go_simp; (try with_reducible rfl))
    try simp only [Act.put, List.setIfInBounds_toArray, List.set_cons_zero, List.set_cons_succ]
    refine wpAnyH_done (by kernel_rfl) ?_ _
    go_wp2
    go_ret
    exact ⟨rfl, (below_refl w).drew⟩
  | cons d r =>
    have hby := suf_at hsuf
    have hst := suf_tail hsuf
    have HST : Hid (r.length ≤ full.length ∧ full.drop (full.length - r.length) = r) := hst
    have hlen := hsuf.1
    simp only [List.length_cons] at hlen
    obtain ⟨p, hp⟩ : ∃ p, p = full.length - (d :: r).length := ⟨_, rfl⟩
    rw [← hp] at hby d1
    have HHE : Hid (w.heap[bp]? = some (.cells #[.string S, .int .i64 p] 64)) := by show _ = _; rw [hhe, ← hp]
    simp only [List.length_cons] at hp
    have hq : ((p : Int) == (full.length : Int)) = false := by simp; omega
    have i1 : (0 : Int) ≤ (p : Int) := by omega
    have i2 : (p : Int) < (S.size : Int) := by omega
    have i3 : p < S.size := by omega
    have hd256 : d.toNat < 256 := UInt8.toNat_lt d
    have HP1 : Hid (((p : Int) + 1) = ((full.length - r.length : Nat) : Int)) := by show _ = _; omega
    clear hsuf h hhe hst hp
    by_cases hdc : d.toNat = c
    · have hne : ((d.toNat : Int) != (c : Int)) = false := by simp; omega
      have HC : Hid (d.toNat = c) := hdc
      clear hdc
      go_enter Tryz.func78, Tryz.ntmps78
      go_wp2
      refine wp_region_held_drew (S := (fun w' => Below w.heap.size w w')) (by kernel_rfl) ?_ (fun hHeld => ?_)
      · (try dsimp only); exact (below_refl w).drew
      refine wpAnyH_take (i := 0) (oi := { dst := some 5, op := Op.move (Operand.tmp 0), type := 62, pos := "parse.go:45", after := #[], guard := none }) (v := ?vu73) rfl (by kernel_rfl) (by kernel_rfl) (by kernel_rfl) (by intro _ _ _ h; exact h) (Or.inl ⟨by rfl, ?hyu73⟩) (by assumption) ?restu73
      case hyu73 => (intro w hSw; (try dsimp only at hSw); go_simp; (try with_reducible rfl))
      try simp only [Act.put, List.setIfInBounds_toArray, List.set_cons_zero, List.set_cons_succ]
      refine wpAnyH_take (i := 1) (oi := { dst := some 6, op := Op.nilCheck (Operand.tmp 5), type := 0, pos := "parse.go:45", after := #[{ on := 0, ground := Ground.data }], guard := none }) (v := ?vu74) rfl (by kernel_rfl) (by kernel_rfl) (by kernel_rfl) (by intro _ _ _ h; exact h) (Or.inl ⟨by rfl, ?hyu74⟩) (by assumption) ?restu74
      case hyu74 => (intro w hSw; (try dsimp only at hSw); go_simp; (try with_reducible rfl))
      try simp only [Act.put, List.setIfInBounds_toArray, List.set_cons_zero, List.set_cons_succ]
      refine wpAnyH_take (i := 2) (oi := { dst := some 7, op := Op.fieldAddr 64 (Operand.tmp 6) 1, type := 0, pos := "parse.go:45", after := #[{ on := 1, ground := Ground.data }], guard := none }) (v := ?vu75) rfl (by kernel_rfl) (by kernel_rfl) (by kernel_rfl) (by intro _ _ _ h; exact h) (Or.inl ⟨by rfl, ?hyu75⟩) (by assumption) ?restu75
      case hyu75 => (intro w hSw; (try dsimp only at hSw); go_simp; (try with_reducible rfl))
      try simp only [Act.put, List.setIfInBounds_toArray, List.set_cons_zero, List.set_cons_succ]
      refine wpAnyH_take (i := 3) (oi := { dst := some 8, op := Op.load 3 (Operand.tmp 7), type := 3, pos := "parse.go:45", after := #[{ on := 2, ground := Ground.data }], guard := none }) (v := ?vu76) rfl (by kernel_rfl) (by kernel_rfl) (by kernel_rfl) (by intro _ _ _ h; exact h) (Or.inl ⟨by rfl, ?hyu76⟩) (by assumption) ?restu76
      case hyu76 => (intro wz hSw; (try dsimp only at hSw); have t0 := (hSw.cell (World.block_lt_of_cell? _ _ d0)).trans d0; have t1 := (hSw.cell (World.block_lt_of_cell? _ _ d1)).trans d1; go_simp; (try with_reducible rfl))
      try simp only [Act.put, List.setIfInBounds_toArray, List.set_cons_zero, List.set_cons_succ]
      refine wpAnyH_take (i := 4) (oi := { dst := some 9, op := Op.move (Operand.tmp 0), type := 62, pos := "parse.go:45", after := #[], guard := none }) (v := ?vu77) rfl (by kernel_rfl) (by kernel_rfl) (by kernel_rfl) (by intro _ _ _ h; exact h) (Or.inl ⟨by rfl, ?hyu77⟩) (by assumption) ?restu77
      case hyu77 => (intro w hSw; (try dsimp only at hSw); go_simp; (try with_reducible rfl))
      try simp only [Act.put, List.setIfInBounds_toArray, List.set_cons_zero, List.set_cons_succ]
      refine wpAnyH_take (i := 5) (oi := { dst := some 10, op := Op.nilCheck (Operand.tmp 9), type := 0, pos := "parse.go:45", after := #[{ on := 4, ground := Ground.data }], guard := none }) (v := ?vu78) rfl (by kernel_rfl) (by kernel_rfl) (by kernel_rfl) (by intro _ _ _ h; exact h) (Or.inl ⟨by rfl, ?hyu78⟩) (by assumption) ?restu78
      case hyu78 => (intro w hSw; (try dsimp only at hSw); go_simp; (try with_reducible rfl))
      try simp only [Act.put, List.setIfInBounds_toArray, List.set_cons_zero, List.set_cons_succ]
      refine wpAnyH_take (i := 6) (oi := { dst := some 11, op := Op.fieldAddr 64 (Operand.tmp 10) 0, type := 0, pos := "parse.go:45", after := #[{ on := 5, ground := Ground.data }], guard := none }) (v := ?vu79) rfl (by kernel_rfl) (by kernel_rfl) (by kernel_rfl) (by intro _ _ _ h; exact h) (Or.inl ⟨by rfl, ?hyu79⟩) (by assumption) ?restu79
      case hyu79 => (intro w hSw; (try dsimp only at hSw); go_simp; (try with_reducible rfl))
      try simp only [Act.put, List.setIfInBounds_toArray, List.set_cons_zero, List.set_cons_succ]
      refine wpAnyH_take (i := 7) (oi := { dst := some 12, op := Op.load 9 (Operand.tmp 11), type := 9, pos := "parse.go:45", after := #[{ on := 6, ground := Ground.data }], guard := none }) (v := ?vu80) rfl (by kernel_rfl) (by kernel_rfl) (by kernel_rfl) (by intro _ _ _ h; exact h) (Or.inl ⟨by rfl, ?hyu80⟩) (by assumption) ?restu80
      case hyu80 => (intro wz hSw; (try dsimp only at hSw); have t0 := (hSw.cell (World.block_lt_of_cell? _ _ d0)).trans d0; have t1 := (hSw.cell (World.block_lt_of_cell? _ _ d1)).trans d1; go_simp; (try with_reducible rfl))
      try simp only [Act.put, List.setIfInBounds_toArray, List.set_cons_zero, List.set_cons_succ]
      refine wpAnyH_take (i := 8) (oi := { dst := some 13, op := Op.call { callee := Callee.builtin Builtin.len, args := #[Operand.tmp 12], argTypes := #[9] }, type := 3, pos := "parse.go:45", after := #[{ on := 7, ground := Ground.data }], guard := none }) (v := ?vu81) rfl (by kernel_rfl) (by kernel_rfl) (by kernel_rfl) (by intro _ _ _ h; exact h) (Or.inl ⟨by rfl, ?hyu81⟩) (by assumption) ?restu81
      case hyu81 => (intro w hSw; (try dsimp only at hSw); go_simp; (try with_reducible rfl))
      try simp only [Act.put, List.setIfInBounds_toArray, List.set_cons_zero, List.set_cons_succ]
      refine wpAnyH_take (i := 9) (oi := { dst := some 14, op := Op.binOp BinOp.eql 3 (Operand.tmp 8) (Operand.tmp 13) 3, type := 4, pos := "parse.go:45", after := #[{ on := 3, ground := Ground.data }, { on := 8, ground := Ground.data }], guard := none }) (v := ?vu82) rfl (by kernel_rfl) (by kernel_rfl) (by kernel_rfl) (by intro _ _ _ h; exact h) (Or.inl ⟨by rfl, ?hyu82⟩) (by assumption) ?restu82
      case hyu82 => (intro w hSw; (try dsimp only at hSw); go_simp; (try with_reducible rfl))
      try simp only [Act.put, List.setIfInBounds_toArray, List.set_cons_zero, List.set_cons_succ]
      refine wpAnyH_take (i := 10) (oi := { dst := some 15, op := Op.move (Operand.tmp 14), type := 4, pos := "parse.go:45", after := #[{ on := 9, ground := Ground.data }], guard := none }) (v := ?vu83) rfl (by kernel_rfl) (by kernel_rfl) (by kernel_rfl) (by intro _ _ _ h; exact h) (Or.inl ⟨by rfl, ?hyu83⟩) (by assumption) ?restu83
      case hyu83 => (intro w hSw; (try dsimp only at hSw); go_simp; (try with_reducible rfl))
      try simp only [Act.put, List.setIfInBounds_toArray, List.set_cons_zero, List.set_cons_succ]
      refine wpAnyH_take (i := 11) (oi := { dst := some 16, op := Op.move (Operand.tmp 0), type := 62, pos := "parse.go:45", after := #[{ on := 10, ground := Ground.guard }], guard := some (10, false) }) (v := ?vu84) rfl (by kernel_rfl) (by kernel_rfl) (by kernel_rfl) (by intro _ _ _ h; exact h) (Or.inl ⟨by rfl, ?hyu84⟩) (by assumption) ?restu84
      case hyu84 => (intro w hSw; (try dsimp only at hSw); go_simp; (try with_reducible rfl))
      try simp only [Act.put, List.setIfInBounds_toArray, List.set_cons_zero, List.set_cons_succ]
      refine wpAnyH_take (i := 12) (oi := { dst := some 17, op := Op.nilCheck (Operand.tmp 16), type := 0, pos := "parse.go:45", after := #[{ on := 11, ground := Ground.data }, { on := 10, ground := Ground.guard }], guard := some (10, false) }) (v := ?vu85) rfl (by kernel_rfl) (by kernel_rfl) (by kernel_rfl) (by intro _ _ _ h; exact h) (Or.inl ⟨by rfl, ?hyu85⟩) (by assumption) ?restu85
      case hyu85 => (intro w hSw; (try dsimp only at hSw); go_simp; (try with_reducible rfl))
      try simp only [Act.put, List.setIfInBounds_toArray, List.set_cons_zero, List.set_cons_succ]
      refine wpAnyH_take (i := 13) (oi := { dst := some 18, op := Op.fieldAddr 64 (Operand.tmp 17) 0, type := 0, pos := "parse.go:45", after := #[{ on := 12, ground := Ground.data }, { on := 10, ground := Ground.guard }], guard := some (10, false) }) (v := ?vu86) rfl (by kernel_rfl) (by kernel_rfl) (by kernel_rfl) (by intro _ _ _ h; exact h) (Or.inl ⟨by rfl, ?hyu86⟩) (by assumption) ?restu86
      case hyu86 => (intro w hSw; (try dsimp only at hSw); go_simp; (try with_reducible rfl))
      try simp only [Act.put, List.setIfInBounds_toArray, List.set_cons_zero, List.set_cons_succ]
      refine wpAnyH_take (i := 14) (oi := { dst := some 19, op := Op.load 9 (Operand.tmp 18), type := 9, pos := "parse.go:45", after := #[{ on := 13, ground := Ground.data }, { on := 10, ground := Ground.guard }], guard := some (10, false) }) (v := ?vu87) rfl (by kernel_rfl) (by kernel_rfl) (by kernel_rfl) (by intro _ _ _ h; exact h) (Or.inl ⟨by rfl, ?hyu87⟩) (by assumption) ?restu87
      case hyu87 => (intro wz hSw; (try dsimp only at hSw); have t0 := (hSw.cell (World.block_lt_of_cell? _ _ d0)).trans d0; have t1 := (hSw.cell (World.block_lt_of_cell? _ _ d1)).trans d1; go_simp; (try with_reducible rfl))
      try simp only [Act.put, List.setIfInBounds_toArray, List.set_cons_zero, List.set_cons_succ]
      refine wpAnyH_take (i := 15) (oi := { dst := some 20, op := Op.move (Operand.tmp 0), type := 62, pos := "parse.go:45", after := #[{ on := 10, ground := Ground.guard }], guard := some (10, false) }) (v := ?vu88) rfl (by kernel_rfl) (by kernel_rfl) (by kernel_rfl) (by intro _ _ _ h; exact h) (Or.inl ⟨by rfl, ?hyu88⟩) (by assumption) ?restu88
      case hyu88 => (intro w hSw; (try dsimp only at hSw); go_simp; (try with_reducible rfl))
      try simp only [Act.put, List.setIfInBounds_toArray, List.set_cons_zero, List.set_cons_succ]
      refine wpAnyH_take (i := 16) (oi := { dst := some 21, op := Op.nilCheck (Operand.tmp 20), type := 0, pos := "parse.go:45", after := #[{ on := 15, ground := Ground.data }, { on := 10, ground := Ground.guard }], guard := some (10, false) }) (v := ?vu89) rfl (by kernel_rfl) (by kernel_rfl) (by kernel_rfl) (by intro _ _ _ h; exact h) (Or.inl ⟨by rfl, ?hyu89⟩) (by assumption) ?restu89
      case hyu89 => (intro w hSw; (try dsimp only at hSw); go_simp; (try with_reducible rfl))
      try simp only [Act.put, List.setIfInBounds_toArray, List.set_cons_zero, List.set_cons_succ]
      refine wpAnyH_take (i := 17) (oi := { dst := some 22, op := Op.fieldAddr 64 (Operand.tmp 21) 1, type := 0, pos := "parse.go:45", after := #[{ on := 16, ground := Ground.data }, { on := 10, ground := Ground.guard }], guard := some (10, false) }) (v := ?vu90) rfl (by kernel_rfl) (by kernel_rfl) (by kernel_rfl) (by intro _ _ _ h; exact h) (Or.inl ⟨by rfl, ?hyu90⟩) (by assumption) ?restu90
      case hyu90 => (intro w hSw; (try dsimp only at hSw); go_simp; (try with_reducible rfl))
      try simp only [Act.put, List.setIfInBounds_toArray, List.set_cons_zero, List.set_cons_succ]
      refine wpAnyH_take (i := 18) (oi := { dst := some 23, op := Op.load 3 (Operand.tmp 22), type := 3, pos := "parse.go:45", after := #[{ on := 17, ground := Ground.data }, { on := 10, ground := Ground.guard }], guard := some (10, false) }) (v := ?vu91) rfl (by kernel_rfl) (by kernel_rfl) (by kernel_rfl) (by intro _ _ _ h; exact h) (Or.inl ⟨by rfl, ?hyu91⟩) (by assumption) ?restu91
      case hyu91 => (intro wz hSw; (try dsimp only at hSw); have t0 := (hSw.cell (World.block_lt_of_cell? _ _ d0)).trans d0; have t1 := (hSw.cell (World.block_lt_of_cell? _ _ d1)).trans d1; go_simp; (try with_reducible rfl))
      try simp only [Act.put, List.setIfInBounds_toArray, List.set_cons_zero, List.set_cons_succ]
      refine wpAnyH_take (i := 19) (oi := { dst := some 24, op := Op.index 9 (Operand.tmp 19) (Operand.tmp 23), type := 5, pos := "parse.go:45", after := #[{ on := 14, ground := Ground.data }, { on := 18, ground := Ground.data }, { on := 10, ground := Ground.guard }], guard := some (10, false) }) (v := ?vu92) rfl (by kernel_rfl) (by kernel_rfl) (by kernel_rfl) (by intro _ _ _ h; exact h) (Or.inl ⟨by rfl, ?hyu92⟩) (by assumption) ?restu92
      case hyu92 => (intro w hSw; (try dsimp only at hSw); go_simp; rw [if_pos (by omega)])
      try simp only [Act.put, List.setIfInBounds_toArray, List.set_cons_zero, List.set_cons_succ]
      refine wpAnyH_take (i := 20) (oi := { dst := some 25, op := Op.move (Operand.tmp 1), type := 5, pos := "parse.go:45", after := #[{ on := 10, ground := Ground.guard }], guard := some (10, false) }) (v := ?vu93) rfl (by kernel_rfl) (by kernel_rfl) (by kernel_rfl) (by intro _ _ _ h; exact h) (Or.inl ⟨by rfl, ?hyu93⟩) (by assumption) ?restu93
      case hyu93 => (intro w hSw; (try dsimp only at hSw); go_simp; (try with_reducible rfl))
      try simp only [Act.put, List.setIfInBounds_toArray, List.set_cons_zero, List.set_cons_succ]
      refine wpAnyH_take (i := 21) (oi := { dst := some 26, op := Op.binOp BinOp.neq 5 (Operand.tmp 24) (Operand.tmp 25) 5, type := 4, pos := "parse.go:45", after := #[{ on := 19, ground := Ground.data }, { on := 20, ground := Ground.data }, { on := 10, ground := Ground.guard }], guard := some (10, false) }) (v := ?vu94) rfl (by kernel_rfl) (by kernel_rfl) (by kernel_rfl) (by intro _ _ _ h; exact h) (Or.inl ⟨by rfl, ?hyu94⟩) (by assumption) ?restu94
      case hyu94 => (intro w hSw; (try dsimp only at hSw); go_simp; (try with_reducible rfl))
      try simp only [Act.put, List.setIfInBounds_toArray, List.set_cons_zero, List.set_cons_succ]
      refine wpAnyH_take (i := 22) (oi := { dst := some 27, op := Op.pick (Operand.tmp 15) (Operand.const (Value.bool true)) (Operand.tmp 26), type := 4, pos := "parse.go:45", after := #[{ on := 10, ground := Ground.data }, { on := 21, ground := Ground.data }], guard := none }) (v := ?vu95) rfl (by kernel_rfl) (by kernel_rfl) (by kernel_rfl) (by intro _ _ _ h; exact h) (Or.inl ⟨by rfl, ?hyu95⟩) (by assumption) ?restu95
      case hyu95 => (intro w hSw; (try dsimp only at hSw); go_simp; (try with_reducible rfl))
      try simp only [Act.put, List.setIfInBounds_toArray, List.set_cons_zero, List.set_cons_succ]
      refine wpAnyH_done (by kernel_rfl) ?_ _
      go_wp2
      go_ret
      refine Or.inl ⟨HC.out, rfl, ⟨?_, HST.out⟩, ?_⟩
      · rw [HHE2.out, ← HP1.out]; exact pset (show w.drew.heap[bp]? = _ from HHE.out) _
      · exact (Kp.of_below (F := fun b => b = bp) (below_refl w).drew).set (p := ⟨bp, 1, none⟩) (Or.inl rfl) _
    · have hne : ((d.toNat : Int) != (c : Int)) = true := by simp; omega
      have HC : Hid (d.toNat ≠ c) := hdc
      clear hdc
      go_enter Tryz.func78, Tryz.ntmps78
      go_wp2
      refine wp_region_held_drew (S := (fun w' => Below w.heap.size w w')) (by kernel_rfl) ?_ (fun hHeld => ?_)
      · (try dsimp only); exact (below_refl w).drew
      refine wpAnyH_take (i := 0) (oi := { dst := some 5, op := Op.move (Operand.tmp 0), type := 62, pos := "parse.go:45", after := #[], guard := none }) (v := ?vu96) rfl (by kernel_rfl) (by kernel_rfl) (by kernel_rfl) (by intro _ _ _ h; exact h) (Or.inl ⟨by rfl, ?hyu96⟩) (by assumption) ?restu96
      case hyu96 => (intro w hSw; (try dsimp only at hSw); go_simp; (try with_reducible rfl))
      try simp only [Act.put, List.setIfInBounds_toArray, List.set_cons_zero, List.set_cons_succ]
      refine wpAnyH_take (i := 1) (oi := { dst := some 6, op := Op.nilCheck (Operand.tmp 5), type := 0, pos := "parse.go:45", after := #[{ on := 0, ground := Ground.data }], guard := none }) (v := ?vu97) rfl (by kernel_rfl) (by kernel_rfl) (by kernel_rfl) (by intro _ _ _ h; exact h) (Or.inl ⟨by rfl, ?hyu97⟩) (by assumption) ?restu97
      case hyu97 => (intro w hSw; (try dsimp only at hSw); go_simp; (try with_reducible rfl))
      try simp only [Act.put, List.setIfInBounds_toArray, List.set_cons_zero, List.set_cons_succ]
      refine wpAnyH_take (i := 2) (oi := { dst := some 7, op := Op.fieldAddr 64 (Operand.tmp 6) 1, type := 0, pos := "parse.go:45", after := #[{ on := 1, ground := Ground.data }], guard := none }) (v := ?vu98) rfl (by kernel_rfl) (by kernel_rfl) (by kernel_rfl) (by intro _ _ _ h; exact h) (Or.inl ⟨by rfl, ?hyu98⟩) (by assumption) ?restu98
      case hyu98 => (intro w hSw; (try dsimp only at hSw); go_simp; (try with_reducible rfl))
      try simp only [Act.put, List.setIfInBounds_toArray, List.set_cons_zero, List.set_cons_succ]
      refine wpAnyH_take (i := 3) (oi := { dst := some 8, op := Op.load 3 (Operand.tmp 7), type := 3, pos := "parse.go:45", after := #[{ on := 2, ground := Ground.data }], guard := none }) (v := ?vu99) rfl (by kernel_rfl) (by kernel_rfl) (by kernel_rfl) (by intro _ _ _ h; exact h) (Or.inl ⟨by rfl, ?hyu99⟩) (by assumption) ?restu99
      case hyu99 => (intro wz hSw; (try dsimp only at hSw); have t0 := (hSw.cell (World.block_lt_of_cell? _ _ d0)).trans d0; have t1 := (hSw.cell (World.block_lt_of_cell? _ _ d1)).trans d1; go_simp; (try with_reducible rfl))
      try simp only [Act.put, List.setIfInBounds_toArray, List.set_cons_zero, List.set_cons_succ]
      refine wpAnyH_take (i := 4) (oi := { dst := some 9, op := Op.move (Operand.tmp 0), type := 62, pos := "parse.go:45", after := #[], guard := none }) (v := ?vu100) rfl (by kernel_rfl) (by kernel_rfl) (by kernel_rfl) (by intro _ _ _ h; exact h) (Or.inl ⟨by rfl, ?hyu100⟩) (by assumption) ?restu100
      case hyu100 => (intro w hSw; (try dsimp only at hSw); go_simp; (try with_reducible rfl))
      try simp only [Act.put, List.setIfInBounds_toArray, List.set_cons_zero, List.set_cons_succ]
      refine wpAnyH_take (i := 5) (oi := { dst := some 10, op := Op.nilCheck (Operand.tmp 9), type := 0, pos := "parse.go:45", after := #[{ on := 4, ground := Ground.data }], guard := none }) (v := ?vu101) rfl (by kernel_rfl) (by kernel_rfl) (by kernel_rfl) (by intro _ _ _ h; exact h) (Or.inl ⟨by rfl, ?hyu101⟩) (by assumption) ?restu101
      case hyu101 => (intro w hSw; (try dsimp only at hSw); go_simp; (try with_reducible rfl))
      try simp only [Act.put, List.setIfInBounds_toArray, List.set_cons_zero, List.set_cons_succ]
      refine wpAnyH_take (i := 6) (oi := { dst := some 11, op := Op.fieldAddr 64 (Operand.tmp 10) 0, type := 0, pos := "parse.go:45", after := #[{ on := 5, ground := Ground.data }], guard := none }) (v := ?vu102) rfl (by kernel_rfl) (by kernel_rfl) (by kernel_rfl) (by intro _ _ _ h; exact h) (Or.inl ⟨by rfl, ?hyu102⟩) (by assumption) ?restu102
      case hyu102 => (intro w hSw; (try dsimp only at hSw); go_simp; (try with_reducible rfl))
      try simp only [Act.put, List.setIfInBounds_toArray, List.set_cons_zero, List.set_cons_succ]
      refine wpAnyH_take (i := 7) (oi := { dst := some 12, op := Op.load 9 (Operand.tmp 11), type := 9, pos := "parse.go:45", after := #[{ on := 6, ground := Ground.data }], guard := none }) (v := ?vu103) rfl (by kernel_rfl) (by kernel_rfl) (by kernel_rfl) (by intro _ _ _ h; exact h) (Or.inl ⟨by rfl, ?hyu103⟩) (by assumption) ?restu103
      case hyu103 => (intro wz hSw; (try dsimp only at hSw); have t0 := (hSw.cell (World.block_lt_of_cell? _ _ d0)).trans d0; have t1 := (hSw.cell (World.block_lt_of_cell? _ _ d1)).trans d1; go_simp; (try with_reducible rfl))
      try simp only [Act.put, List.setIfInBounds_toArray, List.set_cons_zero, List.set_cons_succ]
      refine wpAnyH_take (i := 8) (oi := { dst := some 13, op := Op.call { callee := Callee.builtin Builtin.len, args := #[Operand.tmp 12], argTypes := #[9] }, type := 3, pos := "parse.go:45", after := #[{ on := 7, ground := Ground.data }], guard := none }) (v := ?vu104) rfl (by kernel_rfl) (by kernel_rfl) (by kernel_rfl) (by intro _ _ _ h; exact h) (Or.inl ⟨by rfl, ?hyu104⟩) (by assumption) ?restu104
      case hyu104 => (intro w hSw; (try dsimp only at hSw); go_simp; (try with_reducible rfl))
      try simp only [Act.put, List.setIfInBounds_toArray, List.set_cons_zero, List.set_cons_succ]
      refine wpAnyH_take (i := 9) (oi := { dst := some 14, op := Op.binOp BinOp.eql 3 (Operand.tmp 8) (Operand.tmp 13) 3, type := 4, pos := "parse.go:45", after := #[{ on := 3, ground := Ground.data }, { on := 8, ground := Ground.data }], guard := none }) (v := ?vu105) rfl (by kernel_rfl) (by kernel_rfl) (by kernel_rfl) (by intro _ _ _ h; exact h) (Or.inl ⟨by rfl, ?hyu105⟩) (by assumption) ?restu105
      case hyu105 => (intro w hSw; (try dsimp only at hSw); go_simp; (try with_reducible rfl))
      try simp only [Act.put, List.setIfInBounds_toArray, List.set_cons_zero, List.set_cons_succ]
      refine wpAnyH_take (i := 10) (oi := { dst := some 15, op := Op.move (Operand.tmp 14), type := 4, pos := "parse.go:45", after := #[{ on := 9, ground := Ground.data }], guard := none }) (v := ?vu106) rfl (by kernel_rfl) (by kernel_rfl) (by kernel_rfl) (by intro _ _ _ h; exact h) (Or.inl ⟨by rfl, ?hyu106⟩) (by assumption) ?restu106
      case hyu106 => (intro w hSw; (try dsimp only at hSw); go_simp; (try with_reducible rfl))
      try simp only [Act.put, List.setIfInBounds_toArray, List.set_cons_zero, List.set_cons_succ]
      refine wpAnyH_take (i := 11) (oi := { dst := some 16, op := Op.move (Operand.tmp 0), type := 62, pos := "parse.go:45", after := #[{ on := 10, ground := Ground.guard }], guard := some (10, false) }) (v := ?vu107) rfl (by kernel_rfl) (by kernel_rfl) (by kernel_rfl) (by intro _ _ _ h; exact h) (Or.inl ⟨by rfl, ?hyu107⟩) (by assumption) ?restu107
      case hyu107 => (intro w hSw; (try dsimp only at hSw); go_simp; (try with_reducible rfl))
      try simp only [Act.put, List.setIfInBounds_toArray, List.set_cons_zero, List.set_cons_succ]
      refine wpAnyH_take (i := 12) (oi := { dst := some 17, op := Op.nilCheck (Operand.tmp 16), type := 0, pos := "parse.go:45", after := #[{ on := 11, ground := Ground.data }, { on := 10, ground := Ground.guard }], guard := some (10, false) }) (v := ?vu108) rfl (by kernel_rfl) (by kernel_rfl) (by kernel_rfl) (by intro _ _ _ h; exact h) (Or.inl ⟨by rfl, ?hyu108⟩) (by assumption) ?restu108
      case hyu108 => (intro w hSw; (try dsimp only at hSw); go_simp; (try with_reducible rfl))
      try simp only [Act.put, List.setIfInBounds_toArray, List.set_cons_zero, List.set_cons_succ]
      refine wpAnyH_take (i := 13) (oi := { dst := some 18, op := Op.fieldAddr 64 (Operand.tmp 17) 0, type := 0, pos := "parse.go:45", after := #[{ on := 12, ground := Ground.data }, { on := 10, ground := Ground.guard }], guard := some (10, false) }) (v := ?vu109) rfl (by kernel_rfl) (by kernel_rfl) (by kernel_rfl) (by intro _ _ _ h; exact h) (Or.inl ⟨by rfl, ?hyu109⟩) (by assumption) ?restu109
      case hyu109 => (intro w hSw; (try dsimp only at hSw); go_simp; (try with_reducible rfl))
      try simp only [Act.put, List.setIfInBounds_toArray, List.set_cons_zero, List.set_cons_succ]
      refine wpAnyH_take (i := 14) (oi := { dst := some 19, op := Op.load 9 (Operand.tmp 18), type := 9, pos := "parse.go:45", after := #[{ on := 13, ground := Ground.data }, { on := 10, ground := Ground.guard }], guard := some (10, false) }) (v := ?vu110) rfl (by kernel_rfl) (by kernel_rfl) (by kernel_rfl) (by intro _ _ _ h; exact h) (Or.inl ⟨by rfl, ?hyu110⟩) (by assumption) ?restu110
      case hyu110 => (intro wz hSw; (try dsimp only at hSw); have t0 := (hSw.cell (World.block_lt_of_cell? _ _ d0)).trans d0; have t1 := (hSw.cell (World.block_lt_of_cell? _ _ d1)).trans d1; go_simp; (try with_reducible rfl))
      try simp only [Act.put, List.setIfInBounds_toArray, List.set_cons_zero, List.set_cons_succ]
      refine wpAnyH_take (i := 15) (oi := { dst := some 20, op := Op.move (Operand.tmp 0), type := 62, pos := "parse.go:45", after := #[{ on := 10, ground := Ground.guard }], guard := some (10, false) }) (v := ?vu111) rfl (by kernel_rfl) (by kernel_rfl) (by kernel_rfl) (by intro _ _ _ h; exact h) (Or.inl ⟨by rfl, ?hyu111⟩) (by assumption) ?restu111
      case hyu111 => (intro w hSw; (try dsimp only at hSw); go_simp; (try with_reducible rfl))
      try simp only [Act.put, List.setIfInBounds_toArray, List.set_cons_zero, List.set_cons_succ]
      refine wpAnyH_take (i := 16) (oi := { dst := some 21, op := Op.nilCheck (Operand.tmp 20), type := 0, pos := "parse.go:45", after := #[{ on := 15, ground := Ground.data }, { on := 10, ground := Ground.guard }], guard := some (10, false) }) (v := ?vu112) rfl (by kernel_rfl) (by kernel_rfl) (by kernel_rfl) (by intro _ _ _ h; exact h) (Or.inl ⟨by rfl, ?hyu112⟩) (by assumption) ?restu112
      case hyu112 => (intro w hSw; (try dsimp only at hSw); go_simp; (try with_reducible rfl))
      try simp only [Act.put, List.setIfInBounds_toArray, List.set_cons_zero, List.set_cons_succ]
      refine wpAnyH_take (i := 17) (oi := { dst := some 22, op := Op.fieldAddr 64 (Operand.tmp 21) 1, type := 0, pos := "parse.go:45", after := #[{ on := 16, ground := Ground.data }, { on := 10, ground := Ground.guard }], guard := some (10, false) }) (v := ?vu113) rfl (by kernel_rfl) (by kernel_rfl) (by kernel_rfl) (by intro _ _ _ h; exact h) (Or.inl ⟨by rfl, ?hyu113⟩) (by assumption) ?restu113
      case hyu113 => (intro w hSw; (try dsimp only at hSw); go_simp; (try with_reducible rfl))
      try simp only [Act.put, List.setIfInBounds_toArray, List.set_cons_zero, List.set_cons_succ]
      refine wpAnyH_take (i := 18) (oi := { dst := some 23, op := Op.load 3 (Operand.tmp 22), type := 3, pos := "parse.go:45", after := #[{ on := 17, ground := Ground.data }, { on := 10, ground := Ground.guard }], guard := some (10, false) }) (v := ?vu114) rfl (by kernel_rfl) (by kernel_rfl) (by kernel_rfl) (by intro _ _ _ h; exact h) (Or.inl ⟨by rfl, ?hyu114⟩) (by assumption) ?restu114
      case hyu114 => (intro wz hSw; (try dsimp only at hSw); have t0 := (hSw.cell (World.block_lt_of_cell? _ _ d0)).trans d0; have t1 := (hSw.cell (World.block_lt_of_cell? _ _ d1)).trans d1; go_simp; (try with_reducible rfl))
      try simp only [Act.put, List.setIfInBounds_toArray, List.set_cons_zero, List.set_cons_succ]
      refine wpAnyH_take (i := 19) (oi := { dst := some 24, op := Op.index 9 (Operand.tmp 19) (Operand.tmp 23), type := 5, pos := "parse.go:45", after := #[{ on := 14, ground := Ground.data }, { on := 18, ground := Ground.data }, { on := 10, ground := Ground.guard }], guard := some (10, false) }) (v := ?vu115) rfl (by kernel_rfl) (by kernel_rfl) (by kernel_rfl) (by intro _ _ _ h; exact h) (Or.inl ⟨by rfl, ?hyu115⟩) (by assumption) ?restu115
      case hyu115 => (intro w hSw; (try dsimp only at hSw); go_simp; rw [if_pos (by omega)])
      try simp only [Act.put, List.setIfInBounds_toArray, List.set_cons_zero, List.set_cons_succ]
      refine wpAnyH_take (i := 20) (oi := { dst := some 25, op := Op.move (Operand.tmp 1), type := 5, pos := "parse.go:45", after := #[{ on := 10, ground := Ground.guard }], guard := some (10, false) }) (v := ?vu116) rfl (by kernel_rfl) (by kernel_rfl) (by kernel_rfl) (by intro _ _ _ h; exact h) (Or.inl ⟨by rfl, ?hyu116⟩) (by assumption) ?restu116
      case hyu116 => (intro w hSw; (try dsimp only at hSw); go_simp; (try with_reducible rfl))
      try simp only [Act.put, List.setIfInBounds_toArray, List.set_cons_zero, List.set_cons_succ]
      refine wpAnyH_take (i := 21) (oi := { dst := some 26, op := Op.binOp BinOp.neq 5 (Operand.tmp 24) (Operand.tmp 25) 5, type := 4, pos := "parse.go:45", after := #[{ on := 19, ground := Ground.data }, { on := 20, ground := Ground.data }, { on := 10, ground := Ground.guard }], guard := some (10, false) }) (v := ?vu117) rfl (by kernel_rfl) (by kernel_rfl) (by kernel_rfl) (by intro _ _ _ h; exact h) (Or.inl ⟨by rfl, ?hyu117⟩) (by assumption) ?restu117
      case hyu117 => (intro w hSw; (try dsimp only at hSw); go_simp; (try with_reducible rfl))
      try simp only [Act.put, List.setIfInBounds_toArray, List.set_cons_zero, List.set_cons_succ]
      refine wpAnyH_take (i := 22) (oi := { dst := some 27, op := Op.pick (Operand.tmp 15) (Operand.const (Value.bool true)) (Operand.tmp 26), type := 4, pos := "parse.go:45", after := #[{ on := 10, ground := Ground.data }, { on := 21, ground := Ground.data }], guard := none }) (v := ?vu118) rfl (by kernel_rfl) (by kernel_rfl) (by kernel_rfl) (by intro _ _ _ h; exact h) (Or.inl ⟨by rfl, ?hyu118⟩) (by assumption) ?restu118
      case hyu118 => (intro w hSw; (try dsimp only at hSw); go_simp; (try with_reducible rfl))
      try simp only [Act.put, List.setIfInBounds_toArray, List.set_cons_zero, List.set_cons_succ]
      refine wpAnyH_done (by kernel_rfl) ?_ _
      go_wp2
      go_ret
      exact Or.inr ⟨HC.out, rfl, (below_refl w).drew⟩
end Go.Proofs.YtbgkfjelgnbfmaaGreatDoor
