/- The parser: run. -/
import Derived.Test.YtbgkfjelgnbfmaaGreatDoorPps
import Derived.Shelf.Abstract
namespace Go.Proofs.YtbgkfjelgnbfmaaGreatDoor
open Go.RowKit Fo
set_option maxRecDepth 100000
set_option linter.unusedSimpArgs false
set_option linter.unusedVariables false

namespace Fo
def digN (n : Nat) : Bool := decide (48 ≤ n) && decide (n ≤ 57)
def digB (c : UInt8) : Bool := digN c.toNat
theorem PIn.pos {full : List UInt8} {bp : Nat} {w : World} {s : List UInt8} (h : PIn full bp w s) : boxInt w (.pointer (some ⟨bp, 1, none⟩)) = ((full.length - s.length : Nat) : Int) := by
  unfold boxInt
  simp only
  rw [cell_of_row _ _ _ _ _ _ h.heap]
  rfl
theorem run_str {full t u : List UInt8} {s : List UInt8} (hs : s = t ++ u) (hl : s.length ≤ full.length ∧ full.drop (full.length - s.length) = s) : (str full).extract (full.length - s.length) (full.length - u.length) = str t := by
  subst hs
  have h1 := hl.1
  rw [List.length_append] at h1
  rw [str_extract, hl.2, show full.length - u.length - (full.length - (t ++ u).length) = t.length by rw [List.length_append]; omega, List.take_left]
theorem while_split {P : UInt8 → Bool} {s t u : List UInt8} (hs : s = t ++ u) (ht : t.all P = true) (hu : ∀ d r, u = d :: r → P d = false) : s.takeWhile P = t ∧ s.dropWhile P = u := by
  subst hs
  induction t with
  | nil =>
    cases u with
    | nil => exact ⟨rfl, rfl⟩
    | cons d r =>
      have := hu d r rfl
      simp [List.takeWhile, List.dropWhile, this]
  | cons a t ih =>
    simp only [List.all_cons, Bool.and_eq_true] at ht
    obtain ⟨h1, h2⟩ := ih ht.2
    simp [List.takeWhile, List.dropWhile, ht.1, h1, h2]
end Fo
theorem fnv_word : ∀ (n : Nat) (w : World), (callFunc 49 #[.int .u8 n]).run Tryz.prog w = .ok (.enter 49 #[.int .u8 n]) w := fun n => enters_of Tryz.func49 (by kernel_rfl) rfl #[.int .u8 n]
theorem fnv_dig : ∀ (n : Nat) (w : World), (callFunc 71 #[.int .u8 n]).run Tryz.prog w = .ok (.enter 71 #[.int .u8 n]) w := fun n => enters_of Tryz.func71 (by kernel_rfl) rfl #[.int .u8 n]
theorem dig_any (w : World) (n : Nat) (hn : n < 256) : Calls Tryz.prog 71 #[.int .u8 n] w fun e w' => e = .returned (.bool (digN n)) ∧ w' = w := by
  by_cases h1 : 48 ≤ n
  · have g1 : (48 : Int) ≤ (n : Int) := by omega
    by_cases h2 : n ≤ 57
    · have g2 : (n : Int) ≤ 57 := by omega
      have HV : Hid (digN n = true) := by show _ = _; unfold digN; simp [h1, h2]
      go_enter Tryz.func71, Tryz.ntmps71
      go_wp2
      go_ret
      exact ⟨ret_bool (by rw [HV.out]), rfl⟩
    · have g2 : ¬ (n : Int) ≤ 57 := by omega
      have HV : Hid (digN n = false) := by show _ = _; unfold digN; simp [h1, h2]
      go_enter Tryz.func71, Tryz.ntmps71
      go_wp2
      go_ret
      exact ⟨ret_bool (by rw [HV.out]), rfl⟩
  · have g1 : ¬ (48 : Int) ≤ (n : Int) := by omega
    have HV : Hid (digN n = false) := by show _ = _; unfold digN; simp [h1]
    go_enter Tryz.func71, Tryz.ntmps71
    go_wp2
    go_ret
    exact ⟨ret_bool (by rw [HV.out]), rfl⟩
set_option maxHeartbeats 8000000 in
theorem run_any (f : FuncId) (PN : Nat → Bool) (hfn : ∀ (n : Nat) (w : World), (callFunc f #[.int .u8 n]).run Tryz.prog w = .ok (.enter f #[.int .u8 n]) w) (hf' : ∀ (w : World) (n : Nat), n < 256 → Calls Tryz.prog f #[.int .u8 n] w fun e w' => e = .returned (.bool (PN n)) ∧ w' = w)
    (full : List UInt8) (bp : Nat) (w : World) (s : List UInt8) (h : PIn full bp w s) (hf : full.length ≤ 100000) :
    Calls Tryz.prog 108 #[.pointer (some ⟨bp, 0, none⟩), .func (.func f) #[] #[]] w fun e w' => e = .returned (.string (str (s.takeWhile fun c => PN c.toNat))) ∧ PIn full bp w' (s.dropWhile fun c => PN c.toNat) ∧ Kp (fun b => b = bp) w w' := by
  have HFN : Hid (∀ (w : World) (n : Nat), n < 256 → Calls Tryz.prog f #[.int .u8 n] w fun e w' => e = .returned (.bool (PN n)) ∧ w' = w) := hf'
  have HSUF : Hid (s.length ≤ full.length ∧ full.drop (full.length - s.length) = s) := h.suf
  have hsl := h.suf.1
  have HP : Hid (PIn full bp w s) := h
  have hhe := h.heap
  have d1 := cell_of_row _ _ 1 _ _ _ hhe
  simp only [List.getElem?_toArray, List.getElem?_cons_zero, List.getElem?_cons_succ] at d1
  obtain ⟨q, hq⟩ : ∃ q, q = full.length - s.length := ⟨_, rfl⟩
  have HQ : Hid (q = full.length - s.length) := hq
  rw [← hq] at d1
  have hq2 : q ≤ full.length := by omega
  clear hhe h hf' hq
  go_enter Tryz.func108, Tryz.ntmps108
  go_wp2
  go_loopw [] (fun wr => ∃ t u : List UInt8, Hid (s = t ++ u) ∧ Hid ((t.all fun c => PN c.toNat) = true) ∧ Hid (PIn full bp wr u) ∧ Hid (Kp (fun b => b = bp) w wr)) (fun wr => full.length - (boxInt wr (.pointer (some ⟨bp, 1, none⟩))).toNat)
  case atStart => exact ⟨[], s, rfl, rfl, HP.out, Kp.refl _ _⟩
  case round =>
    obtain ⟨t, u, HS, HT, HPu, HK⟩ := hrel
    rename World => wr
    have hsz := str_size full
    have hsuf := HPu.out.suf
    have hhe := HPu.out.heap
    have hat := str_at full
    have hex := run_str HS.out HSUF.out
    rw [← HQ.out] at hex
    have HEX : Hid ((str full).extract q (full.length - u.length) = str t) := hex
    have hql : q ≤ full.length - u.length := by
      have h1 := congrArg List.length HS.out
      rw [List.length_append] at h1
      have := HQ.out
      omega
    clear hex
    obtain ⟨S, hSS⟩ : ∃ S, S = str full := ⟨_, rfl⟩
    rw [← hSS] at hsz hhe HEX
    have hat' : ∀ (j : Nat) (h : j < S.size), (S[j]'h).toNat = byt full j := by rw [hSS]; exact hat
    clear hat
    have hat := hat'
    clear hat'
    have HSS : Hid (str full = S) := hSS.symm
    clear hSS d1 HP
    have HQ2 : Hid (q = full.length - s.length) := HQ.out
    clear HQ
    have d0 := cell_of_row _ _ 0 _ _ _ hhe
    have d1 := cell_of_row _ _ 1 _ _ _ hhe
    simp only [List.getElem?_toArray, List.getElem?_cons_zero, List.getElem?_cons_succ] at d0 d1
    have z1 : wr.frozen? ⟨bp, 1, none⟩ = false := by simp [World.frozen?, hhe]
    cases u with
    | nil =>
      simp only [List.length_nil, Nat.sub_zero] at d1 HEX hql
      clear hat hsuf hhe
      have hq : ¬ (full.length : Int) < (full.length : Int) := by omega
      go_wp2
      refine wp_region_held_drew (S := (fun w' => Below wr.heap.size wr w')) (by kernel_rfl) ?_ (fun hHeld => ?_)
      · (try dsimp only); exact (below_refl wr).drew
      refine wpAnyH_take (i := 0) (oi := { dst := some 10, op := Op.move (Operand.tmp 0), type := 62, pos := "parse.go:71", after := #[], guard := none }) (v := ?vu150) rfl (by kernel_rfl) (by kernel_rfl) (by kernel_rfl) (by intro _ _ _ h; exact h) (Or.inl ⟨by rfl, ?hyu150⟩) (by assumption) ?restu150
      case hyu150 => (intro w hSw; (try dsimp only at hSw); go_simp; (try with_reducible rfl))
      try simp only [Act.put, List.setIfInBounds_toArray, List.set_cons_zero, List.set_cons_succ]
      refine wpAnyH_take (i := 1) (oi := { dst := some 11, op := Op.nilCheck (Operand.tmp 10), type := 0, pos := "parse.go:71", after := #[{ on := 0, ground := Ground.data }], guard := none }) (v := ?vu151) rfl (by kernel_rfl) (by kernel_rfl) (by kernel_rfl) (by intro _ _ _ h; exact h) (Or.inl ⟨by rfl, ?hyu151⟩) (by assumption) ?restu151
      case hyu151 => (intro w hSw; (try dsimp only at hSw); go_simp; (try with_reducible rfl))
      try simp only [Act.put, List.setIfInBounds_toArray, List.set_cons_zero, List.set_cons_succ]
      refine wpAnyH_take (i := 2) (oi := { dst := some 12, op := Op.fieldAddr 64 (Operand.tmp 11) 1, type := 0, pos := "parse.go:71", after := #[{ on := 1, ground := Ground.data }], guard := none }) (v := ?vu152) rfl (by kernel_rfl) (by kernel_rfl) (by kernel_rfl) (by intro _ _ _ h; exact h) (Or.inl ⟨by rfl, ?hyu152⟩) (by assumption) ?restu152
      case hyu152 => (intro w hSw; (try dsimp only at hSw); go_simp; (try with_reducible rfl))
      try simp only [Act.put, List.setIfInBounds_toArray, List.set_cons_zero, List.set_cons_succ]
      refine wpAnyH_take (i := 3) (oi := { dst := some 13, op := Op.load 3 (Operand.tmp 12), type := 3, pos := "parse.go:71", after := #[{ on := 2, ground := Ground.data }], guard := none }) (v := ?vu153) rfl (by kernel_rfl) (by kernel_rfl) (by kernel_rfl) (by intro _ _ _ h; exact h) (Or.inl ⟨by rfl, ?hyu153⟩) (by assumption) ?restu153
      case hyu153 => (intro wz hSw; (try dsimp only at hSw); have t0 := (hSw.cell (World.block_lt_of_cell? _ _ d0)).trans d0; have t1 := (hSw.cell (World.block_lt_of_cell? _ _ d1)).trans d1; go_simp; (try with_reducible rfl))
      try simp only [Act.put, List.setIfInBounds_toArray, List.set_cons_zero, List.set_cons_succ]
      refine wpAnyH_take (i := 4) (oi := { dst := some 14, op := Op.move (Operand.tmp 0), type := 62, pos := "parse.go:71", after := #[], guard := none }) (v := ?vu154) rfl (by kernel_rfl) (by kernel_rfl) (by kernel_rfl) (by intro _ _ _ h; exact h) (Or.inl ⟨by rfl, ?hyu154⟩) (by assumption) ?restu154
      case hyu154 => (intro w hSw; (try dsimp only at hSw); go_simp; (try with_reducible rfl))
      try simp only [Act.put, List.setIfInBounds_toArray, List.set_cons_zero, List.set_cons_succ]
      refine wpAnyH_take (i := 5) (oi := { dst := some 15, op := Op.nilCheck (Operand.tmp 14), type := 0, pos := "parse.go:71", after := #[{ on := 4, ground := Ground.data }], guard := none }) (v := ?vu155) rfl (by kernel_rfl) (by kernel_rfl) (by kernel_rfl) (by intro _ _ _ h; exact h) (Or.inl ⟨by rfl, ?hyu155⟩) (by assumption) ?restu155
      case hyu155 => (intro w hSw; (try dsimp only at hSw); go_simp; (try with_reducible rfl))
      try simp only [Act.put, List.setIfInBounds_toArray, List.set_cons_zero, List.set_cons_succ]
      refine wpAnyH_take (i := 6) (oi := { dst := some 16, op := Op.fieldAddr 64 (Operand.tmp 15) 0, type := 0, pos := "parse.go:71", after := #[{ on := 5, ground := Ground.data }], guard := none }) (v := ?vu156) rfl (by kernel_rfl) (by kernel_rfl) (by kernel_rfl) (by intro _ _ _ h; exact h) (Or.inl ⟨by rfl, ?hyu156⟩) (by assumption) ?restu156
      case hyu156 => (intro w hSw; (try dsimp only at hSw); go_simp; (try with_reducible rfl))
      try simp only [Act.put, List.setIfInBounds_toArray, List.set_cons_zero, List.set_cons_succ]
      refine wpAnyH_take (i := 7) (oi := { dst := some 17, op := Op.load 9 (Operand.tmp 16), type := 9, pos := "parse.go:71", after := #[{ on := 6, ground := Ground.data }], guard := none }) (v := ?vu157) rfl (by kernel_rfl) (by kernel_rfl) (by kernel_rfl) (by intro _ _ _ h; exact h) (Or.inl ⟨by rfl, ?hyu157⟩) (by assumption) ?restu157
      case hyu157 => (intro wz hSw; (try dsimp only at hSw); have t0 := (hSw.cell (World.block_lt_of_cell? _ _ d0)).trans d0; have t1 := (hSw.cell (World.block_lt_of_cell? _ _ d1)).trans d1; go_simp; (try with_reducible rfl))
      try simp only [Act.put, List.setIfInBounds_toArray, List.set_cons_zero, List.set_cons_succ]
      refine wpAnyH_take (i := 8) (oi := { dst := some 18, op := Op.call { callee := Callee.builtin Builtin.len, args := #[Operand.tmp 17], argTypes := #[9] }, type := 3, pos := "parse.go:71", after := #[{ on := 7, ground := Ground.data }], guard := none }) (v := ?vu158) rfl (by kernel_rfl) (by kernel_rfl) (by kernel_rfl) (by intro _ _ _ h; exact h) (Or.inl ⟨by rfl, ?hyu158⟩) (by assumption) ?restu158
      case hyu158 => (intro w hSw; (try dsimp only at hSw); go_simp; (try with_reducible rfl))
      try simp only [Act.put, List.setIfInBounds_toArray, List.set_cons_zero, List.set_cons_succ]
      refine wpAnyH_take (i := 9) (oi := { dst := some 19, op := Op.binOp BinOp.lss 3 (Operand.tmp 13) (Operand.tmp 18) 3, type := 4, pos := "parse.go:71", after := #[{ on := 3, ground := Ground.data }, { on := 8, ground := Ground.data }], guard := none }) (v := ?vu159) rfl (by kernel_rfl) (by kernel_rfl) (by kernel_rfl) (by intro _ _ _ h; exact h) (Or.inl ⟨by rfl, ?hyu159⟩) (by assumption) ?restu159
      case hyu159 => (intro w hSw; (try dsimp only at hSw); go_simp; (try with_reducible rfl))
      try simp only [Act.put, List.setIfInBounds_toArray, List.set_cons_zero, List.set_cons_succ]
      refine wpAnyH_take (i := 10) (oi := { dst := some 20, op := Op.move (Operand.tmp 19), type := 4, pos := "parse.go:71", after := #[{ on := 9, ground := Ground.data }], guard := none }) (v := ?vu160) rfl (by kernel_rfl) (by kernel_rfl) (by kernel_rfl) (by intro _ _ _ h; exact h) (Or.inl ⟨by rfl, ?hyu160⟩) (by assumption) ?restu160
      case hyu160 => (intro w hSw; (try dsimp only at hSw); go_simp; (try with_reducible rfl))
      try simp only [Act.put, List.setIfInBounds_toArray, List.set_cons_zero, List.set_cons_succ]
      refine wpAnyH_take (i := 11) (oi := { dst := some 21, op := Op.move (Operand.tmp 1), type := 67, pos := "parse.go:71", after := #[{ on := 10, ground := Ground.guard }], guard := some (10, true) }) (v := undef) rfl (by kernel_rfl) (by kernel_rfl) (by kernel_rfl) (by intro _ _ _ h; exact h) (Or.inr ⟨by rfl, rfl⟩) (by assumption) ?_
      try simp only [Act.put, List.setIfInBounds_toArray, List.set_cons_zero, List.set_cons_succ]
      refine wpAnyH_take (i := 12) (oi := { dst := some 22, op := Op.move (Operand.tmp 0), type := 62, pos := "parse.go:71", after := #[{ on := 10, ground := Ground.guard }], guard := some (10, true) }) (v := undef) rfl (by kernel_rfl) (by kernel_rfl) (by kernel_rfl) (by intro _ _ _ h; exact h) (Or.inr ⟨by rfl, rfl⟩) (by assumption) ?_
      try simp only [Act.put, List.setIfInBounds_toArray, List.set_cons_zero, List.set_cons_succ]
      refine wpAnyH_take (i := 13) (oi := { dst := some 23, op := Op.nilCheck (Operand.tmp 22), type := 0, pos := "parse.go:71", after := #[{ on := 12, ground := Ground.data }, { on := 10, ground := Ground.guard }], guard := some (10, true) }) (v := undef) rfl (by kernel_rfl) (by kernel_rfl) (by kernel_rfl) (by intro _ _ _ h; exact h) (Or.inr ⟨by rfl, rfl⟩) (by assumption) ?_
      try simp only [Act.put, List.setIfInBounds_toArray, List.set_cons_zero, List.set_cons_succ]
      refine wpAnyH_take (i := 14) (oi := { dst := some 24, op := Op.fieldAddr 64 (Operand.tmp 23) 0, type := 0, pos := "parse.go:71", after := #[{ on := 13, ground := Ground.data }, { on := 10, ground := Ground.guard }], guard := some (10, true) }) (v := undef) rfl (by kernel_rfl) (by kernel_rfl) (by kernel_rfl) (by intro _ _ _ h; exact h) (Or.inr ⟨by rfl, rfl⟩) (by assumption) ?_
      try simp only [Act.put, List.setIfInBounds_toArray, List.set_cons_zero, List.set_cons_succ]
      refine wpAnyH_take (i := 15) (oi := { dst := some 25, op := Op.load 9 (Operand.tmp 24), type := 9, pos := "parse.go:71", after := #[{ on := 14, ground := Ground.data }, { on := 10, ground := Ground.guard }], guard := some (10, true) }) (v := undef) rfl (by kernel_rfl) (by kernel_rfl) (by kernel_rfl) (by intro _ _ _ h; exact h) (Or.inr ⟨by rfl, rfl⟩) (by assumption) ?_
      try simp only [Act.put, List.setIfInBounds_toArray, List.set_cons_zero, List.set_cons_succ]
      refine wpAnyH_take (i := 16) (oi := { dst := some 26, op := Op.move (Operand.tmp 0), type := 62, pos := "parse.go:71", after := #[{ on := 10, ground := Ground.guard }], guard := some (10, true) }) (v := undef) rfl (by kernel_rfl) (by kernel_rfl) (by kernel_rfl) (by intro _ _ _ h; exact h) (Or.inr ⟨by rfl, rfl⟩) (by assumption) ?_
      try simp only [Act.put, List.setIfInBounds_toArray, List.set_cons_zero, List.set_cons_succ]
      refine wpAnyH_take (i := 17) (oi := { dst := some 27, op := Op.nilCheck (Operand.tmp 26), type := 0, pos := "parse.go:71", after := #[{ on := 16, ground := Ground.data }, { on := 10, ground := Ground.guard }], guard := some (10, true) }) (v := undef) rfl (by kernel_rfl) (by kernel_rfl) (by kernel_rfl) (by intro _ _ _ h; exact h) (Or.inr ⟨by rfl, rfl⟩) (by assumption) ?_
      try simp only [Act.put, List.setIfInBounds_toArray, List.set_cons_zero, List.set_cons_succ]
      refine wpAnyH_take (i := 18) (oi := { dst := some 28, op := Op.fieldAddr 64 (Operand.tmp 27) 1, type := 0, pos := "parse.go:71", after := #[{ on := 17, ground := Ground.data }, { on := 10, ground := Ground.guard }], guard := some (10, true) }) (v := undef) rfl (by kernel_rfl) (by kernel_rfl) (by kernel_rfl) (by intro _ _ _ h; exact h) (Or.inr ⟨by rfl, rfl⟩) (by assumption) ?_
      try simp only [Act.put, List.setIfInBounds_toArray, List.set_cons_zero, List.set_cons_succ]
      refine wpAnyH_take (i := 19) (oi := { dst := some 29, op := Op.load 3 (Operand.tmp 28), type := 3, pos := "parse.go:71", after := #[{ on := 18, ground := Ground.data }, { on := 10, ground := Ground.guard }], guard := some (10, true) }) (v := undef) rfl (by kernel_rfl) (by kernel_rfl) (by kernel_rfl) (by intro _ _ _ h; exact h) (Or.inr ⟨by rfl, rfl⟩) (by assumption) ?_
      try simp only [Act.put, List.setIfInBounds_toArray, List.set_cons_zero, List.set_cons_succ]
      refine wpAnyH_take (i := 20) (oi := { dst := some 30, op := Op.index 9 (Operand.tmp 25) (Operand.tmp 29), type := 5, pos := "parse.go:71", after := #[{ on := 15, ground := Ground.data }, { on := 19, ground := Ground.data }, { on := 10, ground := Ground.guard }], guard := some (10, true) }) (v := undef) rfl (by kernel_rfl) (by kernel_rfl) (by kernel_rfl) (by intro _ _ _ h; exact h) (Or.inr ⟨by rfl, rfl⟩) (by assumption) ?_
      try simp only [Act.put, List.setIfInBounds_toArray, List.set_cons_zero, List.set_cons_succ]
      refine wpAnyH_take (i := 21) (oi := { dst := some 31, op := Op.call { callee := Callee.value (Operand.tmp 21), args := #[Operand.tmp 30], argTypes := #[5] }, type := 4, pos := "parse.go:71", after := #[{ on := 11, ground := Ground.data }, { on := 20, ground := Ground.data }, { on := 10, ground := Ground.chain }, { on := 10, ground := Ground.guard }], guard := some (10, true) }) (v := undef) rfl (by kernel_rfl) (by kernel_rfl) (by kernel_rfl) (by intro _ _ _ h; exact h) (Or.inr ⟨by rfl, rfl⟩) (by assumption) ?_
      try simp only [Act.put, List.setIfInBounds_toArray, List.set_cons_zero, List.set_cons_succ]
      refine wpAnyH_take (i := 22) (oi := { dst := some 32, op := Op.pick (Operand.tmp 20) (Operand.tmp 31) (Operand.const (Value.bool false)), type := 4, pos := "parse.go:71", after := #[{ on := 10, ground := Ground.data }, { on := 21, ground := Ground.data }], guard := none }) (v := ?vu161) rfl (by kernel_rfl) (by kernel_rfl) (by kernel_rfl) (by intro _ _ _ h; exact h) (Or.inl ⟨by rfl, ?hyu161⟩) (by assumption) ?restu161
      case hyu161 => (intro w hSw; (try dsimp only at hSw); go_simp; (try with_reducible rfl))
      try simp only [Act.put, List.setIfInBounds_toArray, List.set_cons_zero, List.set_cons_succ]
      refine wpAnyH_done (by kernel_rfl) ?_ _
      go_wp2
      refine wp_region_held_drew (S := (fun w' => Below wr.heap.size wr w')) (by kernel_rfl) ?_ (fun hHeld => ?_)
      · (try dsimp only); exact ((below_refl wr).drew).drew
      refine wpAnyH_take (i := 0) (oi := { dst := some 40, op := Op.move (Operand.tmp 0), type := 62, pos := "parse.go:74", after := #[], guard := none }) (v := ?vu162) rfl (by kernel_rfl) (by kernel_rfl) (by kernel_rfl) (by intro _ _ _ h; exact h) (Or.inl ⟨by rfl, ?hyu162⟩) (by assumption) ?restu162
      case hyu162 => (intro w hSw; (try dsimp only at hSw); go_simp; (try with_reducible rfl))
      try simp only [Act.put, List.setIfInBounds_toArray, List.set_cons_zero, List.set_cons_succ]
      refine wpAnyH_take (i := 1) (oi := { dst := some 41, op := Op.nilCheck (Operand.tmp 40), type := 0, pos := "parse.go:74", after := #[{ on := 0, ground := Ground.data }], guard := none }) (v := ?vu163) rfl (by kernel_rfl) (by kernel_rfl) (by kernel_rfl) (by intro _ _ _ h; exact h) (Or.inl ⟨by rfl, ?hyu163⟩) (by assumption) ?restu163
      case hyu163 => (intro w hSw; (try dsimp only at hSw); go_simp; (try with_reducible rfl))
      try simp only [Act.put, List.setIfInBounds_toArray, List.set_cons_zero, List.set_cons_succ]
      refine wpAnyH_take (i := 2) (oi := { dst := some 42, op := Op.fieldAddr 64 (Operand.tmp 41) 0, type := 0, pos := "parse.go:74", after := #[{ on := 1, ground := Ground.data }], guard := none }) (v := ?vu164) rfl (by kernel_rfl) (by kernel_rfl) (by kernel_rfl) (by intro _ _ _ h; exact h) (Or.inl ⟨by rfl, ?hyu164⟩) (by assumption) ?restu164
      case hyu164 => (intro w hSw; (try dsimp only at hSw); go_simp; (try with_reducible rfl))
      try simp only [Act.put, List.setIfInBounds_toArray, List.set_cons_zero, List.set_cons_succ]
      refine wpAnyH_take (i := 3) (oi := { dst := some 43, op := Op.load 9 (Operand.tmp 42), type := 9, pos := "parse.go:74", after := #[{ on := 2, ground := Ground.data }], guard := none }) (v := ?vu165) rfl (by kernel_rfl) (by kernel_rfl) (by kernel_rfl) (by intro _ _ _ h; exact h) (Or.inl ⟨by rfl, ?hyu165⟩) (by assumption) ?restu165
      case hyu165 => (intro wz hSw; (try dsimp only at hSw); have t0 := (hSw.cell (World.block_lt_of_cell? _ _ d0)).trans d0; have t1 := (hSw.cell (World.block_lt_of_cell? _ _ d1)).trans d1; go_simp; (try with_reducible rfl))
      try simp only [Act.put, List.setIfInBounds_toArray, List.set_cons_zero, List.set_cons_succ]
      refine wpAnyH_take (i := 4) (oi := { dst := some 44, op := Op.move (Operand.tmp 5), type := 3, pos := "parse.go:74", after := #[], guard := none }) (v := ?vu166) rfl (by kernel_rfl) (by kernel_rfl) (by kernel_rfl) (by intro _ _ _ h; exact h) (Or.inl ⟨by rfl, ?hyu166⟩) (by assumption) ?restu166
      case hyu166 => (intro w hSw; (try dsimp only at hSw); go_simp; (try with_reducible rfl))
      try simp only [Act.put, List.setIfInBounds_toArray, List.set_cons_zero, List.set_cons_succ]
      refine wpAnyH_take (i := 5) (oi := { dst := some 45, op := Op.move (Operand.tmp 0), type := 62, pos := "parse.go:74", after := #[], guard := none }) (v := ?vu167) rfl (by kernel_rfl) (by kernel_rfl) (by kernel_rfl) (by intro _ _ _ h; exact h) (Or.inl ⟨by rfl, ?hyu167⟩) (by assumption) ?restu167
      case hyu167 => (intro w hSw; (try dsimp only at hSw); go_simp; (try with_reducible rfl))
      try simp only [Act.put, List.setIfInBounds_toArray, List.set_cons_zero, List.set_cons_succ]
      refine wpAnyH_take (i := 6) (oi := { dst := some 46, op := Op.nilCheck (Operand.tmp 45), type := 0, pos := "parse.go:74", after := #[{ on := 5, ground := Ground.data }], guard := none }) (v := ?vu168) rfl (by kernel_rfl) (by kernel_rfl) (by kernel_rfl) (by intro _ _ _ h; exact h) (Or.inl ⟨by rfl, ?hyu168⟩) (by assumption) ?restu168
      case hyu168 => (intro w hSw; (try dsimp only at hSw); go_simp; (try with_reducible rfl))
      try simp only [Act.put, List.setIfInBounds_toArray, List.set_cons_zero, List.set_cons_succ]
      refine wpAnyH_take (i := 7) (oi := { dst := some 47, op := Op.fieldAddr 64 (Operand.tmp 46) 1, type := 0, pos := "parse.go:74", after := #[{ on := 6, ground := Ground.data }], guard := none }) (v := ?vu169) rfl (by kernel_rfl) (by kernel_rfl) (by kernel_rfl) (by intro _ _ _ h; exact h) (Or.inl ⟨by rfl, ?hyu169⟩) (by assumption) ?restu169
      case hyu169 => (intro w hSw; (try dsimp only at hSw); go_simp; (try with_reducible rfl))
      try simp only [Act.put, List.setIfInBounds_toArray, List.set_cons_zero, List.set_cons_succ]
      refine wpAnyH_take (i := 8) (oi := { dst := some 48, op := Op.load 3 (Operand.tmp 47), type := 3, pos := "parse.go:74", after := #[{ on := 7, ground := Ground.data }], guard := none }) (v := ?vu170) rfl (by kernel_rfl) (by kernel_rfl) (by kernel_rfl) (by intro _ _ _ h; exact h) (Or.inl ⟨by rfl, ?hyu170⟩) (by assumption) ?restu170
      case hyu170 => (intro wz hSw; (try dsimp only at hSw); have t0 := (hSw.cell (World.block_lt_of_cell? _ _ d0)).trans d0; have t1 := (hSw.cell (World.block_lt_of_cell? _ _ d1)).trans d1; go_simp; (try with_reducible rfl))
      try simp only [Act.put, List.setIfInBounds_toArray, List.set_cons_zero, List.set_cons_succ]
      refine wpAnyH_take (i := 9) (oi := { dst := some 49, op := Op.slice 9 (Operand.tmp 43) (some (Operand.tmp 44)) (some (Operand.tmp 48)) none, type := 9, pos := "parse.go:74", after := #[{ on := 3, ground := Ground.data }, { on := 4, ground := Ground.data }, { on := 8, ground := Ground.data }], guard := none }) (v := ?vu171) rfl (by kernel_rfl) (by kernel_rfl) (by kernel_rfl) (by intro _ _ _ h; exact h) (Or.inl ⟨by rfl, ?hyu171⟩) (by assumption) ?restu171
      case hyu171 => (intro w hSw; (try dsimp only at hSw); go_simp; (try with_reducible rfl))
      try simp only [Act.put, List.setIfInBounds_toArray, List.set_cons_zero, List.set_cons_succ]
      refine wpAnyH_take (i := 10) (oi := { dst := some 4, op := Op.assign (Operand.tmp 49), type := 9, pos := "parse.go:74", after := #[{ on := 9, ground := Ground.data }, { on := 0, ground := Ground.phase }, { on := 1, ground := Ground.phase }, { on := 2, ground := Ground.phase }, { on := 3, ground := Ground.phase }, { on := 4, ground := Ground.phase }, { on := 5, ground := Ground.phase }, { on := 6, ground := Ground.phase }, { on := 7, ground := Ground.phase }, { on := 8, ground := Ground.phase }, { on := 9, ground := Ground.phase }], guard := none }) (v := ?vu172) rfl (by kernel_rfl) (by kernel_rfl) (by kernel_rfl) (by intro _ _ _ h; exact h) (Or.inl ⟨by rfl, ?hyu172⟩) (by assumption) ?restu172
      case hyu172 => (intro w hSw; (try dsimp only at hSw); go_simp; (try with_reducible rfl))
      try simp only [Act.put, List.setIfInBounds_toArray, List.set_cons_zero, List.set_cons_succ]
      refine wpAnyH_done (by kernel_rfl) ?_ _
      go_wp2
      go_ret
      obtain ⟨w1, w2⟩ := while_split HS.out HT.out (fun d r e => by cases e)
      refine ⟨ret_str (by rw [HEX.out, w1]), ?_, ?_⟩
      · rw [w2]; exact HPu.out.below ((below_refl wr).drew).drew
      · exact HK.out.bel ((below_refl wr).drew).drew
    | cons d r =>
      have hby := suf_at hsuf
      have HST : Hid (r.length ≤ full.length ∧ full.drop (full.length - r.length) = r) := suf_tail hsuf
      have hlen := hsuf.1
      simp only [List.length_cons] at hlen
      obtain ⟨p, hp⟩ : ∃ p, p = full.length - (d :: r).length := ⟨_, rfl⟩
      rw [← hp] at hby d1 HEX hql
      have HHE : Hid (wr.heap[bp]? = some (.cells #[.string S, .int .i64 p] 64)) := by show _ = _; rw [hhe, ← hp]
      have HPOS : Hid (boxInt wr (.pointer (some ⟨bp, 1, none⟩)) = (p : Int)) := by show _ = _; rw [HPu.out.pos, ← hp]
      simp only [List.length_cons] at hp
      have hq : (p : Int) < (full.length : Int) := by omega
      have i3 : p < S.size := by omega
      have hpf : p ≤ full.length := by omega
      have hd256 : d.toNat < 256 := UInt8.toNat_lt d
      have HP1 : Hid (((p : Int) + 1) = ((full.length - r.length : Nat) : Int)) := by show _ = _; omega
      have hset : (wr.drew.setCell ⟨bp, 1, none⟩ (.int .i64 ((p : Int) + 1))).heap[bp]? = some (.cells #[.string S, .int .i64 ((p : Int) + 1)] 64) := pset (show wr.drew.heap[bp]? = _ from HHE.out) _
      have HNEW : Hid (PIn full bp (wr.drew.setCell ⟨bp, 1, none⟩ (.int .i64 ((p : Int) + 1))) r) := ⟨by rw [HSS.out, ← HP1.out]; exact hset, HST.out⟩
      have HKN : Hid (Kp (fun b => b = bp) w (wr.drew.setCell ⟨bp, 1, none⟩ (.int .i64 ((p : Int) + 1)))) := (HK.out.bel (below_refl wr).drew).set (p := ⟨bp, 1, none⟩) (Or.inl rfl) _
      clear hsuf hhe hp hset
      have HC := HFN.out wr.drew d.toNat hd256
      have HCC : Hid (Calls Tryz.prog f #[.int .u8 d.toNat] wr.drew fun e w' => e = .returned (.bool (PN d.toNat)) ∧ w' = wr.drew) := HC
      clear HC
      obtain ⟨bb, hbb⟩ : ∃ bb, bb = PN d.toNat := ⟨_, rfl⟩
      have HBB : Hid (bb = PN d.toNat) := hbb
      rw [← hbb] at HCC
      clear hbb
      cases bb
      · skip
        go_wp2
        refine wp_region_held_drew (S := (fun w' => Below wr.heap.size wr w')) (by kernel_rfl) ?_ (fun hHeld => ?_)
        · (try dsimp only); exact (below_refl wr).drew
        refine wpAnyH_take (i := 0) (oi := { dst := some 10, op := Op.move (Operand.tmp 0), type := 62, pos := "parse.go:71", after := #[], guard := none }) (v := ?vu173) rfl (by kernel_rfl) (by kernel_rfl) (by kernel_rfl) (by intro _ _ _ h; exact h) (Or.inl ⟨by rfl, ?hyu173⟩) (by assumption) ?restu173
        case hyu173 => (intro w hSw; (try dsimp only at hSw); go_simp; (try with_reducible rfl))
        try simp only [Act.put, List.setIfInBounds_toArray, List.set_cons_zero, List.set_cons_succ]
        refine wpAnyH_take (i := 1) (oi := { dst := some 11, op := Op.nilCheck (Operand.tmp 10), type := 0, pos := "parse.go:71", after := #[{ on := 0, ground := Ground.data }], guard := none }) (v := ?vu174) rfl (by kernel_rfl) (by kernel_rfl) (by kernel_rfl) (by intro _ _ _ h; exact h) (Or.inl ⟨by rfl, ?hyu174⟩) (by assumption) ?restu174
        case hyu174 => (intro w hSw; (try dsimp only at hSw); go_simp; (try with_reducible rfl))
        try simp only [Act.put, List.setIfInBounds_toArray, List.set_cons_zero, List.set_cons_succ]
        refine wpAnyH_take (i := 2) (oi := { dst := some 12, op := Op.fieldAddr 64 (Operand.tmp 11) 1, type := 0, pos := "parse.go:71", after := #[{ on := 1, ground := Ground.data }], guard := none }) (v := ?vu175) rfl (by kernel_rfl) (by kernel_rfl) (by kernel_rfl) (by intro _ _ _ h; exact h) (Or.inl ⟨by rfl, ?hyu175⟩) (by assumption) ?restu175
        case hyu175 => (intro w hSw; (try dsimp only at hSw); go_simp; (try with_reducible rfl))
        try simp only [Act.put, List.setIfInBounds_toArray, List.set_cons_zero, List.set_cons_succ]
        refine wpAnyH_take (i := 3) (oi := { dst := some 13, op := Op.load 3 (Operand.tmp 12), type := 3, pos := "parse.go:71", after := #[{ on := 2, ground := Ground.data }], guard := none }) (v := ?vu176) rfl (by kernel_rfl) (by kernel_rfl) (by kernel_rfl) (by intro _ _ _ h; exact h) (Or.inl ⟨by rfl, ?hyu176⟩) (by assumption) ?restu176
        case hyu176 => (intro wz hSw; (try dsimp only at hSw); have t0 := (hSw.cell (World.block_lt_of_cell? _ _ d0)).trans d0; have t1 := (hSw.cell (World.block_lt_of_cell? _ _ d1)).trans d1; go_simp; (try with_reducible rfl))
        try simp only [Act.put, List.setIfInBounds_toArray, List.set_cons_zero, List.set_cons_succ]
        refine wpAnyH_take (i := 4) (oi := { dst := some 14, op := Op.move (Operand.tmp 0), type := 62, pos := "parse.go:71", after := #[], guard := none }) (v := ?vu177) rfl (by kernel_rfl) (by kernel_rfl) (by kernel_rfl) (by intro _ _ _ h; exact h) (Or.inl ⟨by rfl, ?hyu177⟩) (by assumption) ?restu177
        case hyu177 => (intro w hSw; (try dsimp only at hSw); go_simp; (try with_reducible rfl))
        try simp only [Act.put, List.setIfInBounds_toArray, List.set_cons_zero, List.set_cons_succ]
        refine wpAnyH_take (i := 5) (oi := { dst := some 15, op := Op.nilCheck (Operand.tmp 14), type := 0, pos := "parse.go:71", after := #[{ on := 4, ground := Ground.data }], guard := none }) (v := ?vu178) rfl (by kernel_rfl) (by kernel_rfl) (by kernel_rfl) (by intro _ _ _ h; exact h) (Or.inl ⟨by rfl, ?hyu178⟩) (by assumption) ?restu178
        case hyu178 => (intro w hSw; (try dsimp only at hSw); go_simp; (try with_reducible rfl))
        try simp only [Act.put, List.setIfInBounds_toArray, List.set_cons_zero, List.set_cons_succ]
        refine wpAnyH_take (i := 6) (oi := { dst := some 16, op := Op.fieldAddr 64 (Operand.tmp 15) 0, type := 0, pos := "parse.go:71", after := #[{ on := 5, ground := Ground.data }], guard := none }) (v := ?vu179) rfl (by kernel_rfl) (by kernel_rfl) (by kernel_rfl) (by intro _ _ _ h; exact h) (Or.inl ⟨by rfl, ?hyu179⟩) (by assumption) ?restu179
        case hyu179 => (intro w hSw; (try dsimp only at hSw); go_simp; (try with_reducible rfl))
        try simp only [Act.put, List.setIfInBounds_toArray, List.set_cons_zero, List.set_cons_succ]
        refine wpAnyH_take (i := 7) (oi := { dst := some 17, op := Op.load 9 (Operand.tmp 16), type := 9, pos := "parse.go:71", after := #[{ on := 6, ground := Ground.data }], guard := none }) (v := ?vu180) rfl (by kernel_rfl) (by kernel_rfl) (by kernel_rfl) (by intro _ _ _ h; exact h) (Or.inl ⟨by rfl, ?hyu180⟩) (by assumption) ?restu180
        case hyu180 => (intro wz hSw; (try dsimp only at hSw); have t0 := (hSw.cell (World.block_lt_of_cell? _ _ d0)).trans d0; have t1 := (hSw.cell (World.block_lt_of_cell? _ _ d1)).trans d1; go_simp; (try with_reducible rfl))
        try simp only [Act.put, List.setIfInBounds_toArray, List.set_cons_zero, List.set_cons_succ]
        refine wpAnyH_take (i := 8) (oi := { dst := some 18, op := Op.call { callee := Callee.builtin Builtin.len, args := #[Operand.tmp 17], argTypes := #[9] }, type := 3, pos := "parse.go:71", after := #[{ on := 7, ground := Ground.data }], guard := none }) (v := ?vu181) rfl (by kernel_rfl) (by kernel_rfl) (by kernel_rfl) (by intro _ _ _ h; exact h) (Or.inl ⟨by rfl, ?hyu181⟩) (by assumption) ?restu181
        case hyu181 => (intro w hSw; (try dsimp only at hSw); go_simp; (try with_reducible rfl))
        try simp only [Act.put, List.setIfInBounds_toArray, List.set_cons_zero, List.set_cons_succ]
        refine wpAnyH_take (i := 9) (oi := { dst := some 19, op := Op.binOp BinOp.lss 3 (Operand.tmp 13) (Operand.tmp 18) 3, type := 4, pos := "parse.go:71", after := #[{ on := 3, ground := Ground.data }, { on := 8, ground := Ground.data }], guard := none }) (v := ?vu182) rfl (by kernel_rfl) (by kernel_rfl) (by kernel_rfl) (by intro _ _ _ h; exact h) (Or.inl ⟨by rfl, ?hyu182⟩) (by assumption) ?restu182
        case hyu182 => (intro w hSw; (try dsimp only at hSw); go_simp; (try with_reducible rfl))
        try simp only [Act.put, List.setIfInBounds_toArray, List.set_cons_zero, List.set_cons_succ]
        refine wpAnyH_take (i := 10) (oi := { dst := some 20, op := Op.move (Operand.tmp 19), type := 4, pos := "parse.go:71", after := #[{ on := 9, ground := Ground.data }], guard := none }) (v := ?vu183) rfl (by kernel_rfl) (by kernel_rfl) (by kernel_rfl) (by intro _ _ _ h; exact h) (Or.inl ⟨by rfl, ?hyu183⟩) (by assumption) ?restu183
        case hyu183 => (intro w hSw; (try dsimp only at hSw); go_simp; (try with_reducible rfl))
        try simp only [Act.put, List.setIfInBounds_toArray, List.set_cons_zero, List.set_cons_succ]
        refine wpAnyH_take (i := 11) (oi := { dst := some 21, op := Op.move (Operand.tmp 1), type := 67, pos := "parse.go:71", after := #[{ on := 10, ground := Ground.guard }], guard := some (10, true) }) (v := ?vu184) rfl (by kernel_rfl) (by kernel_rfl) (by kernel_rfl) (by intro _ _ _ h; exact h) (Or.inl ⟨by rfl, ?hyu184⟩) (by assumption) ?restu184
        case hyu184 => (intro w hSw; (try dsimp only at hSw); go_simp; (try with_reducible rfl))
        try simp only [Act.put, List.setIfInBounds_toArray, List.set_cons_zero, List.set_cons_succ]
        refine wpAnyH_take (i := 12) (oi := { dst := some 22, op := Op.move (Operand.tmp 0), type := 62, pos := "parse.go:71", after := #[{ on := 10, ground := Ground.guard }], guard := some (10, true) }) (v := ?vu185) rfl (by kernel_rfl) (by kernel_rfl) (by kernel_rfl) (by intro _ _ _ h; exact h) (Or.inl ⟨by rfl, ?hyu185⟩) (by assumption) ?restu185
        case hyu185 => (intro w hSw; (try dsimp only at hSw); go_simp; (try with_reducible rfl))
        try simp only [Act.put, List.setIfInBounds_toArray, List.set_cons_zero, List.set_cons_succ]
        refine wpAnyH_take (i := 13) (oi := { dst := some 23, op := Op.nilCheck (Operand.tmp 22), type := 0, pos := "parse.go:71", after := #[{ on := 12, ground := Ground.data }, { on := 10, ground := Ground.guard }], guard := some (10, true) }) (v := ?vu186) rfl (by kernel_rfl) (by kernel_rfl) (by kernel_rfl) (by intro _ _ _ h; exact h) (Or.inl ⟨by rfl, ?hyu186⟩) (by assumption) ?restu186
        case hyu186 => (intro w hSw; (try dsimp only at hSw); go_simp; (try with_reducible rfl))
        try simp only [Act.put, List.setIfInBounds_toArray, List.set_cons_zero, List.set_cons_succ]
        refine wpAnyH_take (i := 14) (oi := { dst := some 24, op := Op.fieldAddr 64 (Operand.tmp 23) 0, type := 0, pos := "parse.go:71", after := #[{ on := 13, ground := Ground.data }, { on := 10, ground := Ground.guard }], guard := some (10, true) }) (v := ?vu187) rfl (by kernel_rfl) (by kernel_rfl) (by kernel_rfl) (by intro _ _ _ h; exact h) (Or.inl ⟨by rfl, ?hyu187⟩) (by assumption) ?restu187
        case hyu187 => (intro w hSw; (try dsimp only at hSw); go_simp; (try with_reducible rfl))
        try simp only [Act.put, List.setIfInBounds_toArray, List.set_cons_zero, List.set_cons_succ]
        refine wpAnyH_take (i := 15) (oi := { dst := some 25, op := Op.load 9 (Operand.tmp 24), type := 9, pos := "parse.go:71", after := #[{ on := 14, ground := Ground.data }, { on := 10, ground := Ground.guard }], guard := some (10, true) }) (v := ?vu188) rfl (by kernel_rfl) (by kernel_rfl) (by kernel_rfl) (by intro _ _ _ h; exact h) (Or.inl ⟨by rfl, ?hyu188⟩) (by assumption) ?restu188
        case hyu188 => (intro wz hSw; (try dsimp only at hSw); have t0 := (hSw.cell (World.block_lt_of_cell? _ _ d0)).trans d0; have t1 := (hSw.cell (World.block_lt_of_cell? _ _ d1)).trans d1; go_simp; (try with_reducible rfl))
        try simp only [Act.put, List.setIfInBounds_toArray, List.set_cons_zero, List.set_cons_succ]
        refine wpAnyH_take (i := 16) (oi := { dst := some 26, op := Op.move (Operand.tmp 0), type := 62, pos := "parse.go:71", after := #[{ on := 10, ground := Ground.guard }], guard := some (10, true) }) (v := ?vu189) rfl (by kernel_rfl) (by kernel_rfl) (by kernel_rfl) (by intro _ _ _ h; exact h) (Or.inl ⟨by rfl, ?hyu189⟩) (by assumption) ?restu189
        case hyu189 => (intro w hSw; (try dsimp only at hSw); go_simp; (try with_reducible rfl))
        try simp only [Act.put, List.setIfInBounds_toArray, List.set_cons_zero, List.set_cons_succ]
        refine wpAnyH_take (i := 17) (oi := { dst := some 27, op := Op.nilCheck (Operand.tmp 26), type := 0, pos := "parse.go:71", after := #[{ on := 16, ground := Ground.data }, { on := 10, ground := Ground.guard }], guard := some (10, true) }) (v := ?vu190) rfl (by kernel_rfl) (by kernel_rfl) (by kernel_rfl) (by intro _ _ _ h; exact h) (Or.inl ⟨by rfl, ?hyu190⟩) (by assumption) ?restu190
        case hyu190 => (intro w hSw; (try dsimp only at hSw); go_simp; (try with_reducible rfl))
        try simp only [Act.put, List.setIfInBounds_toArray, List.set_cons_zero, List.set_cons_succ]
        refine wpAnyH_take (i := 18) (oi := { dst := some 28, op := Op.fieldAddr 64 (Operand.tmp 27) 1, type := 0, pos := "parse.go:71", after := #[{ on := 17, ground := Ground.data }, { on := 10, ground := Ground.guard }], guard := some (10, true) }) (v := ?vu191) rfl (by kernel_rfl) (by kernel_rfl) (by kernel_rfl) (by intro _ _ _ h; exact h) (Or.inl ⟨by rfl, ?hyu191⟩) (by assumption) ?restu191
        case hyu191 => (intro w hSw; (try dsimp only at hSw); go_simp; (try with_reducible rfl))
        try simp only [Act.put, List.setIfInBounds_toArray, List.set_cons_zero, List.set_cons_succ]
        refine wpAnyH_take (i := 19) (oi := { dst := some 29, op := Op.load 3 (Operand.tmp 28), type := 3, pos := "parse.go:71", after := #[{ on := 18, ground := Ground.data }, { on := 10, ground := Ground.guard }], guard := some (10, true) }) (v := ?vu192) rfl (by kernel_rfl) (by kernel_rfl) (by kernel_rfl) (by intro _ _ _ h; exact h) (Or.inl ⟨by rfl, ?hyu192⟩) (by assumption) ?restu192
        case hyu192 => (intro wz hSw; (try dsimp only at hSw); have t0 := (hSw.cell (World.block_lt_of_cell? _ _ d0)).trans d0; have t1 := (hSw.cell (World.block_lt_of_cell? _ _ d1)).trans d1; go_simp; (try with_reducible rfl))
        try simp only [Act.put, List.setIfInBounds_toArray, List.set_cons_zero, List.set_cons_succ]
        refine wpAnyH_take (i := 20) (oi := { dst := some 30, op := Op.index 9 (Operand.tmp 25) (Operand.tmp 29), type := 5, pos := "parse.go:71", after := #[{ on := 15, ground := Ground.data }, { on := 19, ground := Ground.data }, { on := 10, ground := Ground.guard }], guard := some (10, true) }) (v := ?vu193) rfl (by kernel_rfl) (by kernel_rfl) (by kernel_rfl) (by intro _ _ _ h; exact h) (Or.inl ⟨by rfl, ?hyu193⟩) (by assumption) ?restu193
        case hyu193 => (intro w hSw; (try dsimp only at hSw); go_simp; (first | with_reducible rfl | rw [if_pos (by omega)]))
        try simp only [Act.put, List.setIfInBounds_toArray, List.set_cons_zero, List.set_cons_succ]
        refine wpAnyH_ready (rs := [21]) (by kernel_rfl) (by simp) ?_
        refine AllReadyH.cons (o := { dst := some 31, op := Op.call { callee := Callee.value (Operand.tmp 21), args := #[Operand.tmp 30], argTypes := #[5] }, type := 4, pos := "parse.go:71", after := #[{ on := 11, ground := Ground.data }, { on := 20, ground := Ground.data }, { on := 10, ground := Ground.chain }, { on := 10, ground := Ground.guard }], guard := some (10, true) }) rfl (fun K hK => ?_) AllReadyH.nil
        go_simp
        refine HCC.out.mono ?_
        rintro e w5 ⟨rfl, rfl⟩
        refine hK.out _ _ ?_ (fun hHeldB => ?_)
        · (try dsimp only); exact (below_refl wr).drew
        clear hK K hHeld
        have hHeld := hHeldB
        clear hHeldB
        try simp only [Act.put, List.setIfInBounds_toArray, List.set_cons_zero, List.set_cons_succ]
        refine wpAnyH_take (i := 22) (oi := { dst := some 32, op := Op.pick (Operand.tmp 20) (Operand.tmp 31) (Operand.const (Value.bool false)), type := 4, pos := "parse.go:71", after := #[{ on := 10, ground := Ground.data }, { on := 21, ground := Ground.data }], guard := none }) (v := ?vu194) rfl (by kernel_rfl) (by kernel_rfl) (by kernel_rfl) (by intro _ _ _ h; exact h) (Or.inl ⟨by rfl, ?hyu194⟩) (by assumption) ?restu194
        case hyu194 => (intro w hSw; (try dsimp only at hSw); go_simp; (try with_reducible rfl))
        try simp only [Act.put, List.setIfInBounds_toArray, List.set_cons_zero, List.set_cons_succ]
        refine wpAnyH_done (by kernel_rfl) ?_ _
        go_wp2
        refine wp_region_held_drew (S := (fun w' => Below wr.heap.size wr w')) (by kernel_rfl) ?_ (fun hHeld => ?_)
        · (try dsimp only); exact ((below_refl wr).drew).drew
        refine wpAnyH_take (i := 0) (oi := { dst := some 40, op := Op.move (Operand.tmp 0), type := 62, pos := "parse.go:74", after := #[], guard := none }) (v := ?vu195) rfl (by kernel_rfl) (by kernel_rfl) (by kernel_rfl) (by intro _ _ _ h; exact h) (Or.inl ⟨by rfl, ?hyu195⟩) (by assumption) ?restu195
        case hyu195 => (intro w hSw; (try dsimp only at hSw); go_simp; (try with_reducible rfl))
        try simp only [Act.put, List.setIfInBounds_toArray, List.set_cons_zero, List.set_cons_succ]
        refine wpAnyH_take (i := 1) (oi := { dst := some 41, op := Op.nilCheck (Operand.tmp 40), type := 0, pos := "parse.go:74", after := #[{ on := 0, ground := Ground.data }], guard := none }) (v := ?vu196) rfl (by kernel_rfl) (by kernel_rfl) (by kernel_rfl) (by intro _ _ _ h; exact h) (Or.inl ⟨by rfl, ?hyu196⟩) (by assumption) ?restu196
        case hyu196 => (intro w hSw; (try dsimp only at hSw); go_simp; (try with_reducible rfl))
        try simp only [Act.put, List.setIfInBounds_toArray, List.set_cons_zero, List.set_cons_succ]
        refine wpAnyH_take (i := 2) (oi := { dst := some 42, op := Op.fieldAddr 64 (Operand.tmp 41) 0, type := 0, pos := "parse.go:74", after := #[{ on := 1, ground := Ground.data }], guard := none }) (v := ?vu197) rfl (by kernel_rfl) (by kernel_rfl) (by kernel_rfl) (by intro _ _ _ h; exact h) (Or.inl ⟨by rfl, ?hyu197⟩) (by assumption) ?restu197
        case hyu197 => (intro w hSw; (try dsimp only at hSw); go_simp; (try with_reducible rfl))
        try simp only [Act.put, List.setIfInBounds_toArray, List.set_cons_zero, List.set_cons_succ]
        refine wpAnyH_take (i := 3) (oi := { dst := some 43, op := Op.load 9 (Operand.tmp 42), type := 9, pos := "parse.go:74", after := #[{ on := 2, ground := Ground.data }], guard := none }) (v := ?vu198) rfl (by kernel_rfl) (by kernel_rfl) (by kernel_rfl) (by intro _ _ _ h; exact h) (Or.inl ⟨by rfl, ?hyu198⟩) (by assumption) ?restu198
        case hyu198 => (intro wz hSw; (try dsimp only at hSw); have t0 := (hSw.cell (World.block_lt_of_cell? _ _ d0)).trans d0; have t1 := (hSw.cell (World.block_lt_of_cell? _ _ d1)).trans d1; go_simp; (try with_reducible rfl))
        try simp only [Act.put, List.setIfInBounds_toArray, List.set_cons_zero, List.set_cons_succ]
        refine wpAnyH_take (i := 4) (oi := { dst := some 44, op := Op.move (Operand.tmp 5), type := 3, pos := "parse.go:74", after := #[], guard := none }) (v := ?vu199) rfl (by kernel_rfl) (by kernel_rfl) (by kernel_rfl) (by intro _ _ _ h; exact h) (Or.inl ⟨by rfl, ?hyu199⟩) (by assumption) ?restu199
        case hyu199 => (intro w hSw; (try dsimp only at hSw); go_simp; (try with_reducible rfl))
        try simp only [Act.put, List.setIfInBounds_toArray, List.set_cons_zero, List.set_cons_succ]
        refine wpAnyH_take (i := 5) (oi := { dst := some 45, op := Op.move (Operand.tmp 0), type := 62, pos := "parse.go:74", after := #[], guard := none }) (v := ?vu200) rfl (by kernel_rfl) (by kernel_rfl) (by kernel_rfl) (by intro _ _ _ h; exact h) (Or.inl ⟨by rfl, ?hyu200⟩) (by assumption) ?restu200
        case hyu200 => (intro w hSw; (try dsimp only at hSw); go_simp; (try with_reducible rfl))
        try simp only [Act.put, List.setIfInBounds_toArray, List.set_cons_zero, List.set_cons_succ]
        refine wpAnyH_take (i := 6) (oi := { dst := some 46, op := Op.nilCheck (Operand.tmp 45), type := 0, pos := "parse.go:74", after := #[{ on := 5, ground := Ground.data }], guard := none }) (v := ?vu201) rfl (by kernel_rfl) (by kernel_rfl) (by kernel_rfl) (by intro _ _ _ h; exact h) (Or.inl ⟨by rfl, ?hyu201⟩) (by assumption) ?restu201
        case hyu201 => (intro w hSw; (try dsimp only at hSw); go_simp; (try with_reducible rfl))
        try simp only [Act.put, List.setIfInBounds_toArray, List.set_cons_zero, List.set_cons_succ]
        refine wpAnyH_take (i := 7) (oi := { dst := some 47, op := Op.fieldAddr 64 (Operand.tmp 46) 1, type := 0, pos := "parse.go:74", after := #[{ on := 6, ground := Ground.data }], guard := none }) (v := ?vu202) rfl (by kernel_rfl) (by kernel_rfl) (by kernel_rfl) (by intro _ _ _ h; exact h) (Or.inl ⟨by rfl, ?hyu202⟩) (by assumption) ?restu202
        case hyu202 => (intro w hSw; (try dsimp only at hSw); go_simp; (try with_reducible rfl))
        try simp only [Act.put, List.setIfInBounds_toArray, List.set_cons_zero, List.set_cons_succ]
        refine wpAnyH_take (i := 8) (oi := { dst := some 48, op := Op.load 3 (Operand.tmp 47), type := 3, pos := "parse.go:74", after := #[{ on := 7, ground := Ground.data }], guard := none }) (v := ?vu203) rfl (by kernel_rfl) (by kernel_rfl) (by kernel_rfl) (by intro _ _ _ h; exact h) (Or.inl ⟨by rfl, ?hyu203⟩) (by assumption) ?restu203
        case hyu203 => (intro wz hSw; (try dsimp only at hSw); have t0 := (hSw.cell (World.block_lt_of_cell? _ _ d0)).trans d0; have t1 := (hSw.cell (World.block_lt_of_cell? _ _ d1)).trans d1; go_simp; (try with_reducible rfl))
        try simp only [Act.put, List.setIfInBounds_toArray, List.set_cons_zero, List.set_cons_succ]
        refine wpAnyH_take (i := 9) (oi := { dst := some 49, op := Op.slice 9 (Operand.tmp 43) (some (Operand.tmp 44)) (some (Operand.tmp 48)) none, type := 9, pos := "parse.go:74", after := #[{ on := 3, ground := Ground.data }, { on := 4, ground := Ground.data }, { on := 8, ground := Ground.data }], guard := none }) (v := ?vu204) rfl (by kernel_rfl) (by kernel_rfl) (by kernel_rfl) (by intro _ _ _ h; exact h) (Or.inl ⟨by rfl, ?hyu204⟩) (by assumption) ?restu204
        case hyu204 => (intro w hSw; (try dsimp only at hSw); go_simp; (try with_reducible rfl))
        try simp only [Act.put, List.setIfInBounds_toArray, List.set_cons_zero, List.set_cons_succ]
        refine wpAnyH_take (i := 10) (oi := { dst := some 4, op := Op.assign (Operand.tmp 49), type := 9, pos := "parse.go:74", after := #[{ on := 9, ground := Ground.data }, { on := 0, ground := Ground.phase }, { on := 1, ground := Ground.phase }, { on := 2, ground := Ground.phase }, { on := 3, ground := Ground.phase }, { on := 4, ground := Ground.phase }, { on := 5, ground := Ground.phase }, { on := 6, ground := Ground.phase }, { on := 7, ground := Ground.phase }, { on := 8, ground := Ground.phase }, { on := 9, ground := Ground.phase }], guard := none }) (v := ?vu205) rfl (by kernel_rfl) (by kernel_rfl) (by kernel_rfl) (by intro _ _ _ h; exact h) (Or.inl ⟨by rfl, ?hyu205⟩) (by assumption) ?restu205
        case hyu205 => (intro w hSw; (try dsimp only at hSw); go_simp; (try with_reducible rfl))
        try simp only [Act.put, List.setIfInBounds_toArray, List.set_cons_zero, List.set_cons_succ]
        refine wpAnyH_done (by kernel_rfl) ?_ _
        go_wp2
        go_ret
        obtain ⟨w1, w2⟩ := while_split HS.out HT.out (fun d' r' e => by
          injection e with e1 e2
          subst e1
          exact HBB.out.symm)
        refine ⟨ret_str (by rw [HEX.out, w1]), ?_, ?_⟩
        · rw [w2]; exact HPu.out.below ((below_refl wr).drew).drew
        · exact HK.out.bel ((below_refl wr).drew).drew
      · skip
        go_wp2
        refine wp_region_held_drew (S := (fun w' => Below wr.heap.size wr w')) (by kernel_rfl) ?_ (fun hHeld => ?_)
        · (try dsimp only); exact (below_refl wr).drew
        refine wpAnyH_take (i := 0) (oi := { dst := some 10, op := Op.move (Operand.tmp 0), type := 62, pos := "parse.go:71", after := #[], guard := none }) (v := ?vu206) rfl (by kernel_rfl) (by kernel_rfl) (by kernel_rfl) (by intro _ _ _ h; exact h) (Or.inl ⟨by rfl, ?hyu206⟩) (by assumption) ?restu206
        case hyu206 => (intro w hSw; (try dsimp only at hSw); go_simp; (try with_reducible rfl))
        try simp only [Act.put, List.setIfInBounds_toArray, List.set_cons_zero, List.set_cons_succ]
        refine wpAnyH_take (i := 1) (oi := { dst := some 11, op := Op.nilCheck (Operand.tmp 10), type := 0, pos := "parse.go:71", after := #[{ on := 0, ground := Ground.data }], guard := none }) (v := ?vu207) rfl (by kernel_rfl) (by kernel_rfl) (by kernel_rfl) (by intro _ _ _ h; exact h) (Or.inl ⟨by rfl, ?hyu207⟩) (by assumption) ?restu207
        case hyu207 => (intro w hSw; (try dsimp only at hSw); go_simp; (try with_reducible rfl))
        try simp only [Act.put, List.setIfInBounds_toArray, List.set_cons_zero, List.set_cons_succ]
        refine wpAnyH_take (i := 2) (oi := { dst := some 12, op := Op.fieldAddr 64 (Operand.tmp 11) 1, type := 0, pos := "parse.go:71", after := #[{ on := 1, ground := Ground.data }], guard := none }) (v := ?vu208) rfl (by kernel_rfl) (by kernel_rfl) (by kernel_rfl) (by intro _ _ _ h; exact h) (Or.inl ⟨by rfl, ?hyu208⟩) (by assumption) ?restu208
        case hyu208 => (intro w hSw; (try dsimp only at hSw); go_simp; (try with_reducible rfl))
        try simp only [Act.put, List.setIfInBounds_toArray, List.set_cons_zero, List.set_cons_succ]
        refine wpAnyH_take (i := 3) (oi := { dst := some 13, op := Op.load 3 (Operand.tmp 12), type := 3, pos := "parse.go:71", after := #[{ on := 2, ground := Ground.data }], guard := none }) (v := ?vu209) rfl (by kernel_rfl) (by kernel_rfl) (by kernel_rfl) (by intro _ _ _ h; exact h) (Or.inl ⟨by rfl, ?hyu209⟩) (by assumption) ?restu209
        case hyu209 => (intro wz hSw; (try dsimp only at hSw); have t0 := (hSw.cell (World.block_lt_of_cell? _ _ d0)).trans d0; have t1 := (hSw.cell (World.block_lt_of_cell? _ _ d1)).trans d1; go_simp; (try with_reducible rfl))
        try simp only [Act.put, List.setIfInBounds_toArray, List.set_cons_zero, List.set_cons_succ]
        refine wpAnyH_take (i := 4) (oi := { dst := some 14, op := Op.move (Operand.tmp 0), type := 62, pos := "parse.go:71", after := #[], guard := none }) (v := ?vu210) rfl (by kernel_rfl) (by kernel_rfl) (by kernel_rfl) (by intro _ _ _ h; exact h) (Or.inl ⟨by rfl, ?hyu210⟩) (by assumption) ?restu210
        case hyu210 => (intro w hSw; (try dsimp only at hSw); go_simp; (try with_reducible rfl))
        try simp only [Act.put, List.setIfInBounds_toArray, List.set_cons_zero, List.set_cons_succ]
        refine wpAnyH_take (i := 5) (oi := { dst := some 15, op := Op.nilCheck (Operand.tmp 14), type := 0, pos := "parse.go:71", after := #[{ on := 4, ground := Ground.data }], guard := none }) (v := ?vu211) rfl (by kernel_rfl) (by kernel_rfl) (by kernel_rfl) (by intro _ _ _ h; exact h) (Or.inl ⟨by rfl, ?hyu211⟩) (by assumption) ?restu211
        case hyu211 => (intro w hSw; (try dsimp only at hSw); go_simp; (try with_reducible rfl))
        try simp only [Act.put, List.setIfInBounds_toArray, List.set_cons_zero, List.set_cons_succ]
        refine wpAnyH_take (i := 6) (oi := { dst := some 16, op := Op.fieldAddr 64 (Operand.tmp 15) 0, type := 0, pos := "parse.go:71", after := #[{ on := 5, ground := Ground.data }], guard := none }) (v := ?vu212) rfl (by kernel_rfl) (by kernel_rfl) (by kernel_rfl) (by intro _ _ _ h; exact h) (Or.inl ⟨by rfl, ?hyu212⟩) (by assumption) ?restu212
        case hyu212 => (intro w hSw; (try dsimp only at hSw); go_simp; (try with_reducible rfl))
        try simp only [Act.put, List.setIfInBounds_toArray, List.set_cons_zero, List.set_cons_succ]
        refine wpAnyH_take (i := 7) (oi := { dst := some 17, op := Op.load 9 (Operand.tmp 16), type := 9, pos := "parse.go:71", after := #[{ on := 6, ground := Ground.data }], guard := none }) (v := ?vu213) rfl (by kernel_rfl) (by kernel_rfl) (by kernel_rfl) (by intro _ _ _ h; exact h) (Or.inl ⟨by rfl, ?hyu213⟩) (by assumption) ?restu213
        case hyu213 => (intro wz hSw; (try dsimp only at hSw); have t0 := (hSw.cell (World.block_lt_of_cell? _ _ d0)).trans d0; have t1 := (hSw.cell (World.block_lt_of_cell? _ _ d1)).trans d1; go_simp; (try with_reducible rfl))
        try simp only [Act.put, List.setIfInBounds_toArray, List.set_cons_zero, List.set_cons_succ]
        refine wpAnyH_take (i := 8) (oi := { dst := some 18, op := Op.call { callee := Callee.builtin Builtin.len, args := #[Operand.tmp 17], argTypes := #[9] }, type := 3, pos := "parse.go:71", after := #[{ on := 7, ground := Ground.data }], guard := none }) (v := ?vu214) rfl (by kernel_rfl) (by kernel_rfl) (by kernel_rfl) (by intro _ _ _ h; exact h) (Or.inl ⟨by rfl, ?hyu214⟩) (by assumption) ?restu214
        case hyu214 => (intro w hSw; (try dsimp only at hSw); go_simp; (try with_reducible rfl))
        try simp only [Act.put, List.setIfInBounds_toArray, List.set_cons_zero, List.set_cons_succ]
        refine wpAnyH_take (i := 9) (oi := { dst := some 19, op := Op.binOp BinOp.lss 3 (Operand.tmp 13) (Operand.tmp 18) 3, type := 4, pos := "parse.go:71", after := #[{ on := 3, ground := Ground.data }, { on := 8, ground := Ground.data }], guard := none }) (v := ?vu215) rfl (by kernel_rfl) (by kernel_rfl) (by kernel_rfl) (by intro _ _ _ h; exact h) (Or.inl ⟨by rfl, ?hyu215⟩) (by assumption) ?restu215
        case hyu215 => (intro w hSw; (try dsimp only at hSw); go_simp; (try with_reducible rfl))
        try simp only [Act.put, List.setIfInBounds_toArray, List.set_cons_zero, List.set_cons_succ]
        refine wpAnyH_take (i := 10) (oi := { dst := some 20, op := Op.move (Operand.tmp 19), type := 4, pos := "parse.go:71", after := #[{ on := 9, ground := Ground.data }], guard := none }) (v := ?vu216) rfl (by kernel_rfl) (by kernel_rfl) (by kernel_rfl) (by intro _ _ _ h; exact h) (Or.inl ⟨by rfl, ?hyu216⟩) (by assumption) ?restu216
        case hyu216 => (intro w hSw; (try dsimp only at hSw); go_simp; (try with_reducible rfl))
        try simp only [Act.put, List.setIfInBounds_toArray, List.set_cons_zero, List.set_cons_succ]
        refine wpAnyH_take (i := 11) (oi := { dst := some 21, op := Op.move (Operand.tmp 1), type := 67, pos := "parse.go:71", after := #[{ on := 10, ground := Ground.guard }], guard := some (10, true) }) (v := ?vu217) rfl (by kernel_rfl) (by kernel_rfl) (by kernel_rfl) (by intro _ _ _ h; exact h) (Or.inl ⟨by rfl, ?hyu217⟩) (by assumption) ?restu217
        case hyu217 => (intro w hSw; (try dsimp only at hSw); go_simp; (try with_reducible rfl))
        try simp only [Act.put, List.setIfInBounds_toArray, List.set_cons_zero, List.set_cons_succ]
        refine wpAnyH_take (i := 12) (oi := { dst := some 22, op := Op.move (Operand.tmp 0), type := 62, pos := "parse.go:71", after := #[{ on := 10, ground := Ground.guard }], guard := some (10, true) }) (v := ?vu218) rfl (by kernel_rfl) (by kernel_rfl) (by kernel_rfl) (by intro _ _ _ h; exact h) (Or.inl ⟨by rfl, ?hyu218⟩) (by assumption) ?restu218
        case hyu218 => (intro w hSw; (try dsimp only at hSw); go_simp; (try with_reducible rfl))
        try simp only [Act.put, List.setIfInBounds_toArray, List.set_cons_zero, List.set_cons_succ]
        refine wpAnyH_take (i := 13) (oi := { dst := some 23, op := Op.nilCheck (Operand.tmp 22), type := 0, pos := "parse.go:71", after := #[{ on := 12, ground := Ground.data }, { on := 10, ground := Ground.guard }], guard := some (10, true) }) (v := ?vu219) rfl (by kernel_rfl) (by kernel_rfl) (by kernel_rfl) (by intro _ _ _ h; exact h) (Or.inl ⟨by rfl, ?hyu219⟩) (by assumption) ?restu219
        case hyu219 => (intro w hSw; (try dsimp only at hSw); go_simp; (try with_reducible rfl))
        try simp only [Act.put, List.setIfInBounds_toArray, List.set_cons_zero, List.set_cons_succ]
        refine wpAnyH_take (i := 14) (oi := { dst := some 24, op := Op.fieldAddr 64 (Operand.tmp 23) 0, type := 0, pos := "parse.go:71", after := #[{ on := 13, ground := Ground.data }, { on := 10, ground := Ground.guard }], guard := some (10, true) }) (v := ?vu220) rfl (by kernel_rfl) (by kernel_rfl) (by kernel_rfl) (by intro _ _ _ h; exact h) (Or.inl ⟨by rfl, ?hyu220⟩) (by assumption) ?restu220
        case hyu220 => (intro w hSw; (try dsimp only at hSw); go_simp; (try with_reducible rfl))
        try simp only [Act.put, List.setIfInBounds_toArray, List.set_cons_zero, List.set_cons_succ]
        refine wpAnyH_take (i := 15) (oi := { dst := some 25, op := Op.load 9 (Operand.tmp 24), type := 9, pos := "parse.go:71", after := #[{ on := 14, ground := Ground.data }, { on := 10, ground := Ground.guard }], guard := some (10, true) }) (v := ?vu221) rfl (by kernel_rfl) (by kernel_rfl) (by kernel_rfl) (by intro _ _ _ h; exact h) (Or.inl ⟨by rfl, ?hyu221⟩) (by assumption) ?restu221
        case hyu221 => (intro wz hSw; (try dsimp only at hSw); have t0 := (hSw.cell (World.block_lt_of_cell? _ _ d0)).trans d0; have t1 := (hSw.cell (World.block_lt_of_cell? _ _ d1)).trans d1; go_simp; (try with_reducible rfl))
        try simp only [Act.put, List.setIfInBounds_toArray, List.set_cons_zero, List.set_cons_succ]
        refine wpAnyH_take (i := 16) (oi := { dst := some 26, op := Op.move (Operand.tmp 0), type := 62, pos := "parse.go:71", after := #[{ on := 10, ground := Ground.guard }], guard := some (10, true) }) (v := ?vu222) rfl (by kernel_rfl) (by kernel_rfl) (by kernel_rfl) (by intro _ _ _ h; exact h) (Or.inl ⟨by rfl, ?hyu222⟩) (by assumption) ?restu222
        case hyu222 => (intro w hSw; (try dsimp only at hSw); go_simp; (try with_reducible rfl))
        try simp only [Act.put, List.setIfInBounds_toArray, List.set_cons_zero, List.set_cons_succ]
        refine wpAnyH_take (i := 17) (oi := { dst := some 27, op := Op.nilCheck (Operand.tmp 26), type := 0, pos := "parse.go:71", after := #[{ on := 16, ground := Ground.data }, { on := 10, ground := Ground.guard }], guard := some (10, true) }) (v := ?vu223) rfl (by kernel_rfl) (by kernel_rfl) (by kernel_rfl) (by intro _ _ _ h; exact h) (Or.inl ⟨by rfl, ?hyu223⟩) (by assumption) ?restu223
        case hyu223 => (intro w hSw; (try dsimp only at hSw); go_simp; (try with_reducible rfl))
        try simp only [Act.put, List.setIfInBounds_toArray, List.set_cons_zero, List.set_cons_succ]
        refine wpAnyH_take (i := 18) (oi := { dst := some 28, op := Op.fieldAddr 64 (Operand.tmp 27) 1, type := 0, pos := "parse.go:71", after := #[{ on := 17, ground := Ground.data }, { on := 10, ground := Ground.guard }], guard := some (10, true) }) (v := ?vu224) rfl (by kernel_rfl) (by kernel_rfl) (by kernel_rfl) (by intro _ _ _ h; exact h) (Or.inl ⟨by rfl, ?hyu224⟩) (by assumption) ?restu224
        case hyu224 => (intro w hSw; (try dsimp only at hSw); go_simp; (try with_reducible rfl))
        try simp only [Act.put, List.setIfInBounds_toArray, List.set_cons_zero, List.set_cons_succ]
        refine wpAnyH_take (i := 19) (oi := { dst := some 29, op := Op.load 3 (Operand.tmp 28), type := 3, pos := "parse.go:71", after := #[{ on := 18, ground := Ground.data }, { on := 10, ground := Ground.guard }], guard := some (10, true) }) (v := ?vu225) rfl (by kernel_rfl) (by kernel_rfl) (by kernel_rfl) (by intro _ _ _ h; exact h) (Or.inl ⟨by rfl, ?hyu225⟩) (by assumption) ?restu225
        case hyu225 => (intro wz hSw; (try dsimp only at hSw); have t0 := (hSw.cell (World.block_lt_of_cell? _ _ d0)).trans d0; have t1 := (hSw.cell (World.block_lt_of_cell? _ _ d1)).trans d1; go_simp; (try with_reducible rfl))
        try simp only [Act.put, List.setIfInBounds_toArray, List.set_cons_zero, List.set_cons_succ]
        refine wpAnyH_take (i := 20) (oi := { dst := some 30, op := Op.index 9 (Operand.tmp 25) (Operand.tmp 29), type := 5, pos := "parse.go:71", after := #[{ on := 15, ground := Ground.data }, { on := 19, ground := Ground.data }, { on := 10, ground := Ground.guard }], guard := some (10, true) }) (v := ?vu226) rfl (by kernel_rfl) (by kernel_rfl) (by kernel_rfl) (by intro _ _ _ h; exact h) (Or.inl ⟨by rfl, ?hyu226⟩) (by assumption) ?restu226
        case hyu226 => (intro w hSw; (try dsimp only at hSw); go_simp; (first | with_reducible rfl | rw [if_pos (by omega)]))
        try simp only [Act.put, List.setIfInBounds_toArray, List.set_cons_zero, List.set_cons_succ]
        refine wpAnyH_ready (rs := [21]) (by kernel_rfl) (by simp) ?_
        refine AllReadyH.cons (o := { dst := some 31, op := Op.call { callee := Callee.value (Operand.tmp 21), args := #[Operand.tmp 30], argTypes := #[5] }, type := 4, pos := "parse.go:71", after := #[{ on := 11, ground := Ground.data }, { on := 20, ground := Ground.data }, { on := 10, ground := Ground.chain }, { on := 10, ground := Ground.guard }], guard := some (10, true) }) rfl (fun K hK => ?_) AllReadyH.nil
        go_simp
        refine HCC.out.mono ?_
        rintro e w5 ⟨rfl, rfl⟩
        refine hK.out _ _ ?_ (fun hHeldB => ?_)
        · (try dsimp only); exact (below_refl wr).drew
        clear hK K hHeld
        have hHeld := hHeldB
        clear hHeldB
        try simp only [Act.put, List.setIfInBounds_toArray, List.set_cons_zero, List.set_cons_succ]
        refine wpAnyH_take (i := 22) (oi := { dst := some 32, op := Op.pick (Operand.tmp 20) (Operand.tmp 31) (Operand.const (Value.bool false)), type := 4, pos := "parse.go:71", after := #[{ on := 10, ground := Ground.data }, { on := 21, ground := Ground.data }], guard := none }) (v := ?vu227) rfl (by kernel_rfl) (by kernel_rfl) (by kernel_rfl) (by intro _ _ _ h; exact h) (Or.inl ⟨by rfl, ?hyu227⟩) (by assumption) ?restu227
        case hyu227 => (intro w hSw; (try dsimp only at hSw); go_simp; (try with_reducible rfl))
        try simp only [Act.put, List.setIfInBounds_toArray, List.set_cons_zero, List.set_cons_succ]
        refine wpAnyH_done (by kernel_rfl) ?_ _
        go_wp2
        refine ⟨⟨t ++ [d], r, ?_, ?_, HNEW.out, HKN.out⟩, ?_⟩
        · show s = _
          rw [HS.out]; simp
        · show List.all _ _ = true
          rw [List.all_append, HT.out]
          simp [HBB.out.symm]
        · show full.length - (boxInt (wr.drew.setCell ⟨bp, 1, none⟩ (.int .i64 ((p : Int) + 1))) (.pointer (some ⟨bp, 1, none⟩))).toNat < full.length - (boxInt wr (.pointer (some ⟨bp, 1, none⟩))).toNat
          rw [HNEW.out.pos, HPOS.out, ← HP1.out]
          omega
end Go.Proofs.YtbgkfjelgnbfmaaGreatDoor
