/- The parser: fail, want, next, run. -/
import Derived.Test.YtbgkfjelgnbfmaaGreatDoorPpr
namespace Go.Proofs.YtbgkfjelgnbfmaaGreatDoor
open Go.RowKit Fo
set_option maxRecDepth 100000
set_option linter.unusedSimpArgs false
set_option linter.unusedVariables false

namespace Fo
def wantM (c : UInt8) : List UInt8 → Except Nat (Unit × List UInt8)
  | [] => .error 0
  | d :: r => if d = c then .ok ((), r) else .error (d :: r).length
def nextM : List UInt8 → Except Nat (UInt8 × List UInt8)
  | [] => .error 0
  | d :: r => .ok (d, r)
theorem str_extract (l : List UInt8) (a b : Nat) : (str l).extract a b = str ((l.drop a).take (b - a)) := by
  unfold str
  apply ByteArray.ext
  simp [ByteArray.data_extract]
end Fo
theorem u8_eq {d c : UInt8} : d.toNat = c.toNat ↔ d = c := UInt8.toNat_inj
set_option maxHeartbeats 4000000 in
theorem fai_any (C : BailSays) (full : List UInt8) (bp : Nat) (w : World) (s : List UInt8) (h : PIn full bp w s) :
    Calls Tryz.prog 42 #[.pointer (some ⟨bp, 0, none⟩)] w fun e w' => EnIn w.heap.size (fun _ => False) w' (.bail 3 ((full.length - s.length : Nat) : Int)) e ∧ Below w.heap.size w w' := by
  have hhe := h.heap
  have d0 := cell_of_row _ _ 0 _ _ _ hhe
  have d1 := cell_of_row _ _ 1 _ _ _ hhe
  simp only [List.getElem?_toArray, List.getElem?_cons_zero, List.getElem?_cons_succ] at d0 d1
  generalize ((full.length - s.length : Nat) : Int) = p at d1 ⊢
  generalize str full = S at d0
  clear hhe h
  go_enter Tryz.func42, Tryz.ntmps42
  go_wp2_with (go_at_call 65; fail)
  refine (C.out w 3 p).mono ?_
  rintro e w' ⟨hb, he⟩
  have HB : Hid (Below w.heap.size w w') := hb
  rcases id he with ⟨h, -⟩ | ⟨v, old, rfl, -⟩
  · cases h
  have HE : Hid (EnIn w.heap.size (fun _ => False) w' (.bail 3 p) (.panicked ({ v := v, recovered := false } :: old))) := he
  clear hb he
  go_wp2
  exact ⟨rfl, HE.out, HB.out⟩
set_option maxHeartbeats 4000000 in
theorem wan_any (C : BailSays) (full : List UInt8) (bp : Nat) (w : World) (s : List UInt8) (c : UInt8) (h : PIn full bp w s) (hf : full.length ≤ 100000) :
    Calls Tryz.prog 99 #[.pointer (some ⟨bp, 0, none⟩), .int .u8 c.toNat] w (PEnd full bp w (wantM c s) (fun _ v _ => v = .tuple #[])) := by
  have HT : Hid (Calls _ _ _ _ _) := tak_any full bp w s c.toNat (UInt8.toNat_lt c) h hf
  have HP : Hid (PIn full bp w s) := h
  clear h
  go_enter Tryz.func99, Tryz.ntmps99
  go_wp2_with (go_at_call 78; fail)
  refine HT.out.mono ?_
  intro e w1 ht
  cases s with
  | nil =>
    obtain ⟨rfl, b1⟩ := ht
    have HB1 : Hid (Below w.heap.size w w1) := b1
    have HP1 : Hid (PIn full bp w1 []) := HP.out.below b1
    clear b1 HT
    go_wp2_with (go_at_call 42; fail)
    refine (fai_any C full bp w1 _ HP1.out).mono ?_
    rintro e w2 ⟨he, hb⟩
    have HB2 : Hid (Below w.heap.size w w2) := below_step HB1.out hb
    rcases id he with ⟨h, -⟩ | ⟨v, old, rfl, -⟩
    · cases h
    have HE : Hid (EnIn w.heap.size (fun _ => False) w2 (.bail 3 ((full.length - 0 : Nat) : Int)) (.panicked ({ v := v, recovered := false } :: old))) := he.lo HB1.out.size
    clear hb he
    go_wp2
    exact ⟨rfl, HE.out, Kp.of_below HB2.out⟩
  | cons d r =>
    rcases ht with ⟨hc, rfl, hp, hk⟩ | ⟨hc, rfl, b1⟩
    · have HP1 : Hid (PIn full bp w1 r) := hp
      have HK1 : Hid (Kp (fun b => b = bp) w w1) := hk
      have HV : Hid (wantM c (d :: r) = .ok ((), r)) := by show (if d = c then Except.ok ((), r) else Except.error (d :: r).length) = _; rw [if_pos (u8_eq.1 hc)]
      clear hp hk HT hc
      go_wp2
      go_end0
      rw [HV.out]
      exact ⟨_, rfl, rfl, HP1.out, HK1.out⟩
    · have HB1 : Hid (Below w.heap.size w w1) := b1
      have HP1 : Hid (PIn full bp w1 (d :: r)) := HP.out.below b1
      have HV : Hid (wantM c (d :: r) = .error (d :: r).length) := by show (if d = c then Except.ok ((), r) else Except.error (d :: r).length) = _; rw [if_neg (fun e => hc (u8_eq.2 e))]
      clear b1 HT hc
      go_wp2_with (go_at_call 42; fail)
      refine (fai_any C full bp w1 _ HP1.out).mono ?_
      rintro e w2 ⟨he, hb⟩
      have HB2 : Hid (Below w.heap.size w w2) := below_step HB1.out hb
      rcases id he with ⟨h, -⟩ | ⟨v, old, rfl, -⟩
      · cases h
      have HE : Hid (EnIn w.heap.size (fun _ => False) w2 (.bail 3 ((full.length - (d :: r).length : Nat) : Int)) (.panicked ({ v := v, recovered := false } :: old))) := he.lo HB1.out.size
      clear hb he
      go_wp2
      refine ⟨rfl, ?_⟩
      rw [HV.out]
      exact ⟨HE.out, Kp.of_below HB2.out⟩
set_option maxHeartbeats 4000000 in
theorem nxt_any (C : BailSays) (full : List UInt8) (bp : Nat) (w : World) (s : List UInt8) (h : PIn full bp w s) (hf : full.length ≤ 100000) :
    Calls Tryz.prog 115 #[.pointer (some ⟨bp, 0, none⟩)] w (PEnd full bp w (nextM s) (fun _ v d => v = .int .u8 d.toNat)) := by
  have HP : Hid (PIn full bp w s) := h
  have hsz := str_size full
  have hsuf := h.suf
  have hhe := h.heap
  have hat := str_at full
  obtain ⟨S, hSS⟩ : ∃ S, S = str full := ⟨_, rfl⟩
  rw [← hSS] at hsz hhe
  have hat' : ∀ (j : Nat) (h : j < S.size), (S[j]'h).toNat = byt full j := by rw [hSS]; exact hat
  clear hat
  have hat := hat'
  clear hat'
  have HSS : Hid (str full = S) := hSS.symm
  clear hSS
  have d0 := cell_of_row _ _ 0 _ _ _ hhe
  have d1 := cell_of_row _ _ 1 _ _ _ hhe
  simp only [List.getElem?_toArray, List.getElem?_cons_zero, List.getElem?_cons_succ] at d0 d1
  have z1 : w.frozen? ⟨bp, 1, none⟩ = false := by simp [World.frozen?, hhe]
  cases s with
  | nil =>
    simp only [List.length_nil, Nat.sub_zero] at d1
    clear hat hsuf h hhe
    have hq : ((full.length : Int) == (full.length : Int)) = true := by simp
    go_enter Tryz.func115, Tryz.ntmps115
    go_wp2
    refine wp_region_held_drew (S := (fun w' => Below w.heap.size w w')) (by kernel_rfl) ?_ (fun hHeld => ?_)
    · (try dsimp only); exact (below_refl w).drew
    refine wpAnyH_take (i := 0) (oi := { dst := some 3, op := Op.move (Operand.tmp 0), type := 62, pos := "parse.go:61", after := #[], guard := none }) (v := ?vu119) rfl (by kernel_rfl) (by kernel_rfl) (by kernel_rfl) (by intro _ _ _ h; exact h) (Or.inl ⟨by rfl, ?hyu119⟩) (by assumption) ?restu119
    case hyu119 => (intro w hSw; (try dsimp only at hSw); go_simp; (try with_reducible rfl))
    try simp only [Act.put, List.setIfInBounds_toArray, List.set_cons_zero, List.set_cons_succ]
    refine wpAnyH_take (i := 1) (oi := { dst := some 4, op := Op.nilCheck (Operand.tmp 3), type := 0, pos := "parse.go:61", after := #[{ on := 0, ground := Ground.data }], guard := none }) (v := ?vu120) rfl (by kernel_rfl) (by kernel_rfl) (by kernel_rfl) (by intro _ _ _ h; exact h) (Or.inl ⟨by rfl, ?hyu120⟩) (by assumption) ?restu120
    case hyu120 => (intro w hSw; (try dsimp only at hSw); go_simp; (try with_reducible rfl))
    try simp only [Act.put, List.setIfInBounds_toArray, List.set_cons_zero, List.set_cons_succ]
    refine wpAnyH_take (i := 2) (oi := { dst := some 5, op := Op.fieldAddr 64 (Operand.tmp 4) 1, type := 0, pos := "parse.go:61", after := #[{ on := 1, ground := Ground.data }], guard := none }) (v := ?vu121) rfl (by kernel_rfl) (by kernel_rfl) (by kernel_rfl) (by intro _ _ _ h; exact h) (Or.inl ⟨by rfl, ?hyu121⟩) (by assumption) ?restu121
    case hyu121 => (intro w hSw; (try dsimp only at hSw); go_simp; (try with_reducible rfl))
    try simp only [Act.put, List.setIfInBounds_toArray, List.set_cons_zero, List.set_cons_succ]
    refine wpAnyH_take (i := 3) (oi := { dst := some 6, op := Op.load 3 (Operand.tmp 5), type := 3, pos := "parse.go:61", after := #[{ on := 2, ground := Ground.data }], guard := none }) (v := ?vu122) rfl (by kernel_rfl) (by kernel_rfl) (by kernel_rfl) (by intro _ _ _ h; exact h) (Or.inl ⟨by rfl, ?hyu122⟩) (by assumption) ?restu122
    case hyu122 => (intro wz hSw; (try dsimp only at hSw); have t0 := (hSw.cell (World.block_lt_of_cell? _ _ d0)).trans d0; have t1 := (hSw.cell (World.block_lt_of_cell? _ _ d1)).trans d1; go_simp; (try with_reducible rfl))
    try simp only [Act.put, List.setIfInBounds_toArray, List.set_cons_zero, List.set_cons_succ]
    refine wpAnyH_take (i := 4) (oi := { dst := some 7, op := Op.move (Operand.tmp 0), type := 62, pos := "parse.go:61", after := #[], guard := none }) (v := ?vu123) rfl (by kernel_rfl) (by kernel_rfl) (by kernel_rfl) (by intro _ _ _ h; exact h) (Or.inl ⟨by rfl, ?hyu123⟩) (by assumption) ?restu123
    case hyu123 => (intro w hSw; (try dsimp only at hSw); go_simp; (try with_reducible rfl))
    try simp only [Act.put, List.setIfInBounds_toArray, List.set_cons_zero, List.set_cons_succ]
    refine wpAnyH_take (i := 5) (oi := { dst := some 8, op := Op.nilCheck (Operand.tmp 7), type := 0, pos := "parse.go:61", after := #[{ on := 4, ground := Ground.data }], guard := none }) (v := ?vu124) rfl (by kernel_rfl) (by kernel_rfl) (by kernel_rfl) (by intro _ _ _ h; exact h) (Or.inl ⟨by rfl, ?hyu124⟩) (by assumption) ?restu124
    case hyu124 => (intro w hSw; (try dsimp only at hSw); go_simp; (try with_reducible rfl))
    try simp only [Act.put, List.setIfInBounds_toArray, List.set_cons_zero, List.set_cons_succ]
    refine wpAnyH_take (i := 6) (oi := { dst := some 9, op := Op.fieldAddr 64 (Operand.tmp 8) 0, type := 0, pos := "parse.go:61", after := #[{ on := 5, ground := Ground.data }], guard := none }) (v := ?vu125) rfl (by kernel_rfl) (by kernel_rfl) (by kernel_rfl) (by intro _ _ _ h; exact h) (Or.inl ⟨by rfl, ?hyu125⟩) (by assumption) ?restu125
    case hyu125 => (intro w hSw; (try dsimp only at hSw); go_simp; (try with_reducible rfl))
    try simp only [Act.put, List.setIfInBounds_toArray, List.set_cons_zero, List.set_cons_succ]
    refine wpAnyH_take (i := 7) (oi := { dst := some 10, op := Op.load 9 (Operand.tmp 9), type := 9, pos := "parse.go:61", after := #[{ on := 6, ground := Ground.data }], guard := none }) (v := ?vu126) rfl (by kernel_rfl) (by kernel_rfl) (by kernel_rfl) (by intro _ _ _ h; exact h) (Or.inl ⟨by rfl, ?hyu126⟩) (by assumption) ?restu126
    case hyu126 => (intro wz hSw; (try dsimp only at hSw); have t0 := (hSw.cell (World.block_lt_of_cell? _ _ d0)).trans d0; have t1 := (hSw.cell (World.block_lt_of_cell? _ _ d1)).trans d1; go_simp; (try with_reducible rfl))
    try simp only [Act.put, List.setIfInBounds_toArray, List.set_cons_zero, List.set_cons_succ]
    refine wpAnyH_take (i := 8) (oi := { dst := some 11, op := Op.call { callee := Callee.builtin Builtin.len, args := #[Operand.tmp 10], argTypes := #[9] }, type := 3, pos := "parse.go:61", after := #[{ on := 7, ground := Ground.data }], guard := none }) (v := ?vu127) rfl (by kernel_rfl) (by kernel_rfl) (by kernel_rfl) (by intro _ _ _ h; exact h) (Or.inl ⟨by rfl, ?hyu127⟩) (by assumption) ?restu127
    case hyu127 => (intro w hSw; (try dsimp only at hSw); go_simp; (try with_reducible rfl))
    try simp only [Act.put, List.setIfInBounds_toArray, List.set_cons_zero, List.set_cons_succ]
    refine wpAnyH_take (i := 9) (oi := { dst := some 12, op := Op.binOp BinOp.eql 3 (Operand.tmp 6) (Operand.tmp 11) 3, type := 4, pos := "parse.go:61", after := #[{ on := 3, ground := Ground.data }, { on := 8, ground := Ground.data }], guard := none }) (v := ?vu128) rfl (by kernel_rfl) (by kernel_rfl) (by kernel_rfl) (by intro _ _ _ h; exact h) (Or.inl ⟨by rfl, ?hyu128⟩) (by assumption) ?restu128
    case hyu128 => (intro w hSw; (try dsimp only at hSw); go_simp; (try with_reducible rfl))
    try simp only [Act.put, List.setIfInBounds_toArray, List.set_cons_zero, List.set_cons_succ]
    refine wpAnyH_done (by kernel_rfl) ?_ _
    go_wp2_with (go_at_call 42; fail)
    have HB1 : Hid (Below w.heap.size w w.drew) := (below_refl w).drew
    have HP1 : Hid (PIn full bp w.drew []) := HP.out.below HB1.out
    refine (fai_any C full bp w.drew _ HP1.out).mono ?_
    rintro e w2 ⟨he, hb⟩
    have HB2 : Hid (Below w.heap.size w w2) := below_step HB1.out hb
    rcases id he with ⟨h, -⟩ | ⟨v, old, rfl, -⟩
    · cases h
    have HE : Hid (EnIn w.heap.size (fun _ => False) w2 (.bail 3 ((full.length - 0 : Nat) : Int)) (.panicked ({ v := v, recovered := false } :: old))) := he.lo HB1.out.size
    clear hb he
    go_wp2
    exact ⟨rfl, HE.out, Kp.of_below HB2.out⟩
  | cons d r =>
    have hby := suf_at hsuf
    have HST : Hid (r.length ≤ full.length ∧ full.drop (full.length - r.length) = r) := suf_tail hsuf
    have hlen := hsuf.1
    simp only [List.length_cons] at hlen
    obtain ⟨p, hp⟩ : ∃ p, p = full.length - (d :: r).length := ⟨_, rfl⟩
    rw [← hp] at hby d1
    have HHE : Hid (w.heap[bp]? = some (.cells #[.string S, .int .i64 p] 64)) := by show _ = _; rw [hhe, ← hp]
    simp only [List.length_cons] at hp
    have hq : ((p : Int) == (full.length : Int)) = false := by simp; omega
    have i3 : p < S.size := by omega
    have hwr : IntKind.i64.wrap (p : Int) = (p : Int) := IntWalk.i64_in _ (by omega)
    have hd256 : d.toNat < 256 := UInt8.toNat_lt d
    have HP1 : Hid (((p : Int) + 1) = ((full.length - r.length : Nat) : Int)) := by show _ = _; omega
    have hset : (w.setCell ⟨bp, 1, none⟩ (.int .i64 ((p : Int) + 1))).drew.heap[bp]? = some (.cells #[.string S, .int .i64 ((p : Int) + 1)] 64) := pset HHE.out _
    obtain ⟨W2, hW2⟩ : ∃ W2, W2 = (w.setCell ⟨bp, 1, none⟩ (.int .i64 ((p : Int) + 1))).drew := ⟨_, rfl⟩
    rw [← hW2] at hset
    have HK2 : Hid (Kp (fun b => b = bp) w W2) := by rw [hW2]; exact (Kp.of_below (F := fun b => b = bp) (below_refl w).drew).set (p := ⟨bp, 1, none⟩) (Or.inl rfl) _
    have HS2 : Hid (W2.heap[bp]? = some (.cells #[.string S, .int .i64 ((p : Int) + 1)] 64)) := hset
    clear hsuf h hhe hp hset
    go_enter Tryz.func115, Tryz.ntmps115
    go_wp2
    refine wp_region_held_drew (S := (fun w' => Below w.heap.size w w')) (by kernel_rfl) ?_ (fun hHeld => ?_)
    · (try dsimp only); exact (below_refl w).drew
    refine wpAnyH_take (i := 0) (oi := { dst := some 3, op := Op.move (Operand.tmp 0), type := 62, pos := "parse.go:61", after := #[], guard := none }) (v := ?vu129) rfl (by kernel_rfl) (by kernel_rfl) (by kernel_rfl) (by intro _ _ _ h; exact h) (Or.inl ⟨by rfl, ?hyu129⟩) (by assumption) ?restu129
    case hyu129 => (intro w hSw; (try dsimp only at hSw); go_simp; (try with_reducible rfl))
    try simp only [Act.put, List.setIfInBounds_toArray, List.set_cons_zero, List.set_cons_succ]
    refine wpAnyH_take (i := 1) (oi := { dst := some 4, op := Op.nilCheck (Operand.tmp 3), type := 0, pos := "parse.go:61", after := #[{ on := 0, ground := Ground.data }], guard := none }) (v := ?vu130) rfl (by kernel_rfl) (by kernel_rfl) (by kernel_rfl) (by intro _ _ _ h; exact h) (Or.inl ⟨by rfl, ?hyu130⟩) (by assumption) ?restu130
    case hyu130 => (intro w hSw; (try dsimp only at hSw); go_simp; (try with_reducible rfl))
    try simp only [Act.put, List.setIfInBounds_toArray, List.set_cons_zero, List.set_cons_succ]
    refine wpAnyH_take (i := 2) (oi := { dst := some 5, op := Op.fieldAddr 64 (Operand.tmp 4) 1, type := 0, pos := "parse.go:61", after := #[{ on := 1, ground := Ground.data }], guard := none }) (v := ?vu131) rfl (by kernel_rfl) (by kernel_rfl) (by kernel_rfl) (by intro _ _ _ h; exact h) (Or.inl ⟨by rfl, ?hyu131⟩) (by assumption) ?restu131
    case hyu131 => (intro w hSw; (try dsimp only at hSw); go_simp; (try with_reducible rfl))
    try simp only [Act.put, List.setIfInBounds_toArray, List.set_cons_zero, List.set_cons_succ]
    refine wpAnyH_take (i := 3) (oi := { dst := some 6, op := Op.load 3 (Operand.tmp 5), type := 3, pos := "parse.go:61", after := #[{ on := 2, ground := Ground.data }], guard := none }) (v := ?vu132) rfl (by kernel_rfl) (by kernel_rfl) (by kernel_rfl) (by intro _ _ _ h; exact h) (Or.inl ⟨by rfl, ?hyu132⟩) (by assumption) ?restu132
    case hyu132 => (intro wz hSw; (try dsimp only at hSw); have t0 := (hSw.cell (World.block_lt_of_cell? _ _ d0)).trans d0; have t1 := (hSw.cell (World.block_lt_of_cell? _ _ d1)).trans d1; go_simp; (try with_reducible rfl))
    try simp only [Act.put, List.setIfInBounds_toArray, List.set_cons_zero, List.set_cons_succ]
    refine wpAnyH_take (i := 4) (oi := { dst := some 7, op := Op.move (Operand.tmp 0), type := 62, pos := "parse.go:61", after := #[], guard := none }) (v := ?vu133) rfl (by kernel_rfl) (by kernel_rfl) (by kernel_rfl) (by intro _ _ _ h; exact h) (Or.inl ⟨by rfl, ?hyu133⟩) (by assumption) ?restu133
    case hyu133 => (intro w hSw; (try dsimp only at hSw); go_simp; (try with_reducible rfl))
    try simp only [Act.put, List.setIfInBounds_toArray, List.set_cons_zero, List.set_cons_succ]
    refine wpAnyH_take (i := 5) (oi := { dst := some 8, op := Op.nilCheck (Operand.tmp 7), type := 0, pos := "parse.go:61", after := #[{ on := 4, ground := Ground.data }], guard := none }) (v := ?vu134) rfl (by kernel_rfl) (by kernel_rfl) (by kernel_rfl) (by intro _ _ _ h; exact h) (Or.inl ⟨by rfl, ?hyu134⟩) (by assumption) ?restu134
    case hyu134 => (intro w hSw; (try dsimp only at hSw); go_simp; (try with_reducible rfl))
    try simp only [Act.put, List.setIfInBounds_toArray, List.set_cons_zero, List.set_cons_succ]
    refine wpAnyH_take (i := 6) (oi := { dst := some 9, op := Op.fieldAddr 64 (Operand.tmp 8) 0, type := 0, pos := "parse.go:61", after := #[{ on := 5, ground := Ground.data }], guard := none }) (v := ?vu135) rfl (by kernel_rfl) (by kernel_rfl) (by kernel_rfl) (by intro _ _ _ h; exact h) (Or.inl ⟨by rfl, ?hyu135⟩) (by assumption) ?restu135
    case hyu135 => (intro w hSw; (try dsimp only at hSw); go_simp; (try with_reducible rfl))
    try simp only [Act.put, List.setIfInBounds_toArray, List.set_cons_zero, List.set_cons_succ]
    refine wpAnyH_take (i := 7) (oi := { dst := some 10, op := Op.load 9 (Operand.tmp 9), type := 9, pos := "parse.go:61", after := #[{ on := 6, ground := Ground.data }], guard := none }) (v := ?vu136) rfl (by kernel_rfl) (by kernel_rfl) (by kernel_rfl) (by intro _ _ _ h; exact h) (Or.inl ⟨by rfl, ?hyu136⟩) (by assumption) ?restu136
    case hyu136 => (intro wz hSw; (try dsimp only at hSw); have t0 := (hSw.cell (World.block_lt_of_cell? _ _ d0)).trans d0; have t1 := (hSw.cell (World.block_lt_of_cell? _ _ d1)).trans d1; go_simp; (try with_reducible rfl))
    try simp only [Act.put, List.setIfInBounds_toArray, List.set_cons_zero, List.set_cons_succ]
    refine wpAnyH_take (i := 8) (oi := { dst := some 11, op := Op.call { callee := Callee.builtin Builtin.len, args := #[Operand.tmp 10], argTypes := #[9] }, type := 3, pos := "parse.go:61", after := #[{ on := 7, ground := Ground.data }], guard := none }) (v := ?vu137) rfl (by kernel_rfl) (by kernel_rfl) (by kernel_rfl) (by intro _ _ _ h; exact h) (Or.inl ⟨by rfl, ?hyu137⟩) (by assumption) ?restu137
    case hyu137 => (intro w hSw; (try dsimp only at hSw); go_simp; (try with_reducible rfl))
    try simp only [Act.put, List.setIfInBounds_toArray, List.set_cons_zero, List.set_cons_succ]
    refine wpAnyH_take (i := 9) (oi := { dst := some 12, op := Op.binOp BinOp.eql 3 (Operand.tmp 6) (Operand.tmp 11) 3, type := 4, pos := "parse.go:61", after := #[{ on := 3, ground := Ground.data }, { on := 8, ground := Ground.data }], guard := none }) (v := ?vu138) rfl (by kernel_rfl) (by kernel_rfl) (by kernel_rfl) (by intro _ _ _ h; exact h) (Or.inl ⟨by rfl, ?hyu138⟩) (by assumption) ?restu138
    case hyu138 => (intro w hSw; (try dsimp only at hSw); go_simp; (try with_reducible rfl))
    try simp only [Act.put, List.setIfInBounds_toArray, List.set_cons_zero, List.set_cons_succ]
    refine wpAnyH_done (by kernel_rfl) ?_ _
    go_wp2
    rw [← hW2]
    clear hW2 d0 d1 z1
    have d0 := cell_of_row _ _ 0 _ _ _ HS2.out
    have d1 := cell_of_row _ _ 1 _ _ _ HS2.out
    simp only [List.getElem?_toArray, List.getElem?_cons_zero, List.getElem?_cons_succ] at d0 d1
    refine wp_region_held_drew (S := (fun w' => Below W2.heap.size W2 w')) (by kernel_rfl) ?_ (fun hHeld => ?_)
    · (try dsimp only); exact (below_refl W2).drew
    refine wpAnyH_take (i := 0) (oi := { dst := some 22, op := Op.move (Operand.tmp 0), type := 62, pos := "parse.go:65", after := #[], guard := none }) (v := ?vu139) rfl (by kernel_rfl) (by kernel_rfl) (by kernel_rfl) (by intro _ _ _ h; exact h) (Or.inl ⟨by rfl, ?hyu139⟩) (by assumption) ?restu139
    case hyu139 => (intro w hSw; (try dsimp only at hSw); go_simp; (try with_reducible rfl))
    try simp only [Act.put, List.setIfInBounds_toArray, List.set_cons_zero, List.set_cons_succ]
    refine wpAnyH_take (i := 1) (oi := { dst := some 23, op := Op.nilCheck (Operand.tmp 22), type := 0, pos := "parse.go:65", after := #[{ on := 0, ground := Ground.data }], guard := none }) (v := ?vu140) rfl (by kernel_rfl) (by kernel_rfl) (by kernel_rfl) (by intro _ _ _ h; exact h) (Or.inl ⟨by rfl, ?hyu140⟩) (by assumption) ?restu140
    case hyu140 => (intro w hSw; (try dsimp only at hSw); go_simp; (try with_reducible rfl))
    try simp only [Act.put, List.setIfInBounds_toArray, List.set_cons_zero, List.set_cons_succ]
    refine wpAnyH_take (i := 2) (oi := { dst := some 24, op := Op.fieldAddr 64 (Operand.tmp 23) 0, type := 0, pos := "parse.go:65", after := #[{ on := 1, ground := Ground.data }], guard := none }) (v := ?vu141) rfl (by kernel_rfl) (by kernel_rfl) (by kernel_rfl) (by intro _ _ _ h; exact h) (Or.inl ⟨by rfl, ?hyu141⟩) (by assumption) ?restu141
    case hyu141 => (intro w hSw; (try dsimp only at hSw); go_simp; (try with_reducible rfl))
    try simp only [Act.put, List.setIfInBounds_toArray, List.set_cons_zero, List.set_cons_succ]
    refine wpAnyH_take (i := 3) (oi := { dst := some 25, op := Op.load 9 (Operand.tmp 24), type := 9, pos := "parse.go:65", after := #[{ on := 2, ground := Ground.data }], guard := none }) (v := ?vu142) rfl (by kernel_rfl) (by kernel_rfl) (by kernel_rfl) (by intro _ _ _ h; exact h) (Or.inl ⟨by rfl, ?hyu142⟩) (by assumption) ?restu142
    case hyu142 => (intro wz hSw; (try dsimp only at hSw); have t0 := (hSw.cell (World.block_lt_of_cell? _ _ d0)).trans d0; have t1 := (hSw.cell (World.block_lt_of_cell? _ _ d1)).trans d1; go_simp; (try with_reducible rfl))
    try simp only [Act.put, List.setIfInBounds_toArray, List.set_cons_zero, List.set_cons_succ]
    refine wpAnyH_take (i := 4) (oi := { dst := some 26, op := Op.move (Operand.tmp 0), type := 62, pos := "parse.go:65", after := #[], guard := none }) (v := ?vu143) rfl (by kernel_rfl) (by kernel_rfl) (by kernel_rfl) (by intro _ _ _ h; exact h) (Or.inl ⟨by rfl, ?hyu143⟩) (by assumption) ?restu143
    case hyu143 => (intro w hSw; (try dsimp only at hSw); go_simp; (try with_reducible rfl))
    try simp only [Act.put, List.setIfInBounds_toArray, List.set_cons_zero, List.set_cons_succ]
    refine wpAnyH_take (i := 5) (oi := { dst := some 27, op := Op.nilCheck (Operand.tmp 26), type := 0, pos := "parse.go:65", after := #[{ on := 4, ground := Ground.data }], guard := none }) (v := ?vu144) rfl (by kernel_rfl) (by kernel_rfl) (by kernel_rfl) (by intro _ _ _ h; exact h) (Or.inl ⟨by rfl, ?hyu144⟩) (by assumption) ?restu144
    case hyu144 => (intro w hSw; (try dsimp only at hSw); go_simp; (try with_reducible rfl))
    try simp only [Act.put, List.setIfInBounds_toArray, List.set_cons_zero, List.set_cons_succ]
    refine wpAnyH_take (i := 6) (oi := { dst := some 28, op := Op.fieldAddr 64 (Operand.tmp 27) 1, type := 0, pos := "parse.go:65", after := #[{ on := 5, ground := Ground.data }], guard := none }) (v := ?vu145) rfl (by kernel_rfl) (by kernel_rfl) (by kernel_rfl) (by intro _ _ _ h; exact h) (Or.inl ⟨by rfl, ?hyu145⟩) (by assumption) ?restu145
    case hyu145 => (intro w hSw; (try dsimp only at hSw); go_simp; (try with_reducible rfl))
    try simp only [Act.put, List.setIfInBounds_toArray, List.set_cons_zero, List.set_cons_succ]
    refine wpAnyH_take (i := 7) (oi := { dst := some 29, op := Op.load 3 (Operand.tmp 28), type := 3, pos := "parse.go:65", after := #[{ on := 6, ground := Ground.data }], guard := none }) (v := ?vu146) rfl (by kernel_rfl) (by kernel_rfl) (by kernel_rfl) (by intro _ _ _ h; exact h) (Or.inl ⟨by rfl, ?hyu146⟩) (by assumption) ?restu146
    case hyu146 => (intro wz hSw; (try dsimp only at hSw); have t0 := (hSw.cell (World.block_lt_of_cell? _ _ d0)).trans d0; have t1 := (hSw.cell (World.block_lt_of_cell? _ _ d1)).trans d1; go_simp; (try with_reducible rfl))
    try simp only [Act.put, List.setIfInBounds_toArray, List.set_cons_zero, List.set_cons_succ]
    refine wpAnyH_take (i := 8) (oi := { dst := some 30, op := Op.binOp BinOp.sub 3 (Operand.tmp 29) (Operand.const (Value.int IntKind.i64 1)) 3, type := 3, pos := "parse.go:65", after := #[{ on := 7, ground := Ground.data }], guard := none }) (v := ?vu147) rfl (by kernel_rfl) (by kernel_rfl) (by kernel_rfl) (by intro _ _ _ h; exact h) (Or.inl ⟨by rfl, ?hyu147⟩) (by assumption) ?restu147
    case hyu147 => (intro w hSw; (try dsimp only at hSw); go_simp; (try with_reducible rfl))
    try simp only [Act.put, List.setIfInBounds_toArray, List.set_cons_zero, List.set_cons_succ]
    refine wpAnyH_take (i := 9) (oi := { dst := some 31, op := Op.index 9 (Operand.tmp 25) (Operand.tmp 30), type := 5, pos := "parse.go:65", after := #[{ on := 3, ground := Ground.data }, { on := 8, ground := Ground.data }], guard := none }) (v := ?vu148) rfl (by kernel_rfl) (by kernel_rfl) (by kernel_rfl) (by intro _ _ _ h; exact h) (Or.inl ⟨by rfl, ?hyu148⟩) (by assumption) ?restu148
    case hyu148 => (intro w hSw; (try dsimp only at hSw); go_simp; rw [if_pos (by omega)])
    try simp only [Act.put, List.setIfInBounds_toArray, List.set_cons_zero, List.set_cons_succ]
    refine wpAnyH_take (i := 10) (oi := { dst := some 2, op := Op.assign (Operand.tmp 31), type := 5, pos := "parse.go:65", after := #[{ on := 9, ground := Ground.data }, { on := 0, ground := Ground.phase }, { on := 1, ground := Ground.phase }, { on := 2, ground := Ground.phase }, { on := 3, ground := Ground.phase }, { on := 4, ground := Ground.phase }, { on := 5, ground := Ground.phase }, { on := 6, ground := Ground.phase }, { on := 7, ground := Ground.phase }, { on := 8, ground := Ground.phase }, { on := 9, ground := Ground.phase }], guard := none }) (v := ?vu149) rfl (by kernel_rfl) (by kernel_rfl) (by kernel_rfl) (by intro _ _ _ h; exact h) (Or.inl ⟨by rfl, ?hyu149⟩) (by assumption) ?restu149
    case hyu149 => (intro w hSw; (try dsimp only at hSw); go_simp; (try with_reducible rfl))
    try simp only [Act.put, List.setIfInBounds_toArray, List.set_cons_zero, List.set_cons_succ]
    refine wpAnyH_done (by kernel_rfl) ?_ _
    go_wp2
    go_ret
    refine ⟨_, rfl, rfl, ⟨?_, HST.out⟩, HK2.out.bel (below_refl W2).drew⟩
    rw [HSS.out, ← HP1.out]
    exact HS2.out
end Go.Proofs.YtbgkfjelgnbfmaaGreatDoor
