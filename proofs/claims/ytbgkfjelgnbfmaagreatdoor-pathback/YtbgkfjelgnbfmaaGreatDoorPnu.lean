/- The parser: numbers, bounds. -/
import Derived.Test.YtbgkfjelgnbfmaaGreatDoorPmd
namespace Go.Proofs.YtbgkfjelgnbfmaaGreatDoor
open Go.RowKit Fo
set_option maxRecDepth 100000
set_option linter.unusedSimpArgs false
set_option linter.unusedVariables false

theorem gsx : ∃ g, Tryz.prog.globalNamed "strconv.ErrSyntax" = some g ∧ g < 12 := ⟨4, by kernel_rfl, by decide⟩
theorem grg : ∃ g, Tryz.prog.globalNamed "strconv.ErrRange" = some g ∧ g < 12 := ⟨5, by kernel_rfl, by decide⟩
theorem var_of_block {w w' : World} {name : String} {g : Nat} (hg : Tryz.prog.globalNamed name = some g) (h : w'.heap[g]? = w.heap[g]?) : w'.var? Tryz.prog name = w.var? Tryz.prog name := by
  unfold World.var?; rw [hg]; simp only [Option.bind_some, h]
/-- What the parser's calls read of the package variables, in blocks below lo. -/
structure EnvP (lo : Nat) (w : World) : Prop where
  sx : ∃ tp p, w.var? Tryz.prog "strconv.ErrSyntax" = some #[.iface tp p]
  rg : ∃ tp p, w.var? Tryz.prog "strconv.ErrRange" = some #[.iface tp p]
  ls : ∀ g, Tryz.prog.globalNamed "strconv.ErrSyntax" = some g → g < lo
  lr : ∀ g, Tryz.prog.globalNamed "strconv.ErrRange" = some g → g < lo
  le : lo ≤ w.heap.size
theorem EnvP.kp {lo : Nat} {G : Nat → Prop} {w w' : World} (h : EnvP lo w) (hk : Kp G w w') (hG : ∀ b, G b → lo ≤ b) : EnvP lo w' := by
  obtain ⟨g1, e1, -⟩ := gsx
  obtain ⟨g2, e2, -⟩ := grg
  have l1 := h.ls g1 e1
  have l2 := h.lr g2 e2
  have le := h.le
  refine ⟨?_, ?_, h.ls, h.lr, Nat.le_trans h.le hk.size⟩
  · rw [var_of_block e1 (hk.block g1 (by omega) fun q => by have := hG _ q; omega)]; exact h.sx
  · rw [var_of_block e2 (hk.block g2 (by omega) fun q => by have := hG _ q; omega)]; exact h.rg
theorem EnvP.below {lo : Nat} {w w' : World} (h : EnvP lo w) (hb : Below w.heap.size w w') : EnvP lo w' := h.kp (Kp.of_below (F := fun _ => False) hb) fun _ h => h.elim
theorem EnvP.mono {lo lo' : Nat} {w : World} (h : EnvP lo w) (h1 : lo ≤ lo') (h2 : lo' ≤ w.heap.size) : EnvP lo' w := ⟨h.sx, h.rg, fun g hg => Nat.lt_of_lt_of_le (h.ls g hg) h1, fun g hg => Nat.lt_of_lt_of_le (h.lr g hg) h1, h2⟩
theorem below_bytes (w : World) (E : TypeId) (t : ByteArray) : Below w.heap.size w (Lib.bytesWorld w E t) := ⟨rfl, rfl, rfl, by rw [Lib.bytesWorld_size]; omega, fun k hk => Lib.bytesWorld_at_old w E _ k hk⟩
set_option maxHeartbeats 4000000 in
/-- Atoi. -/
theorem atoi_any (lo : Nat) (w : World) (l : List UInt8) (hl : l.length ≤ 1000000) (henv : EnvP lo w) : Calls Tryz.prog 109 #[.string (str l)] w fun e w' => (∃ v er, e = .returned (.tuple #[.int .i64 v, er]) ∧ ((Lib.atoiAll l = .ok v ∧ er = .nilIface) ∨ ((∀ u, Lib.atoiAll l ≠ .ok u) ∧ ∃ tp p, er = .iface tp p))) ∧ Below w.heap.size w w' := by
  have hz := str_size l
  cases h : Lib.atoiAll l with
  | ok v =>
    refine (Tryz.strconv_Atoi_ok (str l) (by omega) v h w).mono ?_
    rintro e w' ⟨rfl, hw⟩
    refine ⟨⟨v, _, rfl, Or.inl ⟨rfl, rfl⟩⟩, ?_⟩
    rcases hw with rfl | ⟨t, rfl⟩
    · exact below_refl _
    · exact below_bytes _ _ _
  | «syntax» =>
    obtain ⟨tp, p, hv⟩ := henv.sx
    refine (Tryz.strconv_Atoi_syntax_var (str l) (by omega) h tp p w hv).mono ?_
    rintro e w' ⟨N, rfl, -, -, hb⟩
    exact ⟨⟨_, _, rfl, Or.inr ⟨fun u h => (by cases h), _, _, rfl⟩⟩, hb⟩
  | range =>
    obtain ⟨tp, p, hv⟩ := henv.rg
    refine (Tryz.strconv_Atoi_range_var (str l) (by omega) h tp p w hv).mono ?_
    rintro e w' ⟨N, rfl, -, -, hb⟩
    exact ⟨⟨_, _, rfl, Or.inr ⟨fun u h => (by cases h), _, _, rfl⟩⟩, hb⟩
set_option maxHeartbeats 4000000 in
theorem num_any (C : BailSays) (lo : Nat) (full : List UInt8) (bp : Nat) (w : World) (s : List UInt8) (h : PIn full bp w s) (hf : full.length ≤ 100000) (henv : EnvP lo w) (hlo : lo ≤ bp) :
    Calls Tryz.prog 100 #[.pointer (some ⟨bp, 0, none⟩)] w (PEnd full bp w (numM s) (fun _ v n => v = .int .i64 n)) := by
  have HRUN : Hid (Calls _ _ _ _ _) := run_any 71 digN fnv_dig dig_any full bp w s h hf
  have HENV : Hid (EnvP lo w) := henv
  have HLO : Hid (lo ≤ bp) := hlo
  have htl : (s.takeWhile fun c => digN c.toNat).length ≤ 100000 := Nat.le_trans ((List.takeWhile_sublist _).length_le) (Nat.le_trans h.suf.1 hf)
  have HTL : Hid ((s.takeWhile fun c => digN c.toNat).length ≤ 100000) := htl
  have HNM : Hid (numM s = match Lib.atoiAll (s.takeWhile fun c => digN c.toNat) with | .ok v => .ok (v, s.dropWhile fun c => digN c.toNat) | _ => .error (s.dropWhile fun c => digN c.toNat).length) := rfl
  generalize numM s = M at HNM
  generalize (s.takeWhile fun c => digN c.toNat) = T at HRUN HNM HTL
  generalize (s.dropWhile fun c => digN c.toNat) = D at HRUN HNM
  clear h henv hlo htl
  go_enter Tryz.func100, Tryz.ntmps100
  go_wp2_with (go_at_call 108; fail)
  refine HRUN.out.mono ?_
  rintro e w1 ⟨rfl, hp, hk⟩
  have HP1 : Hid (PIn full bp w1 D) := hp
  have HK1 : Hid (Kp (fun b => b = bp) w w1) := hk
  have HE1 : Hid (EnvP lo w1) := HENV.out.kp hk (fun b hb => by rw [hb]; exact HLO.out)
  clear hp hk HRUN
  go_wp2_with (go_at_call 109; fail)
  refine (atoi_any lo w1 T (by have := HTL.out; omega) HE1.out).mono ?_
  rintro e w2 ⟨⟨v, er, rfl, hv⟩, b2⟩
  have HB2 : Hid (Below w1.heap.size w1 w2) := b2
  have HP2 : Hid (PIn full bp w2 D) := HP1.out.below b2
  have HK2 : Hid (Kp (fun b => b = bp) w w2) := HK1.out.bel b2
  clear b2
  rcases hv with ⟨ha, rfl⟩ | ⟨ha, tp, p, rfl⟩
  · have HM : Hid (M = .ok (v, D)) := by show _ = _; rw [HNM.out, ha]
    clear ha HNM
    go_wp2
    go_ret
    rw [HM.out]
    exact ⟨_, rfl, rfl, HP2.out, HK2.out⟩
  · have HM : Hid (M = .error D.length) := by
      show _ = _
      rw [HNM.out]
      cases h : Lib.atoiAll T with
      | ok u => exact absurd h (ha u)
      | «syntax» => rfl
      | range => rfl
    clear ha HNM
    go_wp2_with (go_at_call 42; fail)
    refine (fai_any C full bp w2 _ HP2.out).mono ?_
    rintro e w3 ⟨he, hb⟩
    rcases id he with ⟨h, -⟩ | ⟨v, old, rfl, -⟩
    · cases h
    have HE : Hid (EnIn w.heap.size (fun _ => False) _ _ (.panicked ({ v := v, recovered := false } :: old))) := he.lo HK2.out.size
    have HKE : Hid (Kp (fun b => b = bp) w _) := HK2.out.bel hb
    clear he
    go_wp2
    refine ⟨rfl, ?_⟩
    rw [HM.out]
    exact ⟨HE.out, HKE.out⟩
end Go.Proofs.YtbgkfjelgnbfmaaGreatDoor
