/- Paths as arguments, opened. -/
import Derived.Test.YtbgkfjelgnbfmaaGreatDoorPwt
import Derived.ProofKit
import Derived.OpenShut
import Derived.Deep.Slices
import Derived.Lib.SmallJoins
namespace Go.Proofs.YtbgkfjelgnbfmaaGreatDoor
open Go.ChangeShapes Go.WideShapes Go.ChangeAt Go.RowKit Fo
set_option maxRecDepth 100000

theorem laidOut : laidOutB Tryz.prog = true := by kernel_rfl
theorem int_of_trod {H : Type} {enc : TypeId × Value → H} {w : World} {base : Nat} {sp : Nat → Bool} {held : Bool} {n : Nat} {v : Value} {x : DataW H × List MemPlace}
    (h : DataW.trod enc Tryz.prog w base sp held n 3 [v] = some x) : ∃ b : Int, v = .int .i64 b := by
  cases n with
  | zero => simp [DataW.trod] at h
  | succ n =>
    simp only [DataW.trod, Tryz.underlying3] at h
    cases v <;> simp at h
    rename_i k b
    obtain ⟨⟨rfl, hw⟩, -⟩ := h
    exact ⟨b, rfl⟩
theorem str_of_trod {H : Type} {enc : TypeId × Value → H} {w : World} {base : Nat} {sp : Nat → Bool} {held : Bool} {n : Nat} {v : Value} {x : DataW H × List MemPlace}
    (h : DataW.trod enc Tryz.prog w base sp held n 9 [v] = some x) : ∃ s : ByteArray, v = .string s := by
  obtain ⟨s, hs, -⟩ := DataW.trod_string Tryz.underlying9 h
  exact ⟨s, by simpa using hs⟩
theorem trod_struct5 {P : Program} {H : Type} {enc : TypeId × Value → H} {w : World} {base : Nat} {spare : Nat → Bool} {held : Bool} {t : TypeId} {f0 f1 f2 f3 f4 : Field} {fuel : Nat} {cs : List Value} {x : DataW H × List MemPlace} (ht : P.underlying t = some (.struct #[f0, f1, f2, f3, f4])) (h : DataW.trod enc P w base spare held fuel t cs = some x) :
    ∃ y0 y1 y2 y3 y4 n, cs.length = P.cellsOf t ∧ DataW.trod enc P w base spare held n f0.type ((cs.drop f0.offset).take (P.cellsOf f0.type)) = some y0 ∧
      DataW.trod enc P w base spare held n f1.type ((cs.drop f1.offset).take (P.cellsOf f1.type)) = some y1 ∧ DataW.trod enc P w base spare held n f2.type ((cs.drop f2.offset).take (P.cellsOf f2.type)) = some y2 ∧
      DataW.trod enc P w base spare held n f3.type ((cs.drop f3.offset).take (P.cellsOf f3.type)) = some y3 ∧ DataW.trod enc P w base spare held n f4.type ((cs.drop f4.offset).take (P.cellsOf f4.type)) = some y4 := by
  obtain ⟨xs, n, _, rfl, hl, hlen, hf⟩ := DataW.trod_struct ht h
  match xs, hlen with
  | [y0, y1, y2, y3, y4], _ => exact ⟨y0, y1, y2, y3, y4, n, hl, by simpa using hf 0 f0 rfl, by simpa using hf 1 f1 rfl, by simpa using hf 2 f2 rfl, by simpa using hf 3 f3 rfl, by simpa using hf 4 f4 rfl⟩
theorem open_path {H : Type} {enc : TypeId × Value → H} {W : World} : ∀ (k fuel : Nat) (cs : List Value) (x : DataW H × List MemPlace),
    DataW.trod enc Tryz.prog W 0 (fun _ => true) true fuel 25 cs = some x → ∃ pv : PV, cs = pv.cs ∧ Wfp W k pv := by
  intro k
  induction k with
  | zero =>
    intro fuel cs x hf
    obtain ⟨y0, y1, y2, y3, y4, n, hlen, h0, h1, h2, h3, h4⟩ := trod_struct5 Tryz.underlying25 hf
    have hl5 : cs.length = 5 := hlen
    match cs, hl5 with
    | [p, q, r, t, z], _ =>
      obtain ⟨kd, rfl⟩ := int_of_trod (show DataW.trod enc Tryz.prog W 0 (fun _ => true) true n 3 [p] = some y0 from h0)
      obtain ⟨lb, rfl⟩ := str_of_trod (show DataW.trod enc Tryz.prog W 0 (fun _ => true) true n 9 [q] = some y1 from h1)
      obtain ⟨lo, rfl⟩ := int_of_trod (show DataW.trod enc Tryz.prog W 0 (fun _ => true) true n 3 [t] = some y3 from h3)
      obtain ⟨hi, rfl⟩ := int_of_trod (show DataW.trod enc Tryz.prog W 0 (fun _ => true) true n 3 [z] = some y4 from h4)
      rcases Deep.open_slice Tryz.underlying23 (show DataW.trod enc Tryz.prog W 0 (fun _ => true) true n 23 [r] = some y2 from h2) with ⟨hcs, -⟩ | ⟨a, len, cap, m, n', D, Pl, hcs, -⟩
      · obtain rfl : r = .slice none 0 0 := by simpa using hcs
        exact ⟨⟨kd, lb, none, 0, 0, lo, hi⟩, rfl, trivial⟩
      · obtain rfl : r = .slice (some a) len cap := by simpa using hcs
        exact ⟨⟨kd, lb, some a, len, cap, lo, hi⟩, rfl, trivial⟩
  | succ k ih =>
    intro fuel cs x hf
    obtain ⟨y0, y1, y2, y3, y4, n, hlen, h0, h1, h2, h3, h4⟩ := trod_struct5 Tryz.underlying25 hf
    have hl5 : cs.length = 5 := hlen
    match cs, hl5 with
    | [p, q, r, t, z], _ =>
      obtain ⟨kd, rfl⟩ := int_of_trod (show DataW.trod enc Tryz.prog W 0 (fun _ => true) true n 3 [p] = some y0 from h0)
      obtain ⟨lb, rfl⟩ := str_of_trod (show DataW.trod enc Tryz.prog W 0 (fun _ => true) true n 9 [q] = some y1 from h1)
      obtain ⟨lo, rfl⟩ := int_of_trod (show DataW.trod enc Tryz.prog W 0 (fun _ => true) true n 3 [t] = some y3 from h3)
      obtain ⟨hi, rfl⟩ := int_of_trod (show DataW.trod enc Tryz.prog W 0 (fun _ => true) true n 3 [z] = some y4 from h4)
      rcases Deep.open_slice Tryz.underlying23 (show DataW.trod enc Tryz.prog W 0 (fun _ => true) true n 23 [r] = some y2 from h2) with ⟨hcs, -⟩ | ⟨a, len, cap, m, n', D, Pl, hcs, -, hl, hm, hmm, -, hV⟩
      · obtain rfl : r = .slice none 0 0 := by simpa using hcs
        exact ⟨⟨kd, lb, none, 0, 0, lo, hi⟩, rfl, fun _ => PV.zero, ⟨Nat.le_refl _, by show (0 : Nat) ≤ _; omega, Or.inl rfl⟩, fun j hj => absurd hj (Nat.not_lt_zero j)⟩
      · obtain rfl : r = .slice (some a) len cap := by simpa using hcs
        simp only [if_true] at hmm
        have hmm' := hmm.symm
        clear hmm
        subst hmm'
        have hc5 : Tryz.prog.cellsOf 25 = 5 := by kernel_rfl
        rw [hc5] at hV
        have hcap : cap ≤ 9223372036854775807 := by unfold maxLen at hm; omega
        by_cases h0 : len = 0
        · subst h0
          exact ⟨⟨kd, lb, some a, 0, cap, lo, hi⟩, rfl, fun _ => PV.zero, ⟨Nat.zero_le _, hcap, Or.inl rfl⟩, fun j hj => absurd hj (Nat.not_lt_zero j)⟩
        obtain ⟨b, off, spot⟩ := a
        have hspot : spot = none := by
          obtain ⟨cs', hc', -⟩ := hV 0 (by omega)
          obtain ⟨-, hl', hc''⟩ := World.cells?_some hc'
          have h1 := hc'' 0 (by omega)
          match cs', hl' with
          | [u0, u1, u2, u3, u4], _ => simpa [Addr.add] using World.cell?_spot h1
        subst hspot
        have hkid : ∀ j, ∃ pv : PV, j < len → PAt W b (off + j * 5) pv ∧ Wfp W k pv := fun j => by
          by_cases hj : j < len
          · obtain ⟨cs', hc', ht'⟩ := hV j (by omega)
            obtain ⟨-, hl', hc''⟩ := World.cells?_some hc'
            obtain ⟨pv, rfl, hw⟩ := ih n' cs' _ ht'
            refine ⟨pv, fun _ => ⟨⟨?_, ?_, ?_, ?_, ?_⟩, hw⟩⟩
            · have := hc'' 0 (by omega); rwa [add_off, add_off] at this
            · have := hc'' 1 (by omega); rwa [add_off, add_off] at this
            · have := hc'' 2 (by omega); rwa [add_off, add_off] at this
            · have := hc'' 3 (by omega); rwa [add_off, add_off] at this
            · have := hc'' 4 (by omega); rwa [add_off, add_off] at this
          · exact ⟨PV.zero, fun h => absurd h hj⟩
        exact ⟨⟨kd, lb, some ⟨b, off, none⟩, len, cap, lo, hi⟩, rfl, fun j => Classical.choose (hkid j), ⟨hl, hcap, Or.inr ⟨b, off, rfl, trivial, fun j hj => (Classical.choose_spec (hkid j) hj).1⟩⟩, fun j hj => (Classical.choose_spec (hkid j) hj).2⟩
end Go.Proofs.YtbgkfjelgnbfmaaGreatDoor
