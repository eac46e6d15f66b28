/- Lists of numbers, and nodes, as arguments, opened. -/
import Derived.Test.YtgighebohbpkiaaBwt
import Derived.ProofKit
import Derived.OpenShut
import Derived.Deep.Slices
import Derived.Lib.SmallJoins
namespace Go.Proofs.Ytgighebohbpkiaa
open Go.ChangeShapes Go.WideShapes Go.ChangeAt Go.RowKit Fo
set_option maxRecDepth 100000

theorem laidOut : laidOutB Try.prog = true := by kernel_rfl
theorem int_of_trod {H : Type} {enc : TypeId × Value → H} {w : World} {base : Nat} {sp : Nat → Bool} {held : Bool} {n : Nat} {v : Value} {x : DataW H × List MemPlace}
    (h : DataW.trod enc Try.prog w base sp held n 3 [v] = some x) : ∃ b : Int, v = .int .i64 b ∧ -9223372036854775808 ≤ b ∧ b ≤ 9223372036854775807 := by
  cases n with
  | zero => simp [DataW.trod] at h
  | succ n =>
    simp only [DataW.trod, Try.underlying3] at h
    cases v <;> simp at h
    rename_i k b
    obtain ⟨⟨rfl, hw⟩, -⟩ := h
    simp [Lit.wf, IntKind.min, IntKind.max, IntKind.signed, IntKind.bits] at hw
    exact ⟨b, rfl, hw⟩
theorem int_le {b : Int} (h : (Lit.int .i64 b).wf = true) : b ≤ 9223372036854775807 := by
  simp [Lit.wf, IntKind.min, IntKind.max, IntKind.signed, IntKind.bits] at h
  omega
theorem open_ints {H : Type} {enc : TypeId × Value → H} {W : World} {fuel : Nat} {cs : List Value} {x : DataW H × List MemPlace}
    (hf : DataW.trod enc Try.prog W 0 (fun _ => true) true fuel 30 cs = some x) : ∃ v l, cs = [v] ∧ IsL W v l := by
  rcases Deep.open_slice1 Try.underlying30 (by kernel_rfl) hf with ⟨hcs, -⟩ | ⟨a, len, cap, m, n, V, D, Pl, hcs, -, hl, hm, hmm, -, hV⟩
  · exact ⟨_, [], hcs, none, 0, rfl, Rd.empty _ _ _ (by decide) _⟩
  · by_cases h0 : len = 0
    · subst h0
      exact ⟨_, [], hcs, some a, cap, rfl, Rd.empty _ _ _ (by unfold maxLen at hm; omega) _⟩
    simp only [if_true] at hmm
    subst hmm
    obtain ⟨b, off, spot⟩ := a
    have hspot : spot = none := by simpa [Addr.add] using World.cell?_spot (hV 0 (by omega)).1
    subst hspot
    have hX : ∀ j, ∃ y : Int, j < len → V j = .int .i64 y := fun j => by
      by_cases hj : j < len
      · obtain ⟨y, e, -⟩ := int_of_trod (hV j (by omega)).2
        exact ⟨y, fun _ => e⟩
      · exact ⟨0, fun h => absurd h hj⟩
    refine ⟨_, lst (fun j => Classical.choose (hX j)) len, hcs, IsL.ofK ⟨hl, by unfold maxLen at hm; omega, Or.inr ⟨b, off, rfl, fun j hj => ?_⟩⟩⟩
    unfold ivs
    rw [← Classical.choose_spec (hX j) hj, ← add_off]
    exact (hV j (by omega)).1
namespace Fo
def sliceOf : Value → Option Addr × Nat × Nat
  | .slice a l c => (a, l, c)
  | _ => (none, 0, 0)
/-- The kid of a node that lies in memory. -/
def kidsOf (w : World) (x : NV) (j : Nat) : NV :=
  match x.a with
  | some ⟨b, off, none⟩ =>
    ⟨intOf ((w.cell? ⟨b, off + j * 4, none⟩).getD (.int .i64 0)), intOf ((w.cell? ⟨b, off + j * 4 + 1, none⟩).getD (.int .i64 0)), intOf ((w.cell? ⟨b, off + j * 4 + 2, none⟩).getD (.int .i64 0)),
      (sliceOf ((w.cell? ⟨b, off + j * 4 + 3, none⟩).getD (.int .i64 0))).1, (sliceOf ((w.cell? ⟨b, off + j * 4 + 3, none⟩).getD (.int .i64 0))).2.1, (sliceOf ((w.cell? ⟨b, off + j * 4 + 3, none⟩).getD (.int .i64 0))).2.2⟩
  | _ => NV.zero
end Fo
theorem open_node {H : Type} {enc : TypeId × Value → H} {W : World} : ∀ (k fuel : Nat) (cs : List Value) (x : DataW H × List MemPlace),
    DataW.trod enc Try.prog W 0 (fun _ => true) true fuel 24 cs = some x → ∃ nv : NV, cs = nv.cells.toList ∧ Wf (kidsOf W) W k nv := by
  intro k
  induction k with
  | zero =>
    intro fuel cs x hf
    obtain ⟨y0, y1, y2, y3, n, -, hlen, h0, h1, h2, h3⟩ := Go.Joins.trod_struct4 Try.underlying24 hf
    have hl4 : cs.length = 4 := hlen
    match cs, hl4 with
    | [p, q, r, t], _ =>
      obtain ⟨kd, rfl, -⟩ := int_of_trod (show DataW.trod enc Try.prog W 0 (fun _ => true) true n 3 [p] = some y0 from h0)
      obtain ⟨co, rfl, -⟩ := int_of_trod (show DataW.trod enc Try.prog W 0 (fun _ => true) true n 3 [q] = some y1 from h1)
      obtain ⟨nn, rfl, -⟩ := int_of_trod (show DataW.trod enc Try.prog W 0 (fun _ => true) true n 3 [r] = some y2 from h2)
      rcases Deep.open_slice Try.underlying22 (show DataW.trod enc Try.prog W 0 (fun _ => true) true n 22 [t] = some y3 from h3) with ⟨hcs, -⟩ | ⟨a, len, cap, m, n', D, Pl, hcs, -⟩
      · obtain rfl : t = .slice none 0 0 := by simpa using hcs
        exact ⟨⟨kd, co, nn, none, 0, 0⟩, rfl, trivial⟩
      · obtain rfl : t = .slice (some a) len cap := by simpa using hcs
        exact ⟨⟨kd, co, nn, some a, len, cap⟩, rfl, trivial⟩
  | succ k ih =>
    intro fuel cs x hf
    obtain ⟨y0, y1, y2, y3, n, -, hlen, h0, h1, h2, h3⟩ := Go.Joins.trod_struct4 Try.underlying24 hf
    have hl4 : cs.length = 4 := hlen
    match cs, hl4 with
    | [p, q, r, t], _ =>
      obtain ⟨kd, rfl, -⟩ := int_of_trod (show DataW.trod enc Try.prog W 0 (fun _ => true) true n 3 [p] = some y0 from h0)
      obtain ⟨co, rfl, -⟩ := int_of_trod (show DataW.trod enc Try.prog W 0 (fun _ => true) true n 3 [q] = some y1 from h1)
      obtain ⟨nn, rfl, -⟩ := int_of_trod (show DataW.trod enc Try.prog W 0 (fun _ => true) true n 3 [r] = some y2 from h2)
      rcases Deep.open_slice Try.underlying22 (show DataW.trod enc Try.prog W 0 (fun _ => true) true n 22 [t] = some y3 from h3) with ⟨hcs, -⟩ | ⟨a, len, cap, m, n', D, Pl, hcs, -, hl, hm, hmm, -, hV⟩
      · obtain rfl : t = .slice none 0 0 := by simpa using hcs
        exact ⟨⟨kd, co, nn, none, 0, 0⟩, rfl, ⟨Nat.le_refl _, by show (0 : Nat) ≤ _; omega, Or.inl rfl⟩, fun j hj => absurd hj (Nat.not_lt_zero j)⟩
      · obtain rfl : t = .slice (some a) len cap := by simpa using hcs
        simp only [if_true] at hmm
        have hmm' := hmm.symm
        clear hmm
        subst hmm'
        have hc4 : Try.prog.cellsOf 24 = 4 := by kernel_rfl
        rw [hc4] at hV
        have hcap : cap ≤ 9223372036854775807 := by unfold maxLen at hm; omega
        by_cases h0 : len = 0
        · subst h0
          exact ⟨⟨kd, co, nn, some a, 0, cap⟩, rfl, ⟨Nat.zero_le _, hcap, Or.inl rfl⟩, fun j hj => absurd hj (Nat.not_lt_zero j)⟩
        obtain ⟨b, off, spot⟩ := a
        have hspot : spot = none := by
          obtain ⟨cs', hc', -⟩ := hV 0 (by omega)
          obtain ⟨-, hl', hc''⟩ := World.cells?_some hc'
          have h1 := hc'' 0 (by omega)
          match cs', hl' with
          | [u0, u1, u2, u3], _ => simpa [Addr.add] using World.cell?_spot h1
        subst hspot
        have hkid : ∀ j, j < len → ∃ nv : NV, True → W.cell? ⟨b, off + j * 4, none⟩ = some (.int .i64 nv.kind) ∧ W.cell? ⟨b, off + j * 4 + 1, none⟩ = some (.int .i64 nv.code) ∧ W.cell? ⟨b, off + j * 4 + 2, none⟩ = some (.int .i64 nv.n) ∧ W.cell? ⟨b, off + j * 4 + 3, none⟩ = some (.slice nv.a nv.len nv.cap) ∧ Wf (kidsOf W) W k nv := fun j hj => by
          obtain ⟨cs', hc', ht'⟩ := hV j (by omega)
          obtain ⟨-, hl', hc''⟩ := World.cells?_some hc'
          obtain ⟨nv, rfl, hw⟩ := ih n' cs' _ ht'
          refine ⟨nv, fun _ => ⟨?_, ?_, ?_, ?_, hw⟩⟩
          · have := hc'' 0 (by omega); rwa [add_off, add_off] at this
          · have := hc'' 1 (by omega); rwa [add_off, add_off] at this
          · have := hc'' 2 (by omega); rwa [add_off, add_off] at this
          · have := hc'' 3 (by omega); rwa [add_off, add_off] at this
        have hsame : ∀ j, j < len → ∃ nv : NV, kidsOf W ⟨kd, co, nn, some ⟨b, off, none⟩, len, cap⟩ j = nv ∧ W.cell? ⟨b, off + j * 4, none⟩ = some (.int .i64 nv.kind) ∧ W.cell? ⟨b, off + j * 4 + 1, none⟩ = some (.int .i64 nv.code) ∧ W.cell? ⟨b, off + j * 4 + 2, none⟩ = some (.int .i64 nv.n) ∧ W.cell? ⟨b, off + j * 4 + 3, none⟩ = some (.slice nv.a nv.len nv.cap) ∧ Wf (kidsOf W) W k nv := fun j hj => by
          obtain ⟨nv, hn⟩ := hkid j hj
          obtain ⟨e0, e1, e2, e3, e4⟩ := hn trivial
          refine ⟨nv, ?_, e0, e1, e2, e3, e4⟩
          simp only [kidsOf, e0, e1, e2, e3, Option.getD_some, intOf, sliceOf]
        refine ⟨⟨kd, co, nn, some ⟨b, off, none⟩, len, cap⟩, rfl, ⟨hl, hcap, Or.inr ⟨b, off, rfl, fun j hj => ?_⟩⟩, fun j hj => ?_⟩
        · obtain ⟨nv, e, e0, e1, e2, e3, -⟩ := hsame j hj
          rw [e]
          exact ⟨e0, e1, e2, e3⟩
        · obtain ⟨nv, e, -, -, -, -, hw⟩ := hsame j hj
          rw [e]
          exact hw
end Go.Proofs.Ytgighebohbpkiaa
