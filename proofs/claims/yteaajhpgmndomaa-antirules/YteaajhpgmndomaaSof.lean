/- slices.SortFunc on lists of sets, by their order. -/
import Derived.Test.YteaajhpgmndomaaOdr
namespace Go.Proofs.Yteaajhpgmndomaa
open Go.RowKit Fo
set_option maxRecDepth 100000

namespace Fo
theorem gs_get {L : List (List Int)} {j : Nat} (h : j < L.length) : gs L j = L[j] := by
  unfold gs
  rw [List.getD_eq_getElem?_getD, List.getElem?_eq_getElem h]; rfl
theorem gs_map {α : Type} [Inhabited α] (d : Array α) (f : α → List Int) (j : Nat) (h : j < d.size) : gs (d.toList.map f) j = f d[j]! := by
  rw [gs_get (by simpa using h), List.getElem_map, getElem!_pos d j h]; simp
end Fo
theorem eg51 : ∀ args w, (callFunc 51 args).run Try.prog w = .ok (.enter 51 args) w := enters_of Try.func51 (by kernel_rfl) rfl
theorem sortF_any (w : World) (F : Nat → Prop) (B : Nat) (v : Value) (V : Nat → Value) (L : List (List Int)) (ho : Ow 23 B w v L.length V) (hs : ∀ j, j < L.length → SIO F w (V j) (gs L j)) (hF : ∀ k, v.ownBlock = some k → F k) (hl : L.length ≤ 1000000000) :
    Calls Try.prog 50 #[v, .func (.func 51) #[] #[]] w fun e w' => e = .returned (.tuple #[]) ∧ (∃ L' V', L'.Perm L ∧ L'.Pairwise (fun a b => ¬ lessL b a) ∧ Ow 23 B w' v L'.length V' ∧ ∀ j, j < L'.length → SIO F w' (V' j) (gs L' j)) ∧ w.grownBy w' v.ownBlock := by
  obtain ⟨a, c, rfl, hr⟩ := ho.rd
  by_cases h0 : L.length = 0
  · have hl0 : L = [] := List.length_eq_zero_iff.1 h0
    subst hl0
    refine (Try.slices_SortFunc_none (α := Int) a c _ w).mono ?_
    rintro e w' ⟨rfl, rfl⟩
    exact ⟨rfl, ⟨[], V, List.Perm.refl _, List.Pairwise.nil, ho, fun j hj => absurd hj (by simp)⟩, World.grownBy.refl _ _⟩
  obtain ⟨g, rfl, -, hcell, hfz⟩ := ho.cells (by omega)
  have hblk : g < w.heap.size := (World.ownsRow.lt ho g rfl).2
  let α := { p : Value × List Int // SIO F w p.1 p.2 }
  have : Inhabited α := ⟨⟨(.slice none 0 0, []), ⟨none, 0, rfl, Rd.empty _ _ _ (by decide) _, Or.inl rfl⟩⟩⟩
  let enc : α → Value := fun p => p.1.1
  let cf : α → α → Int := fun x y => ordI x.1.2 y.1.2
  have hone : OneCell enc := fun x => by obtain ⟨a, c, e, -⟩ := x.2; show x.1.1.oneCell' = true; rw [e]; rfl
  have hlt : ∀ x y : α, ltOf cf x y = true ↔ lessL x.1.2 y.1.2 := fun x y => by show decide (ordI x.1.2 y.1.2 < 0) = true ↔ _; rw [decide_eq_true_eq, ordI_less]
  have hlf : ∀ x y : α, ltOf cf x y = false ↔ ¬ lessL x.1.2 y.1.2 := fun x y => by rw [← hlt]; simp
  have hO : Sort.SWO (ltOf cf) := {
    irrefl := fun x => (hlf x x).2 (less_irr _)
    trans := fun x y z h k => (hlt x z).2 (less_trans ((hlt x y).1 h) ((hlt y z).1 k))
    ntrans := fun x y z h k => by
      rw [hlf] at h k ⊢
      intro q
      rcases less_total y.1.2 z.1.2 with t | t | t
      · exact k t
      · exact h (t ▸ q)
      · exact h (less_trans q t) }
  let d : Array α := Array.ofFn (n := L.length) fun j => ⟨(V j, gs L j), hs j j.2⟩
  have hd : d.size = L.length := by simp [d]
  have hdj : ∀ j (h : j < L.length), d[j]! = ⟨(V j, gs L j), hs j h⟩ := fun j h => by
    rw [getElem!_pos d j (by omega)]; simp [d]
  have hgr : ∀ (m : Nat) (os : Array Obj) (dk : Array α), dk.size = d.size → Ow 23 B (sortWorld enc w g 0 m dk os) (.slice (some ⟨g, 0, none⟩) L.length c) L.length (fun j => enc dk[j]!) ∧ w.grownBy (sortWorld enc w g 0 m dk os) (some g) := fun m os dk hdk =>
    Ow.sorted ho (by rw [hdk, hd])
  have hkp : ∀ (m : Nat) (os : Array Obj) (dk : Array α), dk.size = d.size → Kp F w (sortWorld enc w g 0 m dk os) := fun m os dk hdk => Kp.of_grown (hgr m os dk hdk).2 fun k e => hF k (by rw [← e]; rfl)
  have hcmp : CmpLays1 Try.prog 51 #[] enc cf g 0 d.size w := fun m os dk hdk x y => by
    refine (order_any (sortWorld enc w g 0 m dk os) x.1.1 y.1.1 x.1.2 y.1.2 ((x.2.step (hkp m os dk hdk) fun _ _ h => h).isL) ((y.2.step (hkp m os dk hdk) fun _ _ h => h).isL)).mono ?_
    rintro e w' ⟨rfl, o, rfl⟩
    exact ⟨rfl, 0, #[o], Sort.alloc_eq_grow _ o⟩
  have hH : Sort.Holds enc w g 0 d := fun j hj => by
    have hj' : j < L.length := by omega
    rw [Nat.zero_add, hdj j hj']
    exact ⟨hcell j hj', hfz j⟩
  have hmain := Try.slices_SortFunc enc hone cf hO 51 #[] g 0 c d w eg51 hcmp hH hblk (by omega)
  rw [hd] at hmain
  refine hmain.mono ?_
  rintro e w' ⟨rfl, d', n, os, hp, hso, rfl⟩
  obtain ⟨hp1, -, hp2⟩ := hp
  have hpl : d'.toList.Perm d.toList := by
    have e1 : d'.extract 0 L.length = d' := by rw [show L.length = d'.size by omega]; simp
    have e2 : d.extract 0 L.length = d := by rw [show L.length = d.size by omega]; simp
    rw [e1, e2] at hp2; exact hp2
  have hL : d.toList.map (fun x : α => x.1.2) = L := by
    apply List.ext_getElem
    · simpa using hd
    · intro j h1 h2
      simp only [d, List.getElem_map, Array.getElem_toList, Array.getElem_ofFn]
      exact gs_get h2
  have hlen : (d'.toList.map fun x : α => x.1.2).length = L.length := by simp [hp1, hd]
  refine ⟨rfl, ⟨d'.toList.map (fun x : α => x.1.2), fun j => enc d'[j]!, ?_, ?_, ?_, fun j hj => ?_⟩, (hgr n os d' hp1).2⟩
  · have := hpl.map (fun x : α => x.1.2)
    rwa [hL] at this
  · rw [List.pairwise_iff_getElem]
    intro i j hi hj hij
    have h := hso i j (Nat.zero_le _) hij (by omega)
    rw [hlf] at h
    have hi' : i < d'.size := by simpa using hi
    have hj' : j < d'.size := by simpa using hj
    rw [getElem!_pos d' i hi', getElem!_pos d' j hj'] at h
    simpa using h
  · rw [hlen]; exact (hgr n os d' hp1).1
  · have hj' : j < d'.size := by simpa using hj
    rw [gs_map d' _ j hj']
    exact d'[j]!.2.step (hkp n os d' hp1) fun _ _ h => h
end Go.Proofs.Yteaajhpgmndomaa
