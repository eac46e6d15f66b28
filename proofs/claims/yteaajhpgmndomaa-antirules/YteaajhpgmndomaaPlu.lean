/- Plus. -/
import Derived.Test.YteaajhpgmndomaaRef
namespace Go.Proofs.Yteaajhpgmndomaa
open Go.RowKit Fo
set_option maxRecDepth 100000

namespace Fo
theorem anti_apart {L : List (List Int)} (h : Anti L) {a b : List Int} (ha : a ∈ L) (hb : b ∈ L) (hs : sub a b) : a = b := by
  induction L with
  | nil => cases ha
  | cons g L ih =>
    unfold Anti at h
    rw [List.pairwise_cons] at h
    rcases List.mem_cons.1 ha with e | e <;> rcases List.mem_cons.1 hb with f | f
    · rw [e, f]
    · subst e; exact absurd hs (h.1 b f).1
    · subst f; exact absurd hs (h.1 a e).2
    · exact ih h.2 e f
theorem anti_perm {L R : List (List Int)} (h : Anti L) (hr : ∀ a, a ∈ L → Rise a) (hR : Fam R) (hh : ∀ s, has L s ↔ has R s) : L.Perm R := by
  have n1 : L.Nodup := h.imp fun {a b} k (e : a = b) => k.1 (e ▸ sub_refl a)
  have n2 : R.Nodup := hR.2.imp fun {a b} k (e : a = b) => k.2.1 (e ▸ sub_refl a)
  refine (List.perm_ext_iff_of_nodup n1 n2).2 fun a => ⟨fun ha => ?_, fun ha => ?_⟩
  · obtain ⟨b, hb, hba⟩ := (hh a).1 ⟨a, ha, sub_refl a⟩
    obtain ⟨c, hc, hcb⟩ := (hh b).2 ⟨b, hb, sub_refl b⟩
    have e := anti_apart h hc ha (sub_trans hcb hba)
    subst e
    rwa [rise_ext (hr c ha) (hR.1 b hb) hcb hba]
  · obtain ⟨b, hb, hba⟩ := (hh a).2 ⟨a, ha, sub_refl a⟩
    obtain ⟨c, hc, hcb⟩ := (hh b).1 ⟨b, hb, sub_refl b⟩
    have e := fam_apart hR hc ha (sub_trans hcb hba)
    subst e
    rwa [rise_ext (hR.1 c ha) (hr b hb) hcb hba]
theorem less_sized {S : List (List Int)} (h : S.Pairwise fun a b => ¬ lessL b a) : S.Pairwise fun a b => a.length ≤ b.length := h.imp fun {a b} k => by
  by_cases q : a.length ≤ b.length
  · exact q
  · exact absurd (Or.inl (by omega)) k
/-- Sets by rising size: what is kept has as many as the family. -/
theorem sum_len {l S R : List (List Int)} (hr : ∀ a, a ∈ S → Rise a) (hl : S.Pairwise fun a b => a.length ≤ b.length) (hS : ∀ s, has S s ↔ has l s) (hR : FamOf l R) : (adds [] S).length = R.length := by
  refine (anti_perm (adds_anti anti_nil (fun x hx => by cases hx) (anti_sized hr hl)) (fun a h => ?_) hR.1 fun s => ?_).length_eq
  · rcases adds_mem h with k | k
    · cases k
    · exact hr a k
  · rw [adds_has, hS, hR.2]
    exact ⟨fun h => h.elim (fun q => absurd q (has_nil s)) id, Or.inr⟩
theorem heap4 (w : World) (o1 o2 o3 o4 : Obj) : (((((w.alloc o1).alloc o2).alloc o3).alloc o4).heap[w.heap.size]? = some o1) ∧ (((((w.alloc o1).alloc o2).alloc o3).alloc o4).heap[w.heap.size + 1]? = some o2) ∧ (((((w.alloc o1).alloc o2).alloc o3).alloc o4).heap[w.heap.size + 1 + 1]? = some o3) ∧ (((((w.alloc o1).alloc o2).alloc o3).alloc o4).heap[w.heap.size + 1 + 1 + 1]? = some o4) := by
  refine ⟨?_, ?_, ?_, ?_⟩
  · rw [Below.heap_alloc _ _ _ (by simp; omega)]; exact heap_new3 w _ _ _
  · rw [Below.heap_alloc _ _ _ (by simp)]
    have := heap_new2 (w.alloc o1) o2 o3
    simpa using this
  · have := heap_new2 ((w.alloc o1).alloc o2) o3 o4
    simpa using this
  · have := heap_new1 (((w.alloc o1).alloc o2).alloc o3) o4
    simpa using this
end Fo
namespace Fo
/-- What Plus and Times answer. -/
def BudP (R : List (List Int)) (b : Int) (w : World) (e : Ending) (w' : World) : Prop := BudR w' e R b ∧ Below w.heap.size w w'
theorem fv_empty (w : World) : FV w (.agg #[.slice none 0 0]) [] := ⟨none, 0, fun _ => .slice none 0 0, rfl, Rd.empty _ _ _ (by decide) _, fun j hj => absurd hj (Nat.not_lt_zero j), Or.inl rfl, Nat.zero_le _, fun j hj => absurd hj (Nat.not_lt_zero j), fun a h => by cases h⟩
theorem bud_no {w w' : World} {R : List (List Int)} {b : Int} (h : min b 5000 < (R.length : Int)) (hb : Below w.heap.size w w') : BudP R b w (.returned (.tuple #[.agg #[.slice none 0 0], .int .i64 10])) w' := by
  refine ⟨Or.inr ⟨?_, _, rfl, fv_empty w'⟩, hb⟩
  unfold ovB
  rw [Bool.or_eq_true, decide_eq_true_eq, decide_eq_true_eq]
  by_cases q : b < (R.length : Int)
  · exact Or.inl q
  · right
    have : (5000 : Int) < (R.length : Int) := by omega
    omega
theorem bud_yes {w w' : World} {R : List (List Int)} {b : Int} {u : Value} (h : (R.length : Int) ≤ min b 5000) (hu : FV w' u R) (hb : Below w.heap.size w w') : BudP R b w (.returned (.tuple #[u, .int .i64 0])) w' := by
  refine ⟨Or.inl ⟨?_, u, rfl, hu⟩, hb⟩
  unfold ovB
  have h1 : ¬ b < (R.length : Int) := by omega
  have h2 : ¬ 5000 < R.length := by omega
  rw [decide_eq_false h1, decide_eq_false h2]; rfl
/-- A family stays where a variable of another type is written. -/
theorem FV.putE {w : World} {v : Value} {F : List (List Int)} {g j : Nat} {cs : Array Value} {E : TypeId} {fr0 : Nat × Nat} (h : FV w v F) (hg : w.heap[g]? = some (.cells cs E fr0)) (h1 : E ≠ 3) (h2 : E ≠ 23) (u : Value) : FV (w.setCell ⟨g, j, none⟩ u) v F := by
  obtain ⟨a, c, V, e, ⟨hr1, hr2, hr3⟩, hs, ht, hl⟩ := h
  have far : ∀ (b : Nat) (cur : Array Value) (t : TypeId) (fr : Nat × Nat), E ≠ t → w.heap[b]? = some (.cells cur t fr) → (w.setCell ⟨g, j, none⟩ u).heap[b]? = w.heap[b]? := fun b cur t fr hne hb => by
    refine Below.heap_setCell w ⟨g, j, none⟩ u b (fun e => ?_)
    have e' : b = g := e
    subst e'
    rw [hg] at hb
    injection hb with hb
    injection hb with _ hb
    exact hne hb
  refine ⟨a, c, V, e, ⟨hr1, hr2, ?_⟩, fun j hj => (hs j hj).keep fun b cur fr hb => far b cur _ fr h1 hb, ?_, hl⟩
  · rcases ht with h0 | ⟨b, off, cur, fr, ea, hc⟩
    · exact Or.inl h0
    · rcases hr3 with h0 | ⟨b2, off2, ea2, hcc⟩
      · exact Or.inl h0
      · obtain ⟨rfl, rfl⟩ : b2 = b ∧ off2 = off := by rw [ea] at ea2; simpa [eq_comm] using ea2
        exact Or.inr ⟨b2, off2, ea2, fun j hj => by have := hcc j hj; unfold World.cell? at this ⊢; rw [far b2 cur _ fr h2 hc]; exact this⟩
  · rcases ht with h0 | ⟨b, off, cur, fr, ea, hc⟩
    · exact Or.inl h0
    · exact Or.inr ⟨b, off, cur, fr, ea, by rw [far b cur _ fr h2 hc]; exact hc⟩
end Fo
set_option maxHeartbeats 16000000 in
theorem plus_any (w : World) (v1 v2 : Value) (F G R : List (List Int)) (b : Int) (h1 : FV w v1 F) (h2 : FV w v2 G) (hF : Fam F) (hG : Fam G) (hR : FamOf (F ++ G) R) :
    Calls Try.prog 23 #[v1, v2, .int .i64 b] w fun e w' => BudP R b w e w' := by
  have HF1 : Hid (FV w v1 F) := h1
  have HF2 : Hid (FV w v2 G) := h2
  have HFF : Hid (Fam F) := hF
  have HFG : Hid (Fam G) := hG
  have HFR : Hid (FamOf (F ++ G) R) := hR
  obtain ⟨a1, c1, V1, rfl, -, -, -, hl1, hn1, -⟩ := h1
  obtain ⟨a2, c2, V2, rfl, -, -, -, hl2, hn2, -⟩ := h2
  have HN1 : Hid (∀ j, j < F.length → (gs F j).length ≤ 10000) := hn1
  have HN2 : Hid (∀ j, j < G.length → (gs G j).length ≤ 10000) := hn2
  obtain ⟨W4, hW4⟩ : ∃ W4, W4 = (((w.alloc (.cells #[.slice a1 F.length c1] 27)).alloc (.cells #[.slice a2 G.length c2] 27)).alloc (.cells #[.slice none 0 0] 27)).alloc (.cells #[.int .i64 0] 28) := ⟨_, rfl⟩
  have hb4 : Below w.heap.size w W4 := by rw [hW4]; exact (((below1 w _).alloc (by simp) _).alloc (by simp; omega) _).alloc (by simp; omega) _
  have hs4 : W4.heap.size = w.heap.size + 4 := by rw [hW4]; simp
  have hh := heap4 w (.cells #[.slice a1 F.length c1] 27) (.cells #[.slice a2 G.length c2] 27) (.cells #[.slice none 0 0] 27) (.cells #[.int .i64 0] 28)
  rw [← hW4] at hh
  have HB4 : Hid (Below w.heap.size w W4) := hb4
  have HS4 : Hid (W4.heap.size = w.heap.size + 4) := hs4
  have HH : Hid (_ ∧ _ ∧ _ ∧ _) := hh
  have hmf : ∀ (fn : Fn) (first cap : Array Value) (w : World), (Instr.makeFunc fn first cap).run Try.prog w = .ok (.func fn first cap) w := fun _ _ _ _ => rfl
  obtain ⟨most, hmost⟩ : ∃ most, most = min b 5000 := ⟨_, rfl⟩
  clear hF hG hR hn1 hn2 hb4 hs4 hh
  go_enter_defers Try.func23, Try.ntmps23
  go_wp2_with (go_at_call 32; fail)
  rw [← hW4, ← hmost]
  clear hW4
  obtain ⟨z, hz⟩ : ∃ z, z = w.heap.size := ⟨_, rfl⟩
  have hz4 : z + 4 = W4.heap.size := by rw [hz]; exact HS4.out.symm
  have HZ : Hid (z = w.heap.size) := hz
  rw [← hz] at HH ⊢
  clear hz
  have HMost : Hid (most = min b 5000) := hmost
  clear hmost
  refine (newKeeper_any W4 most).mono ?_
  rintro e w1 ⟨hres, b1⟩
  have e0 : w1.heap[z]? = some (.cells #[.slice a1 F.length c1] 27) := (b1.block _ (by omega)).trans HH.out.1
  have e1 : w1.heap[z + 1]? = some (.cells #[.slice a2 G.length c2] 27) := (b1.block _ (by omega)).trans HH.out.2.1
  have e2 : w1.heap[z + 1 + 1]? = some (.cells #[.slice none 0 0] 27) := (b1.block _ (by omega)).trans HH.out.2.2.1
  have e3 : w1.heap[z + 1 + 1 + 1]? = some (.cells #[.int .i64 0] 28) := (b1.block _ (by omega)).trans HH.out.2.2.2
  have HE0 : Hid (w1.heap[z]? = some (.cells #[.slice a1 F.length c1] 27)) := e0
  have HE1 : Hid (w1.heap[z + 1]? = some (.cells #[.slice a2 G.length c2] 27)) := e1
  have HE2 : Hid (w1.heap[z + 1 + 1]? = some (.cells #[.slice none 0 0] 27)) := e2
  have HE3 : Hid (w1.heap[z + 1 + 1 + 1]? = some (.cells #[.int .i64 0] 28)) := e3
  have HB1 : Hid (Below w.heap.size w w1) := below_step HB4.out b1
  have HZ1 : Hid (z + 4 ≤ w1.heap.size) := by show _ ≤ _; rw [hz4]; exact b1.size
  have HF0 : Hid (∀ b, b < w.heap.size + 4 → b < W4.heap.size) := fun b hb => by rw [← HZ.out] at hb; omega
  rcases hres with ⟨F1, kp, rfl, hm0, hki, hF1⟩ | ⟨he, hm0⟩
  · have HKI : Hid (KIn F1 w1 kp most []) := hki
    have HF1l : Hid (∀ b, F1 b → z + 4 ≤ b) := fun b hb => by have := hF1 b hb; omega
    obtain ⟨kb, rfl⟩ : ∃ kb, kp = .pointer (some ⟨kb, 0, none⟩) := by obtain ⟨kb, _, _, _, _, _, _, e, _⟩ := hki; exact ⟨kb, e⟩
    have HM0 : Hid (0 ≤ most) := hm0
    have c0 : w1.cell? ⟨z, 0, none⟩ = some (.slice a1 F.length c1) := by rw [cell_of_row _ _ _ _ _ _ e0]; rfl
    have c1' : w1.cell? ⟨z + 1, 0, none⟩ = some (.slice a2 G.length c2) := by rw [cell_of_row _ _ _ _ _ _ e1]; rfl
    clear hki hF1 hm0 b1 e0 e1 e2 e3 hz4
    go_wp2_with (go_at_call 45; fail)
    obtain ⟨W2, hW2⟩ : ∃ W2, W2 = w1.alloc (.cells #[.slice a1 F.length c1, .slice a2 G.length c2] 22) := ⟨_, rfl⟩
    have hb2 : Below w1.heap.size w1 W2 := by rw [hW2]; exact below1 w1 _
    have hh2 : W2.heap[w1.heap.size]? = some (.cells #[.slice a1 F.length c1, .slice a2 G.length c2] 22) := by rw [hW2]; exact heap_new1 w1 _
    have hs2 : W2.heap.size = w1.heap.size + 1 := by rw [hW2]; simp
    rw [← hW2]
    clear hW2
    have hwW : Below w.heap.size w W2 := below_step HB1.out hb2
    have hF1w : ∀ b, b < w.heap.size → ¬ F1 b := fun b hb h => by have := HF1l.out b h; rw [← HZ.out] at hb; omega
    have HC := concat_any F1 W2 w1.heap.size _ _ F G ((HF1.out.lio hF1w).below hwW) ((HF2.out.lio hF1w).below hwW) (by rw [cell_of_row _ _ _ _ _ _ hh2]; rfl) (by rw [cell_of_row _ _ _ _ _ _ hh2]; rfl) (by omega) (by omega)
    have HB2 : Hid (Below w1.heap.size w1 W2) := hb2
    have HS2 : Hid (W2.heap.size = w1.heap.size + 1) := hs2
    clear hb2 hh2 hs2 hwW c0 c1' hF1w
    refine HC.mono ?_
    rintro e w3 ⟨⟨u, V, rfl, hO3, hset3⟩, b3⟩
    clear HC
    obtain ⟨S, hS⟩ : ∃ S, S = F ++ G := ⟨_, rfl⟩
    rw [← hS] at hO3 hset3
    have HSq : Hid (S = F ++ G) := hS
    clear hS
    obtain ⟨ua, uc, rfl, -⟩ := id hO3.rd
    have HO3 : Hid (Ow 23 W2.heap.size w3 (.slice ua S.length uc) S.length V) := hO3
    have HSET3 : Hid (∀ j, j < S.length → SIO F1 w3 (V j) (gs S j)) := hset3
    have HB3 : Hid (Below w1.heap.size w1 w3) := below_step HB2.out b3
    have HS3 : Hid (w1.heap.size + 1 ≤ w3.heap.size) := by show _ ≤ _; have := b3.size; have := HS2.out; omega
    have HKI3 : Hid (KIn F1 w3 (.pointer (some ⟨kb, 0, none⟩)) most []) := HKI.out.frame (Kp.of_below (F := fun _ => False) HB3.out) fun _ _ h => h
    have HRow : Hid (∀ g, (Value.slice ua S.length uc).ownBlock = some g → ¬ F1 g ∧ z + 4 ≤ g) := fun g hg => by
      have h1 := (World.ownsRow.lt hO3 g hg).1
      have h2 := HS2.out
      have h3 := HZ1.out
      exact ⟨fun h => by have := HKI.out.lt g h; omega, by omega⟩
    have HL : Hid (S.length ≤ 10000 ∧ (∀ a, a ∈ S → Rise a) ∧ ∀ a, a ∈ S → a.length ≤ 10000) := by
      refine ⟨by rw [HSq.out, List.length_append]; omega, fun a ha => ?_, fun a ha => ?_⟩
      all_goals rw [HSq.out] at ha
      · rcases List.mem_append.1 ha with h | h
        · exact HFF.out.1 a h
        · exact HFG.out.1 a h
      · rcases List.mem_append.1 ha with h | h
        · obtain ⟨j, hj, rfl⟩ := gs_mem.1 h
          exact HN1.out j hj
        · obtain ⟨j, hj, rfl⟩ := gs_mem.1 h
          exact HN2.out j hj
    have HM5 : Hid (most ≤ 5000) := by show _ ≤ _; rw [HMost.out]; omega
    clear hO3 hset3 b3
    go_wp2_with (go_at_call 33; fail)
    refine (addAll_any F1 w3 _ _ most [] S V HKI3.out (HO3.out.mono (Nat.zero_le _)) (fun g hg => (HRow.out g hg).1) HSET3.out HL.out.2.1 HL.out.2.2 (by have := HL.out.1; omega) HM5.out (by simpa using HM0.out)).mono ?_
    rintro e w4 ⟨S', hp, hso, hres, hk4⟩
    have HK4 : Hid (Kp (fun b => z + 4 ≤ b) w1 w4) := (Kp.of_below HB3.out).trans hk4 fun b hb h => by
      rcases h with h | h
      · exact HF1l.out b h
      · exact (HRow.out b h).2
    have hSR : ∀ a, a ∈ S' → Rise a := fun a ha => HL.out.2.1 a (hp.mem_iff.1 ha)
    have hSh : ∀ s, has S' s ↔ has (F ++ G) s := fun s => by rw [← HSq.out]; exact has_perm hp s
    have HLen : Hid ((adds [] S').length = R.length) := sum_len hSR (less_sized hso) hSh HFR.out
    rcases hres with ⟨rfl, hle, hki⟩ | ⟨he, hgt⟩
    · have HKI4 : Hid (KIn (newF F1 w3 w4) w4 (.pointer (some ⟨kb, 0, none⟩)) most (adds [] S')) := hki
      have HLe : Hid ((R.length : Int) ≤ most) := by show _ ≤ _; rw [← HLen.out]; exact hle
      have HFam : Hid (∀ L', L'.Perm (adds [] S') → L'.Pairwise (fun a b => ¬ lessL b a) → L' = R) := fun L' h1 h2 => famOf_fun (sum_fam hSR (less_sized hso) hSh h1 h2) HFR.out
      have HN : Hid (∀ x, x ∈ adds [] S' → x.length ≤ 10000) := fun x hx => by
        rcases adds_mem hx with h | h
        · cases h
        · exact HL.out.2.2 x (hp.mem_iff.1 h)
      have HNr : Hid (∀ x, x ∈ adds [] S' → Rise x) := fun x hx => by
        rcases adds_mem hx with h | h
        · cases h
        · exact hSR x h
      clear hp hso hk4 hSR hSh hle hki HKI HKI3 HSET3
      go_wp2_with (go_at_call 34; fail)
      refine (family_any _ w4 _ most (adds [] S') HKI4.out (by rw [HLen.out]; have := HLe.out; have := HM5.out; omega) HN.out HNr.out).mono ?_
      rintro e w5 ⟨⟨L', u, rfl, hp5, hso5, hfv⟩, hk5⟩
      obtain rfl : L' = R := HFam.out L' hp5 hso5
      have HK5 : Hid (Kp (fun b => z + 4 ≤ b) w1 w5) := HK4.out.trans hk5 fun b hb h => by
        rcases h with h | h
        · exact HF1l.out b h
        · have := HS3.out; have := h.1; omega
      obtain ⟨fa, fc, Vf, rfl, hfrest⟩ := id hfv
      have e2 : w5.heap[z + 1 + 1]? = some (.cells #[.slice none 0 0] 27) := HK5.out.heap HE2.out (by omega)
      have e3 : w5.heap[z + 1 + 1 + 1]? = some (.cells #[.int .i64 0] 28) := HK5.out.heap HE3.out (by omega)
      have c2' : w5.cell? ⟨z + 1 + 1, 0, none⟩ = some (.slice none 0 0) := by rw [cell_of_row _ _ _ _ _ _ e2]; rfl
      have c3 : w5.cell? ⟨z + 1 + 1 + 1, 0, none⟩ = some (.int .i64 0) := by rw [cell_of_row _ _ _ _ _ _ e3]; rfl
      have z2 := frz_of e2 0
      have z3 := frz_of e3 0
      have HFin : Hid (BudP L' b w (.returned (.tuple #[.agg #[.slice fa L'.length fc], .int .i64 0])) (((w5.setCell ⟨z + 1 + 1, 0, none⟩ (.slice fa L'.length fc)).setCell ⟨z + 1 + 1 + 1, 0, none⟩ (.int .i64 0)).setCell ⟨z + 1 + 1 + 1, 0, none⟩ (.int .i64 0))) := by
        have g1 : FV (w5.setCell ⟨z + 1 + 1, 0, none⟩ (.slice fa L'.length fc)) (.agg #[.slice fa L'.length fc]) L' := hfv.put e2 _
        have x3 : (w5.setCell ⟨z + 1 + 1, 0, none⟩ (.slice fa L'.length fc)).heap[z + 1 + 1 + 1]? = some (.cells #[.int .i64 0] 28) := by
          rw [Below.heap_setCell _ _ _ _ (by show z + 1 + 1 + 1 ≠ z + 1 + 1; omega)]; exact e3
        have g2 := g1.putE (j := 0) x3 (by decide) (by decide) (.int .i64 0)
        have x4 := set_heap (j := 0) x3 (.int .i64 0)
        have g3 := g2.putE (j := 0) x4 (by decide) (by decide) (.int .i64 0)
        have hbw : Below w.heap.size w w5 := HB1.out.trans (HK5.out.below HB1.out.size fun b hb h => by rw [← HZ.out] at hb; omega)
        have hzz : w.heap.size = z := HZ.out.symm
        exact bud_yes (by rw [← HMost.out]; exact HLe.out) g3 (((hbw.setCell (p := ⟨z + 1 + 1, 0, none⟩) (by show w.heap.size ≤ z + 1 + 1; omega) _).setCell (p := ⟨z + 1 + 1 + 1, 0, none⟩) (by show w.heap.size ≤ z + 1 + 1 + 1; omega) _).setCell (p := ⟨z + 1 + 1 + 1, 0, none⟩) (by show w.heap.size ≤ z + 1 + 1 + 1; omega) _)
      have x3 : (w5.setCell ⟨z + 1 + 1, 0, none⟩ (.slice fa L'.length fc)).heap[z + 1 + 1 + 1]? = some (.cells #[.int .i64 0] 28) := by
        rw [Below.heap_setCell _ _ _ _ (by show z + 1 + 1 + 1 ≠ z + 1 + 1; omega)]; exact e3
      have x4 : ((w5.setCell ⟨z + 1 + 1, 0, none⟩ (.slice fa L'.length fc)).setCell ⟨z + 1 + 1 + 1, 0, none⟩ (.int .i64 0)).heap[z + 1 + 1 + 1]? = some (.cells #[.int .i64 0] 28) := set_heap (j := 0) x3 (.int .i64 0)
      have hcX : Hid (((w5.setCell ⟨z + 1 + 1, 0, none⟩ (.slice fa L'.length fc)).setCell ⟨z + 1 + 1 + 1, 0, none⟩ (.int .i64 0)).cell? ⟨z + 1 + 1 + 1, 0, none⟩ = some (.int .i64 0)) := by show _ = _; rw [cell_of_row _ _ _ _ _ _ x4]; rfl
      have hzX : Hid (((w5.setCell ⟨z + 1 + 1, 0, none⟩ (.slice fa L'.length fc)).setCell ⟨z + 1 + 1 + 1, 0, none⟩ (.int .i64 0)).frozen? ⟨z + 1 + 1 + 1, 0, none⟩ = false) := frz_of x4 0
      have x5 := set_heap (j := 0) x4 (.int .i64 0)
      have x6 : (((w5.setCell ⟨z + 1 + 1, 0, none⟩ (.slice fa L'.length fc)).setCell ⟨z + 1 + 1 + 1, 0, none⟩ (.int .i64 0)).setCell ⟨z + 1 + 1 + 1, 0, none⟩ (.int .i64 0)).heap[z + 1 + 1]? = some (.cells #[.slice fa L'.length fc] 27) := by
        rw [Below.heap_setCell _ _ _ _ (by show z + 1 + 1 ≠ z + 1 + 1 + 1; omega), Below.heap_setCell _ _ _ _ (by show z + 1 + 1 ≠ z + 1 + 1 + 1; omega)]
        exact set_heap (j := 0) e2 (.slice fa L'.length fc)
      have HX5 : Hid ((((w5.setCell ⟨z + 1 + 1, 0, none⟩ (.slice fa L'.length fc)).setCell ⟨z + 1 + 1 + 1, 0, none⟩ (.int .i64 0)).setCell ⟨z + 1 + 1 + 1, 0, none⟩ (.int .i64 0)).cell? ⟨z + 1 + 1 + 1, 0, none⟩ = some (.int .i64 0)) := by show _ = _; rw [cell_of_row _ _ _ _ _ _ x5]; rfl
      have HX6 : Hid ((((w5.setCell ⟨z + 1 + 1, 0, none⟩ (.slice fa L'.length fc)).setCell ⟨z + 1 + 1 + 1, 0, none⟩ (.int .i64 0)).setCell ⟨z + 1 + 1 + 1, 0, none⟩ (.int .i64 0)).cell? ⟨z + 1 + 1, 0, none⟩ = some (.slice fa L'.length fc)) := by show _ = _; rw [cell_of_row _ _ _ _ _ _ x6]; rfl
      clear hp5 hso5 hfv hk5 hfrest e2 e3 x3 x4 x5 x6
      go_wp2
      refine leaves_cons (f := 43) (args := #[.pointer (some ⟨z + 1 + 1 + 1, 0, none⟩)]) (by simp) (by simp [go_sem]) ?_
      refine (catchP_idle ⟨z + 1 + 1 + 1, 0, none⟩ (.int .i64 0) _ hcX.out hzX.out).mono ?_
      rintro e u' w'' ⟨rfl, rfl, hw''⟩
      have d3 := HX5.out
      have d2 := HX6.out
      have HFin' := HFin.out
      rw [← hw''] at d2 d3 HFin'
      clear hw'' c2' c3 z2 z3 hcX hzX HX5 HX6 HFin
      simp [Leaves, settle, results, Try.results23, go_sem, d2, d3]
      exact HFin'
    · have e2 : w4.heap[z + 1 + 1]? = some (.cells #[.slice none 0 0] 27) := HK4.out.heap HE2.out (by omega)
      have e3 : w4.heap[z + 1 + 1 + 1]? = some (.cells #[.int .i64 0] 28) := HK4.out.heap HE3.out (by omega)
      have c2' : w4.cell? ⟨z + 1 + 1, 0, none⟩ = some (.slice none 0 0) := by rw [cell_of_row _ _ _ _ _ _ e2]; rfl
      have c3 : w4.cell? ⟨z + 1 + 1 + 1, 0, none⟩ = some (.int .i64 0) := by rw [cell_of_row _ _ _ _ _ _ e3]; rfl
      have z3 := frz_of e3 0
      have HFin : Hid (BudP R b w (.returned (.tuple #[.agg #[.slice none 0 0], .int .i64 10])) (w4.setCell ⟨z + 1 + 1 + 1, 0, none⟩ (.int .i64 10))) := by
        have hbw : Below w.heap.size w w4 := HB1.out.trans (HK4.out.below HB1.out.size fun b hb h => by rw [← HZ.out] at hb; omega)
        exact bud_no (by rw [← HMost.out, ← HLen.out]; exact hgt) (hbw.setCell (p := ⟨z + 1 + 1 + 1, 0, none⟩) (by show w.heap.size ≤ z + 1 + 1 + 1; rw [← HZ.out]; omega) _)
      clear hp hso hk4 hSR hSh hgt e2 e3
      unfold pB at he
      subst he
      try go_wp2
      refine leaves_cons (f := 43) (args := #[.pointer (some ⟨z + 1 + 1 + 1, 0, none⟩)]) (by simp) (by simp [go_sem]) ?_
      refine (catchP_err ⟨z + 1 + 1 + 1, 0, none⟩ _ [] _ c3 z3).mono ?_
      rintro e u' w'' ⟨rfl, rfl, rfl⟩
      simp [Leaves, settle, results, Try.results23, go_sem, c2', c3]
      exact HFin.out
  · have c2' : w1.cell? ⟨z + 1 + 1, 0, none⟩ = some (.slice none 0 0) := by rw [cell_of_row _ _ _ _ _ _ e2]; rfl
    have c3 : w1.cell? ⟨z + 1 + 1 + 1, 0, none⟩ = some (.int .i64 0) := by rw [cell_of_row _ _ _ _ _ _ e3]; rfl
    have z3 := frz_of e3 0
    have HFin : Hid (BudP R b w (.returned (.tuple #[.agg #[.slice none 0 0], .int .i64 10])) (w1.setCell ⟨z + 1 + 1 + 1, 0, none⟩ (.int .i64 10))) := bud_no (by rw [← HMost.out]; omega) (HB1.out.setCell (p := ⟨z + 1 + 1 + 1, 0, none⟩) (by show w.heap.size ≤ z + 1 + 1 + 1; rw [← HZ.out]; omega) _)
    clear hm0 b1 e0 e1 e2 e3 hz4
    unfold pB at he
    subst he
    try go_wp2
    refine leaves_cons (f := 43) (args := #[.pointer (some ⟨z + 1 + 1 + 1, 0, none⟩)]) (by simp) (by simp [go_sem]) ?_
    refine (catchP_err ⟨z + 1 + 1 + 1, 0, none⟩ _ [] _ c3 z3).mono ?_
    rintro e u' w'' ⟨rfl, rfl, rfl⟩
    simp [Leaves, settle, results, Try.results23, go_sem, c2', c3]
    exact HFin.out
end Go.Proofs.Yteaajhpgmndomaa
