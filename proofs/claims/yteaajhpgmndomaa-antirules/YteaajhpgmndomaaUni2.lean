/- The union of two sets, number by number; appendUnion. -/
import Derived.Test.YteaajhpgmndomaaKee
namespace Go.Proofs.Yteaajhpgmndomaa
open Go.RowKit Fo
set_option maxRecDepth 100000

namespace Fo
/-- The numbers of two sets, each once, rising. -/
def uniL : List Int → List Int → List Int
  | [], Q => Q
  | x :: P, [] => x :: P
  | x :: P, y :: Q => if x < y then x :: uniL P (y :: Q) else if y < x then y :: uniL (x :: P) Q else x :: uniL P Q
termination_by P Q => P.length + Q.length
theorem uni_nil (Q : List Int) : uniL [] Q = Q := by unfold uniL; rfl
theorem uni_nil2 (P : List Int) : uniL P [] = P := by cases P <;> (unfold uniL; rfl)
theorem uni_lt {x y : Int} (P Q : List Int) (h : x < y) : uniL (x :: P) (y :: Q) = x :: uniL P (y :: Q) := by rw [uniL.eq_def]; simp [h]
theorem uni_gt {x y : Int} (P Q : List Int) (h : y < x) : uniL (x :: P) (y :: Q) = y :: uniL (x :: P) Q := by
  rw [uniL.eq_def]
  have : ¬ x < y := by omega
  simp [h, this]
theorem uni_eq {x : Int} (P Q : List Int) : uniL (x :: P) (x :: Q) = x :: uniL P Q := by rw [uniL.eq_def]; simp
theorem uni_ind {C : List Int → List Int → Prop} (h1 : ∀ Q, C [] Q) (h2 : ∀ P, C P []) (h3 : ∀ x y P Q, x < y → C P (y :: Q) → C (x :: P) (y :: Q)) (h4 : ∀ x y P Q, y < x → C (x :: P) Q → C (x :: P) (y :: Q)) (h5 : ∀ x P Q, C P Q → C (x :: P) (x :: Q)) : ∀ n P Q, P.length + Q.length ≤ n → C P Q := by
  intro n
  induction n with
  | zero => intro P Q h; rw [List.length_eq_zero_iff.1 (by omega : P.length = 0)]; exact h1 Q
  | succ n ih =>
    intro P Q h
    cases P with
    | nil => exact h1 Q
    | cons x P =>
      cases Q with
      | nil => exact h2 _
      | cons y Q =>
        simp only [List.length_cons] at h
        rcases Int.lt_trichotomy x y with k | k | k
        · exact h3 x y P Q k (ih _ _ (by rw [List.length_cons]; omega))
        · subst k; exact h5 x P Q (ih _ _ (by omega))
        · exact h4 x y P Q k (ih _ _ (by rw [List.length_cons]; omega))
theorem uni_mem (P Q : List Int) (z : Int) : z ∈ uniL P Q ↔ z ∈ P ∨ z ∈ Q := by
  refine uni_ind (C := fun P Q => z ∈ uniL P Q ↔ z ∈ P ∨ z ∈ Q) ?_ ?_ ?_ ?_ ?_ _ P Q (Nat.le_refl _)
  · intro Q; rw [uni_nil]; simp
  · intro P; rw [uni_nil2]; simp
  · intro x y P Q h ih; rw [uni_lt P Q h, List.mem_cons, ih, List.mem_cons (l := P), or_assoc]
  · intro x y P Q h ih
    rw [uni_gt P Q h, List.mem_cons, ih, List.mem_cons (l := Q)]
    constructor
    · rintro (h | h | h)
      · exact Or.inr (Or.inl h)
      · exact Or.inl h
      · exact Or.inr (Or.inr h)
    · rintro (h | h | h)
      · exact Or.inr (Or.inl h)
      · exact Or.inl h
      · exact Or.inr (Or.inr h)
  · intro x P Q ih
    rw [uni_eq, List.mem_cons, ih, List.mem_cons, List.mem_cons]
    constructor
    · rintro (h | h | h)
      · exact Or.inl (Or.inl h)
      · exact Or.inl (Or.inr h)
      · exact Or.inr (Or.inr h)
    · rintro ((h | h) | (h | h))
      · exact Or.inl h
      · exact Or.inr (Or.inl h)
      · exact Or.inl h
      · exact Or.inr (Or.inr h)
theorem rise_cons {x : Int} {A : List Int} (h : ∀ y, y ∈ A → x < y) (hA : Rise A) : Rise (x :: A) := by unfold Rise; rw [List.pairwise_cons]; exact ⟨h, hA⟩
theorem uni_rise (P Q : List Int) (hP : Rise P) (hQ : Rise Q) : Rise (uniL P Q) := by
  refine uni_ind (C := fun P Q => Rise P → Rise Q → Rise (uniL P Q)) ?_ ?_ ?_ ?_ ?_ _ P Q (Nat.le_refl _) hP hQ
  · intro Q _ h; rw [uni_nil]; exact h
  · intro P h _; rw [uni_nil2]; exact h
  · intro x y P Q h ih hp hq
    rw [uni_lt P Q h]
    refine rise_cons (fun z hz => ?_) (ih (rise_tail hp) hq)
    rcases (uni_mem _ _ _).1 hz with k | k
    · exact rise_head hp z k
    · rcases List.mem_cons.1 k with e | e
      · omega
      · have := rise_head hq z e; omega
  · intro x y P Q h ih hp hq
    rw [uni_gt P Q h]
    refine rise_cons (fun z hz => ?_) (ih hp (rise_tail hq))
    rcases (uni_mem _ _ _).1 hz with k | k
    · rcases List.mem_cons.1 k with e | e
      · omega
      · have := rise_head hp z e; omega
    · exact rise_head hq z k
  · intro x P Q ih hp hq
    rw [uni_eq]
    refine rise_cons (fun z hz => ?_) (ih (rise_tail hp) (rise_tail hq))
    rcases (uni_mem _ _ _).1 hz with k | k
    · exact rise_head hp z k
    · exact rise_head hq z k
theorem uni2_len (P Q : List Int) (hP : Rise P) (hQ : Rise Q) : (uniL P Q).length + cnt P Q = P.length + Q.length := by
  refine uni_ind (C := fun P Q => Rise P → Rise Q → (uniL P Q).length + cnt P Q = P.length + Q.length) ?_ ?_ ?_ ?_ ?_ _ P Q (Nat.le_refl _) hP hQ
  · intro Q _ _; rw [uni_nil, cnt_nil]; simp
  · intro P _ _; rw [uni_nil2, cnt_nil2]; simp
  · intro x y P Q h ih hp hq
    have := ih (rise_tail hp) hq
    rw [uni_lt P Q h, cnt_lt hq h]
    simp only [List.length_cons] at this ⊢; omega
  · intro x y P Q h ih hp hq
    have := ih hp (rise_tail hq)
    rw [uni_gt P Q h, cnt_gt hp h]
    simp only [List.length_cons] at this ⊢; omega
  · intro x P Q ih hp hq
    have := ih (rise_tail hp) (rise_tail hq)
    rw [uni_eq, cnt_eq hp]
    simp only [List.length_cons]; omega
theorem uni_le (P Q : List Int) (hP : Rise P) (hQ : Rise Q) : (uniL P Q).length ≤ P.length + Q.length := by have := uni2_len P Q hP hQ; omega
/-- A set outside F, its first number struck. -/
theorem SIO.tail1 {F : Nat → Prop} {w : World} {b off m : Nat} {x : Int} {l : List Int} {c : Nat} (h : SIO F w (.slice (some ⟨b, off, none⟩) (x :: l).length c) (x :: l)) (hm : m = l.length + 1) :
    SIO F w (.slice (if c = 1 then some ⟨b, off, none⟩ else some ⟨b, off + 1, none⟩) (m - 1) (c - 1)) l := by
  have h1 := IsL.tail1 h.isL hm
  obtain ⟨a, c', e, hr⟩ := h1
  have e2 := Value.slice.inj e
  refine ⟨a, c', e, hr, ?_⟩
  obtain ⟨a0, c0, e0, -, ht⟩ := h
  have e3 := Value.slice.inj e0
  rcases ht with ht | ⟨b2, off2, cur, fr, ea, hf, hc⟩
  · exact absurd ht (by simp)
  · right
    rw [← e3.1] at ea
    have e4 : b = b2 ∧ off = off2 := by simpa using ea
    rw [← e2.1]
    split
    · exact ⟨b, off, cur, fr, rfl, e4.1 ▸ hf, e4.1 ▸ hc⟩
    · exact ⟨b, off + 1, cur, fr, rfl, e4.1 ▸ hf, e4.1 ▸ hc⟩
theorem SIO.tailA {F : Nat → Prop} {w : World} {b off m : Nat} {x : Int} {l : List Int} {c : Nat} (h : SIO F w (.slice (some ⟨b, off, none⟩) (x :: l).length c) (x :: l)) (hm : m = l.length + 1) (a' : Option Addr) (c' : Nat) (hc' : c' = c - 1) (ha : ¬ c = 1 → a' = some ⟨b, off + 1, none⟩) :
    SIO F w (.slice a' (m - 1) c') l := by
  subst hc'
  have h1 := SIO.tail1 h hm
  by_cases hc : c = 1
  · obtain ⟨a, c2, e, hr, -⟩ := h1
    have hlen : l.length = 0 := by
      obtain ⟨a3, c3, e3, hr3, -⟩ := h
      have h4 := hr3.1
      have e4 := (Value.slice.inj e3).2.2
      rw [List.length_cons] at h4
      omega
    have hl : l = [] := List.length_eq_zero_iff.1 hlen
    subst hl
    rw [show m - 1 = 0 by simp at hm; omega]
    exact ⟨a', c - 1, rfl, Rd.empty _ _ _ (by omega) _, Or.inl rfl⟩
  · rw [if_neg hc] at h1
    rw [ha hc]; exact h1
end Fo
section
variable {P : Program} {T E : TypeId}
theorem wpList_app_any (L : Elt P T E) {ops : Array Oper} {rest : List Oper} {o : Oper} {a : Act} {w : World} {Q : Exit → Act → World → Prop} (hgd : o.guard = none) (s x : Operand)
    (ho : o.op = .call { callee := .builtin .append, args := #[s, x], argTypes := #[T, T] })
    {B : Nat} {v : Value} {n : Nat} {X : Nat → Value} (h : Ow E B w v n X) (hB : B ≤ w.heap.size) {ad : Option Addr} {m c : Nat} {Y : Nat → Value} (hs : Rd w ad m c Y) (hone : ∀ j, j < m → (Y j).oneCell' = true) (N : Nat) (hN : n + m = N) (hnm : N ≤ 1000000000)
    (Z : Nat → Value) (eZ : ∀ j, j < N → catV X n Y j = Z j) (e1 : a.eval s = v) (e2 : a.eval x = .slice ad m c)
    (hk : ∀ a' c' w', Ow E B w' (.slice a' N c') N Z → w.grownBy w' v.ownBlock → ((Value.slice a' N c').ownBlock = v.ownBlock ∨ (Value.slice a' N c').ownBlock = some w.heap.size) → wpList P ops Q rest (a.put o.dst (.slice a' N c')) w') : wpList P ops Q (o :: rest) a w := by
  by_cases h0 : m = 0
  · subst h0
    subst hN
    have hmc := hs.1
    refine wpList_plain hgd fun _ hK => ?_
    obtain ⟨va, vc, rfl, -⟩ := id h.rd
    have hrun : (Builtin.append_ #[T, T] o.type #[.slice va n vc, .slice ad 0 c]).run P w = .ok (.slice va n vc) w := by
      rcases h.2 with ⟨e, rfl⟩ | ⟨g, cap, cur, e, hb, hg, hnc, hcm, hcs, ht⟩
      · obtain ⟨rfl, rfl⟩ : va = none ∧ vc = 0 := by simpa using e
        cases ad <;> simp [Builtin.append_, run_underlying L.hT, sizeOf, typeInfo, L.hi, Builtin.lenOf, Builtin.firstCells, loadCells, loadCellsFrom]
      · obtain ⟨rfl, rfl⟩ : va = some ⟨g, 0, none⟩ ∧ vc = cap := by simpa using e
        cases ad <;> simp [Builtin.append_, run_underlying L.hT, sizeOf, typeInfo, L.hi, Builtin.lenOf, Builtin.firstCells, loadCells, loadCellsFrom, hnc, storeCells, Addr.add_lit]
    have hres : Ow E B w (.slice va n vc) (n + 0) Z := h.congr fun j hj => by rw [← eZ j (by omega)]; unfold catV; rw [if_pos hj]
    unfold Oper.wp execOp
    simp only [ho, resolve, invoke, builtin, Sem.run_bind, Sem.run_pure, Result.andThen_ok, List.map_toArray, List.map_cons, List.map_nil, e1, e2, hrun]
    exact hK _ _ (hk va vc w hres (World.grownBy.refl _ _) (Or.inl rfl))
  · exact wpList_app_at L hgd s x ho h hB hs (by omega) hone N hN hnm Z eZ e1 e2 hk
end
namespace Fo
theorem catV_list (A B : List Int) (j : Nat) : catV (ivs (gt A)) A.length (ivs (gt B)) j = ivs (gt (A ++ B)) j := by
  unfold catV ivs gt
  rw [List.getD_eq_getElem?_getD, List.getD_eq_getElem?_getD, List.getD_eq_getElem?_getD]
  by_cases h : j < A.length
  · rw [if_pos h, List.getElem?_append_left h]
  · rw [if_neg h, List.getElem?_append_right (by omega)]
theorem catV_one {A : List Int} {n : Nat} (hn : n = A.length) (u : Int) {j : Nat} (hj : j < n + 1) : catV (ivs (gt A)) n (fun _ => .int .i64 u) j = ivs (gt (A ++ [u])) j := by
  rw [← catV_list, hn]
  unfold catV
  by_cases h : j < A.length
  · rw [if_pos h, if_pos h]
  · rw [if_neg h, if_neg h, show j - A.length = 0 by omega]; rfl
def UniR (B : Nat) (row : Nat → Prop) (l : List Int) (w : World) (e : Ending) (w' : World) : Prop := (∃ u, e = .returned u ∧ Ow 3 B w' u l.length (ivs (gt l)) ∧ ∀ g, u.ownBlock = some g → row g ∨ w.heap.size ≤ g) ∧ Kp row w w'
end Fo
set_option maxHeartbeats 16000000 in
theorem appendUnion_any (w : World) (B : Nat) (v va vb : Value) (P Q : List Int) (X : Nat → Value) (hv : Ow 3 B w v 0 X) (hB : B ≤ w.heap.size) (hP : SIO (fun b => v.ownBlock = some b) w va P) (hQ : SIO (fun b => v.ownBlock = some b) w vb Q) (rP : Rise P) (rQ : Rise Q) (hl : P.length + Q.length ≤ 100000000) :
    Calls Try.prog 61 #[v, va, vb] w fun e w' => UniR B (fun b => v.ownBlock = some b) (uniL P Q) w e w' := by
  obtain ⟨la, lc, rfl, -⟩ := id hv.rd
  obtain ⟨row, hrow⟩ : ∃ row : Nat → Prop, row = fun b => (Value.slice la 0 lc).ownBlock = some b := ⟨_, rfl⟩
  have HRw : Hid (row = fun b => (Value.slice la 0 lc).ownBlock = some b) := hrow
  rw [← hrow] at hP hQ ⊢
  have HV : Hid (Ow 3 B w (.slice la 0 lc) ([] : List Int).length (ivs (gt []))) := hv.congr fun j hj => absurd hj (Nat.not_lt_zero j)
  have HP : Hid (SIO row w va P) := hP
  have HQ : Hid (SIO row w vb Q) := hQ
  have HRP : Hid (Rise P) := rP
  have HRQ : Hid (Rise Q) := rQ
  have HUL : Hid ((uniL P Q).length ≤ 100000000) := by have := uni_le P Q rP rQ; show _ ≤ _; omega
  obtain ⟨pa, pc, rfl, -⟩ := hP
  obtain ⟨qa, qc, rfl, -⟩ := hQ
  clear hv rP rQ hrow
  go_enter Try.func61, Try.ntmps61
  go_wp2
  go_loopw [0, 1, 2] (fun v0 v1 v2 wr => ∃ (A P' Q' : List Int) (a0 : Option Addr) (c0 : Nat), v0 = .slice a0 A.length c0 ∧ Hid (Ow 3 B wr (.slice a0 A.length c0) A.length (ivs (gt A))) ∧ Hid (∀ g, (Value.slice a0 A.length c0).ownBlock = some g → row g ∨ w.heap.size ≤ g) ∧ Hid (SIO row w v1 P') ∧ Hid (SIO row w v2 Q') ∧ Hid (Rise P') ∧ Hid (Rise Q') ∧ Hid (A ++ uniL P' Q' = uniL P Q) ∧ Hid (Kp row w wr)) (fun _ v1 v2 _ => slLen v1 + slLen v2)
  case atStart => exact ⟨[], P, Q, la, lc, rfl, HV, fun g hg => Or.inl (by rw [HRw.out]; exact hg), HP, HQ, HRP, HRQ, rfl, Kp.refl _ _⟩
  case round =>
    obtain ⟨A, P', Q', a0, c0, rfl, HO, HG, HP', HQ', HRP', HRQ', HE, HK⟩ := hrel
    rename World => wr
    obtain ⟨pa', pc', rfl, hpd⟩ := id HP'.out
    obtain ⟨qa', qc', rfl, hqd⟩ := id HQ'.out
    have hp1 := hpd.1.1
    have hp2 := hpd.1.2.1
    have hq1 := hqd.1.1
    have hq2 := hqd.1.2.1
    have HPr : Hid (SIO row wr (.slice pa' P'.length pc') P') := HP'.out.step HK.out fun _ _ h => h
    have HQr : Hid (SIO row wr (.slice qa' Q'.length qc') Q') := HQ'.out.step HK.out fun _ _ h => h
    obtain ⟨n, hn⟩ : ∃ n, n = A.length := ⟨_, rfl⟩
    have HAl : Hid (n = A.length) := hn
    rw [← hn] at HO HG ⊢
    have hnl : n ≤ 100000000 := by
      have h1 := congrArg List.length HE.out
      have h2 := HUL.out
      rw [List.length_append] at h1; omega
    clear hn hpd hqd
    by_cases hx : P' = [] ∨ Q' = []
    · have HE' : Hid (A ++ P' ++ Q' = uniL P Q) := by
        rcases hx with h | h
        · have := HE.out; rw [h, uni_nil] at this; rw [h]; show _ = _; simpa using this
        · have := HE.out; rw [h, uni_nil2] at this; rw [h]; show _ = _; simpa using this
      obtain ⟨m1, hm1⟩ : ∃ m1, m1 = P'.length := ⟨_, rfl⟩
      obtain ⟨k1, hk1⟩ : ∃ k1, k1 = Q'.length := ⟨_, rfl⟩
      have hmk : m1 = 0 ∨ k1 = 0 := by
        rcases hx with h | h
        · left; rw [hm1, h]; rfl
        · right; rw [hk1, h]; rfl
      have htot : n + m1 + k1 ≤ 100000000 := by
        have h1 := congrArg List.length HE'.out
        have h2 := HUL.out
        rw [List.length_append, List.length_append, ← HAl.out, ← hm1, ← hk1] at h1
        omega
      rw [← hm1] at HPr hp1 ⊢
      rw [← hk1] at HQr hq1 ⊢
      have HM1 : Hid (m1 = P'.length) := hm1
      have HK1 : Hid (k1 = Q'.length) := hk1
      have hPd : ∃ X, X = ivs (gt P') := ⟨_, rfl⟩
      have HPd : Hid (Rd wr pa' m1 pc' (ivs (gt P'))) := by obtain ⟨a, c, e, hr⟩ := HPr.out; have e2 := Value.slice.inj e; rw [e2.1, e2.2.2, HM1.out]; exact hr.1
      have HBr : Hid (B ≤ wr.heap.size) := Nat.le_trans hB HK.out.size
      clear hm1 hk1 hx HE hPd HPr HQr HP'
      rcases (by omega : m1 = 0 ∨ (0 < m1 ∧ k1 = 0)) with hz | ⟨hpos, hz⟩
      · obtain rfl := hz
        go_wp2_with (first
          | (at_builtin; refine wpList_app_any eInt rfl _ _ rfl HO7.out HW7.out (by exact HQ7.out) (ivs_one _ _) (n + k1) rfl (by omega) (ivs (gt (A ++ P' ++ Q'))) (fun j hj => by rw [← HL7.out]; exact catV_list (A ++ P') Q' j) rfl rfl ?_; intro a8 c8 w8 hO8 hG8 hA8)
          | (at_builtin; refine wpList_app_any eInt rfl _ _ rfl HO.out HBr.out HPd.out (ivs_one _ _) (n) rfl (by omega) (ivs (gt (A ++ P'))) (fun j hj => by rw [HAl.out]; exact catV_list A P' j) rfl rfl ?_; intro a7 c7 w7 hO7 hG7 hA7
             have HL7 : Hid ((A ++ P').length = n) := by show _ = _; have h1 := HAl.out; have h2 := HM1.out; rw [List.length_append]; omega
             have HO7 : Hid (Ow 3 B w7 (.slice a7 (n) c7) (n) (ivs (gt (A ++ P')))) := hO7
             have HW7 : Hid (B ≤ w7.heap.size) := Nat.le_trans HBr.out hG7.size
             have HG7 : Hid (∀ g, (Value.slice a7 (n) c7).ownBlock = some g → row g ∨ w.heap.size ≤ g) := fun g hg => by
               rcases hA7 with q | q
               · exact HG.out g (q ▸ hg)
               · rw [q] at hg; injection hg with hg; have := HK.out.size; exact Or.inr (by omega)
             have HK7 : Hid (Kp row w w7) := HK.out.trans (Kp.of_grown (F := fun b => (Value.slice a0 n c0).ownBlock = some b) hG7 fun k h => h) fun b hb h => (HG.out b h).elim id fun q => by omega
             have HQ7 : Hid (Rd w7 qa' k1 qc' (ivs (gt Q'))) := by
               obtain ⟨a, c, e, hr⟩ := HQ'.out.step HK7.out fun _ _ h => h
               have e2 := Value.slice.inj e
               have h := hr.1
               rw [← HK1.out, ← e2.1, ← e2.2.2] at h
               exact h
             clear hO7 hG7 hA7))
        have HFin : Hid (UniR B row (uniL P Q) w (.returned (.slice a8 (n + k1) c8)) w8) := by
          have el : (uniL P Q).length = n + k1 := by have h1 := HK1.out; rw [← HE'.out, List.length_append, HL7.out]; omega
          refine ⟨⟨_, rfl, ?_, fun g hg => ?_⟩, HK7.out.trans (Kp.of_grown (F := fun b => (Value.slice a7 (n) c7).ownBlock = some b) hG8 fun k h => h) fun b hb h => (HG7.out b h).elim id fun q => by omega⟩
          · rw [el, ← HE'.out]; exact hO8
          · rcases hA8 with q | q
            · exact HG7.out g (q ▸ hg)
            · rw [q] at hg; injection hg with hg; have := HK7.out.size; exact Or.inr (by omega)
        clear hO8 hG8 hA8
        go_wp2
        go_ret
        exact HFin.out
      · obtain rfl := hz
        have q1 : (0 : Int) < (m1 : Int) := by omega
        go_wp2_with (first
          | (at_builtin; refine wpList_app_any eInt rfl _ _ rfl HO7.out HW7.out (by exact HQ7.out) (ivs_one _ _) (n + m1) rfl (by omega) (ivs (gt (A ++ P' ++ Q'))) (fun j hj => by rw [← HL7.out]; exact catV_list (A ++ P') Q' j) rfl rfl ?_; intro a8 c8 w8 hO8 hG8 hA8)
          | (at_builtin; refine wpList_app_any eInt rfl _ _ rfl HO.out HBr.out HPd.out (ivs_one _ _) (n + m1) rfl (by omega) (ivs (gt (A ++ P'))) (fun j hj => by rw [HAl.out]; exact catV_list A P' j) rfl rfl ?_; intro a7 c7 w7 hO7 hG7 hA7
             have HL7 : Hid ((A ++ P').length = n + m1) := by show _ = _; have h1 := HAl.out; have h2 := HM1.out; rw [List.length_append]; omega
             have HO7 : Hid (Ow 3 B w7 (.slice a7 (n + m1) c7) (n + m1) (ivs (gt (A ++ P')))) := hO7
             have HW7 : Hid (B ≤ w7.heap.size) := Nat.le_trans HBr.out hG7.size
             have HG7 : Hid (∀ g, (Value.slice a7 (n + m1) c7).ownBlock = some g → row g ∨ w.heap.size ≤ g) := fun g hg => by
               rcases hA7 with q | q
               · exact HG.out g (q ▸ hg)
               · rw [q] at hg; injection hg with hg; have := HK.out.size; exact Or.inr (by omega)
             have HK7 : Hid (Kp row w w7) := HK.out.trans (Kp.of_grown (F := fun b => (Value.slice a0 n c0).ownBlock = some b) hG7 fun k h => h) fun b hb h => (HG.out b h).elim id fun q => by omega
             have HQ7 : Hid (Rd w7 qa' 0 qc' (ivs (gt Q'))) := by
               obtain ⟨a, c, e, hr⟩ := HQ'.out.step HK7.out fun _ _ h => h
               have e2 := Value.slice.inj e
               have h := hr.1
               rw [← HK1.out, ← e2.1, ← e2.2.2] at h
               exact h
             clear hO7 hG7 hA7))
        have HFin : Hid (UniR B row (uniL P Q) w (.returned (.slice a8 (n + m1) c8)) w8) := by
          have el : (uniL P Q).length = n + m1 := by have h1 := HK1.out; rw [← HE'.out, List.length_append, HL7.out]; omega
          refine ⟨⟨_, rfl, ?_, fun g hg => ?_⟩, HK7.out.trans (Kp.of_grown (F := fun b => (Value.slice a7 (n + m1) c7).ownBlock = some b) hG8 fun k h => h) fun b hb h => (HG7.out b h).elim id fun q => by omega⟩
          · rw [el, ← HE'.out]; exact hO8
          · rcases hA8 with q | q
            · exact HG7.out g (q ▸ hg)
            · rw [q] at hg; injection hg with hg; have := HK7.out.size; exact Or.inr (by omega)
        clear hO8 hG8 hA8
        go_wp2
        go_ret
        exact HFin.out
    · obtain ⟨x, P'', rfl⟩ : ∃ x P'', P' = x :: P'' := by
        cases P' with
        | nil => exact absurd (Or.inl rfl) hx
        | cons x P'' => exact ⟨x, P'', rfl⟩
      obtain ⟨y, Q'', rfl⟩ : ∃ y Q'', Q' = y :: Q'' := by
        cases Q' with
        | nil => exact absurd (Or.inr rfl) hx
        | cons y Q'' => exact ⟨y, Q'', rfl⟩
      obtain ⟨pa2, pc2, e2, hpr2⟩ := HPr.out
      obtain ⟨rfl, rfl⟩ : pa' = pa2 ∧ pc' = pc2 := by simpa using e2
      obtain ⟨qa2, qc2, e3, hqr2⟩ := HQr.out
      obtain ⟨rfl, rfl⟩ : qa' = qa2 ∧ qc' = qc2 := by simpa using e3
      obtain ⟨ga, oa, rfl, hca⟩ := hpr2.1.at (by simp)
      obtain ⟨gb, ob, rfl, hcb⟩ := hqr2.1.at (by simp)
      have hxc := hca 0 (by simp)
      have hyc := hcb 0 (by simp)
      simp only [ivs, gt, List.getD_cons_zero, Nat.add_zero] at hxc hyc
      obtain ⟨m, hm⟩ : ∃ m, m = (x :: P'').length := ⟨_, rfl⟩
      obtain ⟨k, hk⟩ : ∃ k, k = (y :: Q'').length := ⟨_, rfl⟩
      have hm1 : m = P''.length + 1 := hm
      have hk1 : k = Q''.length + 1 := hk
      have HTP : Hid (∀ a' c', c' = pc' - 1 → (¬ pc' = 1 → a' = some ⟨ga, oa + 1, none⟩) → SIO row w (.slice a' (m - 1) c') P'') := SIO.tailA HP'.out hm1
      have HTQ : Hid (∀ a' c', c' = qc' - 1 → (¬ qc' = 1 → a' = some ⟨gb, ob + 1, none⟩) → SIO row w (.slice a' (k - 1) c') Q'') := SIO.tailA HQ'.out hk1
      have HP2 : Hid (SIO row w (.slice (some ⟨ga, oa, none⟩) m pc') (x :: P'')) := by rw [hm]; exact HP'
      have HQ2 : Hid (SIO row w (.slice (some ⟨gb, ob, none⟩) k qc') (y :: Q'')) := by rw [hk]; exact HQ'
      have HX1 : Hid (x < y → (A ++ [x]) ++ uniL P'' (y :: Q'') = uniL P Q) := fun h => by have := HE.out; rw [uni_lt _ _ h] at this; simpa using this
      have HX2 : Hid (y < x → (A ++ [y]) ++ uniL (x :: P'') Q'' = uniL P Q) := fun h => by have := HE.out; rw [uni_gt _ _ h] at this; simpa using this
      have HX3 : Hid (x = y → (A ++ [x]) ++ uniL P'' Q'' = uniL P Q) := fun h => by subst h; have := HE.out; rw [uni_eq] at this; simpa using this
      have hBr : B ≤ wr.heap.size := Nat.le_trans hB HK.out.size
      rw [← hm] at hp1 ⊢
      rw [← hk] at hq1 ⊢
      have h0 : (0 : Int) < (m : Int) := by omega
      have h1 : (0 : Int) < (k : Int) := by omega
      have HM : Hid (m = P''.length + 1) := hm1
      have HKk : Hid (k = Q''.length + 1) := hk1
      clear hm hk hm1 hk1 hca hcb e2 e3 hpr2 hqr2 hx HE HPr HQr HP' HQ'
      rcases Int.lt_trichotomy x y with hxy | hxy | hxy
      · have e1 : x ≤ y := by omega
        have e2 : ¬ y ≤ x := by omega
        have HE0 : Hid ((A ++ [min x y]) ++ uniL P'' (y :: Q'') = uniL P Q) := by show _ = _; rw [Int.min_eq_left e1]; exact HX1.out hxy
        clear HX1 HX2 HX3 hxy
        go_wp2
        go_quiet (fail)
        go_wp2_with (at_builtin; refine wpList_app_at eInt rfl _ _ rfl (HO.out.below ((below_drewN (below_refl wr) nq).alloc (Nat.le_refl _) (.cells #[.int .i64 (min x y)] 3))) (by simp; omega) (one_cell (wr.drewN nq) 3 (.int .i64 (min x y))) (by decide) (fun _ _ => rfl) (n + 1) rfl (by omega) (ivs (gt (A ++ [min x y]))) (fun j hj => catV_one HAl.out _ hj) rfl rfl ?_; intro a7 c7 w7 hO7 hG7 hA7)
        have HL7 : Hid ((A ++ [min x y]).length = n + 1) := by show _ = _; have h1 := HAl.out; rw [List.length_append, List.length_singleton]; omega
        have HO7 : Hid (Ow 3 B w7 (.slice a7 (n + 1) c7) (n + 1) (ivs (gt (A ++ [min x y])))) := hO7
        have hsz7 : wr.heap.size + 1 ≤ w7.heap.size := by have := hG7.size; simpa using this
        have HG7 : Hid (∀ g, (Value.slice a7 (n + 1) c7).ownBlock = some g → row g ∨ w.heap.size ≤ g) := fun g hg => by
          rcases hA7 with q | q
          · exact HG.out g (q ▸ hg)
          · rw [q] at hg; injection hg with hg
            have h1 := HK.out.size
            have h2 : ((wr.drewN nq).alloc (.cells #[.int .i64 (min x y)] 3)).heap.size = wr.heap.size + 1 := by simp
            exact Or.inr (by omega)
        have HK7 : Hid (Kp row w w7) := by
          have k1 : Kp row w ((wr.drewN nq).alloc (.cells #[.int .i64 (min x y)] 3)) := (HK.out.trans (Kp.of_below (F := row) (below_drewN (below_refl wr) nq)) fun _ _ h => h).alloc _
          exact k1.trans (Kp.of_grown (F := fun b => (Value.slice a0 n c0).ownBlock = some b) hG7 fun k h => h) fun b hb h => (HG.out b h).elim id fun q => by omega
        clear hO7 hG7 hA7 hsz7
        all_goals (try go_roundw)
        all_goals first
          | exact ⟨A ++ [min x y], P'', (y :: Q''), a7, c7, by rw [HL7.out], by rw [HL7.out]; exact HO7, by rw [HL7.out]; exact HG7, HTP.out _ _ (by omega) (fun h => by first | (simp [h]; done) | exact absurd (by assumption) h | exact absurd rfl h), HQ2, rise_tail HRP'.out, HRQ', HE0, HK7⟩
          | exact ⟨⟨A ++ [min x y], P'', (y :: Q''), a7, c7, by rw [HL7.out], by rw [HL7.out]; exact HO7, by rw [HL7.out]; exact HG7, HTP.out _ _ (by omega) (fun h => by first | (simp [h]; done) | exact absurd (by assumption) h | exact absurd rfl h), HQ2, rise_tail HRP'.out, HRQ', HE0, HK7⟩, by first | (simp [slLen]; done) | (simp [slLen]; omega)⟩
          | (simp [slLen]; done)
          | (simp [slLen]; omega)
      · have e1 : x ≤ y := by omega
        have e2 : y ≤ x := by omega
        have HE0 : Hid ((A ++ [min x y]) ++ uniL P'' Q'' = uniL P Q) := by show _ = _; rw [Int.min_eq_left e1]; exact HX3.out hxy
        clear HX1 HX2 HX3 hxy
        go_wp2
        go_quiet (fail)
        go_wp2_with (at_builtin; refine wpList_app_at eInt rfl _ _ rfl (HO.out.below ((below_drewN (below_refl wr) nq).alloc (Nat.le_refl _) (.cells #[.int .i64 (min x y)] 3))) (by simp; omega) (one_cell (wr.drewN nq) 3 (.int .i64 (min x y))) (by decide) (fun _ _ => rfl) (n + 1) rfl (by omega) (ivs (gt (A ++ [min x y]))) (fun j hj => catV_one HAl.out _ hj) rfl rfl ?_; intro a7 c7 w7 hO7 hG7 hA7)
        have HL7 : Hid ((A ++ [min x y]).length = n + 1) := by show _ = _; have h1 := HAl.out; rw [List.length_append, List.length_singleton]; omega
        have HO7 : Hid (Ow 3 B w7 (.slice a7 (n + 1) c7) (n + 1) (ivs (gt (A ++ [min x y])))) := hO7
        have hsz7 : wr.heap.size + 1 ≤ w7.heap.size := by have := hG7.size; simpa using this
        have HG7 : Hid (∀ g, (Value.slice a7 (n + 1) c7).ownBlock = some g → row g ∨ w.heap.size ≤ g) := fun g hg => by
          rcases hA7 with q | q
          · exact HG.out g (q ▸ hg)
          · rw [q] at hg; injection hg with hg
            have h1 := HK.out.size
            have h2 : ((wr.drewN nq).alloc (.cells #[.int .i64 (min x y)] 3)).heap.size = wr.heap.size + 1 := by simp
            exact Or.inr (by omega)
        have HK7 : Hid (Kp row w w7) := by
          have k1 : Kp row w ((wr.drewN nq).alloc (.cells #[.int .i64 (min x y)] 3)) := (HK.out.trans (Kp.of_below (F := row) (below_drewN (below_refl wr) nq)) fun _ _ h => h).alloc _
          exact k1.trans (Kp.of_grown (F := fun b => (Value.slice a0 n c0).ownBlock = some b) hG7 fun k h => h) fun b hb h => (HG.out b h).elim id fun q => by omega
        clear hO7 hG7 hA7 hsz7
        all_goals (try go_roundw)
        all_goals first
          | exact ⟨A ++ [min x y], P'', Q'', a7, c7, by rw [HL7.out], by rw [HL7.out]; exact HO7, by rw [HL7.out]; exact HG7, HTP.out _ _ (by omega) (fun h => by first | (simp [h]; done) | exact absurd (by assumption) h | exact absurd rfl h), HTQ.out _ _ (by omega) (fun h => by first | (simp [h]; done) | exact absurd (by assumption) h | exact absurd rfl h), rise_tail HRP'.out, rise_tail HRQ'.out, HE0, HK7⟩
          | exact ⟨⟨A ++ [min x y], P'', Q'', a7, c7, by rw [HL7.out], by rw [HL7.out]; exact HO7, by rw [HL7.out]; exact HG7, HTP.out _ _ (by omega) (fun h => by first | (simp [h]; done) | exact absurd (by assumption) h | exact absurd rfl h), HTQ.out _ _ (by omega) (fun h => by first | (simp [h]; done) | exact absurd (by assumption) h | exact absurd rfl h), rise_tail HRP'.out, rise_tail HRQ'.out, HE0, HK7⟩, by first | (simp [slLen]; done) | (simp [slLen]; omega)⟩
          | (simp [slLen]; done)
          | (simp [slLen]; omega)
      · have e1 : ¬ x ≤ y := by omega
        have e2 : y ≤ x := by omega
        have HE0 : Hid ((A ++ [min x y]) ++ uniL (x :: P'') Q'' = uniL P Q) := by show _ = _; rw [Int.min_eq_right e2]; exact HX2.out hxy
        clear HX1 HX2 HX3 hxy
        go_wp2
        go_quiet (fail)
        go_wp2_with (at_builtin; refine wpList_app_at eInt rfl _ _ rfl (HO.out.below ((below_drewN (below_refl wr) nq).alloc (Nat.le_refl _) (.cells #[.int .i64 (min x y)] 3))) (by simp; omega) (one_cell (wr.drewN nq) 3 (.int .i64 (min x y))) (by decide) (fun _ _ => rfl) (n + 1) rfl (by omega) (ivs (gt (A ++ [min x y]))) (fun j hj => catV_one HAl.out _ hj) rfl rfl ?_; intro a7 c7 w7 hO7 hG7 hA7)
        have HL7 : Hid ((A ++ [min x y]).length = n + 1) := by show _ = _; have h1 := HAl.out; rw [List.length_append, List.length_singleton]; omega
        have HO7 : Hid (Ow 3 B w7 (.slice a7 (n + 1) c7) (n + 1) (ivs (gt (A ++ [min x y])))) := hO7
        have hsz7 : wr.heap.size + 1 ≤ w7.heap.size := by have := hG7.size; simpa using this
        have HG7 : Hid (∀ g, (Value.slice a7 (n + 1) c7).ownBlock = some g → row g ∨ w.heap.size ≤ g) := fun g hg => by
          rcases hA7 with q | q
          · exact HG.out g (q ▸ hg)
          · rw [q] at hg; injection hg with hg
            have h1 := HK.out.size
            have h2 : ((wr.drewN nq).alloc (.cells #[.int .i64 (min x y)] 3)).heap.size = wr.heap.size + 1 := by simp
            exact Or.inr (by omega)
        have HK7 : Hid (Kp row w w7) := by
          have k1 : Kp row w ((wr.drewN nq).alloc (.cells #[.int .i64 (min x y)] 3)) := (HK.out.trans (Kp.of_below (F := row) (below_drewN (below_refl wr) nq)) fun _ _ h => h).alloc _
          exact k1.trans (Kp.of_grown (F := fun b => (Value.slice a0 n c0).ownBlock = some b) hG7 fun k h => h) fun b hb h => (HG.out b h).elim id fun q => by omega
        clear hO7 hG7 hA7 hsz7
        all_goals (try go_roundw)
        all_goals first
          | exact ⟨A ++ [min x y], (x :: P''), Q'', a7, c7, by rw [HL7.out], by rw [HL7.out]; exact HO7, by rw [HL7.out]; exact HG7, HP2, HTQ.out _ _ (by omega) (fun h => by first | (simp [h]; done) | exact absurd (by assumption) h | exact absurd rfl h), HRP', rise_tail HRQ'.out, HE0, HK7⟩
          | exact ⟨⟨A ++ [min x y], (x :: P''), Q'', a7, c7, by rw [HL7.out], by rw [HL7.out]; exact HO7, by rw [HL7.out]; exact HG7, HP2, HTQ.out _ _ (by omega) (fun h => by first | (simp [h]; done) | exact absurd (by assumption) h | exact absurd rfl h), HRP', rise_tail HRQ'.out, HE0, HK7⟩, by first | (simp [slLen]; done) | (simp [slLen]; omega)⟩
          | (simp [slLen]; done)
          | (simp [slLen]; omega)
end Go.Proofs.Yteaajhpgmndomaa
