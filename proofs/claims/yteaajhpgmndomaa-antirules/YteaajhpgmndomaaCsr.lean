/- How many numbers two sets have in common: countShared, isPart, of sets in memory. They read and draw alone. -/
import Derived.Test.YteaajhpgmndomaaSet
import Derived.Test.YteaajhpgmndomaaGre
import Derived.KernelRfl
namespace Go.Proofs.Yteaajhpgmndomaa
open Go.RowKit Fo
set_option maxRecDepth 100000

namespace Fo
/-- How many numbers two sets have in common. -/
def cnt (A B : List Int) : Nat := (A.filter fun x => decide (x ∈ B)).length
theorem cnt_nil (B : List Int) : cnt [] B = 0 := rfl
theorem cnt_nil2 (A : List Int) : cnt A [] = 0 := by unfold cnt; simp
theorem cnt_le (A B : List Int) : cnt A B ≤ A.length := List.length_filter_le ..
theorem rise_head {x : Int} {A : List Int} (h : Rise (x :: A)) : ∀ y, y ∈ A → x < y := by unfold Rise at h; rw [List.pairwise_cons] at h; exact h.1
theorem rise_tail {x : Int} {A : List Int} (h : Rise (x :: A)) : Rise A := by unfold Rise at h; rw [List.pairwise_cons] at h; exact h.2
theorem cnt_eq {x : Int} {A B : List Int} (ha : Rise (x :: A)) : cnt (x :: A) (x :: B) = cnt A B + 1 := by
  unfold cnt
  rw [List.filter_cons_of_pos (by simp), List.length_cons]
  congr 2
  refine List.filter_congr fun y hy => ?_
  have := rise_head ha y hy
  have hne : ¬ y = x := by omega
  simp [hne]
theorem cnt_lt {x y : Int} {A B : List Int} (hb : Rise (y :: B)) (h : x < y) : cnt (x :: A) (y :: B) = cnt A (y :: B) := by
  unfold cnt
  rw [List.filter_cons_of_neg]
  have h1 : ¬ x = y := by omega
  have h2 : ¬ x ∈ B := fun k => by have := rise_head hb x k; omega
  simp [h1, h2]
theorem cnt_gt {x y : Int} {A B : List Int} (ha : Rise (x :: A)) (h : y < x) : cnt (x :: A) (y :: B) = cnt (x :: A) B := by
  unfold cnt
  congr 1
  refine List.filter_congr fun z hz => ?_
  have hne : ¬ z = y := by
    rcases List.mem_cons.1 hz with e | e
    · omega
    · have := rise_head ha z e; omega
  simp [hne]
theorem cnt_full {A B : List Int} : cnt A B = A.length ↔ sub A B := by
  unfold cnt
  rw [List.length_filter_eq_length_iff]
  simp [sub]
/-- The length of a slice. -/
def slLen : Value → Nat | .slice _ n _ => n | _ => 0
theorem slLen_mk (a : Option Addr) (n c : Nat) : slLen (.slice a n c) = n := rfl
/-- A list without its first number. -/
theorem IsL.tail {w : World} {b off : Nat} {x : Int} {l : List Int} {c : Nat} (h : IsL w (.slice (some ⟨b, off, none⟩) (x :: l).length c) (x :: l)) :
    IsL w (.slice (some ⟨b, off + 1, none⟩) l.length (c - 1)) l := by
  obtain ⟨a, c', e, hr⟩ := h
  obtain ⟨rfl, rfl⟩ : some ⟨b, off, none⟩ = a ∧ c = c' := by simpa using e
  have hc := hr.1
  rw [List.length_cons] at hc
  exact ⟨_, _, rfl, hr.tail 1 _ _ (by rw [List.length_cons]; omega) (by omega) (fun j => by show ivs _ j = ivs _ (1 + j); unfold ivs gt; rw [show 1 + j = j + 1 by omega]; rfl)⟩
theorem IsL.mt (w : World) (a : Option Addr) (c : Nat) (hc : c ≤ 9223372036854775807) : IsL w (.slice a 0 c) [] := ⟨a, c, rfl, Rd.empty _ _ _ hc _⟩
theorem IsL.tail1 {w : World} {b off m : Nat} {x : Int} {l : List Int} {c : Nat} (h : IsL w (.slice (some ⟨b, off, none⟩) (x :: l).length c) (x :: l)) (hm : m = l.length + 1) :
    IsL w (.slice (if c = 1 then some ⟨b, off, none⟩ else some ⟨b, off + 1, none⟩) (m - 1) (c - 1)) l := by
  have h1 := h.tail
  by_cases hc : c = 1
  · rw [if_pos hc]
    have h2 : l = [] := by
      obtain ⟨_, _, e, hr⟩ := h
      have := hr.1
      have e2 := (Value.slice.inj e).2.2
      rw [List.length_cons] at this
      exact List.length_eq_zero_iff.1 (by omega)
    subst h2
    obtain ⟨_, c', e, hr⟩ := h1
    have := hr.2.1
    have e2 := (Value.slice.inj e).2.2
    rw [show m - 1 = 0 by simp at hm; omega]
    exact IsL.mt w _ _ (by omega)
  · rw [if_neg hc, show m - 1 = l.length by omega]; exact h1
/-- A world that has drawn more. -/
def Drw (w w' : World) : Prop := ∃ q, w' = w.drewN q
theorem Drw.refl (w : World) : Drw w w := ⟨0, rfl⟩
theorem Drw.below {w w' : World} (h : Drw w w') : Below w.heap.size w w' := by obtain ⟨q, rfl⟩ := h; exact below_drewN (below_refl w) q
end Fo
set_option maxHeartbeats 4000000 in
theorem cnt_any (w : World) (va vb : Value) (A B : List Int) (hA : IsL w va A) (hB : IsL w vb B) (rA : Rise A) (rB : Rise B) :
    Calls Try.prog 56 #[va, vb] w fun e w' => e = .returned (.int .i64 (cnt A B)) ∧ Drw w w' := by
  have HA : Hid (IsL w va A) := hA
  have HB : Hid (IsL w vb B) := hB
  have HRA : Hid (Rise A) := rA
  have HRB : Hid (Rise B) := rB
  have hAl : A.length ≤ 9223372036854775807 := by obtain ⟨_, _, _, h⟩ := hA; have := h.1; have := h.2.1; omega
  clear hA hB rA rB
  go_enter Try.func56, Try.ntmps56
  go_wp2
  go_loopw [0, 1, 5] (fun v0 v1 v5 wr => ∃ (P Q : List Int) (n : Nat), v5 = .int .i64 n ∧ Hid (IsL w v0 P) ∧ Hid (IsL w v1 Q) ∧ Hid (Rise P) ∧ Hid (Rise Q) ∧ Hid (n + cnt P Q = cnt A B) ∧ Hid (n + P.length ≤ A.length) ∧ Hid (Drw w wr)) (fun v0 v1 _ _ => slLen v0 + slLen v1)
  case atStart => exact ⟨A, B, 0, rfl, HA, HB, HRA, HRB, by show 0 + _ = _; omega, by show 0 + _ ≤ _; omega, Drw.refl w⟩
  case round =>
    obtain ⟨P, Q, n, rfl, HP, HQ, HRP, HRQ, HN, HL, HW⟩ := hrel
    obtain ⟨qw, rfl⟩ := HW
    have hn : n < 9223372036854775807 ∨ P = [] := by
      cases P with
      | nil => exact Or.inr rfl
      | cons x P => left; have := HL.out; rw [List.length_cons] at this; omega
    obtain ⟨a, c, rfl, hra⟩ := id HP.out
    obtain ⟨b, d, rfl, hrb⟩ := id HQ.out
    have hc1 := hra.1
    have hc2 := hra.2.1
    have hd1 := hrb.1
    have hd2 := hrb.2.1
    cases P with
    | nil =>
      have HE : Hid (n = cnt A B) := by have := HN.out; rwa [cnt_nil, Nat.add_zero] at this
      clear HP HQ HRP HRQ HN HL hra hrb hn
      go_wp2
      go_ret
      exact ⟨ret_int (by rw [HE.out]), _, rfl⟩
    | cons x P =>
      cases Q with
      | nil =>
        have HE : Hid (n = cnt A B) := by have := HN.out; rwa [cnt_nil2, Nat.add_zero] at this
        have h0 : (0 : Int) < ((P.length : Int) + 1) := by omega
        clear HP HQ HRP HRQ HN HL hra hrb hn
        go_wp2
        go_ret
        exact ⟨ret_int (by rw [HE.out]), _, rfl⟩
      | cons y Q =>
        obtain ⟨ga, oa, rfl, hca⟩ := hra.at (by simp)
        obtain ⟨gb, ob, rfl, hcb⟩ := hrb.at (by simp)
        have hx := hca 0 (by simp)
        have hy := hcb 0 (by simp)
        have hn' : n < 9223372036854775807 := by rcases hn with h | h; exact h; cases h
        simp only [ivs, gt, List.getD_cons_zero, Nat.add_zero] at hx hy
        clear hca hcb hra hrb hn
        obtain ⟨m, hm⟩ : ∃ m, m = (x :: P).length := ⟨_, rfl⟩
        obtain ⟨k, hk⟩ : ∃ k, k = (y :: Q).length := ⟨_, rfl⟩
        have hm1 : m = P.length + 1 := hm
        have hk1 : k = Q.length + 1 := hk
        have HTP : Hid (IsL w (.slice (if c = 1 then some ⟨ga, oa, none⟩ else some ⟨ga, oa + 1, none⟩) (m - 1) (c - 1)) P) := IsL.tail1 HP.out hm1
        have HTQ : Hid (IsL w (.slice (if d = 1 then some ⟨gb, ob, none⟩ else some ⟨gb, ob + 1, none⟩) (k - 1) (d - 1)) Q) := IsL.tail1 HQ.out hk1
        have HE1 : Hid (x = y → n + 1 + cnt P Q = cnt A B) := fun e => by have := HN.out; subst e; rw [cnt_eq HRP.out] at this; omega
        have HE2 : Hid (x < y → n + cnt P (y :: Q) = cnt A B) := fun e => by have := HN.out; rwa [cnt_lt HRQ.out e] at this
        have HE3 : Hid (y < x → n + cnt (x :: P) Q = cnt A B) := fun e => by have := HN.out; rwa [cnt_gt HRP.out e] at this
        have HL1 : Hid (n + 1 + P.length ≤ A.length ∧ n + P.length ≤ A.length) := by have := HL.out; rw [List.length_cons] at this; exact ⟨by omega, by omega⟩
        rw [← hm] at hc1 ⊢
        rw [← hk] at hd1 ⊢
        have HP' : Hid (IsL w (.slice (some ⟨ga, oa, none⟩) m c) (x :: P)) := by rw [hm]; exact HP
        have HQ' : Hid (IsL w (.slice (some ⟨gb, ob, none⟩) k d) (y :: Q)) := by rw [hk]; exact HQ
        rw [List.length_cons] at hm hk
        have h0 : (0 : Int) < (m : Int) := by omega
        have h1 : (0 : Int) < (k : Int) := by omega
        have HM : Hid (m = P.length + 1) := hm
        have HK : Hid (k = Q.length + 1) := hk
        clear hm hk hm1 hk1 HP HQ HN
        go_wp2
        go_quiet (fail)
        go_wp2
        · rename_i e1 _ _
          have e : x = y := by simpa using e1
          exact ⟨⟨P, Q, n + 1, by go_num, HTP, HTQ, rise_tail HRP.out, rise_tail HRQ.out, HE1.out e, HL1.out.1, ⟨_, rfl⟩⟩, by simp [slLen]; omega⟩
        · rename_i e1 _ e3
          have e : x = y := by simpa using e1
          omega
        · rename_i e1 e3 _
          have e : x = y := by simpa using e1
          omega
        · rename_i e1 e2 e3
          have e : ¬ x = y := by simpa using e1
          omega
        · rename_i e1 e2 e3
          exact ⟨⟨P, y :: Q, n, by go_num, HTP, HQ', rise_tail HRP.out, HRQ, HE2.out e3, HL1.out.2, ⟨_, rfl⟩⟩, by simp [slLen]; omega⟩
        · rename_i e1 e2 e3
          exact ⟨⟨x :: P, Q, n, by go_num, HP', HTQ, HRP, rise_tail HRQ.out, HE3.out e2, HL, ⟨_, rfl⟩⟩, by simp [slLen]; omega⟩
set_option maxHeartbeats 4000000 in
/-- Is one set a part of another one? -/
theorem ispart_any (w : World) (va vb : Value) (A B : List Int) (R : Bool) (hA : IsL w va A) (hB : IsL w vb B) (rA : Rise A) (rB : Rise B) (hR : R = true ↔ sub A B) :
    Calls Try.prog 42 #[va, vb] w fun e w' => e = .returned (.bool R) ∧ Drw w w' := by
  have HC : Hid (Calls Try.prog 56 #[va, vb] w fun e w' => e = .returned (.int .i64 (cnt A B)) ∧ Drw w w') := cnt_any w va vb A B hA hB rA rB
  obtain ⟨a, c, rfl, hra⟩ := hA
  obtain ⟨n, hn⟩ : ∃ n, n = cnt A B := ⟨_, rfl⟩
  have HR : Hid ((n : Int) = (A.length : Int) ↔ R = true) := by
    rw [hR, ← cnt_full, hn]
    exact ⟨fun h => by omega, fun h => by omega⟩
  rw [← hn] at HC
  clear hra hR hn hB rA rB
  go_enter Try.func42, Try.ntmps42
  go_wp2_with (go_at_call 56; fail)
  refine HC.out.mono ?_
  rintro e w' ⟨rfl, hw⟩
  go_wp2
  go_ret
  refine ⟨ret_bool ?_, hw⟩
  cases R
  · have : ¬ ((n : Int) = (A.length : Int)) := fun h => by have := HR.out.1 h; cases this
    simpa using this
  · have := HR.out.2 rfl
    simpa using this
end Go.Proofs.Yteaajhpgmndomaa
