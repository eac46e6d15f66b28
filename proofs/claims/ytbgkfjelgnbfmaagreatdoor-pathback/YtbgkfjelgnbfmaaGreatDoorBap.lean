/- append where it is told where the row lies; rows of integers. -/
import Derived.Test.YtbgkfjelgnbfmaaGreatDoorBli
import Derived.Test.YtbgkfjelgnbfmaaGreatDoorProg
import Derived.KernelRfl
namespace Go.Proofs.YtbgkfjelgnbfmaaGreatDoor
open Go.RowKit Fo
set_option maxRecDepth 100000

section
variable {P : Program} {T E : TypeId}
theorem run_app_at (L : Elt P T E) {B : Nat} {w : World} {v : Value} {n : Nat} {X : Nat → Value} (h : Ow E B w v n X) (hB : B ≤ w.heap.size) {a : Option Addr} {m c : Nat} {Y : Nat → Value} (hs : Rd w a m c Y) (h0 : 0 < m) (hone : ∀ j, j < m → (Y j).oneCell' = true) (hnm : n + m ≤ 1000000000) (ty : TypeId) :
    ∃ v' w', (Builtin.append_ #[T, T] ty #[v, .slice a m c]).run P w = .ok v' w' ∧ Ow E B w' v' (n + m) (catV X n Y) ∧ w.grownBy w' v.ownBlock ∧ (v'.ownBlock = v.ownBlock ∨ v'.ownBlock = some w.heap.size) := by
  have hown : w.ownsRow B E 1 v n (fl X n) := h
  obtain ⟨b, off, rfl, hc⟩ := hs.at h0
  have hmax : n + m ≤ maxLen := by unfold maxLen; omega
  have h1 : ∀ u ∈ fl Y m, u.oneCell' = true := fun u hu => by
    obtain ⟨j, hj, rfl⟩ := List.mem_map.1 hu
    exact hone j (List.mem_range.1 hj)
  have hb := L.hb8
  obtain ⟨v', w', hrun, ho, hg, -, hat⟩ := run_append_own_at (P := P) w B T ty E L.i L.z 1 L.bytes L.hT L.hi L.hz L.hsize L.hby L.hzs (by decide) v n (fl X n) hown ⟨b, off, none⟩ m c (fl Y m) (by rw [fl_len, Nat.mul_one])
    (fun j u hu => by
      obtain ⟨hj, rfl⟩ := fl_some Y m j u hu
      rw [add_off]; exact hc j hj) h1 hmax (Nat.le_trans (Nat.mul_le_mul hnm hb) (by decide)) hB
  rw [fl_cat] at ho
  exact ⟨v', w', hrun, ho, hg, hat⟩
theorem wp_app_at (L : Elt P T E) {o : Oper} {a : Act} {w : World} {K : Act → World → Prop} {Q : Exit → Act → World → Prop} (s x : Operand)
    (ho : o.op = .call { callee := .builtin .append, args := #[s, x], argTypes := #[T, T] })
    {B : Nat} {v : Value} {n : Nat} {X : Nat → Value} (h : Ow E B w v n X) (hB : B ≤ w.heap.size) {ad : Option Addr} {m c : Nat} {Y : Nat → Value} (hs : Rd w ad m c Y) (h0 : 0 < m) (hone : ∀ j, j < m → (Y j).oneCell' = true) (N : Nat) (hN : n + m = N) (hnm : N ≤ 1000000000)
    (Z : Nat → Value) (eZ : ∀ j, j < N → catV X n Y j = Z j) (e1 : a.eval s = v) (e2 : a.eval x = .slice ad m c)
    (hk : ∀ a' c' w', Ow E B w' (.slice a' N c') N Z → w.grownBy w' v.ownBlock → ((Value.slice a' N c').ownBlock = v.ownBlock ∨ (Value.slice a' N c').ownBlock = some w.heap.size) → K (a.put o.dst (.slice a' N c')) w') : o.wp P a w K Q := by
  subst hN
  obtain ⟨v', w', hr, h1, h2, h3⟩ := run_app_at L h hB hs h0 hone hnm o.type
  obtain ⟨a', c', rfl, h4⟩ := h1.rd
  unfold Oper.wp execOp
  simp only [ho, resolve, invoke, builtin, Sem.run_bind, Sem.run_pure, Result.andThen_ok, List.map_toArray, List.map_cons, List.map_nil, e1, e2, hr]
  exact hk a' c' w' (h1.congr eZ) h2 h3
theorem wpList_app_at (L : Elt P T E) {ops : Array Oper} {rest : List Oper} {o : Oper} {a : Act} {w : World} {Q : Exit → Act → World → Prop} (hgd : o.guard = none) (s x : Operand)
    (ho : o.op = .call { callee := .builtin .append, args := #[s, x], argTypes := #[T, T] })
    {B : Nat} {v : Value} {n : Nat} {X : Nat → Value} (h : Ow E B w v n X) (hB : B ≤ w.heap.size) {ad : Option Addr} {m c : Nat} {Y : Nat → Value} (hs : Rd w ad m c Y) (h0 : 0 < m) (hone : ∀ j, j < m → (Y j).oneCell' = true) (N : Nat) (hN : n + m = N) (hnm : N ≤ 1000000000)
    (Z : Nat → Value) (eZ : ∀ j, j < N → catV X n Y j = Z j) (e1 : a.eval s = v) (e2 : a.eval x = .slice ad m c)
    (hk : ∀ a' c' w', Ow E B w' (.slice a' N c') N Z → w.grownBy w' v.ownBlock → ((Value.slice a' N c').ownBlock = v.ownBlock ∨ (Value.slice a' N c').ownBlock = some w.heap.size) → wpList P ops Q rest (a.put o.dst (.slice a' N c')) w') : wpList P ops Q (o :: rest) a w :=
  wpList_plain hgd fun _ hK => wp_app_at L s x ho h hB hs h0 hone N hN hnm Z eZ e1 e2 fun a' c' w' h1 h3 h4 => hK _ _ (hk a' c' w' h1 h3 h4)
theorem step_app_at (L : Elt P T E) {ops : Array Oper} {o : Oper} {a : Act} {w : World} {K : Act → World → Prop} {Q : Exit → Act → World → Prop} {F : Prop} (hgd : o.guard = none) (s x : Operand)
    (ho : o.op = .call { callee := .builtin .append, args := #[s, x], argTypes := #[T, T] })
    {B : Nat} {v : Value} {n : Nat} {X : Nat → Value} (h : Ow E B w v n X) (hB : B ≤ w.heap.size) {ad : Option Addr} {m c : Nat} {Y : Nat → Value} (hs : Rd w ad m c Y) (h0 : 0 < m) (hone : ∀ j, j < m → (Y j).oneCell' = true) (N : Nat) (hN : n + m = N) (hnm : N ≤ 1000000000)
    (Z : Nat → Value) (eZ : ∀ j, j < N → catV X n Y j = Z j) (e1 : a.eval s = v) (e2 : a.eval x = .slice ad m c)
    (hk : ∀ a' c' w', Ow E B w' (.slice a' N c') N Z → w.grownBy w' v.ownBlock → ((Value.slice a' N c').ownBlock = v.ownBlock ∨ (Value.slice a' N c').ownBlock = some w.heap.size) → K (a.put o.dst (.slice a' N c')) w') :
    if Region.wanted o (yielded ops a.tmps) = true then Oper.wp P o a w K Q else F := by
  have hw : Region.wanted o (yielded ops a.tmps) = true := by simp [Region.wanted, hgd]
  rw [if_pos hw]
  exact wp_app_at L s x ho h hB hs h0 hone N hN hnm Z eZ e1 e2 hk
end
theorem ivs_one (K : Nat → Int) (n j : Nat) (_ : j < n) : (ivs K j).oneCell' = true := rfl
namespace Fo
theorem gt_app (l m : List Int) (j : Nat) : gt (l ++ m) j = if j < l.length then gt l j else gt m (j - l.length) := by
  unfold gt
  rw [List.getD_eq_getElem?_getD]
  by_cases h : j < l.length
  · rw [if_pos h, List.getElem?_append_left h, List.getD_eq_getElem?_getD]
  · rw [if_neg h, List.getElem?_append_right (by omega), List.getD_eq_getElem?_getD]
theorem catV_gt (l m : List Int) (j : Nat) : catV (ivs (gt l)) l.length (ivs (gt m)) j = ivs (gt (l ++ m)) j := by
  unfold catV ivs
  rw [gt_app]
  split <;> rfl
theorem catV_one (l : List Int) (x : Int) (j : Nat) (hj : j < l.length + 1) : catV (ivs (gt l)) l.length (fun _ => .int .i64 x) j = ivs (gt (l ++ [x])) j := by
  unfold catV ivs
  rw [gt_app]
  by_cases h : j < l.length
  · rw [if_pos h, if_pos h]
  · rw [if_neg h, if_neg h, show j - l.length = 0 by omega]; rfl
theorem Ow.far {E T : TypeId} {B : Nat} {w : World} {v : Value} {n : Nat} {V : Nat → Value} (h : Ow E B w v n V) {b : Nat} {cs : Array Value} {fr : Nat × Nat} (hb : w.heap[b]? = some (.cells cs T fr)) (hne : T ≠ E) : ∀ g, v.ownBlock = some g → g ≠ b := by
  rintro g hg rfl
  rcases h.2 with ⟨rfl, -⟩ | ⟨g', cap, cur, rfl, -, hgg, -⟩
  · cases hg
  · have e : g' = g := by simpa [Value.ownBlock] using hg
    subst e
    rw [hb] at hgg
    injection hgg with hgg
    injection hgg with _ hgg
    exact hne hgg
end Fo
end Go.Proofs.YtbgkfjelgnbfmaaGreatDoor
