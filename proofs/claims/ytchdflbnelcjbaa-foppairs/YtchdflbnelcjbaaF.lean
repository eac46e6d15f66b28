/- Rows of numbers that the call itself has made, and append on them. -/
import Derived.Test.YtchdflbnelcjbaaLC
import Derived.Deep.AppendSrc
import Derived.RegionTactic
namespace Go.Proofs.Ytchdflbnelcjbaa
open Go.RowKit Fo
set_option maxRecDepth 100000

namespace Fo
def fl (X : Nat → Nat) (n : Nat) : List Value := (List.range n).map fun j => Value.float .f64 (X j)
theorem fl_len (X : Nat → Nat) (n : Nat) : (fl X n).length = n := by simp [fl]
theorem fl_get (X : Nat → Nat) (n j : Nat) (h : j < n) : (fl X n)[j]? = some (.float .f64 (X j)) := by
  simp [fl, List.getElem?_map, List.getElem?_range h]
theorem fl_some (X : Nat → Nat) (n j : Nat) (u : Value) (h : (fl X n)[j]? = some u) : j < n ∧ u = .float .f64 (X j) := by
  have hj : j < n := by
    have := (List.getElem?_eq_some_iff.1 h).1
    rwa [fl_len] at this
  rw [fl_get X n j hj] at h
  exact ⟨hj, (Option.some.inj h).symm⟩
/-- One list, and another one behind it. -/
def cat (X : Nat → Nat) (n : Nat) (Y : Nat → Nat) (j : Nat) : Nat := if j < n then X j else Y (j - n)
theorem cat_lt {X Y : Nat → Nat} (n : Nat) (hX : ∀ j, X j < 18446744073709551616) (hY : ∀ j, Y j < 18446744073709551616) (j : Nat) : cat X n Y j < 18446744073709551616 := by
  unfold cat; split
  · exact hX j
  · exact hY _
theorem fl_cat (X : Nat → Nat) (n : Nat) (Y : Nat → Nat) (m : Nat) : fl X n ++ fl Y m = fl (cat X n Y) (n + m) := by
  apply List.ext_getElem?
  intro j
  by_cases h : j < n
  · rw [List.getElem?_append_left (by rw [fl_len]; exact h), fl_get X n j h, fl_get _ _ j (by omega)]
    unfold cat; rw [if_pos h]
  · rw [List.getElem?_append_right (by rw [fl_len]; omega), fl_len]
    by_cases h2 : j < n + m
    · rw [fl_get Y m (j - n) (by omega), fl_get _ _ j h2]
      unfold cat; rw [if_neg h]
    · rw [List.getElem?_eq_none (by rw [fl_len]; omega), List.getElem?_eq_none (by rw [fl_len]; omega)]
/-- A row of numbers in a block from B on. -/
def FR (B : Nat) (w : World) (v : Value) (n : Nat) (X : Nat → Nat) : Prop := (∀ j, X j < 18446744073709551616) ∧ w.ownsRow B 22 1 v n (fl X n)
theorem FR.sl {B : Nat} {w : World} {v : Value} {n : Nat} {X : Nat → Nat} (h : FR B w v n X) : ∃ a cap, v = .slice a n cap ∧ Sl w a n cap X := by
  obtain ⟨hX, hl, hr⟩ := h
  rcases hr with ⟨rfl, rfl⟩ | ⟨g, cap, cur, rfl, hb, hg, hnc, hcm, hcs, ht⟩
  · exact ⟨none, 0, rfl, Nat.le_refl _, by decide, hX, Or.inl rfl⟩
  · refine ⟨_, cap, rfl, hnc, by unfold maxLen at hcm; omega, hX, Or.inr ⟨g, 0, rfl, fun j hj => ?_⟩⟩
    have hc := World.ownsRow.cells (w := w) (base := B) (e := 22) (size := 1) (v := .slice (some ⟨g, 0, none⟩) n cap) (n := n) (xs := fl X n) ⟨hl, Or.inr ⟨g, cap, cur, rfl, hb, hg, hnc, hcm, hcs, ht⟩⟩ (g := g) rfl j _ (fl_get X n j hj)
    rw [Nat.zero_add]
    have hadd : (⟨g, 0, none⟩ : Addr).add j = ⟨g, j, none⟩ := by unfold Addr.add; split <;> simp_all
    rw [hadd] at hc
    exact hc
theorem FR.alloc {B : Nat} {w : World} {v : Value} {n : Nat} {X : Nat → Nat} (h : FR B w v n X) (o : Obj) : FR B (w.alloc o) v n X := ⟨h.1, h.2.alloc o⟩
theorem FR.grown {B : Nat} {w w' : World} {v : Value} {n : Nat} {X : Nat → Nat} {row : Option Nat} (h : FR B w v n X) (hg : w.grownBy w' row) (hne : v.ownBlock = none ∨ v.ownBlock ≠ row) : FR B w' v n X := ⟨h.1, h.2.kept hg hne⟩
theorem FR.drew {B : Nat} {w : World} {v : Value} {n : Nat} {X : Nat → Nat} (h : FR B w v n X) : FR B w.drew v n X := h
theorem FR.drewN {B : Nat} {w : World} {v : Value} {n : Nat} {X : Nat → Nat} (h : FR B w v n X) (k : Nat) : FR B (w.drewN k) v n X := h
theorem FR.made (B : Nat) (w : World) (hB : B ≤ w.heap.size) : FR B (w.alloc (.cells #[] 22)) (.slice (some ⟨w.heap.size, 0, none⟩) 0 0) 0 (fun _ => 0) :=
  ⟨fun _ => Nat.lt_of_lt_of_le Nat.zero_lt_one (by decide), World.ownsRow_made w #[] 0 hB (Nat.zero_le _) rfl⟩
theorem FR.nil (B : Nat) (w : World) : FR B w (.slice none 0 0) 0 (fun _ => 0) :=
  ⟨fun _ => Nat.lt_of_lt_of_le Nat.zero_lt_one (by decide), World.ownsRow_nil w B 22 1⟩
theorem FR.row {B : Nat} {w : World} {v : Value} {n : Nat} {X : Nat → Nat} (h : FR B w v n X) : ∀ k, v.ownBlock = some k → B ≤ k := fun k hk => (h.2.lt k hk).1
end Fo
theorem info22 : Try.prog.info? 22 = some Try.t22 := by kernel_rfl
theorem zero22 : Try.t22.zero = some (.float .f64 0) := by kernel_rfl
theorem size22 : Try.t22.size = 1 := by kernel_rfl
theorem bytes22 : Try.t22.bytes = 8 := by kernel_rfl
theorem add_off (b off j : Nat) : (⟨b, off, none⟩ : Addr).add j = ⟨b, off + j, none⟩ := by unfold Addr.add; split <;> simp_all
/-- append. -/
theorem run_app {B : Nat} {w : World} {v : Value} {n : Nat} {X : Nat → Nat} (h : FR B w v n X) (hB : B ≤ w.heap.size) {a : Option Addr} {m c : Nat} {Y : Nat → Nat} (hs : Sl w a m c Y) (hnm : n + m ≤ 4000) :
    ∃ v' w', (Builtin.append_ #[30, 30] 30 #[v, .slice a m c]).run Try.prog w = .ok v' w' ∧ FR B w' v' (n + m) (cat X n Y) ∧ w.grownBy w' v.ownBlock := by
  obtain ⟨hX, hown⟩ := h
  obtain ⟨hmc, hc63, hY, hr⟩ := hs
  have hmax : n + m ≤ maxLen := by unfold maxLen; omega
  have hone : ∀ u ∈ fl Y m, u.oneCell' = true := fun u hu => by
    obtain ⟨j, -, rfl⟩ := List.mem_map.1 hu
    rfl
  by_cases h0 : m = 0
  · subst h0
    have hcat : fl (cat X n Y) (n + 0) = fl X n := by rw [← fl_cat]; simp [fl]
    have hfr : FR B w v (n + 0) (cat X n Y) := ⟨cat_lt n hX hY, by rw [hcat]; exact hown⟩
    refine ⟨v, w, ?_, hfr, ⟨rfl, rfl, rfl, Nat.le_refl _, fun _ _ _ => rfl⟩⟩
    rcases hown.2 with ⟨rfl, rfl⟩ | ⟨g, cap, cur, rfl, hb, hg, hnc, hcm, hcs, ht⟩
    · cases a <;> simp [Builtin.append_, run_underlying Try.underlying30, sizeOf, typeInfo, info22, Builtin.lenOf, Builtin.firstCells, loadCells, loadCellsFrom]
    · cases a <;> simp [Builtin.append_, run_underlying Try.underlying30, sizeOf, typeInfo, info22, Builtin.lenOf, Builtin.firstCells, loadCells, loadCellsFrom, hnc, storeCells, Addr.add_lit]
  · rcases hr with hr | ⟨b, off, rfl, hc⟩
    · exact absurd hr h0
    obtain ⟨v', w', hrun, ho, hg, -⟩ := run_append_own (P := Try.prog) w B 30 30 22 Try.t22 (.float .f64 0) 1 8 Try.underlying30 info22 zero22 size22 bytes22 rfl (by decide) v n (fl X n) hown ⟨b, off, none⟩ m c (fl Y m) (by rw [fl_len, Nat.mul_one])
      (fun j u hu => by
        obtain ⟨hj, rfl⟩ := fl_some Y m j u hu
        rw [add_off]; exact hc j hj) hone hmax (by omega) hB
    rw [fl_cat] at ho
    exact ⟨v', w', hrun, ⟨cat_lt n hX hY, ho⟩, hg⟩
/-- append, at the operation. -/
theorem wp_app {o : Oper} {a : Act} {w : World} {K : Act → World → Prop} {Q : Exit → Act → World → Prop} (s x : Operand)
    (ho : o.op = .call { callee := .builtin .append, args := #[s, x], argTypes := #[30, 30] }) (hty : o.type = 30)
    {B : Nat} {v : Value} {n : Nat} {X : Nat → Nat} (h : FR B w v n X) (hB : B ≤ w.heap.size) {ad : Option Addr} {m c : Nat} {Y : Nat → Nat} (hs : Sl w ad m c Y) (N : Nat) (hN : n + m = N) (hnm : N ≤ 4000)
    (e1 : a.eval s = v) (e2 : a.eval x = .slice ad m c)
    (hk : ∀ a' c' w', FR B w' (.slice a' N c') N (cat X n Y) → Sl w' a' N c' (cat X n Y) → w.grownBy w' v.ownBlock → K (a.put o.dst (.slice a' N c')) w') : o.wp Try.prog a w K Q := by
  subst hN
  obtain ⟨v', w', hr, h1, h2⟩ := run_app h hB hs hnm
  obtain ⟨a', c', rfl, h3⟩ := h1.sl
  unfold Oper.wp execOp
  simp only [ho, hty, resolve, invoke, builtin, Sem.run_bind, Sem.run_pure, Result.andThen_ok, List.map_toArray, List.map_cons, List.map_nil, e1, e2, hr]
  exact hk a' c' w' h1 h3 h2
theorem wpList_app {ops : Array Oper} {rest : List Oper} {o : Oper} {a : Act} {w : World} {Q : Exit → Act → World → Prop} (hgd : o.guard = none) (s x : Operand)
    (ho : o.op = .call { callee := .builtin .append, args := #[s, x], argTypes := #[30, 30] }) (hty : o.type = 30)
    {B : Nat} {v : Value} {n : Nat} {X : Nat → Nat} (h : FR B w v n X) (hB : B ≤ w.heap.size) {ad : Option Addr} {m c : Nat} {Y : Nat → Nat} (hs : Sl w ad m c Y) (N : Nat) (hN : n + m = N) (hnm : N ≤ 4000)
    (e1 : a.eval s = v) (e2 : a.eval x = .slice ad m c)
    (hk : ∀ a' c' w', FR B w' (.slice a' N c') N (cat X n Y) → Sl w' a' N c' (cat X n Y) → w.grownBy w' v.ownBlock → wpList Try.prog ops Q rest (a.put o.dst (.slice a' N c')) w') : wpList Try.prog ops Q (o :: rest) a w :=
  wpList_plain hgd fun _ hK => wp_app s x ho hty h hB hs N hN hnm e1 e2 fun a' c' w' h1 h2 h3 => hK _ _ (hk a' c' w' h1 h2 h3)
theorem step_app {ops : Array Oper} {o : Oper} {a : Act} {w : World} {K : Act → World → Prop} {Q : Exit → Act → World → Prop} {E : Prop} (hgd : o.guard = none) (s x : Operand)
    (ho : o.op = .call { callee := .builtin .append, args := #[s, x], argTypes := #[30, 30] }) (hty : o.type = 30)
    {B : Nat} {v : Value} {n : Nat} {X : Nat → Nat} (h : FR B w v n X) (hB : B ≤ w.heap.size) {ad : Option Addr} {m c : Nat} {Y : Nat → Nat} (hs : Sl w ad m c Y) (N : Nat) (hN : n + m = N) (hnm : N ≤ 4000)
    (e1 : a.eval s = v) (e2 : a.eval x = .slice ad m c)
    (hk : ∀ a' c' w', FR B w' (.slice a' N c') N (cat X n Y) → Sl w' a' N c' (cat X n Y) → w.grownBy w' v.ownBlock → K (a.put o.dst (.slice a' N c')) w') :
    if Region.wanted o (yielded ops a.tmps) = true then Oper.wp Try.prog o a w K Q else E := by
  have hw : Region.wanted o (yielded ops a.tmps) = true := by simp [Region.wanted, hgd]
  rw [if_pos hw]
  exact wp_app s x ho hty h hB hs N hN hnm e1 e2 hk
/-- One number in a new block. -/
theorem sl_one (w : World) (a : Nat) (ha : a < 18446744073709551616) : Sl (w.alloc (.cells #[.float .f64 a] 22)) (some ⟨w.heap.size, 0, none⟩) 1 1 (fun _ => a) := by
  refine ⟨by decide, by decide, fun _ => ha, Or.inr ⟨_, _, rfl, fun j hj => ?_⟩⟩
  obtain rfl : j = 0 := by omega
  rw [World.cell?_alloc_new]; rfl
end Go.Proofs.Ytchdflbnelcjbaa
