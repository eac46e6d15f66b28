/- Two rows of numbers that grow side by side: append on each, and what becomes of the other. -/
import Derived.Test.YtchdflbnelcjbaaLE
import Derived.Deep.AppendLies
namespace Go.Proofs.Ytchdflbnelcjbaa
open Go.RowKit Fo
set_option maxRecDepth 100000

theorem Fo.FR.sl1 {B : Nat} {w : World} {a : Option Addr} {n cap : Nat} {X : Nat → Nat} (h : FR B w (.slice a n cap) n X) : Sl w a n cap X := by
  obtain ⟨a', c', e, hs⟩ := h.sl
  obtain ⟨rfl, rfl⟩ : a = a' ∧ cap = c' := by simpa using e
  exact hs
theorem Fo.FR.lt1 {B : Nat} {w : World} {g n cap : Nat} {X : Nat → Nat} (h : FR B w (.slice (some ⟨g, 0, none⟩) n cap) n X) : g < w.heap.size := (h.2.lt g rfl).2
/-- The other row, behind an append: in between blocks may have been made. -/
theorem Fo.FR.carry {B : Nat} {w cur w' : World} {g n cap : Nat} {X : Nat → Nat} {row : Option Nat} (h : FR B w (.slice (some ⟨g, 0, none⟩) n cap) n X) (hk : ∀ k, k < w.heap.size → cur.heap[k]? = w.heap[k]?) (hg : cur.grownBy w' row) (hne : some g ≠ row) : FR B w' (.slice (some ⟨g, 0, none⟩) n cap) n X := by
  have hlt := h.lt1
  refine ⟨h.1, h.2.1, ?_⟩
  rcases h.2.2 with hn | ⟨g', cap', cur', e, hb, hgg, rest⟩
  · exact Or.inl hn
  · obtain ⟨rfl, rfl⟩ : g = g' ∧ cap = cap' := by simpa using e
    refine Or.inr ⟨g, cap, cur', rfl, hb, ?_, rest⟩
    have h2 := (hk g hlt).trans hgg
    rw [hg.block g (Array.getElem?_eq_some_iff.1 h2).1 hne]
    exact h2
theorem heap_made (w : World) (o : Obj) (k : Nat) (h : k < w.heap.size) : (w.alloc o).drew.heap[k]? = w.heap[k]? := Below.heap_alloc w o k h
theorem heap_made2 (w : World) (o o2 : Obj) (k : Nat) (h : k < w.heap.size) : ((w.alloc o).drew.alloc o2).drew.heap[k]? = w.heap[k]? := by
  have h1 : ((w.alloc o).drew.alloc o2).heap[k]? = (w.alloc o).heap[k]? := Below.heap_alloc (w.alloc o).drew o2 k (by show k < (w.alloc o).heap.size; simp; omega)
  exact h1.trans (Below.heap_alloc w o k h)
theorem one_fl (Y : Nat → Nat) (m : Nat) : ∀ u ∈ fl Y m, u.oneCell' = true := fun u hu => by
  obtain ⟨j, -, rfl⟩ := List.mem_map.1 hu
  rfl
theorem hold0 (a : Option Addr) (w : World) : (Builtin.firstCells Try.t22.size 0 (.slice a 0 0)).run Try.prog w = .ok ([] : List Value).toArray w := by
  cases a <;> simp [Builtin.firstCells, loadCells, loadCellsFrom]
/-- append on an empty list without room. -/
theorem run_app0 {B : Nat} {w : World} (a : Option Addr) (hB : B ≤ w.heap.size) {ad : Option Addr} {m c : Nat} {Y : Nat → Nat} (hs : Sl w ad m c Y) (hm : 0 < m) (hnm : m ≤ 4000) :
    ∃ c' w', (Builtin.append_ #[30, 30] 30 #[.slice a 0 0, .slice ad m c]).run Try.prog w = .ok (.slice (some ⟨w.heap.size, 0, none⟩) m c') w' ∧ FR B w' (.slice (some ⟨w.heap.size, 0, none⟩) m c') m Y ∧ w.grownBy w' none := by
  obtain ⟨hmc, hc63, hY, hr⟩ := hs
  rcases hr with hr | ⟨b, off, rfl, hc⟩
  · omega
  have hnews : ∀ j u, (fl Y m)[j]? = some u → w.cell? ((⟨b, off, none⟩ : Addr).add j) = some u := fun j u hu => by
    obtain ⟨hj, rfl⟩ := fl_some Y m j u hu
    rw [add_off]; exact hc j hj
  have hl : (fl Y m).length = m * 1 := by rw [fl_len, Nat.mul_one]
  obtain ⟨v', w', hrun, ho, hg, -, hat⟩ := run_append_own_at (P := Try.prog) w B 30 30 22 Try.t22 (.float .f64 0) 1 8 Try.underlying30 info22 zero22 size22 bytes22 rfl (by decide) (.slice none 0 0) 0 [] (World.ownsRow_nil w B 22 1) ⟨b, off, none⟩ m c (fl Y m) hl hnews (one_fl Y m) (by unfold maxLen; omega) (by omega) hB
  have hsrc : Src Try.prog Try.t22.size 30 (.slice (some ⟨b, off, none⟩) m c) m (fl Y m) w := by
    rw [size22]; exact Src.ofSlice w Try.underlying30 ⟨b, off, none⟩ m c (fl Y m) hl hnews (one_fl Y m)
  have hfit : Builtin.nextslicecap (0 + m) 0 * Try.t22.bytes ≤ 281474976710656 := growslice_fits (by omega) (by rw [bytes22]; omega)
  have e1 := run_append_grow_src (P := Try.prog) w 30 30 30 22 Try.t22 (.float .f64 0) Try.underlying30 info22 zero22 a 0 0 [] (hold0 a _) (.slice (some ⟨b, off, none⟩) m c) m (fl Y m) hsrc (by omega) (by omega) hfit
  have e2 := run_append_grow_src (P := Try.prog) w 30 30 30 22 Try.t22 (.float .f64 0) Try.underlying30 info22 zero22 none 0 0 [] (hold0 none _) (.slice (some ⟨b, off, none⟩) m c) m (fl Y m) hsrc (by omega) (by omega) hfit
  rw [← e2] at e1
  rw [Nat.zero_add, List.nil_append] at ho
  obtain ⟨g, cap, rfl, -, -⟩ := ho.form hm
  rcases hat with hat | hat
  · cases hat
  · obtain rfl : g = w.heap.size := by simpa [Value.ownBlock] using hat
    exact ⟨cap, w', e1.trans hrun, ⟨hY, ho⟩, hg⟩
/-- append on a row. -/
theorem run_app2 {B : Nat} {w : World} {g n c0 : Nat} {X : Nat → Nat} (h : FR B w (.slice (some ⟨g, 0, none⟩) n c0) n X) (hB : B ≤ w.heap.size) {ad : Option Addr} {m c : Nat} {Y : Nat → Nat} (hs : Sl w ad m c Y) (hn : 0 < n) (hnm : n + m ≤ 4000) :
    ∃ g' c' w', (Builtin.append_ #[30, 30] 30 #[.slice (some ⟨g, 0, none⟩) n c0, .slice ad m c]).run Try.prog w = .ok (.slice (some ⟨g', 0, none⟩) (n + m) c') w' ∧ FR B w' (.slice (some ⟨g', 0, none⟩) (n + m) c') (n + m) (cat X n Y) ∧ w.grownBy w' (some g) ∧ (g' = g ∨ g' = w.heap.size) := by
  obtain ⟨hX, hown⟩ := h
  by_cases h0 : m = 0
  · subst h0
    have hcat : fl (cat X n Y) (n + 0) = fl X n := by rw [← fl_cat]; simp [fl]
    have hnc : n ≤ c0 := by
      rcases hown.2 with ⟨e, -⟩ | ⟨g', cap, cur, e, hb, hg, hnc, -⟩
      · cases e
      · obtain ⟨rfl, rfl⟩ : g = g' ∧ c0 = cap := by simpa using e
        exact hnc
    refine ⟨g, c0, w, ?_, ⟨cat_lt n hX hs.2.2.1, by rw [hcat]; exact hown⟩, ⟨rfl, rfl, rfl, Nat.le_refl _, fun _ _ _ => rfl⟩, Or.inl rfl⟩
    cases ad <;> simp [Builtin.append_, run_underlying Try.underlying30, sizeOf, typeInfo, info22, Builtin.lenOf, Builtin.firstCells, loadCells, loadCellsFrom, hnc, storeCells, Addr.add_lit]
  · obtain ⟨hmc, hc63, hY, hr⟩ := hs
    rcases hr with hr | ⟨b, off, rfl, hc⟩
    · exact absurd hr h0
    obtain ⟨v', w', hrun, ho, hg, -, hat⟩ := run_append_own_at (P := Try.prog) w B 30 30 22 Try.t22 (.float .f64 0) 1 8 Try.underlying30 info22 zero22 size22 bytes22 rfl (by decide) (.slice (some ⟨g, 0, none⟩) n c0) n (fl X n) hown ⟨b, off, none⟩ m c (fl Y m) (by rw [fl_len, Nat.mul_one])
      (fun j u hu => by
        obtain ⟨hj, rfl⟩ := fl_some Y m j u hu
        rw [add_off]; exact hc j hj) (one_fl Y m) (by unfold maxLen; omega) (by omega) hB
    rw [fl_cat] at ho
    obtain ⟨g', cap, rfl, -, -⟩ := ho.form (by omega)
    refine ⟨g', cap, w', hrun, ⟨cat_lt n hX hY, ho⟩, hg, ?_⟩
    rcases hat with hat | hat
    · exact Or.inl (by simpa [Value.ownBlock] using hat)
    · exact Or.inr (by simpa [Value.ownBlock] using hat)
theorem step_app0 {ops : Array Oper} {o : Oper} {a : Act} {w : World} {K : Act → World → Prop} {Q : Exit → Act → World → Prop} {E : Prop} (hgd : o.guard = none) (s x : Operand)
    (ho : o.op = .call { callee := .builtin .append, args := #[s, x], argTypes := #[30, 30] }) (hty : o.type = 30)
    {B : Nat} {a0 : Option Addr} (hB : B ≤ w.heap.size) {ad : Option Addr} {m c : Nat} {Y : Nat → Nat} (hs : Sl w ad m c Y) (hm : 0 < m) (hnm : m ≤ 4000)
    (e1 : a.eval s = .slice a0 0 0) (e2 : a.eval x = .slice ad m c)
    (hk : ∀ g c' w', FR B w' (.slice (some ⟨g, 0, none⟩) m c') m Y → w.grownBy w' none → g = w.heap.size → K (a.put o.dst (.slice (some ⟨g, 0, none⟩) m c')) w') :
    if Region.wanted o (yielded ops a.tmps) = true then Oper.wp Try.prog o a w K Q else E := by
  have hw : Region.wanted o (yielded ops a.tmps) = true := by simp [Region.wanted, hgd]
  rw [if_pos hw]
  obtain ⟨c', w', hr, h1, h2⟩ := run_app0 a0 hB hs hm hnm
  unfold Oper.wp execOp
  simp only [ho, hty, resolve, invoke, builtin, Sem.run_bind, Sem.run_pure, Result.andThen_ok, List.map_toArray, List.map_cons, List.map_nil, e1, e2, hr]
  exact hk _ c' w' h1 h2 rfl
theorem step_app2 {ops : Array Oper} {o : Oper} {a : Act} {w : World} {K : Act → World → Prop} {Q : Exit → Act → World → Prop} {E : Prop} (hgd : o.guard = none) (s x : Operand)
    (ho : o.op = .call { callee := .builtin .append, args := #[s, x], argTypes := #[30, 30] }) (hty : o.type = 30)
    {B : Nat} {w0 : World} {g n c0 : Nat} {X : Nat → Nat} (h : FR B w0 (.slice (some ⟨g, 0, none⟩) n c0) n X) (hkeep : ∀ k, k < w0.heap.size → w.heap[k]? = w0.heap[k]?) (hB : B ≤ w.heap.size) {ad : Option Addr} {m c : Nat} {Y : Nat → Nat} (hs : Sl w ad m c Y) (hn : 0 < n) (N : Nat) (hN : n + m = N) (hnm : N ≤ 4000)
    (Z : Nat → Nat) (hZ : ∀ j, Z j < 18446744073709551616) (eZ : ∀ j, j < N → cat X n Y j = Z j)
    (e1 : a.eval s = .slice (some ⟨g, 0, none⟩) n c0) (e2 : a.eval x = .slice ad m c)
    (hk : ∀ g' c' w', FR B w' (.slice (some ⟨g', 0, none⟩) N c') N Z → w.grownBy w' (some g) → (g' = g ∨ g' = w.heap.size) → K (a.put o.dst (.slice (some ⟨g', 0, none⟩) N c')) w') :
    if Region.wanted o (yielded ops a.tmps) = true then Oper.wp Try.prog o a w K Q else E := by
  subst hN
  have hw : Region.wanted o (yielded ops a.tmps) = true := by simp [Region.wanted, hgd]
  rw [if_pos hw]
  have hg0 : w.grownBy w none := ⟨rfl, rfl, rfl, Nat.le_refl _, fun _ _ _ => rfl⟩
  obtain ⟨g', c', w', hr, h1, h2, h3⟩ := run_app2 (h.carry hkeep hg0 (by simp)) hB hs hn hnm
  unfold Oper.wp execOp
  simp only [ho, hty, resolve, invoke, builtin, Sem.run_bind, Sem.run_pure, Result.andThen_ok, List.map_toArray, List.map_cons, List.map_nil, e1, e2, hr]
  exact hk g' c' w' (h1.congr hZ eZ) h2 h3
end Go.Proofs.Ytchdflbnelcjbaa
