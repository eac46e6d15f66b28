/- Paths in memory. -/
import Derived.Test.YtbgkfjelgnbfmaaGreatDoorPrd
import Derived.Test.YtbgkfjelgnbfmaaGreatDoorBky
import Derived.Test.YtbgkfjelgnbfmaaGreatDoorProg
import Derived.KernelRfl
namespace Go.Proofs.YtbgkfjelgnbfmaaGreatDoor
open Go.RowKit Fo
set_option maxRecDepth 100000

namespace Fo
/-- A path's value. -/
structure PV where
  kind : Int
  label : ByteArray
  a : Option Addr
  len : Nat
  cap : Nat
  lo : Int
  hi : Int
def PV.v (x : PV) : Value := .agg #[.int .i64 x.kind, .string x.label, .slice x.a x.len x.cap, .int .i64 x.lo, .int .i64 x.hi]
def PV.cs (x : PV) : List Value := [.int .i64 x.kind, .string x.label, .slice x.a x.len x.cap, .int .i64 x.lo, .int .i64 x.hi]
def PV.zero : PV := ⟨0, ⟨#[]⟩, none, 0, 0, 0, 0⟩
/-- The cells of one that lies in memory. -/
structure PAt (w : World) (b off : Nat) (x : PV) : Prop where
  c0 : w.cell? ⟨b, off, none⟩ = some (.int .i64 x.kind)
  c1 : w.cell? ⟨b, off + 1, none⟩ = some (.string x.label)
  c2 : w.cell? ⟨b, off + 2, none⟩ = some (.slice x.a x.len x.cap)
  c3 : w.cell? ⟨b, off + 3, none⟩ = some (.int .i64 x.lo)
  c4 : w.cell? ⟨b, off + 4, none⟩ = some (.int .i64 x.hi)
theorem PAt.lt {w : World} {b off : Nat} {x : PV} (h : PAt w b off x) : b < w.heap.size := World.block_lt_of_cell? w _ h.c0
theorem PAt.of_block {w w' : World} {b off : Nat} {x : PV} (h : PAt w b off x) (hb : w'.heap[b]? = w.heap[b]?) : PAt w' b off x :=
  ⟨by rw [World.cell?_of_block hb]; exact h.c0, by rw [World.cell?_of_block hb]; exact h.c1, by rw [World.cell?_of_block hb]; exact h.c2, by rw [World.cell?_of_block hb]; exact h.c3, by rw [World.cell?_of_block hb]; exact h.c4⟩
/-- A list of paths in blocks of F. -/
def PRow (F : Nat → Prop) (w : World) (a : Option Addr) (len cap : Nat) (V : Nat → PV) : Prop :=
  len ≤ cap ∧ cap ≤ 9223372036854775807 ∧ (len = 0 ∨ ∃ b off : Nat, a = some ⟨b, off, none⟩ ∧ F b ∧ ∀ j, j < len → PAt w b (off + j * 5) (V j))
/-- A path in memory, in blocks of F. -/
inductive IsP (F : Nat → Prop) (w : World) : PV → PT → Prop
  | mk (x : PV) (V : Nat → PV) (ks : List PT) (hl : ks.length = x.len) (hr : PRow F w x.a x.len x.cap V) (hk : ∀ (j : Nat) (h : j < ks.length), IsP F w (V j) ks[j]) : IsP F w x (.mk x.kind x.label.data.toList ks x.lo x.hi)
theorem PRow.kp {F F' G : Nat → Prop} {w w' : World} {a : Option Addr} {len cap : Nat} {V : Nat → PV} (h : PRow F w a len cap V) (hk : Kp G w w') (hG : ∀ b, F b → ¬ G b) (hF : ∀ b, b < w.heap.size → F b → F' b) : PRow F' w' a len cap V := by
  obtain ⟨h1, h2, h4⟩ := h
  refine ⟨h1, h2, ?_⟩
  rcases h4 with h4 | ⟨b, off, e, hf, hc⟩
  · exact Or.inl h4
  · by_cases h0 : len = 0
    · exact Or.inl h0
    have hlt := (hc 0 (by omega)).lt
    exact Or.inr ⟨b, off, e, hF b hlt hf, fun j hj => (hc j hj).of_block (hk.block b hlt (hG b hf))⟩
theorem IsP.kp {F F' G : Nat → Prop} {w w' : World} {x : PV} {t : PT} (h : IsP F w x t) (hk : Kp G w w') (hG : ∀ b, F b → ¬ G b) (hF : ∀ b, b < w.heap.size → F b → F' b) : IsP F' w' x t := by
  induction h with
  | mk x V ks hl hr _ ih => exact .mk x V ks hl (hr.kp hk hG hF) ih
theorem IsP.bel {F : Nat → Prop} {w w' : World} {x : PV} {t : PT} (h : IsP F w x t) (hb : Below w.heap.size w w') : IsP F w' x t := h.kp (Kp.of_below (F := fun _ => False) hb) (fun _ _ h => h) fun _ _ h => h
theorem IsP.mono {F F' : Nat → Prop} {w : World} {x : PV} {t : PT} (h : IsP F w x t) (hF : ∀ b, F b → F' b) : IsP F' w x t := h.kp (Kp.refl (fun _ => False) w) (fun _ _ h => h) fun b _ hb => hF b hb
/-- What one in memory is. -/
theorem IsP.inv {F : Nat → Prop} {w : World} {x : PV} {t : PT} (h : IsP F w x t) : ∃ (V : Nat → PV) (ks : List PT), t = .mk x.kind x.label.data.toList ks x.lo x.hi ∧ ks.length = x.len ∧ PRow F w x.a x.len x.cap V ∧ ∀ (j : Nat) (h : j < ks.length), IsP F w (V j) ks[j] := by
  cases h with
  | mk x V ks hl hr hk => exact ⟨V, ks, rfl, hl, hr, hk⟩
theorem IsP.zero (F : Nat → Prop) (w : World) : IsP F w PV.zero PT.zero := .mk PV.zero (fun _ => PV.zero) [] rfl ⟨Nat.le_refl _, by decide, Or.inl rfl⟩ fun j h => absurd h (Nat.not_lt_zero j)
theorem IsP.leaf (F : Nat → Prop) (w : World) (k lo hi : Int) (l : ByteArray) : IsP F w ⟨k, l, none, 0, 0, lo, hi⟩ (.mk k l.data.toList [] lo hi) := .mk ⟨k, l, none, 0, 0, lo, hi⟩ (fun _ => PV.zero) [] rfl ⟨Nat.le_refl _, by show (0 : Nat) ≤ _; omega, Or.inl rfl⟩ fun j h => absurd h (Nat.not_lt_zero j)
/-! ### Rows of paths that the call has made -/
def flP (V : Nat → PV) (n : Nat) : List Value := (List.range n).flatMap fun j => (V j).cs
theorem flP_succ (V : Nat → PV) (n : Nat) : flP V (n + 1) = flP V n ++ (V n).cs := by simp [flP, List.range_succ]
theorem flP_len (V : Nat → PV) : ∀ n, (flP V n).length = n * 5
  | 0 => rfl
  | n + 1 => by rw [flP_succ, List.length_append, flP_len V n]; simp [PV.cs]; omega
theorem flP_get (V : Nat → PV) (n j i : Nat) (h : j < n) (hi : i < 5) : (flP V n)[j * 5 + i]? = (V j).cs[i]? := by
  induction n with
  | zero => omega
  | succ n ih =>
    rw [flP_succ]
    by_cases hj : j < n
    · rw [List.getElem?_append_left (by rw [flP_len]; omega)]; exact ih hj
    · have : j = n := by omega
      subst this
      rw [List.getElem?_append_right (by rw [flP_len]; omega), flP_len]
      congr 1; omega
theorem flP_congr {V Z : Nat → PV} : ∀ (n : Nat), (∀ j, j < n → V j = Z j) → flP V n = flP Z n
  | 0, _ => rfl
  | n + 1, e => by rw [flP_succ, flP_succ, flP_congr n fun j hj => e j (by omega), e n (by omega)]
def catP (X : Nat → PV) (n : Nat) (Y : Nat → PV) (j : Nat) : PV := if j < n then X j else Y (j - n)
theorem flP_cat (X : Nat → PV) (n : Nat) (Y : Nat → PV) : ∀ m, flP X n ++ flP Y m = flP (catP X n Y) (n + m)
  | 0 => by
    rw [show flP Y 0 = [] from rfl, List.append_nil]
    exact flP_congr n fun j hj => by unfold catP; rw [if_pos hj]
  | m + 1 => by
    rw [flP_succ, ← List.append_assoc, flP_cat X n Y m, ← Nat.add_assoc, flP_succ]
    congr 2
    unfold catP; rw [if_neg (by omega)]; congr 1; omega
theorem flP_one (V : Nat → PV) (n : Nat) (u : Value) (h : u ∈ flP V n) : u.oneCell' = true := by
  obtain ⟨j, -, hu⟩ := List.mem_flatMap.1 h
  simp only [PV.cs, List.mem_cons, List.not_mem_nil, or_false] at hu
  rcases hu with rfl | rfl | rfl | rfl | rfl <;> rfl
/-- A row in a block from B on. -/
def OwP (B : Nat) (w : World) (v : Value) (n : Nat) (V : Nat → PV) : Prop := w.ownsRow B 25 5 v n (flP V n)
theorem OwP.kp {G : Nat → Prop} {B : Nat} {w w' : World} {v : Value} {n : Nat} {V : Nat → PV} (h : OwP B w v n V) (hk : Kp G w w') (hG : ∀ g, v.ownBlock = some g → ¬ G g) : OwP B w' v n V := by
  refine ⟨h.1, ?_⟩
  rcases h.2 with hn | ⟨g, cap, cur, rfl, hb, hgg, rest⟩
  · exact Or.inl hn
  · exact Or.inr ⟨g, cap, cur, rfl, hb, by rw [hk.block g (Array.getElem?_eq_some_iff.1 hgg).1 (hG g rfl)]; exact hgg, rest⟩
theorem OwP.below {B : Nat} {w w' : World} {v : Value} {n : Nat} {V : Nat → PV} (h : OwP B w v n V) (hb : Below w.heap.size w w') : OwP B w' v n V := h.kp (Kp.of_below (F := fun _ => False) hb) fun _ _ h => h
theorem OwP.lt {B : Nat} {w : World} {v : Value} {n : Nat} {V : Nat → PV} (h : OwP B w v n V) : ∀ g, v.ownBlock = some g → B ≤ g ∧ g < w.heap.size := fun g hg => World.ownsRow.lt h g hg
/-- What is read of it. -/
theorem OwP.row {B : Nat} {w : World} {v : Value} {n : Nat} {V : Nat → PV} (h : OwP B w v n V) : ∃ a cap, v = .slice a n cap ∧ PRow (fun b => v.ownBlock = some b) w a n cap V := by
  obtain ⟨hl, hr⟩ := h
  rcases hr with ⟨rfl, rfl⟩ | ⟨g, cap, cur, rfl, hb, hg, hnc, hcm, hcs, ht⟩
  · exact ⟨none, 0, rfl, Nat.le_refl _, by decide, Or.inl rfl⟩
  · refine ⟨_, cap, rfl, hnc, by unfold maxLen at hcm; omega, Or.inr ⟨g, 0, rfl, rfl, fun j hj => ?_⟩⟩
    have hc : ∀ i u, i < 5 → (V j).cs[i]? = some u → w.cell? ⟨g, 0 + j * 5 + i, none⟩ = some u := fun i u hi hu => by
      have := World.ownsRow.cells (w := w) (base := B) (e := 25) (size := 5) (v := .slice (some ⟨g, 0, none⟩) n cap) (n := n) (xs := flP V n) ⟨hl, Or.inr ⟨g, cap, cur, rfl, hb, hg, hnc, hcm, hcs, ht⟩⟩ (g := g) rfl (j * 5 + i) u ((flP_get V n j i hj hi).trans hu)
      rw [add_off, ← Nat.add_assoc] at this
      exact this
    exact ⟨hc 0 _ (by decide) rfl, hc 1 _ (by decide) rfl, hc 2 _ (by decide) rfl, hc 3 _ (by decide) rfl, hc 4 _ (by decide) rfl⟩
theorem OwP.congr {B : Nat} {w : World} {v : Value} {n : Nat} {V Z : Nat → PV} (h : OwP B w v n V) (e : ∀ j, j < n → V j = Z j) : OwP B w v n Z := by
  unfold OwP; rw [← flP_congr n e]; exact h
theorem OwP.mono {B B' : Nat} {w : World} {v : Value} {n : Nat} {V : Nat → PV} (h : OwP B w v n V) (hB : B' ≤ B) : OwP B' w v n V := by
  refine ⟨h.1, ?_⟩
  rcases h.2 with hn | ⟨g, cap, cur, e, hb, rest⟩
  · exact Or.inl hn
  · exact Or.inr ⟨g, cap, cur, e, Nat.le_trans hB hb, rest⟩
theorem OwP.head {B : Nat} {w : World} {a : Option Addr} {n cap : Nat} {V : Nat → PV} (h : OwP B w (.slice a n cap) n V) (m : Nat) (hm : m ≤ n) : OwP B w (.slice a m cap) m V := by
  obtain ⟨hl, hr⟩ := h
  refine ⟨flP_len V m, ?_⟩
  rcases hr with ⟨e, rfl⟩ | ⟨g, cap', cur, e, hb, hg, hnc, hcm, hcs, ht⟩
  · injection e with e1 e2 e3
    subst e1 e3
    obtain rfl : m = 0 := by omega
    exact Or.inl ⟨rfl, rfl⟩
  · injection e with e1 e2 e3
    subst e1 e3
    refine Or.inr ⟨g, cap, cur, rfl, hb, hg, by omega, hcm, hcs, ?_⟩
    have : cur.toList.take (m * 5) = (cur.toList.take (n * 5)).take (m * 5) := by rw [List.take_take]; congr 1; omega
    rw [this, ht]
    obtain ⟨k, rfl⟩ : ∃ k, n = m + k := ⟨n - m, by omega⟩
    have e2 : flP V (m + k) = flP V m ++ flP (fun j => V (m + j)) k := by
      rw [flP_cat]; exact flP_congr _ fun j hj => by unfold catP; split
                                                     · rfl
                                                     · congr 1; omega
    rw [e2, List.take_append_of_le_length (by rw [flP_len]; omega), List.take_of_length_le (by rw [flP_len]; omega)]
/-- A list of one, made. -/
theorem OwP.one (w : World) (B : Nat) (x : PV) (hB : B ≤ w.heap.size) : OwP B (w.alloc (.cells #[.int .i64 x.kind, .string x.label, .slice x.a x.len x.cap, .int .i64 x.lo, .int .i64 x.hi] 25)) (.slice (some ⟨w.heap.size, 0, none⟩) 1 1) 1 fun _ => x := by
  refine ⟨flP_len _ 1, Or.inr ⟨w.heap.size, 1, _, rfl, hB, heap_new1 w _, Nat.le_refl _, by decide, rfl, rfl⟩⟩
end Fo
/-! ### append -/
theorem pathT : Tryz.prog.underlying 23 = some (.slice 25) := Tryz.underlying23
def zPath : Value := .agg #[.int .i64 0, .string ⟨#[]⟩, .slice none 0 0, .int .i64 0, .int .i64 0]
theorem run_appP {B : Nat} {w : World} {v : Value} {n : Nat} {X : Nat → PV} (h : OwP B w v n X) (hB : B ≤ w.heap.size) {F : Nat → Prop} {a : Option Addr} {m c : Nat} {Y : Nat → PV} (hs : PRow F w a m c Y) (h0 : 0 < m) (hnm : n + m ≤ 1000000000) (ty : TypeId) :
    ∃ v' w', (Builtin.append_ #[23, 23] ty #[v, .slice a m c]).run Tryz.prog w = .ok v' w' ∧ OwP B w' v' (n + m) (catP X n Y) ∧ w.grownBy w' v.ownBlock ∧ (v'.ownBlock = v.ownBlock ∨ v'.ownBlock = some w.heap.size) := by
  obtain ⟨-, -, hr⟩ := hs
  obtain ⟨b, off, rfl, -, hc⟩ := hr.resolve_left (by omega)
  obtain ⟨v', w', hrun, ho, hg, -, hat⟩ := run_append_own_at (P := Tryz.prog) w B 23 ty 25 Tryz.t25 zPath 5 64 pathT (by kernel_rfl) (by kernel_rfl) (by kernel_rfl) (by kernel_rfl) rfl (by decide) v n (flP X n) h ⟨b, off, none⟩ m c (flP Y m) (flP_len Y m)
    (fun j u hu => by
      have hj : j < m * 5 := by
        have := (List.getElem?_eq_some_iff.1 hu).1
        rwa [flP_len] at this
      have hd : j / 5 < m := Nat.div_lt_of_lt_mul (by omega)
      have hm : j % 5 < 5 := Nat.mod_lt _ (by decide)
      have e : j = j / 5 * 5 + j % 5 := by omega
      rw [e, flP_get Y m (j / 5) (j % 5) hd hm] at hu
      have hp := hc (j / 5) hd
      rw [add_off, e, ← Nat.add_assoc]
      generalize j / 5 = q at *
      generalize j % 5 = r at *
      match r, hm with
      | 0, _ => simp [PV.cs] at hu; rw [← hu]; exact hp.c0
      | 1, _ => simp [PV.cs] at hu; rw [← hu]; exact hp.c1
      | 2, _ => simp [PV.cs] at hu; rw [← hu]; exact hp.c2
      | 3, _ => simp [PV.cs] at hu; rw [← hu]; exact hp.c3
      | 4, _ => simp [PV.cs] at hu; rw [← hu]; exact hp.c4) (flP_one Y m) (by unfold maxLen; omega) (Nat.le_trans (Nat.mul_le_mul hnm (Nat.le_refl 64)) (by decide)) hB
  rw [flP_cat] at ho
  exact ⟨v', w', hrun, ho, hg, hat⟩
section
variable {n : Nat}
theorem wp_appP {o : Oper} {a : Act} {w : World} {K : Act → World → Prop} {Q : Exit → Act → World → Prop} (s x : Operand)
    (ho : o.op = .call { callee := .builtin .append, args := #[s, x], argTypes := #[23, 23] })
    {B : Nat} {v : Value} {X : Nat → PV} (h : OwP B w v n X) (hB : B ≤ w.heap.size) {F : Nat → Prop} {ad : Option Addr} {m c : Nat} {Y : Nat → PV} (hs : PRow F w ad m c Y) (h0 : 0 < m) (N : Nat) (hN : n + m = N) (hnm : N ≤ 1000000000)
    (e1 : a.eval s = v) (e2 : a.eval x = .slice ad m c)
    (hk : ∀ a' c' w', OwP B w' (.slice a' N c') N (catP X n Y) → w.grownBy w' v.ownBlock → ((Value.slice a' N c').ownBlock = v.ownBlock ∨ (Value.slice a' N c').ownBlock = some w.heap.size) → K (a.put o.dst (.slice a' N c')) w') : o.wp Tryz.prog a w K Q := by
  subst hN
  obtain ⟨v', w', hr, h1, h2, h3⟩ := run_appP h hB hs h0 hnm o.type
  obtain ⟨a', c', rfl, h4⟩ := h1.row
  unfold Oper.wp execOp
  simp only [ho, resolve, invoke, builtin, Sem.run_bind, Sem.run_pure, Result.andThen_ok, List.map_toArray, List.map_cons, List.map_nil, e1, e2, hr]
  exact hk a' c' w' h1 h2 h3
theorem wpList_appP {ops : Array Oper} {rest : List Oper} {o : Oper} {a : Act} {w : World} {Q : Exit → Act → World → Prop} (hgd : o.guard = none) (s x : Operand)
    (ho : o.op = .call { callee := .builtin .append, args := #[s, x], argTypes := #[23, 23] })
    {B : Nat} {v : Value} {X : Nat → PV} (h : OwP B w v n X) (hB : B ≤ w.heap.size) {F : Nat → Prop} {ad : Option Addr} {m c : Nat} {Y : Nat → PV} (hs : PRow F w ad m c Y) (h0 : 0 < m) (N : Nat) (hN : n + m = N) (hnm : N ≤ 1000000000)
    (e1 : a.eval s = v) (e2 : a.eval x = .slice ad m c)
    (hk : ∀ a' c' w', OwP B w' (.slice a' N c') N (catP X n Y) → w.grownBy w' v.ownBlock → ((Value.slice a' N c').ownBlock = v.ownBlock ∨ (Value.slice a' N c').ownBlock = some w.heap.size) → wpList Tryz.prog ops Q rest (a.put o.dst (.slice a' N c')) w') : wpList Tryz.prog ops Q (o :: rest) a w :=
  wpList_plain hgd fun _ hK => wp_appP s x ho h hB hs h0 N hN hnm e1 e2 fun a' c' w' h1 h3 h4 => hK _ _ (hk a' c' w' h1 h3 h4)
end
end Go.Proofs.YtbgkfjelgnbfmaaGreatDoor
