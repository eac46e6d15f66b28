/- Nodes in memory; kid. -/
import Derived.Test.YtgighebohbpkiaaBap
import Derived.Test.YtgighebohbpkiaaBaw
import Derived.Deep.RegionHeld3
import Derived.Laws.EntriesVeiled
namespace Go.Proofs.Ytgighebohbpkiaa
open Go.RowKit Fo
set_option maxRecDepth 100000
set_option linter.unusedSimpArgs false

namespace Fo
/-- A node's value. -/
structure NV where
  kind : Int
  code : Int
  n : Int
  a : Option Addr
  len : Nat
  cap : Nat
def NV.v (x : NV) : Value := .agg #[.int .i64 x.kind, .int .i64 x.code, .int .i64 x.n, .slice x.a x.len x.cap]
def NV.cells (x : NV) : Array Value := #[.int .i64 x.kind, .int .i64 x.code, .int .i64 x.n, .slice x.a x.len x.cap]
def NV.zero : NV := ⟨0, 0, 0, none, 0, 0⟩
/-- A node's kids in memory. -/
def NRow (w : World) (x : NV) (V : Nat → NV) : Prop :=
  x.len ≤ x.cap ∧ x.cap ≤ 9223372036854775807 ∧ (x.len = 0 ∨ ∃ b off : Nat, x.a = some ⟨b, off, none⟩ ∧ ∀ j, j < x.len → w.cell? ⟨b, off + j * 4, none⟩ = some (.int .i64 (V j).kind) ∧ w.cell? ⟨b, off + j * 4 + 1, none⟩ = some (.int .i64 (V j).code) ∧ w.cell? ⟨b, off + j * 4 + 2, none⟩ = some (.int .i64 (V j).n) ∧ w.cell? ⟨b, off + j * 4 + 3, none⟩ = some (.slice (V j).a (V j).len (V j).cap))
theorem NRow.below {w w1 : World} {x : NV} {V : Nat → NV} (h : NRow w x V) (hb : Below w.heap.size w w1) : NRow w1 x V := by
  obtain ⟨h1, h2, h4⟩ := h
  refine ⟨h1, h2, ?_⟩
  rcases h4 with h4 | ⟨b, off, e, hc⟩
  · exact Or.inl h4
  · refine Or.inr ⟨b, off, e, fun j hj => ?_⟩
    obtain ⟨c0, c1, c2, c3⟩ := hc j hj
    have hlt : b < w.heap.size := World.block_lt_of_cell? w _ c0
    exact ⟨by rw [hb.cell hlt]; exact c0, by rw [hb.cell hlt]; exact c1, by rw [hb.cell hlt]; exact c2, by rw [hb.cell hlt]; exact c3⟩
end Fo
set_option maxHeartbeats 4000000 in
theorem kid_any (w : World) (x : NV) (V : Nat → NV) (k : Nat) (h : NRow w x V) (hk : k ≤ 1) :
    Calls Try.prog 39 #[x.v, .int .i64 k] w fun e w' => e = .returned (if k < x.len then (V k).v else NV.zero.v) ∧ Below w.heap.size w w' := by
  obtain ⟨kind, code, n, a, len, cap⟩ := x
  obtain ⟨W2, hW2⟩ : ∃ W2, W2 = (w.alloc (.cells #[.int .i64 kind, .int .i64 code, .int .i64 n, .slice a len cap] 24)).alloc (.cells #[.int .i64 0, .int .i64 0, .int .i64 0, .slice none 0 0] 24) := ⟨_, rfl⟩
  have hb2 : Below w.heap.size w W2 := by rw [hW2]; exact (below1 w _).alloc (by simp) _
  have hz2 : w.heap.size + 1 < W2.heap.size := by rw [hW2]; simp
  have g1 : W2.heap[w.heap.size + 1]? = some (.cells #[.int .i64 0, .int .i64 0, .int .i64 0, .slice none 0 0] 24) := by
    rw [hW2]
    have := heap_new1 (w.alloc (.cells #[.int .i64 kind, .int .i64 code, .int .i64 n, .slice a len cap] 24)) (.cells #[.int .i64 0, .int .i64 0, .int .i64 0, .slice none 0 0] 24)
    simpa using this
  obtain ⟨h1, h2, h3⟩ := h.below hb2
  simp only at h1 h2 h3
  have HB : Hid (Below w.heap.size w W2) := hb2
  have HG : Hid (W2.heap[w.heap.size + 1]? = some (.cells #[.int .i64 0, .int .i64 0, .int .i64 0, .slice none 0 0] 24)) := g1
  by_cases hlt : k < len
  · obtain ⟨b, off, rfl, hc⟩ := h3.resolve_left (by omega)
    obtain ⟨c0, c1, c2, c3⟩ := hc k hlt
    clear hc h3 h hb2 g1
    have j1 : (0 : Int) ≤ (k : Int) := by omega
    have j2 : (k : Int) < (len : Int) := by omega
    unfold NV.v
    simp only [if_pos hlt]
    generalize (V k).kind = k0 at c0 ⊢
    generalize (V k).code = k1 at c1 ⊢
    generalize (V k).n = k2 at c2 ⊢
    generalize (V k).a = k3 at c3 ⊢
    generalize (V k).len = k4 at c3 ⊢
    generalize (V k).cap = k5 at c3 ⊢
    rw [hW2] at c0 c1 c2 c3
    go_enter Try.func39, Try.ntmps39
    clear hW2
    go_wp2
    refine bodyPost_ret (v := .agg #[.int .i64 k0, .int .i64 k1, .int .i64 k2, .slice k3 k4 k5]) (by simp [results, Try.results39, go_sem]) rfl ?_
    exact ⟨rfl, (below1 w _).alloc (by simp) _⟩
  · clear h3 h hb2 g1 hW2
    have j2 : ¬ (k : Int) < (len : Int) := by omega
    unfold NV.v
    simp only [if_neg hlt]
    go_enter Try.func39, Try.ntmps39
    go_wp2
    refine bodyPost_ret (v := .agg #[.int .i64 0, .int .i64 0, .int .i64 0, .slice none 0 0]) (by simp [results, Try.results39, go_sem]) rfl ?_
    exact ⟨rfl, (below1 w _).alloc (by simp) _⟩
end Go.Proofs.Ytgighebohbpkiaa
