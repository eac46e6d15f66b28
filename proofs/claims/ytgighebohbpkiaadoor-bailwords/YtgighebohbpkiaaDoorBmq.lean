/- A TRIAL's own bail: meters (to be turned to the landed one). -/
import Derived.Test.YtgighebohbpkiaaDoorBmp
namespace Go.Proofs.YtgighebohbpkiaaDoor
open Go.RowKit Fo
set_option maxRecDepth 100000
set_option linter.unusedSimpArgs false
set_option linter.unusedVariables false

namespace Fo
/-- A meter in memory. -/
def MtIn (F : Nat → Prop) (w : World) (v : Value) (l : Int) : Prop :=
  (v = .pointer none ∧ l = 0 ∧ ∀ b, ¬ F b) ∨ ∃ b, v = .pointer (some ⟨b, 0, none⟩) ∧ w.heap[b]? = some (.cells #[.int .i64 l] 46) ∧ (∀ k, F k ↔ k = b) ∧ 0 ≤ l ∧ l ≤ 9223372036854775807
theorem MtIn.frame {F G : Nat → Prop} {w w' : World} {v : Value} {l : Int} (h : MtIn F w v l) (hk : Kp G w w') (hG : ∀ b, F b → ¬ G b) : MtIn F w' v l := by
  rcases h with h | ⟨b, e, hb, hF, hr⟩
  · exact Or.inl h
  · exact Or.inr ⟨b, e, hk.heap hb (hG b ((hF b).2 rfl)), hF, hr⟩
end Fo
set_option maxHeartbeats 4000000 in
theorem mleft_any (F : Nat → Prop) (w : World) (v : Value) (l : Int) (h : MtIn F w v l) : Calls Tryd.prog 15 #[v] w fun e w' => e = .returned (.int .i64 l) ∧ Below w.heap.size w w' := by
  rcases h with ⟨rfl, rfl, -⟩ | ⟨b, rfl, hb, -⟩
  · go_enter Tryd.func15, Tryd.ntmps15
    go_wp2
    go_ret
    exact ⟨rfl, below_refl w⟩
  · have c0 : w.cell? ⟨b, 0, none⟩ = some (.int .i64 l) := by rw [cell_of_row _ _ _ _ _ _ hb]; rfl
    go_enter Tryd.func15, Tryd.ntmps15
    go_wp2
    go_ret
    exact ⟨rfl, below_refl w⟩
set_option maxHeartbeats 4000000 in
theorem mnew_any (w : World) (b l : Int) (hb : b ≤ 9223372036854775807) (hl : l = max b 0) : Calls Tryd.prog 14 #[.int .i64 b] w fun e w' => (∃ F p, e = .returned (.pointer p) ∧ MtIn F w' (.pointer p) l ∧ ∀ k, F k → w.heap.size ≤ k) ∧ Below w.heap.size w w' := by
  by_cases h : b < 0
  · obtain rfl : l = 0 := by omega
    clear hl
    go_enter Tryd.func14, Tryd.ntmps14
    go_wp2
    go_ret
    exact ⟨⟨fun k => k = w.heap.size, _, rfl, Or.inr ⟨_, rfl, heap_new1 w _, fun k => Iff.rfl, by omega, by omega⟩, fun k hk => by omega⟩, below1 w _⟩
  · obtain rfl : l = b := by omega
    clear hl
    go_enter Tryd.func14, Tryd.ntmps14
    go_wp2
    go_ret
    exact ⟨⟨fun k => k = w.heap.size, _, rfl, Or.inr ⟨_, rfl, heap_new1 w _, fun k => Iff.rfl, by omega, by omega⟩, fun k hk => by omega⟩, below1 w _⟩
theorem meter_says : MeterSays MtIn where
  frame := fun h hk hG => h.frame hk hG
  lt := fun h b hb => by
    rcases h with ⟨-, -, q⟩ | ⟨b', -, hb', q, -⟩
    · exact absurd hb (q b)
    · rw [(q b).1 hb]; exact lt_of_heap hb'
  none := fun w => Or.inl ⟨rfl, rfl, fun _ h => h⟩
  new := mnew_any
  left := mleft_any
end Go.Proofs.YtgighebohbpkiaaDoor
