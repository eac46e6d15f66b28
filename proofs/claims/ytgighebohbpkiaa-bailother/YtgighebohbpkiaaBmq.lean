/- A TRIAL's own bail: meters (to be turned to the landed one). -/
import Derived.Test.YtgighebohbpkiaaBmp
namespace Go.Proofs.Ytgighebohbpkiaa
open Go.RowKit Fo
set_option maxRecDepth 100000
set_option linter.unusedSimpArgs false
set_option linter.unusedVariables false

namespace Fo
/-- A meter in memory. -/
def MtIn (F : Nat → Prop) (w : World) (v : Value) (l : Int) : Prop :=
  (v = .pointer none ∧ l = 0 ∧ ∀ b, ¬ F b) ∨ ∃ b, v = .pointer (some ⟨b, 0, none⟩) ∧ w.heap[b]? = some (.cells #[.int .i64 l] 63) ∧ (∀ k, F k ↔ k = b) ∧ 0 ≤ l ∧ l ≤ 9223372036854775807
theorem MtIn.frame {F G : Nat → Prop} {w w' : World} {v : Value} {l : Int} (h : MtIn F w v l) (hk : Kp G w w') (hG : ∀ b, F b → ¬ G b) : MtIn F w' v l := by
  rcases h with h | ⟨b, e, hb, hF, hr⟩
  · exact Or.inl h
  · exact Or.inr ⟨b, e, hk.heap hb (hG b ((hF b).2 rfl)), hF, hr⟩
end Fo
set_option maxHeartbeats 4000000 in
theorem mleft_any (F : Nat → Prop) (w : World) (v : Value) (l : Int) (h : MtIn F w v l) : Calls Try.prog 16 #[v] w fun e w' => e = .returned (.int .i64 l) ∧ Below w.heap.size w w' := by
  rcases h with ⟨rfl, rfl, -⟩ | ⟨b, rfl, hb, -⟩
  · go_enter Try.func16, Try.ntmps16
    go_wp2
    go_ret
    exact ⟨rfl, below_refl w⟩
  · have c0 : w.cell? ⟨b, 0, none⟩ = some (.int .i64 l) := by rw [cell_of_row _ _ _ _ _ _ hb]; rfl
    go_enter Try.func16, Try.ntmps16
    go_wp2
    go_ret
    exact ⟨rfl, below_refl w⟩
set_option maxHeartbeats 4000000 in
theorem mnew_any (w : World) (b l : Int) (hb : b ≤ 9223372036854775807) (hl : l = max b 0) : Calls Try.prog 10 #[.int .i64 b] w fun e w' => (∃ F p, e = .returned (.pointer p) ∧ MtIn F w' (.pointer p) l ∧ ∀ k, F k → w.heap.size ≤ k) ∧ Below w.heap.size w w' := by
  by_cases h : b < 0
  · obtain rfl : l = 0 := by omega
    clear hl
    go_enter Try.func10, Try.ntmps10
    go_wp2
    go_ret
    exact ⟨⟨fun k => k = w.heap.size, _, rfl, Or.inr ⟨_, rfl, heap_new1 w _, fun k => Iff.rfl, by omega, by omega⟩, fun k hk => by omega⟩, below1 w _⟩
  · obtain rfl : l = b := by omega
    clear hl
    go_enter Try.func10, Try.ntmps10
    go_wp2
    go_ret
    exact ⟨⟨fun k => k = w.heap.size, _, rfl, Or.inr ⟨_, rfl, heap_new1 w _, fun k => Iff.rfl, by omega, by omega⟩, fun k hk => by omega⟩, below1 w _⟩
set_option maxHeartbeats 8000000 in
theorem muse_any (F : Nat → Prop) (w : World) (v : Value) (l n : Int) (h : MtIn F w v l) : Calls Try.prog 26 #[v, .int .i64 n] w fun e w' => MtIn F w' v (useL l n) ∧ Kp F w w' ∧ EnIn w.heap.size F w' (useE l n) e := by
  have HM : Hid (MtIn F w v l) := h
  have HLT : Hid (∀ b, F b → b < w.heap.size) := fun b hb => by
    rcases h with ⟨-, -, q⟩ | ⟨b', -, hb', q, -⟩
    · exact absurd hb (q b)
    · rw [(q b).1 hb]; exact lt_of_heap hb'
  by_cases hn : n < 0
  · have HU : Hid (useE l n = .bail 1 n ∧ useL l n = l) := use_neg hn
    clear h
    go_enter Try.func26, Try.ntmps26
    go_wp2_with (first | (go_at_call 16; refine (mleft_any F w _ _ HM.out).mono ?_; rintro e wl ⟨rfl, bl⟩; have HBl : Hid (Below w.heap.size w wl) := bl; clear bl) | (go_at_call 18; fail))
    refine (out_any _ 1 n).mono ?_
    rintro e w' ⟨hb, he⟩
    have HB : Hid (Below w.heap.size w w') := hb
    have HE : Hid (EnIn w.heap.size F w' (.bail 1 n) e) := (he.lower (Nat.le_refl _)).grow HLT.out
    rcases he with ⟨h, -⟩ | ⟨v, old, rfl, -⟩
    · cases h
    clear hb
    go_wp2
    refine ⟨rfl, ?_⟩
    rw [HU.out.1, HU.out.2]
    exact ⟨HM.out.frame (Kp.of_below (F := fun _ => False) HB.out) fun _ _ h => h, Kp.of_below HB.out, HE.out⟩
  by_cases hl : l < n
  · have HU : Hid (useE l n = .bail 10 n ∧ useL l n = l) := use_big hn hl
    clear h
    go_enter Try.func26, Try.ntmps26
    go_wp2_with (first | (go_at_call 16; refine (mleft_any F w _ _ HM.out).mono ?_; rintro e wl ⟨rfl, bl⟩; have HBl : Hid (Below w.heap.size w wl) := bl; clear bl) | (go_at_call 18; fail))
    refine (out_any _ 10 n).mono ?_
    rintro e w' ⟨hb, he⟩
    have HB : Hid (Below w.heap.size w w') := below_step HBl.out hb
    have HE : Hid (EnIn w.heap.size F w' (.bail 10 n) e) := (he.lower HBl.out.size).grow HLT.out
    rcases he with ⟨h, -⟩ | ⟨v, old, rfl, -⟩
    · cases h
    clear hb
    go_wp2
    refine ⟨rfl, ?_⟩
    rw [HU.out.1, HU.out.2]
    exact ⟨HM.out.frame (Kp.of_below (F := fun _ => False) HB.out) fun _ _ h => h, Kp.of_below HB.out, HE.out⟩
  have HU : Hid (useE l n = .ret ∧ useL l n = l - n) := use_ok hn hl
  rcases h with ⟨rfl, rfl, hF⟩ | ⟨b, rfl, hb, hF, h0, h1⟩
  · obtain rfl : n = 0 := by omega
    go_enter Try.func26, Try.ntmps26
    go_wp2_with (go_at_call 16; refine (mleft_any F w _ _ HM.out).mono ?_; rintro e wl ⟨rfl, bl⟩; have HBl : Hid (Below w.heap.size w wl) := bl; clear bl)
    go_end0
    rw [HU.out.1, HU.out.2]
    exact ⟨HM.out.frame (Kp.of_below (F := fun _ => False) HBl.out) fun _ _ h => h, Kp.of_below HBl.out, Or.inl ⟨rfl, rfl⟩⟩
  · have HF : Hid (∀ k, F k ↔ k = b) := hF
    have HB : Hid (w.heap[b]? = some (.cells #[.int .i64 l] 63)) := hb
    clear hF hb
    have hn0 : 0 ≤ n := by omega
    go_enter Try.func26, Try.ntmps26
    go_wp2_with (go_at_call 16; refine (mleft_any F w _ _ HM.out).mono ?_; rintro e wl ⟨rfl, bl⟩; have hbl := (bl.block _ (lt_of_heap HB.out)).trans HB.out; have cl : wl.cell? ⟨b, 0, none⟩ = some (.int .i64 l) := (by rw [cell_of_row _ _ _ _ _ _ hbl]; rfl); have zl : wl.frozen? ⟨b, 0, none⟩ = false := (by simp [World.frozen?, hbl]); have HBl : Hid (Below w.heap.size w wl) := bl; have HHl : Hid (wl.heap[b]? = some (.cells #[.int .i64 l] 63)) := hbl; clear bl hbl)
    go_end0
    rw [HU.out.1, HU.out.2]
    have hq := HHl.out
    exact ⟨Or.inr ⟨b, rfl, by simp [World.setCell, Array.getElem?_modify, hq], HF.out, by omega, by omega⟩, (Kp.of_below (F := F) HBl.out).set (Or.inl ((HF.out b).2 rfl)) _, Or.inl ⟨rfl, rfl⟩⟩
theorem meter_says : MeterSays MtIn where
  frame := fun h hk hG => h.frame hk hG
  lt := fun h b hb => by
    rcases h with ⟨-, -, q⟩ | ⟨b', -, hb', q, -⟩
    · exact absurd hb (q b)
    · rw [(q b).1 hb]; exact lt_of_heap hb'
  none := fun w => Or.inl ⟨rfl, rfl, fun _ h => h⟩
  new := mnew_any
  use := muse_any
  left := mleft_any
end Go.Proofs.Ytgighebohbpkiaa
