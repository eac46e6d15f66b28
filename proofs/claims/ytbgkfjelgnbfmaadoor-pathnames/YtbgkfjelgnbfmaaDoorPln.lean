/- PathNames. -/
import Derived.Test.YtbgkfjelgnbfmaaDoorPak
namespace Go.Proofs.YtbgkfjelgnbfmaaDoor
open Go.RowKit Fo
set_option maxRecDepth 100000
set_option linter.unusedSimpArgs false
set_option linter.unusedVariables false

namespace Fo
theorem hexD_inj : ∀ a b : Nat, a < 16 → b < 16 → hexD a = hexD b → a = b := by
  have h : ∀ i j : Fin 16, hexD i.val = hexD j.val → i.val = j.val := by decide
  exact fun a b ha hb he => h ⟨a, ha⟩ ⟨b, hb⟩ he
def okL : Except Nat (List UInt8 × List UInt8) → List UInt8 | .ok (l, _) => l | .error _ => []
theorem namM_name (a : List UInt8) : namM (nameT a) = .ok (a, []) := by
  by_cases ha : a = []
  · subst ha; rfl
  · have := namM_ok a [] ha trivial
    rwa [List.append_nil] at this
theorem nameT_inj {a b : List UInt8} (h : nameT a = nameT b) : a = b := by
  have h1 := namM_name a
  rw [h, namM_name b] at h1
  exact (congrArg okL h1).symm
theorem esc_ge : ∀ l : List UInt8, l.length ≤ (esc l).length
  | [] => Nat.le_refl _
  | c :: r => by
    have := esc_ge r
    have h2 : 1 ≤ (escB c).length := by unfold escB; split <;> simp
    rw [esc, List.length_append, List.length_cons]
    omega
theorem nameT_len (a : List UInt8) : a.length ≤ (nameT a).length := by
  unfold nameT
  split
  · exact Nat.le_refl _
  · have := esc_ge a
    simp; omega
theorem nameT_max (a : List UInt8) : (nameT a).length ≤ 3 * a.length + 2 := by
  unfold nameT
  split
  · omega
  · have := esc_len a; simp; omega
/-- As strings are held against each other. -/
theorem str_beq (a b : List UInt8) : ((str a).toList == (str b).toList) = decide (a = b) := by
  rw [ByteArray.toList_eq, ByteArray.toList_eq]
  have e : ∀ l : List UInt8, (str l).data.toList = l := fun l => by simp [str]
  rw [e, e]
  by_cases h : a = b
  · subst h; simp
  · simp [h]
end Fo
set_option maxHeartbeats 8000000 in
theorem names_any (C : BailSays) (w : World) (a b : List UInt8) (lo : Nat) (henv : EnvP lo w) :
    Calls Tryd.prog 3 #[.string (str a), .string (str b)] w fun e w' => e = .returned (.bool true) ∧ Below w.heap.size w w' := by
  have HENV : Hid (EnvP lo w) := henv
  have hsa := str_size a
  have hsb := str_size b
  clear henv
  by_cases ha : 300 < a.length
  · have ha' : (300 : Int) < (a.length : Int) := by omega
    go_enter Tryd.func3, Tryd.ntmps3
    go_wp2_with (go_at_call 4; fail)
    refine (awake_any C _ lo HENV.out).mono ?_
    rintro e w1 ⟨rfl, b1⟩
    have HB : Hid (Below w.heap.size w w1) := b1
    clear b1
    go_wp2
    go_ret
    exact ⟨rfl, HB.out⟩
  have ha' : ¬ (300 : Int) < (a.length : Int) := by omega
  by_cases hb : 300 < b.length
  · have hb' : (300 : Int) < (b.length : Int) := by omega
    go_enter Tryd.func3, Tryd.ntmps3
    go_wp2_with (go_at_call 4; fail)
    refine (awake_any C _ lo HENV.out).mono ?_
    rintro e w1 ⟨rfl, b1⟩
    have HB : Hid (Below w.heap.size w w1) := b1
    clear b1
    go_wp2
    go_ret
    exact ⟨rfl, HB.out⟩
  have hb' : ¬ (300 : Int) < (b.length : Int) := by omega
  have HAL : Hid (a.length ≤ 300 ∧ b.length ≤ 300) := ⟨by omega, by omega⟩
  have hn1 := str_beq (nameT a) (nameT b)
  have hn2 := str_beq a b
  have hn3 := str_beq (nameT a) a
  have hn4 := str_beq (nameT (nameT a)) (nameT a)
  have hz1 := str_size (nameT a)
  have hge : ((nameT a).length : Int) ≥ (a.length : Int) := by have := nameT_len a; omega
  clear ha hb
  go_enter Tryd.func3, Tryd.ntmps3
  go_wp2_with (go_at_call 5; fail)
  refine (name_any w a (by have := HAL.out.1; omega)).mono ?_
  rintro e w1 ⟨rfl, b1⟩
  have HB1 : Hid (Below w.heap.size w w1) := b1
  clear b1
  go_wp2_with (go_at_call 5; fail)
  refine (name_any w1 (nameT a) (by have := nameT_max a; have := HAL.out.1; omega)).mono ?_
  rintro e w2 ⟨rfl, b2⟩
  have HB2 : Hid (Below w.heap.size w w2) := below_step HB1.out b2
  clear b2
  go_wp2_with (go_at_call 5; fail)
  refine (name_any w2 b (by have := HAL.out.2; omega)).mono ?_
  rintro e w3 ⟨rfl, b3⟩
  have HB3 : Hid (Below w.heap.size w w3) := below_step HB2.out b3
  have HEN : Hid (EnvP lo w3) := HENV.out.below HB3.out
  clear b3
  have hawk := awake_any C w3 lo HEN.out
  have HAWK : Hid (Calls _ _ _ _ _) := hawk
  clear hawk
  have hi : nameT a = nameT b → a = b := nameT_inj
  by_cases hab : a = b
  · subst hab
    simp only [decide_true] at hn1 hn2
    by_cases hxa : nameT a = a
    · have hx2 : nameT (nameT a) = nameT a := by rw [hxa, hxa]
      rw [decide_eq_true hx2] at hn4
      rw [decide_eq_true hxa] at hn3
      clear hxa hx2 hi hge hz1
      have hge : ((nameT a).length : Int) ≥ (a.length : Int) := by have := nameT_len a; omega
      have hz1 := str_size (nameT a)
      go_wp2_with (go_at_call 4; fail)
      refine HAWK.out.mono ?_
      rintro e w4 ⟨rfl, b4⟩
      have HB4 : Hid (Below w.heap.size w w4) := below_step HB3.out b4
      clear b4
      go_wp2
      go_ret
      exact ⟨rfl, HB4.out⟩
    · rw [decide_eq_false hxa] at hn3
      clear hxa hi hn4
      go_wp2_with (go_at_call 4; fail)
      refine HAWK.out.mono ?_
      rintro e w4 ⟨rfl, b4⟩
      have HB4 : Hid (Below w.heap.size w w4) := below_step HB3.out b4
      clear b4
      go_wp2
      go_ret
      exact ⟨rfl, HB4.out⟩
  · rw [decide_eq_false (fun h => hab (hi h))] at hn1
    rw [decide_eq_false hab] at hn2
    clear hab hi
    by_cases hxa : nameT a = a
    · have hx2 : nameT (nameT a) = nameT a := by rw [hxa, hxa]
      rw [decide_eq_true hx2] at hn4
      rw [decide_eq_true hxa] at hn3
      clear hxa hx2
      go_wp2_with (go_at_call 4; fail)
      refine HAWK.out.mono ?_
      rintro e w4 ⟨rfl, b4⟩
      have HB4 : Hid (Below w.heap.size w w4) := below_step HB3.out b4
      clear b4
      go_wp2
      go_ret
      exact ⟨rfl, HB4.out⟩
    · rw [decide_eq_false hxa] at hn3
      clear hxa hn4
      go_wp2_with (go_at_call 4; fail)
      refine HAWK.out.mono ?_
      rintro e w4 ⟨rfl, b4⟩
      have HB4 : Hid (Below w.heap.size w w4) := below_step HB3.out b4
      clear b4
      go_wp2
      go_ret
      exact ⟨rfl, HB4.out⟩
end Go.Proofs.YtbgkfjelgnbfmaaDoor
