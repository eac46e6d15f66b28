/- Lists of numbers in memory. -/
import Derived.Test.YtbgkfjelgnbfmaaGreatDoorBky
namespace Go.Proofs.YtbgkfjelgnbfmaaGreatDoor
open Go.RowKit Fo
set_option maxRecDepth 100000

namespace Fo
def ivs (K : Nat → Int) (j : Nat) : Value := .int .i64 (K j)
def gt (l : List Int) (j : Nat) : Int := l.getD j 0
def lst (K : Nat → Int) (n : Nat) : List Int := (List.range n).map K
theorem lst_len (K : Nat → Int) (n : Nat) : (lst K n).length = n := by simp [lst]
theorem gt_lst (K : Nat → Int) (n j : Nat) (h : j < n) : gt (lst K n) j = K j := by
  unfold gt lst
  rw [List.getD_eq_getElem?_getD, List.getElem?_map, List.getElem?_range h]; rfl
/-- A list of numbers that is read. -/
def IsL (w : World) (v : Value) (l : List Int) : Prop := ∃ a c, v = .slice a l.length c ∧ Rd w a l.length c (ivs (gt l))
theorem IsL.below {w w1 : World} {v : Value} {l : List Int} (h : IsL w v l) (hb : Below w.heap.size w w1) : IsL w1 v l := by
  obtain ⟨a, c, e, hr⟩ := h
  exact ⟨a, c, e, hr.below hb⟩
theorem IsL.ofK {w : World} {a : Option Addr} {n c : Nat} {K : Nat → Int} (h : Rd w a n c (ivs K)) : IsL w (.slice a n c) (lst K n) :=
  ⟨a, c, by rw [lst_len], by rw [lst_len]; exact h.congr fun j hj => by unfold ivs; rw [gt_lst K n j hj]⟩
/-- The number in the box that a slot points to: for a loop's measure. -/
def boxInt (w : World) : Value → Int
  | .pointer (some a) => intOf ((w.cell? a).getD (.int .i64 0))
  | _ => 0
end Fo
end Go.Proofs.YtbgkfjelgnbfmaaGreatDoor
