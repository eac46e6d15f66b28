/- The walk of FloReads: it answers true at every text and every list of numbers. -/
import Derived.Test.YtmeohldomplegaaDoorRR
namespace Go.Proofs.YtmeohldomplegaaDoor
open Go.RowKit Fo Go.Sort
set_option maxRecDepth 100000

theorem reads_out (S : ByteArray) (a : Option Addr) (n cap : Nat) (w : World) (hS : 300 < S.size) (henv : Env w) :
    Calls Tryd.prog 4 #[.string S, .slice a n cap] w fun r w' => r = .returned (.bool true) ∧ Below w.heap.size w w' := by
  go_enter Tryd.func4, Tryd.ntmps4
  go_wp2_with (go_at_call 23; refine (awake_true _ henv).mono ?_; rintro e w' ⟨rfl, hb⟩)
  go_ret
  exact ⟨rfl, hb⟩
theorem reads_out2 (S : ByteArray) (a : Option Addr) (n cap : Nat) (w : World) (hS : S.size ≤ 300) (hn : 300 < n) (henv : Env w) :
    Calls Tryd.prog 4 #[.string S, .slice a n cap] w fun r w' => r = .returned (.bool true) ∧ Below w.heap.size w w' := by
  go_enter Tryd.func4, Tryd.ntmps4
  go_wp2_with (go_at_call 23; refine (awake_true _ henv).mono ?_; rintro e w' ⟨rfl, hb⟩)
  go_ret
  exact ⟨rfl, hb⟩
set_option maxHeartbeats 2000000 in
theorem reads_core (S : ByteArray) (a : Option Addr) (n cap : Nat) (w0 w : World) (hS : S.size ≤ 300) (hn : n ≤ 300) (hE : EB w0 w)
    (x A B : Nat) (e g i : Int) (en : Bool → Nat) (ei : Bool → Int) (sm : Nat → Nat → Bool) (hA : en false = A) (hB : en true = B) (hg : ei false = g) (hi : ei true = i)
    (hx : x < 18446744073709551616) (hAl : A < 18446744073709551616) (hBl : B < 18446744073709551616) (s1 : sm x x = true) (s2 : sm A A = true) (s3 : sm B B = true)
    (c24 : ∀ w, EB w0 w → Calls Tryd.prog 24 #[.string S] w fun r w' => r = .returned (.tuple #[.float .f64 x, .int .i64 e]) ∧ EB w0 w')
    (c25 : ∀ w, EB w0 w → Calls Tryd.prog 25 #[.string S] w fun r w' => r = .returned (.tuple #[.float .f64 x, .int .i64 e]) ∧ EB w0 w')
    (c26 : ∀ w, EB w0 w → Calls Tryd.prog 26 #[.slice a n cap] w fun r w' => r = .returned (.tuple #[.float .f64 A, .int .i64 g]) ∧ EB w0 w')
    (c27 : ∀ l w, EB w0 w → Calls Tryd.prog 27 #[.slice a n cap, .bool l] w fun r w' => r = .returned (.tuple #[.float .f64 (en l), .int .i64 (ei l)]) ∧ EB w0 w')
    (c28 : ∀ w, EB w0 w → Calls Tryd.prog 28 #[.slice a n cap] w fun r w' => r = .returned (.tuple #[.float .f64 B, .int .i64 i]) ∧ EB w0 w')
    (c18 : ∀ a b, a < 18446744073709551616 → b < 18446744073709551616 → ∀ w, EB w0 w → Calls Tryd.prog 18 #[.float .f64 a, .float .f64 b] w fun e w' => e = .returned (.bool (sm a b)) ∧ EB w0 w')
    (c23 : ∀ w, EB w0 w → Calls Tryd.prog 23 #[] w fun r w' => r = .returned (.bool true) ∧ EB w0 w') :
    Calls Tryd.prog 4 #[.string S, .slice a n cap] w fun r w' => r = .returned (.bool true) ∧ EB w0 w' := by
  go_enter Tryd.func4, Tryd.ntmps4
  go_wp2_with (first
      | (go_at_call 24; refine (c24 _ (by assumption)).mono ?_; rintro e w' ⟨rfl, hE'⟩)
      | (go_at_call 25; refine (c25 _ (by assumption)).mono ?_; rintro e w' ⟨rfl, hE'⟩)
      | (go_at_call 26; refine (c26 _ (by assumption)).mono ?_; rintro e w' ⟨rfl, hE'⟩)
      | (go_at_call 27; refine (c27 _ _ (by assumption)).mono ?_; rintro e w' ⟨rfl, hE'⟩)
      | (go_at_call 28; refine (c28 _ (by assumption)).mono ?_; rintro e w' ⟨rfl, hE'⟩)
      | (go_at_call 18; refine (c18 _ _ (by assumption) (by assumption) _ (by assumption)).mono ?_; rintro e w' ⟨rfl, hE'⟩)
      | (go_at_call 23; refine (c23 _ (by assumption)).mono ?_; rintro e w' ⟨rfl, hE'⟩))
  go_ret
  exact ⟨rfl, by assumption⟩

namespace Fo
theorem pOf_lt (l : List UInt8) : (pOf l).1 < 18446744073709551616 := by
  unfold pOf
  cases h : gP l with
  | none => exact (by decide : (0 : Nat) < 18446744073709551616)
  | some x =>
    have := gP_lt h
    by_cases ht : textOf x = l
    · simp only [if_pos ht]; exact this
    · simp only [if_neg ht]; exact (by decide : (0 : Nat) < 18446744073709551616)
end Fo
theorem rpost_eq {l : List UInt8} {r : Ending} (h : RPost l r) : r = .returned (.tuple #[.float .f64 (pOf l).1, .int .i64 (pOf l).2]) := by
  obtain ⟨y, f, rfl, ⟨x, hx, rfl, rfl, rfl⟩ | ⟨hno, rfl, rfl⟩⟩ := h
  · rw [pOf_text x hx]
  · have : pOf l = (0, 16) := by
      unfold pOf
      cases h : gP l with
      | none => rfl
      | some x => simp only [if_neg (hno x (gP_lt h))]
    rw [this]
theorem block_lt {w : World} {p : Addr} {v : Value} (h : w.cell? p = some v) : p.block < w.heap.size := by
  rcases Nat.lt_or_ge p.block w.heap.size with h' | h'
  · exact h'
  · unfold World.cell? at h
    simp [Array.getElem?_eq_none h'] at h

theorem reads_any (l : List UInt8) (a0 : Option Addr) (len cap : Nat) (W : World) (henv : Env W)
    (h : (len = 0) ∨ ∃ (b off : Nat) (X : Nat → Nat), a0 = some ⟨b, off, none⟩ ∧ len ≤ cap ∧ cap ≤ 9223372036854775807 ∧ (∀ j, X j < 18446744073709551616) ∧ ∀ j, j < len → W.cell? ⟨b, off + j, none⟩ = some (.float .f64 (X j))) :
    Calls Tryd.prog 4 #[.string ⟨l.toArray⟩, .slice a0 len cap] W fun r w' => r = .returned (.bool true) ∧ Below W.heap.size W w' := by
  have hsz := ba_size l
  by_cases hS : 300 < l.length
  · exact reads_out ⟨l.toArray⟩ a0 len cap W (by omega) henv
  by_cases hn : 300 < len
  · exact reads_out2 ⟨l.toArray⟩ a0 len cap W (by omega) hn henv
  have c24 : ∀ w, EB W w → Calls Tryd.prog 24 #[.string ⟨l.toArray⟩] w fun r w' => r = .returned (.tuple #[.float .f64 (pOf l).1, .int .i64 (pOf l).2]) ∧ EB W w' := fun w h => toEB (parse_any l (by omega) w h.env) h
  have c25 : ∀ w, EB W w → Calls Tryd.prog 25 #[.string ⟨l.toArray⟩] w fun r w' => r = .returned (.tuple #[.float .f64 (pOf l).1, .int .i64 (pOf l).2]) ∧ EB W w' := fun w h => (rparse_any l (by omega) w).mono fun _ _ hh => ⟨rpost_eq hh.1, h.step hh.2⟩
  have c18 : ∀ a b, a < 18446744073709551616 → b < 18446744073709551616 → ∀ w, EB W w → Calls Tryd.prog 18 #[.float .f64 a, .float .f64 b] w fun e w' => e = .returned (.bool (decide (bitsOf a = bitsOf b))) ∧ EB W w' := fun a b ha hb w h => toEB0 (rsame_any a b ha hb w) h
  have c23 : ∀ w, EB W w → Calls Tryd.prog 23 #[] w fun r w' => r = .returned (.bool true) ∧ EB W w' := fun w h => toEB (awake_true w h.env) h
  have core := reads_core ⟨l.toArray⟩ a0 len cap W W (by omega) (by omega) (EB.refl henv)
  by_cases h0 : len = 0
  · subst h0
    have := core (pOf l).1 0 0 (pOf l).2 15 15 (fun _ => 0) (fun _ => 15) (fun a b => decide (bitsOf a = bitsOf b)) rfl rfl rfl rfl (pOf_lt l) (by decide) (by decide) (by simp) (by simp) (by simp) c24 c25
      (fun w h => toEB0 (least_nil a0 cap w) h) (fun l w h => toEB0 (rend_none a0 cap l w) h) (fun w h => toEB0 (most_nil a0 cap w) h) c18 c23
    exact this.mono fun _ _ hh => ⟨hh.1, hh.2.bel⟩
  rcases h with h | ⟨b, off, X, rfl, hl, hcap, hX, hc⟩
  · exact absurd h h0
  have hblk : b < W.heap.size := block_lt (hc 0 (by omega))
  have hcw : ∀ w, EB W w → ∀ j, j < len → w.cell? ⟨b, off + j, none⟩ = some (.float .f64 (X j)) := fun w h j hj => (h.bel.cell (p := ⟨b, off + j, none⟩) hblk).trans (hc j hj)
  have hbl := bitsOf_lt _ (best_lt ahLeast X hX (len - 1))
  have hbm := bitsOf_lt _ (best_lt ahMost X hX (len - 1))
  have := core (pOf l).1 (bitsOf (best ahLeast X (len - 1))) (bitsOf (best ahMost X (len - 1))) (pOf l).2 0 0 (fun t => if t then bitsOf (best ahMost X (len - 1)) else bitsOf (best ahLeast X (len - 1))) (fun _ => 0) (fun a b => decide (bitsOf a = bitsOf b)) rfl rfl rfl rfl (pOf_lt l) hbl hbm (by simp) (by simp) (by simp) c24 c25
    (fun w h => toEB0 (least_any b off len cap w (by omega) hl hcap X hX (hcw w h)) h)
    (fun t w h => by
      cases t
      · exact toEB0 (rend_least b off len cap w (by omega) (by omega) X hX (hcw w h)) h
      · exact toEB0 (rend_most b off len cap w (by omega) (by omega) X hX (hcw w h)) h)
    (fun w h => toEB0 (most_any b off len cap w (by omega) hl hcap X hX (hcw w h)) h) c18 c23
  exact this.mono fun _ _ hh => ⟨hh.1, hh.2.bel⟩
end Go.Proofs.YtmeohldomplegaaDoor
