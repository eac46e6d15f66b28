/- Sets; a row made. -/
import Derived.Test.YteaajhpgmndomaaFam
namespace Go.Proofs.Yteaajhpgmndomaa
open Go.RowKit Fo
set_option maxRecDepth 100000

/-- make([]T, n). -/
theorem wpList_make_ow {P : Program} {T E : TypeId} (L : Elt P T E) (w : World) {ops : Array Oper} {rest : List Oper} {o : Oper} {a : Act} {Q : Exit → Act → World → Prop}
    (hg : o.guard = none) (l c : Operand) (hop : o.op = Op.makeSlice T l c) (z : Value) (hz : L.z = z) (hz1 : z.cells = #[z]) (kl kc : IntKind) (n : Nat) (hl : a.eval l = .int kl n) (hc : a.eval c = .int kc n) (hn : n ≤ 1000000000)
    (hK : ∀ w', Ow E w.heap.size w' (.slice (some ⟨w.heap.size, 0, none⟩) n n) n (fun _ => z) → Below w.heap.size w w' → wpList P ops Q rest (a.put o.dst (.slice (some ⟨w.heap.size, 0, none⟩) n n)) w') :
    wpList P ops Q (o :: rest) a w := by
  refine wpList_make_full w hg l c T hop w.heap.size E L.i L.z 1 L.hT L.hi L.hz L.hsize kl kc n n n hl hc rfl rfl ?_ (by unfold maxLen; omega) (Nat.le_refl _) fun w' h1 h2 => hK w' ?_ ?_
  · rw [L.hby]; exact Nat.le_trans (Nat.mul_le_mul L.hb8 hn) (by decide)
  · subst hz
    rw [hz1, Nat.mul_one, toList_madeCells_one] at h1
    have e : fl (fun _ => L.z) n = List.replicate n L.z := by
      apply List.ext_getElem?
      intro j
      by_cases hj : j < n
      · rw [fl_get _ _ _ hj]; simp [hj]
      · rw [List.getElem?_eq_none (by rw [fl_len]; omega), List.getElem?_eq_none (by simp; omega)]
    show w'.ownsRow _ _ _ _ _ _
    rw [e]
    exact h1
  · exact (below_refl w).grown h2 (Nat.le_refl _) fun k hk => by cases hk
namespace Fo
/-- A set stays where a row of sets is written. -/
theorem SetIn.putL {w : World} {v : Value} {l : List Int} {g j : Nat} {cs : Array Value} {E : TypeId} {fr0 : Nat × Nat} (h : SetIn w v l) (hg : w.heap[g]? = some (.cells cs E fr0)) (h1 : E ≠ 3) (u : Value) : SetIn (w.setCell ⟨g, j, none⟩ u) v l :=
  h.keep fun b cur fr hb => Below.heap_setCell w ⟨g, j, none⟩ u b fun e => by
    have e' : b = g := e
    subst e'
    rw [hg] at hb
    injection hb with hb
    injection hb with _ hb
    exact h1 hb
theorem Ow.setInG {B : Nat} {w : World} {v : Value} {l : List Int} (h : Ow 3 B w v l.length (ivs (gt l))) : SetIn w v l := (h.sio (F := fun _ => False) fun _ _ k => k).setIn
end Fo
set_option maxHeartbeats 8000000 in
/-- SETS OF A FAMILY. -/
theorem fsets_any (w : World) (v : Value) (F : List (List Int)) (h : FV w v F) : Calls Try.prog 19 #[v] w fun e w' => (∃ u, e = .returned u ∧ IsLL w' u F) ∧ Below w.heap.size w w' := by
  obtain ⟨a, c, V, rfl, hr, hs, -, hl, hn, -⟩ := h
  obtain ⟨W, hW⟩ : ∃ W, W = w.alloc (.cells #[.slice a F.length c] 27) := ⟨_, rfl⟩
  have hb0 : Below w.heap.size w W := by rw [hW]; exact below1 w _
  have hg0 : W.heap[w.heap.size]? = some (.cells #[.slice a F.length c] 27) := by rw [hW]; exact heap_new1 w _
  have hz0 : W.heap.size = w.heap.size + 1 := by rw [hW]; simp
  have HB0 : Hid (Below w.heap.size w W) := hb0
  have HR : Hid (Rd w a F.length c V) := hr
  have HS : Hid (∀ j, j < F.length → SetIn w (V j) (gs F j)) := hs
  have HN : Hid (∀ j, j < F.length → (gs F j).length ≤ 10000) := hn
  have HG0 : Hid (W.heap[w.heap.size]? = some (.cells #[.slice a F.length c] 27)) := hg0
  have HZ0 : Hid (W.heap.size = w.heap.size + 1) := hz0
  have c0 : W.cell? ⟨w.heap.size, 0, none⟩ = some (.slice a F.length c) := by rw [cell_of_row _ _ _ _ _ _ hg0]; rfl
  have hr1 := hr.1
  have hr2 := hr.2.1
  clear hb0 hg0 hz0 hr hs hn
  go_enter Try.func19, Try.ntmps19
  go_wp2_with (first
    | (at_make; refine wpList_make_ow eSet _ rfl _ _ rfl (.slice none 0 0) rfl rfl _ _ F.length rfl rfl (by omega) ?_
       intro w1 hO1 hb1
       rw [← hW] at hO1 hb1
       have hsz : W.heap.size = w.heap.size + 1 := HZ0.out
       have HO1 : Hid (Ow 23 (w.heap.size + 1) w1 (.slice (some ⟨w.heap.size + 1, 0, none⟩) F.length F.length) F.length fun _ => .slice none 0 0) := by show Ow _ _ _ _ _ _; rw [hsz] at hO1; exact hO1
       have HB1 : Hid (Below w.heap.size w w1) := below_step HB0.out hb1
       have c1 : w1.cell? ⟨w.heap.size, 0, none⟩ = some (.slice a F.length c) := (hb1.cell (by show w.heap.size < _; omega)).trans c0
       clear hO1 hb1 hsz))
  go_loopw [13] (fun v13 wr => ∃ (i : Nat) (Z : Nat → Value), v13 = .int .i64 i ∧ i ≤ F.length ∧ Hid (Ow 23 (w.heap.size + 1) wr (.slice (some ⟨w.heap.size + 1, 0, none⟩) F.length F.length) F.length Z) ∧ Hid (∀ j, j < i → SetIn wr (Z j) (gs F j)) ∧ Hid (Below w.heap.size w wr)) (fun v13 _ => F.length - (intOf v13).toNat)
  case atStart => exact ⟨0, _, rfl, Nat.zero_le _, HO1, fun j hj => absurd hj (Nat.not_lt_zero j), HB1⟩
  case round =>
    obtain ⟨i, Z, rfl, hi, HO, HZ, HB⟩ := hrel
    rename World => wr
    by_cases hlt : i < F.length
    · have hrr := HR.out.below HB.out
      obtain ⟨b, off, rfl, hcell⟩ := hrr.at (by omega)
      have hci := hcell i hlt
      obtain ⟨sa, sc, hvi, hsd⟩ := id (HS.out i hlt)
      rw [hvi] at hci
      have HIs : Hid (IsL wr (.slice sa (gs F i).length sc) (gs F i)) := by
        have := ((HS.out i hlt).below HB.out).isL
        rw [hvi] at this
        exact this
      have j1 : (0 : Int) ≤ (i : Int) := by omega
      have j2 : (i : Int) < (F.length : Int) := by omega
      clear hrr hcell hvi hsd
      go_wp2_with (go_at_call 35; fail)
      refine (clone_any wr _ (gs F i) HIs.out (by have := HN.out i hlt; omega)).mono ?_
      rintro e w2 ⟨⟨u, rfl, ho⟩, b2⟩
      obtain ⟨ua, uc, rfl, -⟩ := id ho.rd
      have hO2 := HO.out.below b2
      obtain ⟨g, eg, -, hc2, hz2⟩ := hO2.cells (by omega)
      obtain rfl : w.heap.size + 1 = g := by simpa using eg
      have hci2 := hc2 i hlt
      have hzi2 := hz2 i
      obtain ⟨cur, hblk⟩ := hO2.blk rfl
      have HO3 : Hid (Ow 23 (w.heap.size + 1) (w2.setCell ⟨w.heap.size + 1, i, none⟩ (.slice ua (gs F i).length uc)) (.slice (some ⟨w.heap.size + 1, 0, none⟩) F.length F.length) F.length (updV Z i (.slice ua (gs F i).length uc))) := hO2.put i _ hlt
      have HZ3 : Hid (∀ j, j < i + 1 → SetIn (w2.setCell ⟨w.heap.size + 1, i, none⟩ (.slice ua (gs F i).length uc)) (updV Z i (.slice ua (gs F i).length uc) j) (gs F j)) := fun j hj => by
        unfold updV
        by_cases e : j = i
        · subst e
          rw [if_pos rfl]
          exact ho.setInG.putL hblk (by decide) _
        · rw [if_neg e]
          exact ((HZ.out j (by omega)).below b2).putL hblk (by decide) _
      have HB3 : Hid (Below w.heap.size w (w2.setCell ⟨w.heap.size + 1, i, none⟩ (.slice ua (gs F i).length uc))) := (below_step HB.out b2).setCell (p := ⟨w.heap.size + 1, i, none⟩) (by show w.heap.size ≤ w.heap.size + 1; omega) _
      clear ho b2 hO2 eg hc2 hz2 hblk HO HZ HB hci
      go_wp2
      go_roundw
      case rel => exact ⟨i + 1, _, by go_num, by omega, HO3, HZ3, HB3⟩
      case measure => simp [intOf]; omega
    · obtain rfl : i = F.length := by omega
      have HE : Hid (IsLL wr (.slice (some ⟨w.heap.size + 1, 0, none⟩) F.length F.length) F) := ⟨_, _, Z, rfl, HO.out.rd1, fun j hj => (HZ.out j hj).isL⟩
      have hge : ¬ (F.length : Int) < (F.length : Int) := by omega
      clear HO HZ
      go_wp2
      go_ret
      exact ⟨⟨_, rfl, HE.out⟩, HB.out⟩
end Go.Proofs.Yteaajhpgmndomaa
