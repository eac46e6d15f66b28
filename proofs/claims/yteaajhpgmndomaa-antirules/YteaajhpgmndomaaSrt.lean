/- The document's own Sorted. -/
import Derived.Test.YteaajhpgmndomaaSub
namespace Go.Proofs.Yteaajhpgmndomaa
open Go.RowKit Fo
set_option maxRecDepth 100000

noncomputable def eInt : Elt Try.prog 23 3 := ⟨Try.t3, .int .i64 0, 8, Try.underlying23, by kernel_rfl, by kernel_rfl, by kernel_rfl, by kernel_rfl, rfl, by decide⟩
theorem ivs_one (K : Nat → Int) (n j : Nat) (_ : j < n) : (ivs K j).oneCell' = true := rfl
namespace Fo
/-- A row that is rising and has just the numbers of a list. -/
def SrtOf (R : Nat → Int) (N : Nat) (K : Nat → Int) (n : Nat) : Prop := (∀ p q, p < q → q < N → R p < R q) ∧ ∀ x, (∃ j, j < N ∧ R j = x) ↔ ∃ j, j < n ∧ K j = x
def insK (R : Nat → Int) (at' : Nat) (x : Int) (j : Nat) : Int := if j < at' then R j else if j = at' then x else R (j - 1)
/-- In the midst of making room: what stands behind place k has been moved by one. -/
def midK (R : Nat → Int) (N k : Nat) (j : Nat) : Int := if j ≤ k then (if j < N then R j else 0) else R (j - 1)
theorem srt_ins {R : Nat → Int} {N : Nat} {K : Nat → Int} {i p : Nat} (h : SrtOf R N K i) (hp : p ≤ N) (h1 : ∀ j, p ≤ j → j < N → K i < R j) (h2 : p = 0 ∨ R (p - 1) < K i) : SrtOf (insK R p (K i)) (N + 1) K (i + 1) := by
  have lt : ∀ j, j < p → R j < K i := fun j hj => by
    rcases h2 with h2 | h2
    · omega
    · by_cases e : j = p - 1
      · rw [e]; exact h2
      · have := h.1 j (p - 1) (by omega) (by omega); omega
  refine ⟨fun a b hab hb => ?_, fun x => ?_⟩
  · unfold insK
    by_cases a1 : a < p
    · rw [if_pos a1]
      by_cases b1 : b < p
      · rw [if_pos b1]; exact h.1 a b hab (by omega)
      · rw [if_neg b1]
        by_cases b2 : b = p
        · rw [if_pos b2]; exact lt a a1
        · rw [if_neg b2]; have := lt a a1; have := h1 (b - 1) (by omega) (by omega); omega
    · rw [if_neg a1, if_neg (show ¬ b < p by omega), if_neg (show ¬ b = p by omega)]
      by_cases a2 : a = p
      · rw [if_pos a2]; exact h1 (b - 1) (by omega) (by omega)
      · rw [if_neg a2]; exact h.1 (a - 1) (b - 1) (by omega) (by omega)
  · constructor
    · rintro ⟨j, hj, e⟩
      unfold insK at e
      by_cases j1 : j < p
      · rw [if_pos j1] at e
        obtain ⟨q, hq, hx⟩ := (h.2 x).1 ⟨j, by omega, e⟩
        exact ⟨q, by omega, hx⟩
      · rw [if_neg j1] at e
        by_cases j2 : j = p
        · rw [if_pos j2] at e
          exact ⟨i, by omega, e⟩
        · rw [if_neg j2] at e
          obtain ⟨q, hq, hx⟩ := (h.2 x).1 ⟨j - 1, by omega, e⟩
          exact ⟨q, by omega, hx⟩
    · rintro ⟨q, hq, hx⟩
      by_cases e : q = i
      · subst e
        exact ⟨p, by omega, by unfold insK; rw [if_neg (by omega), if_pos rfl]; exact hx⟩
      · obtain ⟨j, hj, ej⟩ := (h.2 x).2 ⟨q, by omega, hx⟩
        by_cases j1 : j < p
        · exact ⟨j, by omega, by unfold insK; rw [if_pos j1]; exact ej⟩
        · exact ⟨j + 1, by omega, by unfold insK; rw [if_neg (by omega), if_neg (by omega)]; exact ej⟩
theorem srt_twin {R : Nat → Int} {N : Nat} {K : Nat → Int} {i p : Nat} (h : SrtOf R N K i) (hp : p < N) (e : R p = K i) : SrtOf R N K (i + 1) := by
  refine ⟨h.1, fun x => ?_⟩
  rw [h.2 x]
  constructor
  · rintro ⟨j, hj, hx⟩
    exact ⟨j, by omega, hx⟩
  · rintro ⟨j, hj, hx⟩
    by_cases k : j = i
    · subst k
      exact (h.2 x).1 ⟨p, hp, e.trans hx⟩
    · exact ⟨j, by omega, hx⟩
theorem srt_nil (K : Nat → Int) : SrtOf (fun _ => 0) 0 K 0 := ⟨fun _ _ _ h => absurd h (by omega), fun _ => ⟨fun ⟨_, h, _⟩ => absurd h (by omega), fun ⟨_, h, _⟩ => absurd h (by omega)⟩⟩
theorem cat_zero (R : Nat → Int) (N j : Nat) (hj : j < N + 1) : catV (ivs R) N (fun _ => .int .i64 0) j = ivs (midK R N N) j := by
  unfold catV ivs midK
  by_cases h : j < N
  · rw [if_pos h, if_pos (by omega), if_pos h]
  · rw [if_neg h, if_pos (by omega), if_neg h]
theorem mid_step (R : Nat → Int) (N k j : Nat) (hk : 0 < k) (hkN : k ≤ N) (x : Int) (hx : x = midK R N k (k - 1)) : updV (ivs (midK R N k)) k (.int .i64 x) j = ivs (midK R N (k - 1)) j := by
  have hx' : x = R (k - 1) := by rw [hx]; unfold midK; rw [if_pos (by omega), if_pos (by omega)]
  unfold updV ivs midK
  by_cases e : j = k
  · subst e; rw [if_pos rfl, if_neg (by omega), hx']
  · rw [if_neg e]
    by_cases h : j ≤ k
    · rw [if_pos h, if_pos (show j ≤ k - 1 by omega)]
    · rw [if_neg h, if_neg (show ¬ j ≤ k - 1 by omega)]
theorem mid_end (R : Nat → Int) (N p j : Nat) (hp : p ≤ N) (x : Int) : updV (ivs (midK R N p)) p (.int .i64 x) j = ivs (insK R p x) j := by
  unfold updV ivs midK insK
  by_cases e : j = p
  · subst e; rw [if_pos rfl, if_neg (by omega), if_pos rfl]
  · rw [if_neg e]
    by_cases h : j < p
    · rw [if_pos (by omega), if_pos (by omega), if_pos h]
    · rw [if_neg (by omega), if_neg h, if_neg e]
end Fo
set_option maxHeartbeats 8000000 in
/-- The document's own Sorted. -/
theorem rsorted_any (a : Option Addr) (n c : Nat) (K : Nat → Int) (w : World) (h1 : Rd w a n c (ivs K)) (hn : n ≤ 100000) :
    Calls Try.prog 15 #[.slice a n c] w fun e w' => (∃ v N R, e = .returned v ∧ N ≤ n ∧ Ow 3 w.heap.size w' v N (ivs R) ∧ SrtOf R N K n) ∧ Below w.heap.size w w' := by
  have H1 : Hid (Rd w a n c (ivs K)) := h1
  clear h1
  go_enter Try.func15, Try.ntmps15
  go_wp2
  go_loopw [3, 4] (fun v3 v4 wr => ∃ (i N : Nat) (a' : Option Addr) (c' : Nat) (R : Nat → Int), i ≤ n ∧ v4 = .int .i64 i ∧ v3 = .slice a' N c' ∧ N ≤ i ∧ Hid (Below w.heap.size w wr) ∧ Hid (Ow 3 w.heap.size wr (.slice a' N c') N (ivs R)) ∧ Hid (SrtOf R N K i)) (fun _ v4 _ => n - (intOf v4).toNat)
  case atStart => exact ⟨0, 0, none, 0, fun _ => 0, Nat.zero_le _, rfl, rfl, Nat.le_refl _, below_refl _, Ow.nil _ _ _ _, srt_nil K⟩
  case round =>
    obtain ⟨i, N, a', c', R, hi, rfl, rfl, hN, HW, HO, HS⟩ := hrel
    rename World => wr
    by_cases hlt : i < n
    · have hlt' : (i : Int) < (n : Int) := by omega
      go_wp2
      go_loopw [5] (fun v5 wq => ∃ p : Nat, p ≤ N ∧ v5 = .int .i64 p ∧ Hid (Below w.heap.size w wq) ∧ Hid (Ow 3 w.heap.size wq (.slice a' N c') N (ivs R)) ∧ Hid (∀ j, p ≤ j → j < N → K i < R j)) (fun v5 _ => (intOf v5).toNat)
      case atStart => exact ⟨N, Nat.le_refl _, rfl, HW, HO, fun j h1 h2 => absurd h1 (by omega)⟩
      case round =>
        obtain ⟨p, hp, rfl, HW2, HO2, HG⟩ := hrel
        rename World => wq
        clear HO HW
        by_cases hp0 : p = 0
        · subst hp0
          have HIN : Hid (SrtOf (insK R 0 (K i)) (N + 1) K (i + 1)) := srt_ins HS.out hp HG.out (Or.inl rfl)
          have HSZ : Hid (w.heap.size ≤ (wq.alloc (.cells #[.int .i64 0] 3)).heap.size) := by
            show _ ≤ _
            have := HW2.out.size
            simp; omega
          clear HG HS
          go_wp2
          go_quiet (fail)
          go_wp2
          go_quiet (fail)
          go_wp2_with (at_builtin; refine wpList_app eInt rfl _ _ rfl ((HO2.out.drewN _).alloc _) HSZ.out (one_cell _ _ _) (fun _ _ => rfl) (N + 1) rfl ?_ (ivs (midK R N N)) (cat_zero R N) rfl rfl ?_; omega; intro a3 c3 w3 hO3 hG3)
          have hszw : w.heap.size ≤ wq.heap.size := HW2.out.size
          have HB3 : Hid (Below w.heap.size w w3) := by
            first
            | exact (HW2.out.alloc (by simp; omega) _).grown hG3 (by simp; omega) (fun k' hk' => HO2.out.row k' hk')
            | exact ((below_drewN HW2.out _).alloc (by simp; omega) _).grown hG3 (by simp; omega) (fun k' hk' => HO2.out.row k' hk')
            | exact ((below_drewN (below_drewN HW2.out _) _).alloc (by simp; omega) _).grown hG3 (by simp; omega) (fun k' hk' => HO2.out.row k' hk')
          have HO3 : Hid (Ow 3 w.heap.size w3 (.slice a3 (N + 1) c3) (N + 1) (ivs (midK R N N))) := hO3
          clear hO3 hG3 HO2 HW2 HSZ
          go_loopw [6] (fun v6 wz => ∃ k : Nat, 0 ≤ k ∧ k ≤ N ∧ v6 = .int .i64 k ∧ Hid (Below w.heap.size w wz) ∧ Hid (Ow 3 w.heap.size wz (.slice a3 (N + 1) c3) (N + 1) (ivs (midK R N k)))) (fun v6 _ => (intOf v6).toNat)
          case atStart => exact ⟨N, hp, Nat.le_refl _, rfl, HB3, HO3⟩
          case round =>
            obtain ⟨k, hpk, hkN, rfl, HW4, HO4⟩ := hrel
            rename World => wz
            clear HB3 HO3
            obtain ⟨g3, rfl, hg3, hc3, hf3⟩ := HO4.out.cells (by omega)
            by_cases hkp : 0 < k
            · obtain ⟨q, rfl⟩ : ∃ q, k = q + 1 := ⟨k - 1, by omega⟩
              have hcq := hc3 q (by omega)
              have hcs := hc3 (q + 1) (by omega)
              have hfs := hf3 (q + 1)
              have k1 : (0 : Int) ≤ (q : Int) := by omega
              have k2 : (q : Int) < ((N + 1 : Nat) : Int) := by omega
              obtain ⟨x, hx⟩ : ∃ x, x = midK R N (q + 1) q := ⟨_, rfl⟩
              have hcq' : wz.cell? ⟨g3, q, none⟩ = some (.int .i64 x) := by rw [hcq, hx]; rfl
              have HX : Hid (x = midK R N (q + 1) (q + 1 - 1)) := hx
              clear hc3 hf3 hcq hx
              go_wp2
              go_roundw
              case rel => exact ⟨q, by omega, by omega, by go_num, HW4.out.setCell hg3 _, (HO4.out.put (q + 1) _ (by omega)).congr fun j _ => mid_step R N (q + 1) j (by omega) hkN x HX.out⟩
              case measure => simp [intOf]
            · obtain rfl : k = 0 := by omega
              obtain ⟨ga, oa, rfl, hca⟩ := (H1.out.below HW4.out).at (by omega)
              have hci := hca i hlt
              have hcs := hc3 0 (by omega)
              have hfs := hf3 0
              unfold ivs at hci
              have j1 : (0 : Int) ≤ (i : Int) := by omega
              clear hca hc3 hf3
              go_wp2
              go_roundw
              case rel => exact ⟨i + 1, N + 1, _, c3, insK R 0 (K i), by omega, by go_num, rfl, by omega, HW4.out.setCell hg3 _, (HO4.out.put 0 _ (by omega)).congr fun j _ => mid_end R N 0 j hp (K i), HIN⟩
              case measure => simp [intOf]; omega
        · obtain ⟨q, rfl⟩ : ∃ q, p = q + 1 := ⟨p - 1, by omega⟩
          obtain ⟨gq, rfl, hgq, hcq, hfq⟩ := HO2.out.cells (by omega)
          obtain ⟨ga, oa, rfl, hca⟩ := (H1.out.below HW2.out).at (by omega)
          have hci := hca i hlt
          have hcr := hcq q (by omega)
          unfold ivs at hci hcr
          have j1 : (0 : Int) ≤ (i : Int) := by omega
          have j3 : (0 : Int) ≤ (q : Int) := by omega
          have j4 : (q : Int) < (N : Int) := by omega
          clear hca hcq hfq
          by_cases hgt : K i < R q
          · have HG' : Hid (∀ j, q ≤ j → j < N → K i < R j) := fun j h1 h2 => by
              by_cases e : j = q
              · subst e; exact hgt
              · exact HG.out j (by omega) h2
            clear HG HS H1
            go_wp2
            go_quiet (fail)
            go_wp2
            go_roundw
            case rel => exact ⟨q, by omega, by go_num, below_drewN HW2.out _, HO2.out.drewN _, HG'⟩
            case measure => simp [intOf]
          · by_cases heq : R q = K i
            · have HS' : Hid (SrtOf R N K (i + 1)) := srt_twin HS.out (by omega) heq
              have hbe : (R q == K i) = true := by simp [heq]
              clear HG HS H1 heq
              go_wp2
              go_quiet (fail)
              go_wp2
              go_quiet (fail)
              go_wp2
              go_roundw
              case rel => exact ⟨i + 1, N, _, c', R, by omega, by go_num, rfl, by omega, by first | exact below_drewN HW2.out _ | exact below_drewN (below_drewN HW2.out _) _, by first | exact HO2.out.drewN _ | exact (HO2.out.drewN _).drewN _, HS'⟩
              case measure => simp [intOf]; omega
            · have hbe : (R q == K i) = false := by simp [heq]
              have hlq : R q < K i := by omega
              clear heq
              have HIN : Hid (SrtOf (insK R (q + 1) (K i)) (N + 1) K (i + 1)) := srt_ins HS.out hp HG.out (Or.inr hlq)
              have HSZ : Hid (w.heap.size ≤ (wq.alloc (.cells #[.int .i64 0] 3)).heap.size) := by
                show _ ≤ _
                have := HW2.out.size
                simp; omega
              clear HG HS hlq
              go_wp2
              go_quiet (fail)
              go_wp2
              go_quiet (fail)
              go_wp2_with (at_builtin; refine wpList_app eInt rfl _ _ rfl ((HO2.out.drewN _).alloc _) HSZ.out (one_cell _ _ _) (fun _ _ => rfl) (N + 1) rfl ?_ (ivs (midK R N N)) (cat_zero R N) rfl rfl ?_; omega; intro a3 c3 w3 hO3 hG3)
              have hszw : w.heap.size ≤ wq.heap.size := HW2.out.size
              have HB3 : Hid (Below w.heap.size w w3) := by
                first
                | exact (HW2.out.alloc (by simp; omega) _).grown hG3 (by simp; omega) (fun k' hk' => HO2.out.row k' hk')
                | exact ((below_drewN HW2.out _).alloc (by simp; omega) _).grown hG3 (by simp; omega) (fun k' hk' => HO2.out.row k' hk')
                | exact ((below_drewN (below_drewN HW2.out _) _).alloc (by simp; omega) _).grown hG3 (by simp; omega) (fun k' hk' => HO2.out.row k' hk')
              have HO3 : Hid (Ow 3 w.heap.size w3 (.slice a3 (N + 1) c3) (N + 1) (ivs (midK R N N))) := hO3
              clear hO3 hG3 HO2 HW2 HSZ
              go_loopw [6] (fun v6 wz => ∃ k : Nat, (q + 1) ≤ k ∧ k ≤ N ∧ v6 = .int .i64 k ∧ Hid (Below w.heap.size w wz) ∧ Hid (Ow 3 w.heap.size wz (.slice a3 (N + 1) c3) (N + 1) (ivs (midK R N k)))) (fun v6 _ => (intOf v6).toNat)
              case atStart => exact ⟨N, hp, Nat.le_refl _, rfl, HB3, HO3⟩
              case round =>
                obtain ⟨k, hpk, hkN, rfl, HW4, HO4⟩ := hrel
                rename World => wz
                clear HB3 HO3
                obtain ⟨g3, rfl, hg3, hc3, hf3⟩ := HO4.out.cells (by omega)
                by_cases hkp : (q + 1) < k
                · obtain ⟨q, rfl⟩ : ∃ q, k = q + 1 := ⟨k - 1, by omega⟩
                  have hcq := hc3 q (by omega)
                  have hcs := hc3 (q + 1) (by omega)
                  have hfs := hf3 (q + 1)
                  have k1 : (0 : Int) ≤ (q : Int) := by omega
                  have k2 : (q : Int) < ((N + 1 : Nat) : Int) := by omega
                  obtain ⟨x, hx⟩ : ∃ x, x = midK R N (q + 1) q := ⟨_, rfl⟩
                  have hcq' : wz.cell? ⟨g3, q, none⟩ = some (.int .i64 x) := by rw [hcq, hx]; rfl
                  have HX : Hid (x = midK R N (q + 1) (q + 1 - 1)) := hx
                  clear hc3 hf3 hcq hx
                  go_wp2
                  go_roundw
                  case rel => exact ⟨q, by omega, by omega, by go_num, HW4.out.setCell hg3 _, (HO4.out.put (q + 1) _ (by omega)).congr fun j _ => mid_step R N (q + 1) j (by omega) hkN x HX.out⟩
                  case measure => simp [intOf]
                · obtain rfl : k = (q + 1) := by omega
                  obtain ⟨ga2, oa2, ea, hca⟩ := (H1.out.below HW4.out).at (by omega)
                  obtain ⟨rfl, rfl⟩ : ga = ga2 ∧ oa = oa2 := by simpa using ea
                  have hci := hca i hlt
                  have hcs := hc3 (q + 1) (by omega)
                  have hfs := hf3 (q + 1)
                  unfold ivs at hci
                  have j1 : (0 : Int) ≤ (i : Int) := by omega
                  clear hca hc3 hf3
                  go_wp2
                  go_roundw
                  case rel => exact ⟨i + 1, N + 1, _, c3, insK R (q + 1) (K i), by omega, by go_num, rfl, by omega, HW4.out.setCell hg3 _, (HO4.out.put (q + 1) _ (by omega)).congr fun j _ => mid_end R N (q + 1) j hp (K i), HIN⟩
                  case measure => simp [intOf]; omega
    · obtain rfl : i = n := by omega
      have HR : Hid (∃ v N' R', Ending.returned (Value.slice a' N c') = .returned v ∧ N' ≤ i ∧ Ow 3 w.heap.size wr v N' (ivs R') ∧ SrtOf R' N' K i) := ⟨_, _, R, rfl, hN, HO.out, HS.out⟩
      clear H1 HO HS
      go_wp2
      go_ret
      obtain ⟨v, N', R', e, hN', hO, hS⟩ := HR.out
      cases e
      exact ⟨⟨_, N', R', rfl, hN', hO, hS⟩, HW.out⟩
end Go.Proofs.Yteaajhpgmndomaa
