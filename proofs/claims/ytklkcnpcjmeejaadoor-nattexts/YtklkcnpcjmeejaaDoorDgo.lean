/- nat's digitsOf: bytes read as digits, four at a time. -/
import Derived.Test.YtklkcnpcjmeejaaDoorChk
import Derived.Test.YtklkcnpcjmeejaaDoorDvd
import Derived.Maps.AppendAt
namespace Go.Proofs.YtklkcnpcjmeejaaDoor
open Go.RowKit Go.Shelf Fo
set_option maxRecDepth 100000
attribute [local go_sem] Oper.semAt_some

/-- So many bytes of four, the least first. -/
def pv (L : Nat → Nat) (k : Nat) : Nat → Nat
  | 0 => 0
  | r + 1 => pv L k r + L (4 * k + r) * 2 ^ (8 * r)
/-- The digit of four bytes. -/
def dgt (L : Nat → Nat) (k : Nat) : Nat := pv L k 4
theorem pv_lt (L : Nat → Nat) (hL : ∀ j, L j < 256) (k : Nat) : ∀ r, pv L k r < 2 ^ (8 * r)
  | 0 => by show 0 < 1; decide
  | r + 1 => by
    have ih := pv_lt L hL k r
    have h1 := hL (4 * k + r)
    show pv L k r + L (4 * k + r) * 2 ^ (8 * r) < 2 ^ (8 * (r + 1))
    rw [show 8 * (r + 1) = 8 * r + 8 by omega, Nat.pow_add]
    have h2 : (L (4 * k + r) + 1) * 2 ^ (8 * r) ≤ 256 * 2 ^ (8 * r) := Nat.mul_le_mul_right _ h1
    rw [Nat.add_mul, Nat.one_mul] at h2
    rw [Nat.mul_comm (2 ^ (8 * r))]
    show _ < 256 * 2 ^ (8 * r)
    omega
theorem dgt_lt (L : Nat → Nat) (hL : ∀ j, L j < 256) (k : Nat) : dgt L k < 4294967296 := pv_lt L hL k 4
theorem pv_or (L : Nat → Nat) (hL : ∀ j, L j < 256) (k r : Nat) : pv L k r ||| L (4 * k + r) * 2 ^ (8 * r) = pv L k (r + 1) := by
  have h1 := Nat.two_pow_add_eq_or_of_lt (pv_lt L hL k r) (L (4 * k + r))
  rw [Nat.mul_comm, Nat.or_comm] at h1
  rw [← h1, Nat.add_comm]; rfl
theorem pv_bits (L : Nat → Nat) (hL : ∀ j, L j < 256) (k r : Nat) (hr : r < 4) : bits .or .u32 ((pv L k r : Nat) : Int) (((L (4 * k + r) : Nat) : Int) * 2 ^ (8 * r) % 4294967296) = ((pv L k (r + 1) : Nat) : Int) := by
  have h1 := pv_lt L hL k r
  have h2 : (2 : Nat) ^ (8 * r) ≤ 2 ^ 24 := Nat.pow_le_pow_right (by decide) (by omega)
  have h3 : L (4 * k + r) * 2 ^ (8 * r) ≤ 255 * 2 ^ 24 := Nat.mul_le_mul (by have := hL (4 * k + r); omega) h2
  have h4 : ((L (4 * k + r) : Nat) : Int) * 2 ^ (8 * r) % 4294967296 = ((L (4 * k + r) * 2 ^ (8 * r) : Nat) : Int) := by
    have : ((L (4 * k + r) : Nat) : Int) * 2 ^ (8 * r) = ((L (4 * k + r) * 2 ^ (8 * r) : Nat) : Int) := by simp
    rw [this]; omega
  rw [h4, u32_or_nat _ _ (by omega) (by omega), pv_or L hL k r]
theorem info62 : (Tryd.prog.info? 62).map (fun i => (i.zero, i.size, i.bytes)) = some (some (.int .u32 0), 1, 4) := by kernel_rfl
theorem boxed_from {β : Type} (B n : Nat) (t : TypeId) (v : Value) : OwnFrom n (fun (_ : β) W => Boxed W B t v) := fun s W W' row hs hg hr => hs.kept hg (fun e => by
  obtain ⟨-, o, ho, hc⟩ := hr B e.symm
  rw [show W.heap[B]? = _ from hs] at ho; cases ho; cases hc)
set_option maxHeartbeats 8000000 in
theorem digits_in (b off N cap Len : Nat) (hLen : Hid (Len = 4 * N)) (hN : N ≤ 100000) (L : Nat → Nat) (hL : ∀ j, L j < 256) (w : World) (hr : Rd w (some ⟨b, off, none⟩) Len cap (u8s L)) :
    CallsIn Fence.wide 10 Tryd.prog 41 #[.slice (some ⟨b, off, none⟩) Len cap] w fun e w' => (∃ v, e = .returned v ∧ w'.ownsRow w.heap.size 62 1 v N ((List.finRange N).map fun x => .int .u32 (dgt L x.1 : Int))) ∧ Below w.heap.size w w' := by
  obtain ⟨i0, hi, hz0, hz1, hz2⟩ := info_parts info62
  have HR : Hid (Rd w (some ⟨b, off, none⟩) Len cap (u8s L)) := hr
  have HL : Hid (∀ j, L j < 256) := hL
  have hcap : Len ≤ cap := hr.1
  have hcm : cap ≤ 9223372036854775807 := hr.2.1
  clear hr hL
  refine callsIn_of_wp_marks Tryd.func41 rfl trivial ?_ rfl
  simp only [Tryd.ntmps41, List.size_toArray, List.length_cons, List.length_nil, Nat.reduceAdd, Nat.reduceSub, Array.replicate_succ, Array.replicate_zero, List.push_toArray, List.append_toArray, List.nil_append, List.cons_append]
  gi_wp2
  refine ⟨trivial, ?_⟩
  refine (chunk_in Fence.wide _ trivial rfl _ _ _ _).mono ?_
  rintro e w' ⟨rfl, rfl⟩
  have bO := Boxed.new w 22 (.slice none 0 0)
  have bS := Boxed.new (w.alloc (.cells #[.slice none 0 0] 22)) 34 (.slice (some ⟨b, off, none⟩) Len cap)
  have bN := Boxed.new ((w.alloc (.cells #[.slice none 0 0] 22)).alloc (.cells #[.slice (some ⟨b, off, none⟩) Len cap] 34)) 3 (.int .i64 4)
  simp only [World.size_alloc] at bS bN
  have hB0 : Below w.heap.size w (((w.alloc (.cells #[.slice none 0 0] 22)).alloc (.cells #[.slice (some ⟨b, off, none⟩) Len cap] 34)).alloc (.cells #[.int .i64 4] 3)) := below3 w _ _ _
  have HR0 : Hid (∀ j, j < Len → w.cell? ⟨b, off + j, none⟩ = some (.int .u8 (L j : Int))) := fun j hj => by
    obtain ⟨b', off', e, hc⟩ := HR.out.at (by omega)
    obtain ⟨rfl, rfl⟩ : b = b' ∧ off = off' := by simpa using e
    exact hc j hj
  gi_wp2
  refine wpIn_rangeFunc_ownG rfl (by decide) (gf := 63) (lb := #[.pointer (some ⟨w.heap.size + 1, 0, none⟩), .pointer (some ⟨w.heap.size + 1 + 1, 0, none⟩)]) rfl trivial (enters_of Tryd.func63 (by kernel_rfl) rfl)
    (chunk_stops Fence.wide 9 trivial rfl (by decide) (w.heap.size + 1) (w.heap.size + 1 + 1) b off N cap Len hLen hN hcap hcm _ (by simp) (by simp) (bS.alloc _).cell bN.cell) KR.trans
    (fun W l o o' hl ho _ _ => ⟨World.putObj_heap_other (by simp at hl; omega), World.putObj_heap_other (by simp at hl; omega)⟩) (Below.refl _ _) (fun _ => rfl)
    (fun pre W => (∃ v, Boxed W w.heap.size 22 v ∧ W.ownsRow w.heap.size 62 1 v pre.length (pre.map fun x : Fin N => Value.int .u32 (dgt L x.1 : Int)) ∧ True) ∧ Below w.heap.size w W ∧ Boxed W (w.heap.size + 1) 34 (.slice (some ⟨b, off, none⟩) Len cap) ∧ Boxed W (w.heap.size + 1 + 1) 3 (.int .i64 4))
    (fun _ _ _ => False)
    (OwnFrom.and (Own.from (holdsRow_own w.heap.size w.heap.size 22 62 1 (fun pre : List (Fin N) => pre.length) (fun pre : List (Fin N) => pre.map fun x : Fin N => Value.int .u32 (dgt L x.1 : Int)) (fun _ _ => True)) _) (OwnFrom.and (ownFrom_below (Nat.le_refl _) (by simp; omega)) (OwnFrom.and (boxed_from _ _ _ _) (boxed_from _ _ _ _))))
    (fun _ _ _ _ _ hs _ _ => hs)
    ⟨⟨_, (bO.alloc _).alloc _, World.ownsRow_nil _ _ _ _, trivial⟩, hB0, bS.alloc _, bN⟩
    (fun x => { tmps := #[.slice (some ⟨b, off, none⟩) Len cap, undef, .pointer (some ⟨w.heap.size, 0, none⟩), .slice (some ⟨b, off + 4 * x.1, none⟩) 4 4, undef, undef, undef, .slice (some ⟨b, off, none⟩) Len cap, .func (.func 63) #[] #[.pointer (some ⟨w.heap.size + 1, 0, none⟩), .pointer (some ⟨w.heap.size + 1 + 1, 0, none⟩)], .slice (some ⟨b, off + 4 * x.1, none⟩) 4 4, undef, undef, undef, undef, undef, undef, undef, undef, undef, undef, undef, undef, undef, undef, undef, undef, undef, undef, undef, undef], defers := [] }) ?assign ?body ?done ?stop
  case assign =>
    intro l x W K hK
    gi_wp2
    exact hK
  case body =>
    rintro l pre x W ⟨⟨v, hv, hrow, -⟩, hB, hbS, hbN⟩ hlt
    have hc := hv.cell
    obtain ⟨k, hk⟩ := x
    dsimp only
    have hcs : ∀ r, r < 4 → W.cell? ⟨b, off + 4 * k + r, none⟩ = some (.int .u8 (L (4 * k + r) : Int)) := fun r hr => by
      have hj : 4 * k + r < Len := by have := hLen.out; omega
      have h1 := HR0.out (4 * k + r) hj
      rw [Nat.add_assoc, hB.cell (World.block_lt_of_cell? w _ h1)]
      exact h1
    have HCS : Hid (∀ r, r < 4 → W.cell? ⟨b, off + 4 * k + r, none⟩ = some (.int .u8 (L (4 * k + r) : Int))) := hcs
    clear hcs
    gi_wp2
    gi_loopw [4, 12] (fun v4 v12 wq => ∃ r : Nat, r ≤ 4 ∧ v12 = .int .i64 r ∧ v4 = .int .u32 (pv L k r : Int) ∧ wq = W) (fun _ v12 _ => 4 - (intOf v12).toNat)
    case atStart => exact ⟨0, by decide, rfl, rfl, rfl⟩
    case round =>
      obtain ⟨r, hr, rfl, rfl, rfl⟩ := hrel
      by_cases hr4 : r < 4
      · have hck := HCS.out r hr4
        obtain ⟨x, hx⟩ : ∃ x, x = L (4 * k + r) := ⟨_, rfl⟩
        rw [← hx] at hck
        have hx256 : x < 256 := by rw [hx]; exact HL.out _
        have i1 : (0 : Int) ≤ (r : Int) := by omega
        have i2 : (r : Int) < 4 := by omega
        have hpb := pv_bits L HL.out k r hr4
        rw [← hx] at hpb
        clear hx
        gi_wp2
        go_roundw
        case rel => exact ⟨r + 1, by omega, by go_num, rfl, trivial⟩
        case measure => simp [intOf]; omega
      · obtain rfl : r = 4 := by omega
        gi_wp2_with (gi_at_builtin; refine wpListIn_append_own _ rfl _ _ 22 rfl w.heap.size 62 i0 (.int .u32 0) 1 4 Tryd.underlying22 hi hz0 hz1 hz2 rfl (by decide) _ _ _ rfl (hrow.alloc _) ⟨wr.heap.size, 0, none⟩ 1 1 [.int .u32 (pv L k 4 : Int)] rfl rfl (cell_one_new _ _ _) (by simp [Value.oneCell']) (by unfold maxLen; omega) (by omega) (by have := hB.size; simp; omega) ?_; intro v' w1 hown' hgrow _; obtain ⟨g', cap', rfl⟩ := ownsRow_succ hown'; obtain ⟨hv1, hv2, hr2, hk2, hb2⟩ := hv.appended (by decide) hrow hB.size (Nat.le_refl _) hown' hgrow; have hc1 := hv1.cell; have hf1 := hv1.frozen)
        have hlS := hbS.lt
        have hlN := hbN.lt
        have kS : (w1.setCell ⟨w.heap.size, 0, none⟩ (.slice (some ⟨g', 0, none⟩) (pre.length + 1) cap')).heap[w.heap.size + 1]? = wr.heap[w.heap.size + 1]? := (Below.heap_setCell w1 _ _ _ (by simp)).trans ((hgrow.block _ (by simp; omega) (hbS.not_row (by decide) hrow)).trans (Below.heap_alloc _ _ _ hlS))
        have kN : (w1.setCell ⟨w.heap.size, 0, none⟩ (.slice (some ⟨g', 0, none⟩) (pre.length + 1) cap')).heap[w.heap.size + 1 + 1]? = wr.heap[w.heap.size + 1 + 1]? := (Below.heap_setCell w1 _ _ _ (by simp; omega)).trans ((hgrow.block _ (by simp; omega) (hbN.not_row (by decide) hrow)).trans (Below.heap_alloc _ _ _ hlN))
        exact ⟨hk2.from _, ⟨kS, kN⟩, ⟨_, hv2, by rw [List.length_append, List.map_append]; exact hr2, trivial⟩, hB.trans hb2, kS.trans hbS, kN.trans hbN⟩
  case done =>
    rintro D ys W hD rfl ⟨⟨v, hv, hrow, -⟩, hB, hbS, hbN⟩ hK
    have hc := hv.cell
    have hf := hv.frozen
    obtain ⟨a', n', c', rfl⟩ : ∃ a' n' c', v = .slice a' n' c' := by
      rcases hrow.2 with ⟨rfl, -⟩ | ⟨g, cap, cur, rfl, -⟩
      · exact ⟨_, _, _, rfl⟩
      · exact ⟨_, _, _, rfl⟩
    gi_wp2
    have hD' : w.heap.size + 3 ≤ D := by simp at hD; omega
    have hK' : (W.setCell ⟨w.heap.size, 0, none⟩ (.slice a' n' c')).heap[D]? = some (.deferred (some [])) := (Below.heap_setCell W _ _ D (by show D ≠ w.heap.size; omega)).trans hK
    have hrow' := hrow.kept (grownBy_setCell' W w.heap.size (.slice a' n' c')) (.inr (hv.not_row (by decide) hrow).symm)
    have hB' : Below w.heap.size w (W.setCell ⟨w.heap.size, 0, none⟩ (.slice a' n' c')) := hB.setCell (p := ⟨w.heap.size, 0, none⟩) (Nat.le_refl _) _
    have hce : ((W.setCell ⟨w.heap.size, 0, none⟩ (.slice a' n' c')).putObj D (.deferred none)).cell? ⟨w.heap.size, 0, none⟩ = some (.slice a' n' c') := by
      rw [World.cell?_of_block (w := W.setCell ⟨w.heap.size, 0, none⟩ (.slice a' n' c')) (World.putObj_heap_other (by show w.heap.size ≠ D; omega))]
      exact (hv.set _).cell
    refine ⟨by simp, .inl ⟨_, _, rfl, run_takeDeferred hK', ?_⟩⟩
    refine ⟨_, by simp [results, Tryd.results41, go_sem, hce]; rfl, ⟨_, rfl, ?_⟩, hB'.trans (belowK_b (w := w) (Nat.le_refl _) _ D _ _ (by omega) hK' rfl rfl)⟩
    have := ownsRow_putObj hrow' (.deferred none) hK' rfl
    simpa using this
  case stop =>
    rintro D c pre W _ _ h _
    exact h.elim
/-- nat's digitsOf. -/
theorem digits_any (b off N cap Len : Nat) (hLen : Len = 4 * N) (hN : N ≤ 100000) (L : Nat → Nat) (hL : ∀ j, L j < 256) (w : World) (hr : Rd w (some ⟨b, off, none⟩) Len cap (u8s L)) :
    Calls Tryd.prog 41 #[.slice (some ⟨b, off, none⟩) Len cap] w fun e w' => (∃ a' c', e = .returned (.slice a' N c') ∧ Rd w' a' N c' (u32s (dgt L))) ∧ Below w.heap.size w w' := by
  refine (callsIn_wide.1 (digits_in b off N cap Len hLen hN L hL w hr)).mono ?_
  rintro e w' ⟨⟨v, rfl, ho⟩, hB⟩
  have ho' : Ow 62 w.heap.size w' v N (u32s (dgt L)) := by
    unfold Ow
    have : (List.finRange N).map (fun x => Value.int .u32 (dgt L x.1 : Int)) = fl (u32s (dgt L)) N := by
      apply List.ext_getElem
      · simp [fl]
      · intro i h1 h2
        simp [fl, u32s]
    rw [← this]; exact ho
  obtain ⟨a', c', rfl, hr'⟩ := ho'.rd
  exact ⟨⟨a', c', rfl, hr'⟩, hB⟩
end Go.Proofs.YtklkcnpcjmeejaaDoor
