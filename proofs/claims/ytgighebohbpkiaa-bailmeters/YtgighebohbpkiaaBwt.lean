/- weight of a program. -/
import Derived.Test.YtgighebohbpkiaaBpl
namespace Go.Proofs.Ytgighebohbpkiaa
open Go.RowKit Fo
set_option maxRecDepth 100000
set_option linter.unusedSimpArgs false

namespace Fo
/-- A node whose kids lie in memory, to a depth. -/
def Wf (K : NV → Nat → NV) (w : World) : Nat → NV → Prop
  | 0, _ => True
  | k + 1, x => NRow w x (K x) ∧ ∀ j, j < x.len → Wf K w k (K x j)
theorem Wf.below {K : NV → Nat → NV} {w w' : World} (hb : Below w.heap.size w w') : ∀ {k : Nat} {x : NV}, Wf K w k x → Wf K w' k x
  | 0, _, _ => trivial
  | _ + 1, _, h => ⟨h.1.below hb, fun j hj => Wf.below hb (h.2 j hj)⟩
def InvW (W : Int) (s : Nat) : Prop := 1 ≤ W ∧ W ≤ 1099511627776 ∧ (W = (s : Int) ∨ (200 < W ∧ 200 < s))
def SumR (n x W : Int) : Prop := (n + x ≤ 1099511627776 → W = n + x) ∧ (1099511627776 < n + x → W = 1099511627776)
theorem inv_sum {n x W : Int} {s t : Nat} (h : InvW n s) (k : InvW x t) (hw : SumR n x W) : InvW W (s + t) := by
  obtain ⟨h1, h2, h3⟩ := h
  obtain ⟨k1, k2, k3⟩ := k
  obtain ⟨w1, w2⟩ := hw
  unfold InvW
  by_cases q : n + x ≤ 1099511627776
  · have := w1 q; omega
  · have := w2 (by omega); omega
end Fo
set_option maxHeartbeats 4000000 in
theorem sum_any (w : World) (n x : Int) (b : Nat) (hx : w.cell? ⟨b, 0, none⟩ = some (.int .i64 x)) (h1 : 0 ≤ n ∧ n ≤ 1099511627776) (h2 : 0 ≤ x ∧ x ≤ 1099511627776) :
    Calls Try.prog 36 #[.int .i64 n, .slice (some ⟨b, 0, none⟩) 1 1] w fun e w' => (∃ W, e = .returned (.int .i64 W) ∧ SumR n x W) ∧ w' = w := by
  obtain ⟨n1, n2⟩ := h1
  obtain ⟨x1, x2⟩ := h2
  have HX : Hid (w.cell? ⟨b, 0, none⟩ = some (.int .i64 x)) := hx
  clear hx
  go_enter Try.func36, Try.ntmps36
  go_wp2
  go_loopw [0, 5] (fun v0 v5 wr => wr = w ∧ ((v5 = .int .i64 0 ∧ v0 = .int .i64 n) ∨ (v5 = .int .i64 1 ∧ v0 = .int .i64 (n + x) ∧ Hid (n + x ≤ 1099511627776)))) (fun _ v _ => 1 - (intOf v).toNat)
  case atStart => exact ⟨rfl, Or.inl ⟨rfl, rfl⟩⟩
  case round =>
    obtain ⟨rfl, ⟨rfl, rfl⟩ | ⟨rfl, rfl, HQ⟩⟩ := hrel
    · have hx := HX.out
      by_cases hs : 1099511627776 - n < x
      · go_wp2
        go_ret
        exact ⟨⟨_, rfl, fun h => by omega, fun _ => rfl⟩, rfl⟩
      · go_wp2
        exact ⟨⟨trivial, Or.inr ⟨rfl, rfl, by show n + x ≤ 1099511627776; omega⟩⟩, by simp [intOf]⟩
    · have hq := HQ.out
      go_wp2
      go_ret
      exact ⟨⟨_, rfl, fun _ => rfl, fun h => by omega⟩, rfl⟩
set_option maxHeartbeats 4000000 in
theorem weight_deep (w : World) (x : NV) : Calls Try.prog 8 #[x.v, .int .i64 13] w fun e w' => (∃ W, e = .returned (.int .i64 W) ∧ InvW W 1073741824) ∧ Below w.heap.size w w' := by
  obtain ⟨kind, code, n, a, len, cap⟩ := x
  unfold NV.v
  go_enter Try.func8, Try.ntmps8
  go_wp2
  go_ret
  exact ⟨⟨_, rfl, by decide, by decide, Or.inl rfl⟩, below1 w _⟩
set_option maxHeartbeats 16000000 in
theorem weight_step (K : NV → Nat → NV) (k : Nat) (hk : k ≤ 12) (IH : ∀ (x : NV) (w : World), Wf K w k x → Calls Try.prog 8 #[x.v, .int .i64 (13 - k)] w fun e w' => (∃ W, e = .returned (.int .i64 W) ∧ InvW W (sz K k x)) ∧ Below w.heap.size w w')
    (x : NV) (w : World) (h : Wf K w (k + 1) x) : Calls Try.prog 8 #[x.v, .int .i64 (12 - k)] w fun e w' => (∃ W, e = .returned (.int .i64 W) ∧ InvW W (sz K (k + 1) x)) ∧ Below w.heap.size w w' := by
  obtain ⟨hr, hw⟩ := h
  have HWf : Hid (∀ j, j < x.len → Wf K w k (K x j)) := hw
  have HR : Hid (NRow w x (K x)) := hr
  have HIH : Hid (∀ (x : NV) (w : World), Wf K w k x → Calls Try.prog 8 #[x.v, .int .i64 (13 - k)] w fun e w' => (∃ W, e = .returned (.int .i64 W) ∧ InvW W (sz K k x)) ∧ Below w.heap.size w w') := IH
  obtain ⟨ms, hms⟩ : ∃ ms : Nat → Nat, ms = fun j => sz K k (K x j) := ⟨_, rfl⟩
  have HMS : Hid (ms = fun j => sz K k (K x j)) := hms
  have hsz : sz K (k + 1) x = 1 + sumTo ms x.len := by rw [hms]; rfl
  have HSZ : Hid (sz K (k + 1) x = 1 + sumTo ms x.len) := hsz
  obtain ⟨KV, hKV⟩ : ∃ KV, KV = K x := ⟨_, rfl⟩
  have HKV : Hid (KV = K x) := hKV
  obtain ⟨kind, code, n, a, len, cap⟩ := x
  rw [← hKV] at HR HWf
  clear hr hw IH hms hKV hsz
  unfold NV.v
  obtain ⟨W1, hW1⟩ : ∃ W1, W1 = w.alloc (.cells #[.int .i64 kind, .int .i64 code, .int .i64 n, .slice a len cap] 24) := ⟨_, rfl⟩
  have HB1 : Hid (Below w.heap.size w W1) := by rw [hW1]; exact below1 w _
  have HG1 : Hid (W1.heap[w.heap.size]? = some (.cells #[.int .i64 kind, .int .i64 code, .int .i64 n, .slice a len cap] 24)) := by show W1.heap[_]? = _; rw [hW1]; exact heap_new1 w _
  have hl1 := HR.out.1
  have hl2 := HR.out.2.1
  simp only at hl1 hl2
  have hd : (12 - (k : Int)) ≤ 12 := by omega
  go_enter Try.func8, Try.ntmps8
  go_wp2
  rw [← hW1]
  clear hW1
  go_loopw [5, 6] (fun v5 v6 wr => ∃ (i : Nat) (W : Int), i ≤ len ∧ v5 = .int .i64 W ∧ v6 = .int .i64 i ∧ Hid (Below w.heap.size w wr) ∧ Hid (wr.heap[w.heap.size]? = some (.cells #[.int .i64 kind, .int .i64 code, .int .i64 n, .slice a len cap] 24)) ∧ Hid (InvW W (1 + sumTo ms i))) (fun _ v _ => len - (intOf v).toNat)
  case atStart => exact ⟨0, 1, Nat.zero_le _, rfl, rfl, HB1.out, HG1.out, by decide, by decide, Or.inl rfl⟩
  case round =>
    obtain ⟨i, W, hi, rfl, rfl, HB, HG, HI⟩ := hrel
    rename World => wr
    have e3 : wr.cell? ⟨w.heap.size, 3, none⟩ = some (.slice a len cap) := by rw [cell_of_row _ _ _ _ _ _ HG.out]; rfl
    clear HB1 HG1
    by_cases hlt : i < len
    · by_cases hW : W < 1000
      · obtain ⟨b, off, hab, hc⟩ := (HR.out.below HB.out).2.2.resolve_left (by simp only; omega)
        simp only at hab
        subst hab
        obtain ⟨c0, c1, c2, c3⟩ := hc i hlt
        have HWk : Hid (Wf K wr k (KV i)) := (HWf.out i hlt).below HB.out
        have hmi : ms i = sz K k (KV i) := by rw [HMS.out, HKV.out]
        have HMI : Hid (ms i = sz K k (KV i)) := hmi
        clear hc hmi
        obtain ⟨y, hy⟩ : ∃ y, y = KV i := ⟨_, rfl⟩
        rw [← hy] at c0 c1 c2 c3 HWk HMI
        clear hy
        obtain ⟨k0, k1, k2, k3, k4, k5⟩ := y
        simp only at c0 c1 c2 c3
        have j1 : (0 : Int) ≤ (i : Int) := by omega
        have j2 : (i : Int) < (len : Int) := by omega
        go_wp2_with (go_at_call 8; fail)
        rw [show (12 - (k : Int) + 1) = 13 - k by omega]
        refine (HIH.out ⟨k0, k1, k2, k3, k4, k5⟩ wr HWk.out).mono ?_
        rintro e w2 ⟨⟨X, rfl, hx⟩, b2⟩
        rw [← HMI.out] at hx
        have HX : Hid (InvW X (ms i)) := hx
        have HB2 : Hid (Below w.heap.size w w2) := below_step HB.out b2
        have HG2 : Hid (w2.heap[w.heap.size]? = some (.cells #[.int .i64 kind, .int .i64 code, .int .i64 n, .slice (some ⟨b, off, none⟩) len cap] 24)) := (b2.block _ (lt_of_heap HG.out)).trans HG.out
        clear hx b2 c0 c1 c2 c3 e3
        go_wp2_with (go_at_call 36; fail)
        have hI := HI.out
        have hX := HX.out
        refine (sum_any _ W X w2.heap.size (by rw [cell_of_row _ _ _ _ _ _ (heap_new1 w2 _)]; rfl) ⟨by have := hI.1; omega, hI.2.1⟩ ⟨by have := hX.1; omega, hX.2.1⟩).mono ?_
        rintro e w3 ⟨⟨Y, rfl, hy⟩, rfl⟩
        have HY : Hid (InvW Y (1 + sumTo ms (i + 1))) := by
          have := inv_sum hI hX hy
          rwa [Nat.add_assoc] at this
        clear hy hI hX
        go_wp2
        exact ⟨⟨i + 1, Y, by omega, rfl, by simp, HB2.out.alloc HB2.out.size _, ((below1 w2 _).block _ (lt_of_heap HG2.out)).trans HG2.out, HY.out⟩, by simp [intOf]; omega⟩
      · have j2 : (i : Int) < (len : Int) := by omega
        have HE : Hid (InvW W (1 + sumTo ms len)) := by
          obtain ⟨q1, q2, q3⟩ := HI.out
          have := sumTo_mono ms hi
          refine ⟨q1, q2, Or.inr ?_⟩
          omega
        go_wp2
        go_ret
        exact ⟨⟨_, rfl, by rw [HSZ.out]; exact HE.out⟩, HB.out⟩
    · have hn : i = len := by omega
      subst hn
      go_wp2
      go_ret
      exact ⟨⟨_, rfl, by rw [HSZ.out]; exact HI.out⟩, HB.out⟩
theorem weight_any (K : NV → Nat → NV) : ∀ (k : Nat) (_ : k ≤ 13) (x : NV) (w : World), Wf K w k x → Calls Try.prog 8 #[x.v, .int .i64 (13 - k)] w fun e w' => (∃ W, e = .returned (.int .i64 W) ∧ InvW W (sz K k x)) ∧ Below w.heap.size w w'
  | 0, _, x, w, _ => weight_deep w x
  | k + 1, hk, x, w, h => by
    have := weight_step K k (by omega) (weight_any K k (by omega)) x w h
    rwa [show (12 - (k : Int)) = 13 - ((k + 1 : Nat) : Int) by omega] at this
end Go.Proofs.Ytgighebohbpkiaa
