/- does: what it notes by itself. -/
import Derived.Test.YtgighebohbpkiaaBws
namespace Go.Proofs.Ytgighebohbpkiaa
open Go.RowKit Fo
set_option maxRecDepth 100000
set_option linter.unusedSimpArgs false

namespace Fo
/-- does, of a node, from w0 on: what it leaves and how it ends. -/
def DoesP (M : (Nat → Prop) → World → Value → Int → Prop) (w0 : World) (bw : Nat) (nv : NV) (r : Run) (m : Nat) : Prop :=
  ∀ (F : Nat → Prop) (w : World) (x : St), Below w0.heap.size w0 w → WS M w0.heap.size bw F w x → x.notes.length + m ≤ 99990 → InR x → Calls Try.prog 14 #[.pointer (some ⟨bw, 0, none⟩), nv.v] w (Fins (WS M w0.heap.size bw) F w (r x).1 (r x).2)
end Fo
set_option maxHeartbeats 16000000 in
theorem cl2_plays {M : (Nat → Prop) → World → Value → Int → Prop} (D : MeterSays M) (lo bw b1 b2 : Nat) (F : Nat → Prop) (w : World) (x y : St) (r : En) (kind code n : Int) (na : Option Addr) (len cap : Nat) (V : Nat → NV) (h1 : w.heap[b1]? = some (.cells #[.pointer (some ⟨bw, 0, none⟩)] 27)) (h2 : w.heap[b2]? = some (.cells #[.int .i64 kind, .int .i64 code, .int .i64 n, .slice na len cap] 24)) (n1 : ¬ F b1) (n2 : ¬ F b2) (hr : NRow w ⟨kind, code, n, na, len, cap⟩ V) (hs : WS M lo bw F w x) (kv : Value) (hkv : (if 0 < len then (V 0).v else NV.zero.v) = kv)
    (hd : ∀ w1, Below w.heap.size w w1 → WS M lo bw F w1 x → Calls Try.prog 14 #[(.pointer (some ⟨bw, 0, none⟩)), kv] w1 (Fins (WS M lo bw) F w1 r y)) :
    Plays Try.prog 43 #[.pointer (some ⟨b1, 0, none⟩), .pointer (some ⟨b2, 0, none⟩)] w (Fins (WS M lo bw) F w r y) := by
  refine ⟨_, _, Try.func43, rfl, ?_⟩
  simp only [Try.ntmps43, List.size_toArray, List.length_cons, List.length_nil, Nat.reduceAdd, Nat.reduceSub, Array.replicate_succ, Array.replicate_zero, List.push_toArray, List.append_toArray, List.nil_append, List.cons_append]
  have H1 : Hid (w.heap[b1]? = some (.cells #[.pointer (some ⟨bw, 0, none⟩)] 27)) := h1
  have H2 : Hid (w.heap[b2]? = some (.cells #[.int .i64 kind, .int .i64 code, .int .i64 n, .slice na len cap] 24)) := h2
  have HR : Hid (NRow w ⟨kind, code, n, na, len, cap⟩ V) := hr
  have HS : Hid (WS M lo bw F w x) := hs
  have HD : Hid (∀ w1, Below w.heap.size w w1 → WS M lo bw F w1 x → Calls Try.prog 14 #[(.pointer (some ⟨bw, 0, none⟩)), kv] w1 (Fins (WS M lo bw) F w1 r y)) := hd
  have HKV : Hid ((if 0 < len then (V 0).v else NV.zero.v) = kv) := hkv
  clear h1 h2 hr hs hd hkv
  refine wp_region_held_drew (S := (fun w' => Kp F w w')) (by kernel_rfl) ?_ (fun hHeld => ?_)
  · (try dsimp only); exact Kp.of_below (below_refl w).drew
  refine wpAnyH_take (i := 0) (oi := { dst := some 2, op := Op.load 27 (Operand.tmp 0), type := 27, pos := "law.go:56", after := #[], guard := none }) (v := ?vu6) rfl (by kernel_rfl) (by kernel_rfl) (by kernel_rfl) (fun _ _ _ h => bp_put _ _ _ h) (Or.inl ⟨by rfl, ?hyu6⟩) (by assumption) ?restu6
  case hyu6 => (intro wz hSw; (try dsimp only at hSw); have q0 := cell_of_row _ _ 0 _ _ _ (hSw.heap H1.out n1); have q1 := cell_of_row _ _ 0 _ _ _ (hSw.heap H2.out n2); have q2 := cell_of_row _ _ 1 _ _ _ (hSw.heap H2.out n2); have q3 := cell_of_row _ _ 2 _ _ _ (hSw.heap H2.out n2); have q4 := cell_of_row _ _ 3 _ _ _ (hSw.heap H2.out n2); (try simp only [List.getElem?_toArray, List.getElem?_cons_zero, List.getElem?_cons_succ] at q0 q1 q2 q3 q4); go_simp; (try with_reducible rfl))
  try simp only [Act.put, List.setIfInBounds_toArray, List.set_cons_zero, List.set_cons_succ]
  refine wpAnyH_take (i := 1) (oi := { dst := some 3, op := Op.load 24 (Operand.tmp 1), type := 24, pos := "law.go:56", after := #[], guard := none }) (v := ?vu7) rfl (by kernel_rfl) (by kernel_rfl) (by kernel_rfl) (fun _ _ _ h => bp_put _ _ _ h) (Or.inl ⟨by rfl, ?hyu7⟩) (by assumption) ?restu7
  case hyu7 => (intro wz hSw; (try dsimp only at hSw); have q0 := cell_of_row _ _ 0 _ _ _ (hSw.heap H1.out n1); have q1 := cell_of_row _ _ 0 _ _ _ (hSw.heap H2.out n2); have q2 := cell_of_row _ _ 1 _ _ _ (hSw.heap H2.out n2); have q3 := cell_of_row _ _ 2 _ _ _ (hSw.heap H2.out n2); have q4 := cell_of_row _ _ 3 _ _ _ (hSw.heap H2.out n2); (try simp only [List.getElem?_toArray, List.getElem?_cons_zero, List.getElem?_cons_succ] at q0 q1 q2 q3 q4); go_simp; (try with_reducible rfl))
  try simp only [Act.put, List.setIfInBounds_toArray, List.set_cons_zero, List.set_cons_succ]
  refine wpAnyH_ready (rs := [2]) (by kernel_rfl) (by simp) ?_
  refine AllReadyH.cons (o := { dst := some 4, op := Op.call { callee := Callee.value (Operand.func 39), args := #[Operand.tmp 3, Operand.const (Value.int IntKind.i64 0)], argTypes := #[24, 3] }, type := 24, pos := "law.go:56", after := #[{ on := 1, ground := Ground.data }], guard := none }) rfl (fun K hK => ?_) AllReadyH.nil
  go_simp
  go_at_call 39
  refine (kid_any w.drew ⟨kind, code, n, na, len, cap⟩ V 0 (HR.out.below (below_refl w).drew) (by decide)).mono ?_
  rintro e w2 ⟨he2, b2⟩
  replace he2 : e = .returned kv := he2.trans (congrArg Ending.returned HKV.out)
  subst he2
  have HB2 : Hid (Below w.heap.size w w2) := (below_refl w).drew.trans b2
  have HK2 : Hid (Kp F w w2) := Kp.of_below HB2.out
  clear b2
  refine hK.out _ _ ?_ (fun hHeldB => ?_)
  · (try dsimp only); first | exact HK2.out | exact HK3.out
  clear hK K hHeld
  have hHeld := hHeldB
  clear hHeldB
  try simp only [Act.put, List.setIfInBounds_toArray, List.set_cons_zero, List.set_cons_succ]
  refine wpAnyH_ready (rs := [3]) (by kernel_rfl) (by simp) ?_
  refine AllReadyH.cons (o := { dst := some 5, op := Op.call { callee := Callee.value (Operand.func 14), args := #[Operand.tmp 2, Operand.tmp 4], argTypes := #[27, 24] }, type := 0, pos := "law.go:56", after := #[{ on := 0, ground := Ground.data }, { on := 2, ground := Ground.data }, { on := 2, ground := Ground.chain }], guard := none }) rfl (fun K hK => ?_) AllReadyH.nil
  go_simp
  go_at_call 14
  refine (HD.out w2 HB2.out ((ws_st D lo bw).below HS.out HB2.out)).mono ?_
  rintro e w3 hfin
  have HFin : Hid (Fins (WS M lo bw) F w r y e w3) := hfin.of_below HB2.out
  obtain ⟨G, hl, he⟩ := hfin
  have HK3 : Hid (Kp F w w3) := HK2.out.trans hl.2.2 fun _ _ h => h
  rcases he with ⟨hr, rfl⟩ | ⟨v, old, rfl, ho, hv⟩
  case inr => exact ⟨rfl, HFin.out⟩
  clear hl hr
  refine hK.out _ _ ?_ (fun hHeldB => ?_)
  · (try dsimp only); first | exact HK3.out | exact HK2.out
  clear hK K hHeld
  have hHeld := hHeldB
  clear hHeldB
  try simp only [Act.put, List.setIfInBounds_toArray, List.set_cons_zero, List.set_cons_succ]
  refine wpAnyH_done (by kernel_rfl) ?_ _
  go_wp2
  go_end0
  exact HFin.out
theorem fnv_cl2 (cap : Array Value) : Fnv Try.prog 43 cap := enters_of Try.func43 (by kernel_rfl) rfl cap
set_option maxHeartbeats 16000000 in
theorem cl3_plays {M : (Nat → Prop) → World → Value → Int → Prop} (D : MeterSays M) (lo bw b1 b2 : Nat) (F : Nat → Prop) (w : World) (x y : St) (r : En) (kind code n : Int) (na : Option Addr) (len cap : Nat) (V : Nat → NV) (h1 : w.heap[b1]? = some (.cells #[.pointer (some ⟨bw, 0, none⟩)] 27)) (h2 : w.heap[b2]? = some (.cells #[.int .i64 kind, .int .i64 code, .int .i64 n, .slice na len cap] 24)) (n1 : ¬ F b1) (n2 : ¬ F b2) (hr : NRow w ⟨kind, code, n, na, len, cap⟩ V) (hs : WS M lo bw F w x) (kv : Value) (hkv : (if 0 < len then (V 0).v else NV.zero.v) = kv)
    (hd : ∀ w1, Below w.heap.size w w1 → WS M lo bw F w1 x → Calls Try.prog 14 #[(.pointer (some ⟨bw, 0, none⟩)), kv] w1 (Fins (WS M lo bw) F w1 r y)) :
    Plays Try.prog 44 #[.pointer (some ⟨b1, 0, none⟩), .pointer (some ⟨b2, 0, none⟩)] w (Fins (WS M lo bw) F w r y) := by
  refine ⟨_, _, Try.func44, rfl, ?_⟩
  simp only [Try.ntmps44, List.size_toArray, List.length_cons, List.length_nil, Nat.reduceAdd, Nat.reduceSub, Array.replicate_succ, Array.replicate_zero, List.push_toArray, List.append_toArray, List.nil_append, List.cons_append]
  have H1 : Hid (w.heap[b1]? = some (.cells #[.pointer (some ⟨bw, 0, none⟩)] 27)) := h1
  have H2 : Hid (w.heap[b2]? = some (.cells #[.int .i64 kind, .int .i64 code, .int .i64 n, .slice na len cap] 24)) := h2
  have HR : Hid (NRow w ⟨kind, code, n, na, len, cap⟩ V) := hr
  have HS : Hid (WS M lo bw F w x) := hs
  have HD : Hid (∀ w1, Below w.heap.size w w1 → WS M lo bw F w1 x → Calls Try.prog 14 #[(.pointer (some ⟨bw, 0, none⟩)), kv] w1 (Fins (WS M lo bw) F w1 r y)) := hd
  have HKV : Hid ((if 0 < len then (V 0).v else NV.zero.v) = kv) := hkv
  clear h1 h2 hr hs hd hkv
  refine wp_region_held_drew (S := (fun w' => Kp F w w')) (by kernel_rfl) ?_ (fun hHeld => ?_)
  · (try dsimp only); exact Kp.of_below (below_refl w).drew
  refine wpAnyH_take (i := 0) (oi := { dst := some 2, op := Op.load 27 (Operand.tmp 0), type := 27, pos := "law.go:60", after := #[], guard := none }) (v := ?vu8) rfl (by kernel_rfl) (by kernel_rfl) (by kernel_rfl) (fun _ _ _ h => bp_put _ _ _ h) (Or.inl ⟨by rfl, ?hyu8⟩) (by assumption) ?restu8
  case hyu8 => (intro wz hSw; (try dsimp only at hSw); have q0 := cell_of_row _ _ 0 _ _ _ (hSw.heap H1.out n1); have q1 := cell_of_row _ _ 0 _ _ _ (hSw.heap H2.out n2); have q2 := cell_of_row _ _ 1 _ _ _ (hSw.heap H2.out n2); have q3 := cell_of_row _ _ 2 _ _ _ (hSw.heap H2.out n2); have q4 := cell_of_row _ _ 3 _ _ _ (hSw.heap H2.out n2); (try simp only [List.getElem?_toArray, List.getElem?_cons_zero, List.getElem?_cons_succ] at q0 q1 q2 q3 q4); go_simp; (try with_reducible rfl))
  try simp only [Act.put, List.setIfInBounds_toArray, List.set_cons_zero, List.set_cons_succ]
  refine wpAnyH_take (i := 1) (oi := { dst := some 3, op := Op.load 24 (Operand.tmp 1), type := 24, pos := "law.go:60", after := #[], guard := none }) (v := ?vu9) rfl (by kernel_rfl) (by kernel_rfl) (by kernel_rfl) (fun _ _ _ h => bp_put _ _ _ h) (Or.inl ⟨by rfl, ?hyu9⟩) (by assumption) ?restu9
  case hyu9 => (intro wz hSw; (try dsimp only at hSw); have q0 := cell_of_row _ _ 0 _ _ _ (hSw.heap H1.out n1); have q1 := cell_of_row _ _ 0 _ _ _ (hSw.heap H2.out n2); have q2 := cell_of_row _ _ 1 _ _ _ (hSw.heap H2.out n2); have q3 := cell_of_row _ _ 2 _ _ _ (hSw.heap H2.out n2); have q4 := cell_of_row _ _ 3 _ _ _ (hSw.heap H2.out n2); (try simp only [List.getElem?_toArray, List.getElem?_cons_zero, List.getElem?_cons_succ] at q0 q1 q2 q3 q4); go_simp; (try with_reducible rfl))
  try simp only [Act.put, List.setIfInBounds_toArray, List.set_cons_zero, List.set_cons_succ]
  refine wpAnyH_ready (rs := [2]) (by kernel_rfl) (by simp) ?_
  refine AllReadyH.cons (o := { dst := some 4, op := Op.call { callee := Callee.value (Operand.func 39), args := #[Operand.tmp 3, Operand.const (Value.int IntKind.i64 0)], argTypes := #[24, 3] }, type := 24, pos := "law.go:60", after := #[{ on := 1, ground := Ground.data }], guard := none }) rfl (fun K hK => ?_) AllReadyH.nil
  go_simp
  go_at_call 39
  refine (kid_any w.drew ⟨kind, code, n, na, len, cap⟩ V 0 (HR.out.below (below_refl w).drew) (by decide)).mono ?_
  rintro e w2 ⟨he2, b2⟩
  replace he2 : e = .returned kv := he2.trans (congrArg Ending.returned HKV.out)
  subst he2
  have HB2 : Hid (Below w.heap.size w w2) := (below_refl w).drew.trans b2
  have HK2 : Hid (Kp F w w2) := Kp.of_below HB2.out
  clear b2
  refine hK.out _ _ ?_ (fun hHeldB => ?_)
  · (try dsimp only); first | exact HK2.out | exact HK3.out
  clear hK K hHeld
  have hHeld := hHeldB
  clear hHeldB
  try simp only [Act.put, List.setIfInBounds_toArray, List.set_cons_zero, List.set_cons_succ]
  refine wpAnyH_ready (rs := [3]) (by kernel_rfl) (by simp) ?_
  refine AllReadyH.cons (o := { dst := some 5, op := Op.call { callee := Callee.value (Operand.func 14), args := #[Operand.tmp 2, Operand.tmp 4], argTypes := #[27, 24] }, type := 0, pos := "law.go:60", after := #[{ on := 0, ground := Ground.data }, { on := 2, ground := Ground.data }, { on := 2, ground := Ground.chain }], guard := none }) rfl (fun K hK => ?_) AllReadyH.nil
  go_simp
  go_at_call 14
  refine (HD.out w2 HB2.out ((ws_st D lo bw).below HS.out HB2.out)).mono ?_
  rintro e w3 hfin
  have HFin : Hid (Fins (WS M lo bw) F w r y e w3) := hfin.of_below HB2.out
  obtain ⟨G, hl, he⟩ := hfin
  have HK3 : Hid (Kp F w w3) := HK2.out.trans hl.2.2 fun _ _ h => h
  rcases he with ⟨hr, rfl⟩ | ⟨v, old, rfl, ho, hv⟩
  case inr => exact ⟨rfl, HFin.out⟩
  clear hl hr
  refine hK.out _ _ ?_ (fun hHeldB => ?_)
  · (try dsimp only); first | exact HK3.out | exact HK2.out
  clear hK K hHeld
  have hHeld := hHeldB
  clear hHeldB
  try simp only [Act.put, List.setIfInBounds_toArray, List.set_cons_zero, List.set_cons_succ]
  refine wpAnyH_done (by kernel_rfl) ?_ _
  go_wp2
  go_end0
  exact HFin.out
theorem fnv_cl3 (cap : Array Value) : Fnv Try.prog 44 cap := enters_of Try.func44 (by kernel_rfl) rfl cap
set_option maxHeartbeats 16000000 in
theorem cl4_plays {M : (Nat → Prop) → World → Value → Int → Prop} (D : MeterSays M) (lo bw b1 b2 : Nat) (F : Nat → Prop) (w : World) (x y : St) (r : En) (kind code n : Int) (na : Option Addr) (len cap : Nat) (V : Nat → NV) (h1 : w.heap[b1]? = some (.cells #[.pointer (some ⟨bw, 0, none⟩)] 27)) (h2 : w.heap[b2]? = some (.cells #[.int .i64 kind, .int .i64 code, .int .i64 n, .slice na len cap] 24)) (n1 : ¬ F b1) (n2 : ¬ F b2) (hr : NRow w ⟨kind, code, n, na, len, cap⟩ V) (hs : WS M lo bw F w x) (kv : Value) (hkv : (if 0 < len then (V 0).v else NV.zero.v) = kv)
    (hd : ∀ w1, Below w.heap.size w w1 → WS M lo bw F w1 x → Calls Try.prog 14 #[(.pointer (some ⟨bw, 0, none⟩)), kv] w1 (Fins (WS M lo bw) F w1 r y)) :
    Plays Try.prog 45 #[.pointer (some ⟨b1, 0, none⟩), .pointer (some ⟨b2, 0, none⟩)] w (Fins (WS M lo bw) F w r y) := by
  refine ⟨_, _, Try.func45, rfl, ?_⟩
  simp only [Try.ntmps45, List.size_toArray, List.length_cons, List.length_nil, Nat.reduceAdd, Nat.reduceSub, Array.replicate_succ, Array.replicate_zero, List.push_toArray, List.append_toArray, List.nil_append, List.cons_append]
  have H1 : Hid (w.heap[b1]? = some (.cells #[.pointer (some ⟨bw, 0, none⟩)] 27)) := h1
  have H2 : Hid (w.heap[b2]? = some (.cells #[.int .i64 kind, .int .i64 code, .int .i64 n, .slice na len cap] 24)) := h2
  have HR : Hid (NRow w ⟨kind, code, n, na, len, cap⟩ V) := hr
  have HS : Hid (WS M lo bw F w x) := hs
  have HD : Hid (∀ w1, Below w.heap.size w w1 → WS M lo bw F w1 x → Calls Try.prog 14 #[(.pointer (some ⟨bw, 0, none⟩)), kv] w1 (Fins (WS M lo bw) F w1 r y)) := hd
  have HKV : Hid ((if 0 < len then (V 0).v else NV.zero.v) = kv) := hkv
  clear h1 h2 hr hs hd hkv
  refine wp_region_held_drew (S := (fun w' => Kp F w w')) (by kernel_rfl) ?_ (fun hHeld => ?_)
  · (try dsimp only); exact Kp.of_below (below_refl w).drew
  refine wpAnyH_take (i := 0) (oi := { dst := some 2, op := Op.load 27 (Operand.tmp 0), type := 27, pos := "law.go:65", after := #[], guard := none }) (v := ?vu10) rfl (by kernel_rfl) (by kernel_rfl) (by kernel_rfl) (fun _ _ _ h => bp_put _ _ _ h) (Or.inl ⟨by rfl, ?hyu10⟩) (by assumption) ?restu10
  case hyu10 => (intro wz hSw; (try dsimp only at hSw); have q0 := cell_of_row _ _ 0 _ _ _ (hSw.heap H1.out n1); have q1 := cell_of_row _ _ 0 _ _ _ (hSw.heap H2.out n2); have q2 := cell_of_row _ _ 1 _ _ _ (hSw.heap H2.out n2); have q3 := cell_of_row _ _ 2 _ _ _ (hSw.heap H2.out n2); have q4 := cell_of_row _ _ 3 _ _ _ (hSw.heap H2.out n2); (try simp only [List.getElem?_toArray, List.getElem?_cons_zero, List.getElem?_cons_succ] at q0 q1 q2 q3 q4); go_simp; (try with_reducible rfl))
  try simp only [Act.put, List.setIfInBounds_toArray, List.set_cons_zero, List.set_cons_succ]
  refine wpAnyH_take (i := 1) (oi := { dst := some 3, op := Op.load 24 (Operand.tmp 1), type := 24, pos := "law.go:65", after := #[], guard := none }) (v := ?vu11) rfl (by kernel_rfl) (by kernel_rfl) (by kernel_rfl) (fun _ _ _ h => bp_put _ _ _ h) (Or.inl ⟨by rfl, ?hyu11⟩) (by assumption) ?restu11
  case hyu11 => (intro wz hSw; (try dsimp only at hSw); have q0 := cell_of_row _ _ 0 _ _ _ (hSw.heap H1.out n1); have q1 := cell_of_row _ _ 0 _ _ _ (hSw.heap H2.out n2); have q2 := cell_of_row _ _ 1 _ _ _ (hSw.heap H2.out n2); have q3 := cell_of_row _ _ 2 _ _ _ (hSw.heap H2.out n2); have q4 := cell_of_row _ _ 3 _ _ _ (hSw.heap H2.out n2); (try simp only [List.getElem?_toArray, List.getElem?_cons_zero, List.getElem?_cons_succ] at q0 q1 q2 q3 q4); go_simp; (try with_reducible rfl))
  try simp only [Act.put, List.setIfInBounds_toArray, List.set_cons_zero, List.set_cons_succ]
  refine wpAnyH_ready (rs := [2]) (by kernel_rfl) (by simp) ?_
  refine AllReadyH.cons (o := { dst := some 4, op := Op.call { callee := Callee.value (Operand.func 39), args := #[Operand.tmp 3, Operand.const (Value.int IntKind.i64 0)], argTypes := #[24, 3] }, type := 24, pos := "law.go:65", after := #[{ on := 1, ground := Ground.data }], guard := none }) rfl (fun K hK => ?_) AllReadyH.nil
  go_simp
  go_at_call 39
  refine (kid_any w.drew ⟨kind, code, n, na, len, cap⟩ V 0 (HR.out.below (below_refl w).drew) (by decide)).mono ?_
  rintro e w2 ⟨he2, b2⟩
  replace he2 : e = .returned kv := he2.trans (congrArg Ending.returned HKV.out)
  subst he2
  have HB2 : Hid (Below w.heap.size w w2) := (below_refl w).drew.trans b2
  have HK2 : Hid (Kp F w w2) := Kp.of_below HB2.out
  clear b2
  refine hK.out _ _ ?_ (fun hHeldB => ?_)
  · (try dsimp only); first | exact HK2.out | exact HK3.out
  clear hK K hHeld
  have hHeld := hHeldB
  clear hHeldB
  try simp only [Act.put, List.setIfInBounds_toArray, List.set_cons_zero, List.set_cons_succ]
  refine wpAnyH_ready (rs := [3]) (by kernel_rfl) (by simp) ?_
  refine AllReadyH.cons (o := { dst := some 5, op := Op.call { callee := Callee.value (Operand.func 14), args := #[Operand.tmp 2, Operand.tmp 4], argTypes := #[27, 24] }, type := 0, pos := "law.go:65", after := #[{ on := 0, ground := Ground.data }, { on := 2, ground := Ground.data }, { on := 2, ground := Ground.chain }], guard := none }) rfl (fun K hK => ?_) AllReadyH.nil
  go_simp
  go_at_call 14
  refine (HD.out w2 HB2.out ((ws_st D lo bw).below HS.out HB2.out)).mono ?_
  rintro e w3 hfin
  have HFin : Hid (Fins (WS M lo bw) F w r y e w3) := hfin.of_below HB2.out
  obtain ⟨G, hl, he⟩ := hfin
  have HK3 : Hid (Kp F w w3) := HK2.out.trans hl.2.2 fun _ _ h => h
  rcases he with ⟨hr, rfl⟩ | ⟨v, old, rfl, ho, hv⟩
  case inr => exact ⟨rfl, HFin.out⟩
  clear hl hr
  refine hK.out _ _ ?_ (fun hHeldB => ?_)
  · (try dsimp only); first | exact HK3.out | exact HK2.out
  clear hK K hHeld
  have hHeld := hHeldB
  clear hHeldB
  try simp only [Act.put, List.setIfInBounds_toArray, List.set_cons_zero, List.set_cons_succ]
  refine wpAnyH_done (by kernel_rfl) ?_ _
  go_wp2
  go_end0
  exact HFin.out
theorem fnv_cl4 (cap : Array Value) : Fnv Try.prog 45 cap := enters_of Try.func45 (by kernel_rfl) rfl cap
set_option maxHeartbeats 16000000 in
theorem cl5_plays {M : (Nat → Prop) → World → Value → Int → Prop} (D : MeterSays M) (lo bw b1 b2 : Nat) (F : Nat → Prop) (w : World) (x y : St) (r : En) (kind code n : Int) (na : Option Addr) (len cap : Nat) (V : Nat → NV) (h1 : w.heap[b1]? = some (.cells #[.pointer (some ⟨bw, 0, none⟩)] 27)) (h2 : w.heap[b2]? = some (.cells #[.int .i64 kind, .int .i64 code, .int .i64 n, .slice na len cap] 24)) (n1 : ¬ F b1) (n2 : ¬ F b2) (hr : NRow w ⟨kind, code, n, na, len, cap⟩ V) (hs : WS M lo bw F w x) (kv : Value) (hkv : (if 1 < len then (V 1).v else NV.zero.v) = kv)
    (hd : ∀ w1, Below w.heap.size w w1 → WS M lo bw F w1 x → Calls Try.prog 14 #[(.pointer (some ⟨bw, 0, none⟩)), kv] w1 (Fins (WS M lo bw) F w1 r y)) :
    Plays Try.prog 46 #[.pointer (some ⟨b1, 0, none⟩), .pointer (some ⟨b2, 0, none⟩)] w (Fins (WS M lo bw) F w r y) := by
  refine ⟨_, _, Try.func46, rfl, ?_⟩
  simp only [Try.ntmps46, List.size_toArray, List.length_cons, List.length_nil, Nat.reduceAdd, Nat.reduceSub, Array.replicate_succ, Array.replicate_zero, List.push_toArray, List.append_toArray, List.nil_append, List.cons_append]
  have H1 : Hid (w.heap[b1]? = some (.cells #[.pointer (some ⟨bw, 0, none⟩)] 27)) := h1
  have H2 : Hid (w.heap[b2]? = some (.cells #[.int .i64 kind, .int .i64 code, .int .i64 n, .slice na len cap] 24)) := h2
  have HR : Hid (NRow w ⟨kind, code, n, na, len, cap⟩ V) := hr
  have HS : Hid (WS M lo bw F w x) := hs
  have HD : Hid (∀ w1, Below w.heap.size w w1 → WS M lo bw F w1 x → Calls Try.prog 14 #[(.pointer (some ⟨bw, 0, none⟩)), kv] w1 (Fins (WS M lo bw) F w1 r y)) := hd
  have HKV : Hid ((if 1 < len then (V 1).v else NV.zero.v) = kv) := hkv
  clear h1 h2 hr hs hd hkv
  refine wp_region_held_drew (S := (fun w' => Kp F w w')) (by kernel_rfl) ?_ (fun hHeld => ?_)
  · (try dsimp only); exact Kp.of_below (below_refl w).drew
  refine wpAnyH_take (i := 0) (oi := { dst := some 2, op := Op.load 27 (Operand.tmp 0), type := 27, pos := "law.go:65", after := #[], guard := none }) (v := ?vu12) rfl (by kernel_rfl) (by kernel_rfl) (by kernel_rfl) (fun _ _ _ h => bp_put _ _ _ h) (Or.inl ⟨by rfl, ?hyu12⟩) (by assumption) ?restu12
  case hyu12 => (intro wz hSw; (try dsimp only at hSw); have q0 := cell_of_row _ _ 0 _ _ _ (hSw.heap H1.out n1); have q1 := cell_of_row _ _ 0 _ _ _ (hSw.heap H2.out n2); have q2 := cell_of_row _ _ 1 _ _ _ (hSw.heap H2.out n2); have q3 := cell_of_row _ _ 2 _ _ _ (hSw.heap H2.out n2); have q4 := cell_of_row _ _ 3 _ _ _ (hSw.heap H2.out n2); (try simp only [List.getElem?_toArray, List.getElem?_cons_zero, List.getElem?_cons_succ] at q0 q1 q2 q3 q4); go_simp; (try with_reducible rfl))
  try simp only [Act.put, List.setIfInBounds_toArray, List.set_cons_zero, List.set_cons_succ]
  refine wpAnyH_take (i := 1) (oi := { dst := some 3, op := Op.load 24 (Operand.tmp 1), type := 24, pos := "law.go:65", after := #[], guard := none }) (v := ?vu13) rfl (by kernel_rfl) (by kernel_rfl) (by kernel_rfl) (fun _ _ _ h => bp_put _ _ _ h) (Or.inl ⟨by rfl, ?hyu13⟩) (by assumption) ?restu13
  case hyu13 => (intro wz hSw; (try dsimp only at hSw); have q0 := cell_of_row _ _ 0 _ _ _ (hSw.heap H1.out n1); have q1 := cell_of_row _ _ 0 _ _ _ (hSw.heap H2.out n2); have q2 := cell_of_row _ _ 1 _ _ _ (hSw.heap H2.out n2); have q3 := cell_of_row _ _ 2 _ _ _ (hSw.heap H2.out n2); have q4 := cell_of_row _ _ 3 _ _ _ (hSw.heap H2.out n2); (try simp only [List.getElem?_toArray, List.getElem?_cons_zero, List.getElem?_cons_succ] at q0 q1 q2 q3 q4); go_simp; (try with_reducible rfl))
  try simp only [Act.put, List.setIfInBounds_toArray, List.set_cons_zero, List.set_cons_succ]
  refine wpAnyH_ready (rs := [2]) (by kernel_rfl) (by simp) ?_
  refine AllReadyH.cons (o := { dst := some 4, op := Op.call { callee := Callee.value (Operand.func 39), args := #[Operand.tmp 3, Operand.const (Value.int IntKind.i64 1)], argTypes := #[24, 3] }, type := 24, pos := "law.go:65", after := #[{ on := 1, ground := Ground.data }], guard := none }) rfl (fun K hK => ?_) AllReadyH.nil
  go_simp
  go_at_call 39
  refine (kid_any w.drew ⟨kind, code, n, na, len, cap⟩ V 1 (HR.out.below (below_refl w).drew) (by decide)).mono ?_
  rintro e w2 ⟨he2, b2⟩
  replace he2 : e = .returned kv := he2.trans (congrArg Ending.returned HKV.out)
  subst he2
  have HB2 : Hid (Below w.heap.size w w2) := (below_refl w).drew.trans b2
  have HK2 : Hid (Kp F w w2) := Kp.of_below HB2.out
  clear b2
  refine hK.out _ _ ?_ (fun hHeldB => ?_)
  · (try dsimp only); first | exact HK2.out | exact HK3.out
  clear hK K hHeld
  have hHeld := hHeldB
  clear hHeldB
  try simp only [Act.put, List.setIfInBounds_toArray, List.set_cons_zero, List.set_cons_succ]
  refine wpAnyH_ready (rs := [3]) (by kernel_rfl) (by simp) ?_
  refine AllReadyH.cons (o := { dst := some 5, op := Op.call { callee := Callee.value (Operand.func 14), args := #[Operand.tmp 2, Operand.tmp 4], argTypes := #[27, 24] }, type := 0, pos := "law.go:65", after := #[{ on := 0, ground := Ground.data }, { on := 2, ground := Ground.data }, { on := 2, ground := Ground.chain }], guard := none }) rfl (fun K hK => ?_) AllReadyH.nil
  go_simp
  go_at_call 14
  refine (HD.out w2 HB2.out ((ws_st D lo bw).below HS.out HB2.out)).mono ?_
  rintro e w3 hfin
  have HFin : Hid (Fins (WS M lo bw) F w r y e w3) := hfin.of_below HB2.out
  obtain ⟨G, hl, he⟩ := hfin
  have HK3 : Hid (Kp F w w3) := HK2.out.trans hl.2.2 fun _ _ h => h
  rcases he with ⟨hr, rfl⟩ | ⟨v, old, rfl, ho, hv⟩
  case inr => exact ⟨rfl, HFin.out⟩
  clear hl hr
  refine hK.out _ _ ?_ (fun hHeldB => ?_)
  · (try dsimp only); first | exact HK3.out | exact HK2.out
  clear hK K hHeld
  have hHeld := hHeldB
  clear hHeldB
  try simp only [Act.put, List.setIfInBounds_toArray, List.set_cons_zero, List.set_cons_succ]
  refine wpAnyH_done (by kernel_rfl) ?_ _
  go_wp2
  go_end0
  exact HFin.out
theorem fnv_cl5 (cap : Array Value) : Fnv Try.prog 46 cap := enters_of Try.func46 (by kernel_rfl) rfl cap
set_option maxHeartbeats 16000000 in
theorem cl6_plays {M : (Nat → Prop) → World → Value → Int → Prop} (D : MeterSays M) (lo bw b1 b2 : Nat) (F : Nat → Prop) (w : World) (x y : St) (r : En) (kind code n : Int) (na : Option Addr) (len cap : Nat) (V : Nat → NV) (h1 : w.heap[b1]? = some (.cells #[.pointer (some ⟨bw, 0, none⟩)] 27)) (h2 : w.heap[b2]? = some (.cells #[.int .i64 kind, .int .i64 code, .int .i64 n, .slice na len cap] 24)) (n1 : ¬ F b1) (n2 : ¬ F b2) (hr : NRow w ⟨kind, code, n, na, len, cap⟩ V) (hs : WS M lo bw F w x) (kv : Value) (hkv : (if 0 < len then (V 0).v else NV.zero.v) = kv)
    (hd : ∀ w1, Below w.heap.size w w1 → WS M lo bw F w1 x → Calls Try.prog 14 #[(.pointer (some ⟨bw, 0, none⟩)), kv] w1 (Fins (WS M lo bw) F w1 r y)) :
    Plays Try.prog 47 #[.pointer (some ⟨b1, 0, none⟩), .pointer (some ⟨b2, 0, none⟩)] w (Fins (WS M lo bw) F w r y) := by
  refine ⟨_, _, Try.func47, rfl, ?_⟩
  simp only [Try.ntmps47, List.size_toArray, List.length_cons, List.length_nil, Nat.reduceAdd, Nat.reduceSub, Array.replicate_succ, Array.replicate_zero, List.push_toArray, List.append_toArray, List.nil_append, List.cons_append]
  have H1 : Hid (w.heap[b1]? = some (.cells #[.pointer (some ⟨bw, 0, none⟩)] 27)) := h1
  have H2 : Hid (w.heap[b2]? = some (.cells #[.int .i64 kind, .int .i64 code, .int .i64 n, .slice na len cap] 24)) := h2
  have HR : Hid (NRow w ⟨kind, code, n, na, len, cap⟩ V) := hr
  have HS : Hid (WS M lo bw F w x) := hs
  have HD : Hid (∀ w1, Below w.heap.size w w1 → WS M lo bw F w1 x → Calls Try.prog 14 #[(.pointer (some ⟨bw, 0, none⟩)), kv] w1 (Fins (WS M lo bw) F w1 r y)) := hd
  have HKV : Hid ((if 0 < len then (V 0).v else NV.zero.v) = kv) := hkv
  clear h1 h2 hr hs hd hkv
  refine wp_region_held_drew (S := (fun w' => Kp F w w')) (by kernel_rfl) ?_ (fun hHeld => ?_)
  · (try dsimp only); exact Kp.of_below (below_refl w).drew
  refine wpAnyH_take (i := 0) (oi := { dst := some 2, op := Op.load 27 (Operand.tmp 0), type := 27, pos := "law.go:67", after := #[], guard := none }) (v := ?vu14) rfl (by kernel_rfl) (by kernel_rfl) (by kernel_rfl) (fun _ _ _ h => bp_put _ _ _ h) (Or.inl ⟨by rfl, ?hyu14⟩) (by assumption) ?restu14
  case hyu14 => (intro wz hSw; (try dsimp only at hSw); have q0 := cell_of_row _ _ 0 _ _ _ (hSw.heap H1.out n1); have q1 := cell_of_row _ _ 0 _ _ _ (hSw.heap H2.out n2); have q2 := cell_of_row _ _ 1 _ _ _ (hSw.heap H2.out n2); have q3 := cell_of_row _ _ 2 _ _ _ (hSw.heap H2.out n2); have q4 := cell_of_row _ _ 3 _ _ _ (hSw.heap H2.out n2); (try simp only [List.getElem?_toArray, List.getElem?_cons_zero, List.getElem?_cons_succ] at q0 q1 q2 q3 q4); go_simp; (try with_reducible rfl))
  try simp only [Act.put, List.setIfInBounds_toArray, List.set_cons_zero, List.set_cons_succ]
  refine wpAnyH_take (i := 1) (oi := { dst := some 3, op := Op.load 24 (Operand.tmp 1), type := 24, pos := "law.go:67", after := #[], guard := none }) (v := ?vu15) rfl (by kernel_rfl) (by kernel_rfl) (by kernel_rfl) (fun _ _ _ h => bp_put _ _ _ h) (Or.inl ⟨by rfl, ?hyu15⟩) (by assumption) ?restu15
  case hyu15 => (intro wz hSw; (try dsimp only at hSw); have q0 := cell_of_row _ _ 0 _ _ _ (hSw.heap H1.out n1); have q1 := cell_of_row _ _ 0 _ _ _ (hSw.heap H2.out n2); have q2 := cell_of_row _ _ 1 _ _ _ (hSw.heap H2.out n2); have q3 := cell_of_row _ _ 2 _ _ _ (hSw.heap H2.out n2); have q4 := cell_of_row _ _ 3 _ _ _ (hSw.heap H2.out n2); (try simp only [List.getElem?_toArray, List.getElem?_cons_zero, List.getElem?_cons_succ] at q0 q1 q2 q3 q4); go_simp; (try with_reducible rfl))
  try simp only [Act.put, List.setIfInBounds_toArray, List.set_cons_zero, List.set_cons_succ]
  refine wpAnyH_ready (rs := [2]) (by kernel_rfl) (by simp) ?_
  refine AllReadyH.cons (o := { dst := some 4, op := Op.call { callee := Callee.value (Operand.func 39), args := #[Operand.tmp 3, Operand.const (Value.int IntKind.i64 0)], argTypes := #[24, 3] }, type := 24, pos := "law.go:67", after := #[{ on := 1, ground := Ground.data }], guard := none }) rfl (fun K hK => ?_) AllReadyH.nil
  go_simp
  go_at_call 39
  refine (kid_any w.drew ⟨kind, code, n, na, len, cap⟩ V 0 (HR.out.below (below_refl w).drew) (by decide)).mono ?_
  rintro e w2 ⟨he2, b2⟩
  replace he2 : e = .returned kv := he2.trans (congrArg Ending.returned HKV.out)
  subst he2
  have HB2 : Hid (Below w.heap.size w w2) := (below_refl w).drew.trans b2
  have HK2 : Hid (Kp F w w2) := Kp.of_below HB2.out
  clear b2
  refine hK.out _ _ ?_ (fun hHeldB => ?_)
  · (try dsimp only); first | exact HK2.out | exact HK3.out
  clear hK K hHeld
  have hHeld := hHeldB
  clear hHeldB
  try simp only [Act.put, List.setIfInBounds_toArray, List.set_cons_zero, List.set_cons_succ]
  refine wpAnyH_ready (rs := [3]) (by kernel_rfl) (by simp) ?_
  refine AllReadyH.cons (o := { dst := some 5, op := Op.call { callee := Callee.value (Operand.func 14), args := #[Operand.tmp 2, Operand.tmp 4], argTypes := #[27, 24] }, type := 0, pos := "law.go:67", after := #[{ on := 0, ground := Ground.data }, { on := 2, ground := Ground.data }, { on := 2, ground := Ground.chain }], guard := none }) rfl (fun K hK => ?_) AllReadyH.nil
  go_simp
  go_at_call 14
  refine (HD.out w2 HB2.out ((ws_st D lo bw).below HS.out HB2.out)).mono ?_
  rintro e w3 hfin
  have HFin : Hid (Fins (WS M lo bw) F w r y e w3) := hfin.of_below HB2.out
  obtain ⟨G, hl, he⟩ := hfin
  have HK3 : Hid (Kp F w w3) := HK2.out.trans hl.2.2 fun _ _ h => h
  rcases he with ⟨hr, rfl⟩ | ⟨v, old, rfl, ho, hv⟩
  case inr => exact ⟨rfl, HFin.out⟩
  clear hl hr
  refine hK.out _ _ ?_ (fun hHeldB => ?_)
  · (try dsimp only); first | exact HK3.out | exact HK2.out
  clear hK K hHeld
  have hHeld := hHeldB
  clear hHeldB
  try simp only [Act.put, List.setIfInBounds_toArray, List.set_cons_zero, List.set_cons_succ]
  refine wpAnyH_done (by kernel_rfl) ?_ _
  go_wp2
  go_end0
  exact HFin.out
theorem fnv_cl6 (cap : Array Value) : Fnv Try.prog 47 cap := enters_of Try.func47 (by kernel_rfl) rfl cap
end Go.Proofs.Ytgighebohbpkiaa
