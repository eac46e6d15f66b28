/- The keeper: what it holds in memory; check, newKeeper; append where it is told where the row lies. -/
import Derived.Test.YteaajhpgmndomaaTae
namespace Go.Proofs.Yteaajhpgmndomaa
open Go.RowKit Fo
set_option maxRecDepth 100000

section
variable {P : Program} {T E : TypeId}
theorem run_app_at (L : Elt P T E) {B : Nat} {w : World} {v : Value} {n : Nat} {X : Nat → Value} (h : Ow E B w v n X) (hB : B ≤ w.heap.size) {a : Option Addr} {m c : Nat} {Y : Nat → Value} (hs : Rd w a m c Y) (h0 : 0 < m) (hone : ∀ j, j < m → (Y j).oneCell' = true) (hnm : n + m ≤ 1000000000) (ty : TypeId) :
    ∃ v' w', (Builtin.append_ #[T, T] ty #[v, .slice a m c]).run P w = .ok v' w' ∧ Ow E B w' v' (n + m) (catV X n Y) ∧ w.grownBy w' v.ownBlock ∧ (v'.ownBlock = v.ownBlock ∨ v'.ownBlock = some w.heap.size) := by
  have hown : w.ownsRow B E 1 v n (fl X n) := h
  obtain ⟨b, off, rfl, hc⟩ := hs.at h0
  have hmax : n + m ≤ maxLen := by unfold maxLen; omega
  have h1 : ∀ u ∈ fl Y m, u.oneCell' = true := fun u hu => by
    obtain ⟨j, hj, rfl⟩ := List.mem_map.1 hu
    exact hone j (List.mem_range.1 hj)
  have hb := L.hb8
  obtain ⟨v', w', hrun, ho, hg, -, hat⟩ := run_append_own_at (P := P) w B T ty E L.i L.z 1 L.bytes L.hT L.hi L.hz L.hsize L.hby L.hzs (by decide) v n (fl X n) hown ⟨b, off, none⟩ m c (fl Y m) (by rw [fl_len, Nat.mul_one])
    (fun j u hu => by
      obtain ⟨hj, rfl⟩ := fl_some Y m j u hu
      rw [add_off]; exact hc j hj) h1 hmax (Nat.le_trans (Nat.mul_le_mul hnm hb) (by decide)) hB
  rw [fl_cat] at ho
  exact ⟨v', w', hrun, ho, hg, hat⟩
theorem wp_app_at (L : Elt P T E) {o : Oper} {a : Act} {w : World} {K : Act → World → Prop} {Q : Exit → Act → World → Prop} (s x : Operand)
    (ho : o.op = .call { callee := .builtin .append, args := #[s, x], argTypes := #[T, T] })
    {B : Nat} {v : Value} {n : Nat} {X : Nat → Value} (h : Ow E B w v n X) (hB : B ≤ w.heap.size) {ad : Option Addr} {m c : Nat} {Y : Nat → Value} (hs : Rd w ad m c Y) (h0 : 0 < m) (hone : ∀ j, j < m → (Y j).oneCell' = true) (N : Nat) (hN : n + m = N) (hnm : N ≤ 1000000000)
    (Z : Nat → Value) (eZ : ∀ j, j < N → catV X n Y j = Z j) (e1 : a.eval s = v) (e2 : a.eval x = .slice ad m c)
    (hk : ∀ a' c' w', Ow E B w' (.slice a' N c') N Z → w.grownBy w' v.ownBlock → ((Value.slice a' N c').ownBlock = v.ownBlock ∨ (Value.slice a' N c').ownBlock = some w.heap.size) → K (a.put o.dst (.slice a' N c')) w') : o.wp P a w K Q := by
  subst hN
  obtain ⟨v', w', hr, h1, h2, h3⟩ := run_app_at L h hB hs h0 hone hnm o.type
  obtain ⟨a', c', rfl, h4⟩ := h1.rd
  unfold Oper.wp execOp
  simp only [ho, resolve, invoke, builtin, Sem.run_bind, Sem.run_pure, Result.andThen_ok, List.map_toArray, List.map_cons, List.map_nil, e1, e2, hr]
  exact hk a' c' w' (h1.congr eZ) h2 h3
theorem wpList_app_at (L : Elt P T E) {ops : Array Oper} {rest : List Oper} {o : Oper} {a : Act} {w : World} {Q : Exit → Act → World → Prop} (hgd : o.guard = none) (s x : Operand)
    (ho : o.op = .call { callee := .builtin .append, args := #[s, x], argTypes := #[T, T] })
    {B : Nat} {v : Value} {n : Nat} {X : Nat → Value} (h : Ow E B w v n X) (hB : B ≤ w.heap.size) {ad : Option Addr} {m c : Nat} {Y : Nat → Value} (hs : Rd w ad m c Y) (h0 : 0 < m) (hone : ∀ j, j < m → (Y j).oneCell' = true) (N : Nat) (hN : n + m = N) (hnm : N ≤ 1000000000)
    (Z : Nat → Value) (eZ : ∀ j, j < N → catV X n Y j = Z j) (e1 : a.eval s = v) (e2 : a.eval x = .slice ad m c)
    (hk : ∀ a' c' w', Ow E B w' (.slice a' N c') N Z → w.grownBy w' v.ownBlock → ((Value.slice a' N c').ownBlock = v.ownBlock ∨ (Value.slice a' N c').ownBlock = some w.heap.size) → wpList P ops Q rest (a.put o.dst (.slice a' N c')) w') : wpList P ops Q (o :: rest) a w :=
  wpList_plain hgd fun _ hK => wp_app_at L s x ho h hB hs h0 hone N hN hnm Z eZ e1 e2 fun a' c' w' h1 h3 h4 => hK _ _ (hk a' c' w' h1 h3 h4)
theorem step_app_at (L : Elt P T E) {ops : Array Oper} {o : Oper} {a : Act} {w : World} {K : Act → World → Prop} {Q : Exit → Act → World → Prop} {F : Prop} (hgd : o.guard = none) (s x : Operand)
    (ho : o.op = .call { callee := .builtin .append, args := #[s, x], argTypes := #[T, T] })
    {B : Nat} {v : Value} {n : Nat} {X : Nat → Value} (h : Ow E B w v n X) (hB : B ≤ w.heap.size) {ad : Option Addr} {m c : Nat} {Y : Nat → Value} (hs : Rd w ad m c Y) (h0 : 0 < m) (hone : ∀ j, j < m → (Y j).oneCell' = true) (N : Nat) (hN : n + m = N) (hnm : N ≤ 1000000000)
    (Z : Nat → Value) (eZ : ∀ j, j < N → catV X n Y j = Z j) (e1 : a.eval s = v) (e2 : a.eval x = .slice ad m c)
    (hk : ∀ a' c' w', Ow E B w' (.slice a' N c') N Z → w.grownBy w' v.ownBlock → ((Value.slice a' N c').ownBlock = v.ownBlock ∨ (Value.slice a' N c').ownBlock = some w.heap.size) → K (a.put o.dst (.slice a' N c')) w') :
    if Region.wanted o (yielded ops a.tmps) = true then Oper.wp P o a w K Q else F := by
  have hw : Region.wanted o (yielded ops a.tmps) = true := by simp [Region.wanted, hgd]
  rw [if_pos hw]
  exact wp_app_at L s x ho h hB hs h0 hone N hN hnm Z eZ e1 e2 hk
end
namespace Fo
/-- The panic of a budget that is used up. -/
def pB : Ending := .panicked [{ v := .iface 28 (.int .i64 10), recovered := false }]
/-- F, and what is new. -/
def newF (F : Nat → Prop) (w w' : World) (b : Nat) : Prop := F b ∨ (w.heap.size ≤ b ∧ b < w'.heap.size)
/-- A keeper in memory, that has kept K; all its blocks are of F. -/
def KIn (F : Nat → Prop) (w : World) (kp : Value) (most : Int) (K : List (List Int)) : Prop := ∃ kb own blk D en sv V, kp = .pointer (some ⟨kb, 0, none⟩) ∧
  w.heap[kb]? = some (.cells #[.int .i64 most, sv, .pointer (some ⟨blk [], 0, none⟩)] 64) ∧ TIn w own blk D en (10000 * K.length) ∧ (∀ p, en p = true ↔ p ∈ K) ∧
  Ow 23 0 w sv K.length V ∧ (∀ j, j < K.length → SIO (fun b => ¬ F b ∨ own b ≠ none) w (V j) (gs K j)) ∧ F kb ∧ own kb = none ∧ (∀ g, sv.ownBlock = some g → F g ∧ own g = none) ∧ (∀ b, own b ≠ none → F b) ∧ (∀ b, F b → b < w.heap.size)
theorem KIn.frame {F G : Nat → Prop} {w w' : World} {kp : Value} {most : Int} {K : List (List Int)} (h : KIn F w kp most K) (hk : Kp G w w') (hG : ∀ b, F b → ¬ G b) : KIn F w' kp most K := by
  obtain ⟨kb, own, blk, D, en, sv, V, e, h1, h2, h3, h4, h5, h6, h7, h8, h9, h10⟩ := h
  refine ⟨kb, own, blk, D, en, sv, V, e, hk.heap h1 (hG _ h6), h2.kp hk fun b hb => hG b (h9 b hb), h3, ?_, fun j hj => ?_, h6, h7, h8, h9, fun b hb => Nat.lt_of_lt_of_le (h10 b hb) hk.size⟩
  · exact h4.keepB fun g hg => hk.block g (h4.ltb hg) (hG g (h8 g hg).1)
  · refine (h5 j hj).step (hk.mono fun b _ hb => Or.inl fun hF => hG b hF hb) fun _ _ h => h
theorem KIn.weak {F G : Nat → Prop} {w : World} {kp : Value} {most : Int} {K : List (List Int)} (h : KIn F w kp most K) (hF : ∀ b, F b → G b) (hG : ∀ b, G b → b < w.heap.size) : KIn G w kp most K := by
  obtain ⟨kb, own, blk, D, en, sv, V, e, h1, h2, h3, h4, h5, h6, h7, h8, h9, h10⟩ := h
  exact ⟨kb, own, blk, D, en, sv, V, e, h1, h2, h3, h4, fun j hj => (h5 j hj).weak fun b _ hb => hb.imp (fun k q => k (hF b q)) id, hF _ h6, h7, fun g hg => ⟨hF g (h8 g hg).1, (h8 g hg).2⟩, fun b hb => hF b (h9 b hb), hG⟩
theorem KIn.lt {F : Nat → Prop} {w : World} {kp : Value} {most : Int} {K : List (List Int)} (h : KIn F w kp most K) : ∀ b, F b → b < w.heap.size := by
  obtain ⟨kb, own, blk, D, en, sv, V, e, h1, h2, h3, h4, h5, h6, h7, h8, h9, h10⟩ := h
  exact h10
/-- What check answers. -/
def ChkR (K : List (List Int)) (most : Int) (w : World) (e : Ending) (w' : World) : Prop := ((e = .returned (.tuple #[]) ∧ (K.length : Int) ≤ most) ∨ (e = pB ∧ most < (K.length : Int))) ∧ Drw w w'
end Fo
set_option maxHeartbeats 4000000 in
theorem check_any (F : Nat → Prop) (w : World) (kp : Value) (most : Int) (K : List (List Int)) (h : KIn F w kp most K) :
    Calls Try.prog 49 #[kp] w fun e w' => ChkR K most w e w' := by
  obtain ⟨kb, own, blk, D, en, sv, V, rfl, hkb, -, -, hsv, -⟩ := h
  obtain ⟨sa, sc, rfl, hr⟩ := hsv.rd
  have f0 : w.cell? ⟨kb, 0, none⟩ = some (.int .i64 most) := by rw [cell_of_row _ _ _ _ _ _ hkb]; rfl
  have f1 : w.cell? ⟨kb, 1, none⟩ = some (.slice sa K.length sc) := by rw [cell_of_row _ _ _ _ _ _ hkb]; rfl
  clear hkb hsv hr
  by_cases hc : most < (K.length : Int)
  · go_enter Try.func49, Try.ntmps49
    go_wp2
    go_quiet (fail)
    go_wp2
    exact ⟨rfl, Or.inr ⟨rfl, hc⟩, _, rfl⟩
  · have HC : Hid ((K.length : Int) ≤ most) := by show _ ≤ _; omega
    go_enter Try.func49, Try.ntmps49
    go_wp2
    go_quiet (fail)
    go_wp2
    go_end0
    exact ⟨Or.inl ⟨rfl, HC.out⟩, _, rfl⟩
namespace Fo
/-- What newKeeper answers. -/
def NewR (most : Int) (w : World) (e : Ending) (w' : World) : Prop := ((∃ F kp, e = .returned kp ∧ 0 ≤ most ∧ KIn F w' kp most [] ∧ ∀ b, F b → w.heap.size ≤ b) ∨ (e = pB ∧ most < 0)) ∧ Below w.heap.size w w'
theorem tin_new {w : World} {g : Nat} (hg : w.heap[g]? = some (.cells #[.bool false, .slice none 0 0, .slice none 0 0] 62)) : TIn w (fun b => if b = g then some ([], 0) else none) (fun _ => g) (fun p => p = []) (fun _ => false) 0 := by
  refine ⟨fun b hb => ?_, rfl, fun p x h => absurd h (by simp), fun p h => by rw [h]; exact List.Pairwise.nil, fun p h => Bool.noConfusion h, fun p hp => ?_⟩
  · by_cases e : b = g
    · rw [e]; exact lt_of_heap hg
    · rw [if_neg e] at hb; exact absurd rfl hb
  · subst hp
    exact ⟨by rw [if_pos rfl], _, _, [], hg, Ow.nil _ _ _ _, Ow.nil _ _ _ _, fun g h => (by cases h), fun g h => (by cases h), List.Pairwise.nil, fun x => ⟨fun h => (by cases h), fun h => absurd h (by simp)⟩, Nat.le_refl _⟩
theorem kin_new {w : World} {g k : Nat} {most : Int} (hg : w.heap[g]? = some (.cells #[.bool false, .slice none 0 0, .slice none 0 0] 62)) (hk : w.heap[k]? = some (.cells #[.int .i64 most, .slice none 0 0, .pointer (some ⟨g, 0, none⟩)] 64)) : KIn (fun b => b = g ∨ b = k) w (.pointer (some ⟨k, 0, none⟩)) most [] := by
  have hne : ¬ k = g := fun e => by
    rw [e, hg] at hk; injection hk with hk; injection hk with _ hk; exact absurd hk (by decide)
  refine ⟨k, _, _, _, _, .slice none 0 0, fun _ => .int .i64 0, rfl, hk, tin_new hg, fun p => ⟨fun h => Bool.noConfusion h, fun h => by cases h⟩, Ow.nil _ _ _ _, fun j hj => absurd hj (Nat.not_lt_zero j), Or.inr rfl, by rw [if_neg hne], fun g h => (by cases h), fun b hb => ?_, fun b hb => ?_⟩
  · by_cases e : b = g
    · exact Or.inl e
    · rw [if_neg e] at hb; exact absurd rfl hb
  · rcases hb with e | e
    · rw [e]; exact lt_of_heap hg
    · rw [e]; exact lt_of_heap hk
end Fo
set_option maxHeartbeats 4000000 in
theorem newKeeper_any (w : World) (most : Int) :
    Calls Try.prog 32 #[.int .i64 most] w fun e w' => NewR most w e w' := by
  obtain ⟨W, hW⟩ : ∃ W, W = (w.alloc (.cells #[.bool false, .slice none 0 0, .slice none 0 0] 62)).alloc (.cells #[.int .i64 most, .slice none 0 0, .pointer (some ⟨w.heap.size, 0, none⟩)] 64) := ⟨_, rfl⟩
  have HB : Hid (Below w.heap.size w W) := by rw [hW]; exact (below1 w _).alloc (by simp) _
  have hg : W.heap[w.heap.size]? = some (.cells #[.bool false, .slice none 0 0, .slice none 0 0] 62) := by rw [hW]; exact heap_new2 w _ _
  have hk : W.heap[w.heap.size + 1]? = some (.cells #[.int .i64 most, .slice none 0 0, .pointer (some ⟨w.heap.size, 0, none⟩)] 64) := by
    rw [hW]
    have := heap_new1 (w.alloc (.cells #[.bool false, .slice none 0 0, .slice none 0 0] 62)) (.cells #[.int .i64 most, .slice none 0 0, .pointer (some ⟨w.heap.size, 0, none⟩)] 64)
    simpa using this
  have HKI : Hid (KIn (fun b => b = w.heap.size ∨ b = w.heap.size + 1) W (.pointer (some ⟨w.heap.size + 1, 0, none⟩)) most []) := kin_new hg hk
  clear hg hk
  go_enter Try.func32, Try.ntmps32
  go_wp2_with (go_at_call 49; fail)
  rw [← hW]
  clear hW
  refine (check_any _ W _ most [] HKI.out).mono ?_
  rintro e w' ⟨h, hw⟩
  rcases h with ⟨rfl, h⟩ | ⟨he, h⟩
  · have HH : Hid (0 ≤ most) := by show 0 ≤ most; simpa using h
    have HKW : Hid (KIn (fun b => b = w.heap.size ∨ b = w.heap.size + 1) w' (.pointer (some ⟨w.heap.size + 1, 0, none⟩)) most []) := HKI.out.frame (Kp.of_below (F := fun _ => False) hw.below) fun _ _ h => h
    have HBW : Hid (Below w.heap.size w w') := below_step HB.out hw.below
    clear h hw
    go_wp2
    go_ret
    exact ⟨Or.inl ⟨_, _, rfl, HH.out, HKW.out, fun b hb => by rcases hb with e | e <;> omega⟩, HBW.out⟩
  · have HH : Hid (most < 0) := by show most < 0; simpa using h
    have HBW : Hid (Below w.heap.size w w') := below_step HB.out hw.below
    clear h hw
    unfold pB at he
    subst he
    exact ⟨rfl, Or.inr ⟨rfl, HH.out⟩, HBW.out⟩
end Go.Proofs.Yteaajhpgmndomaa
