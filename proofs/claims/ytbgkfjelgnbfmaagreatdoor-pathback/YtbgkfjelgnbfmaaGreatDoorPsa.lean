/- Same: what it leans on. -/
import Derived.Test.YtbgkfjelgnbfmaaGreatDoorPbr
import Derived.Test.YtbgkfjelgnbfmaaGreatDoorPls
namespace Go.Proofs.YtbgkfjelgnbfmaaGreatDoor
open Go.RowKit Fo
set_option maxRecDepth 100000
set_option linter.unusedSimpArgs false
set_option linter.unusedVariables false

/-- Any list behind one of the call's own, an empty one too. -/
theorem run_appPn {B : Nat} {w : World} {v : Value} {n : Nat} {X : Nat → PV} (h : OwP B w v n X) (hB : B ≤ w.heap.size) {F : Nat → Prop} {a : Option Addr} {m c : Nat} {Y : Nat → PV} (hs : PRow F w a m c Y) (hnm : n + m ≤ 1000000000) (ty : TypeId) :
    ∃ v' w', (Builtin.append_ #[23, 23] ty #[v, .slice a m c]).run Tryz.prog w = .ok v' w' ∧ OwP B w' v' (n + m) (catP X n Y) ∧ w.grownBy w' v.ownBlock ∧ (v'.ownBlock = v.ownBlock ∨ v'.ownBlock = some w.heap.size) := by
  by_cases h0 : m = 0
  · subst h0
    have hi : Tryz.prog.info? 25 = some Tryz.t25 := by kernel_rfl
    have hfr : OwP B w v (n + 0) (catP X n Y) := h.congr fun j hj => by unfold catP; rw [if_pos hj]
    refine ⟨v, w, ?_, hfr, ⟨rfl, rfl, rfl, Nat.le_refl _, fun _ _ _ => rfl⟩, Or.inl rfl⟩
    rcases h.2 with ⟨rfl, rfl⟩ | ⟨g, cap, cur, rfl, hb, hg, hnc, hcm, hcs, ht⟩
    · cases a <;> simp [Builtin.append_, run_underlying pathT, sizeOf, typeInfo, hi, Builtin.lenOf, Builtin.firstCells, loadCells, loadCellsFrom]
    · cases a <;> simp [Builtin.append_, run_underlying pathT, sizeOf, typeInfo, hi, Builtin.lenOf, Builtin.firstCells, loadCells, loadCellsFrom, hnc, storeCells, Addr.add_lit]
  · exact run_appP h hB hs (by omega) hnm ty
theorem step_appP {ops : Array Oper} {o : Oper} {a : Act} {w : World} {K : Act → World → Prop} {Q : Exit → Act → World → Prop} {E : Prop} (hgd : o.guard = none) (s x : Operand)
    (ho : o.op = .call { callee := .builtin .append, args := #[s, x], argTypes := #[23, 23] })
    {B : Nat} {v : Value} {n : Nat} {X : Nat → PV} (h : OwP B w v n X) (hB : B ≤ w.heap.size) {F : Nat → Prop} {ad : Option Addr} {m c : Nat} {Y : Nat → PV} (hs : PRow F w ad m c Y) (N : Nat) (hN : n + m = N) (hnm : N ≤ 1000000000)
    (e1 : a.eval s = v) (e2 : a.eval x = .slice ad m c)
    (hk : ∀ a' c' w', OwP B w' (.slice a' N c') N (catP X n Y) → w.grownBy w' v.ownBlock → ((Value.slice a' N c').ownBlock = v.ownBlock ∨ (Value.slice a' N c').ownBlock = some w.heap.size) → K (a.put o.dst (.slice a' N c')) w') :
    if Region.wanted o (yielded ops a.tmps) = true then Oper.wp Tryz.prog o a w K Q else E := by
  have hw : Region.wanted o (yielded ops a.tmps) = true := by simp [Region.wanted, hgd]
  rw [if_pos hw]
  subst hN
  obtain ⟨v', w', hr, h1, h2, h3⟩ := run_appPn h hB hs hnm o.type
  obtain ⟨a', c', rfl, h4⟩ := h1.row
  unfold Oper.wp execOp
  simp only [ho, resolve, invoke, builtin, Sem.run_bind, Sem.run_pure, Result.andThen_ok, List.map_toArray, List.map_cons, List.map_nil, e1, e2, hr]
  exact hk a' c' w' h1 h2 h3
namespace Fo
def sal (x y : PV) : Bool := decide (x.kind = y.kind) && decide (x.len = y.len) && (if edge x.kind = true then decide (x.label.data.toList = y.label.data.toList) else if x.kind = 9 then decide (x.lo = y.lo) && decide (x.hi = y.hi) else true)
theorem same_sal {F F' : Nat → Prop} {w w' : World} {x y : PV} {V V' : Nat → PV} {ks ks' : List PT} (h : ks.length = x.len) (h' : ks'.length = y.len) : same (.mk x.kind x.label.data.toList ks x.lo x.hi) (.mk y.kind y.label.data.toList ks' y.lo y.hi) = (sal x y && sames ks ks') := by
  rw [same]; unfold sal; rw [h, h']
theorem sames_app : ∀ (a b c d : List PT), a.length = b.length → sames (a ++ c) (b ++ d) = (sames a b && sames c d)
  | [], [], c, d, _ => by simp [sames]
  | t :: ts, u :: us, c, d, h => by
    have := sames_app ts us c d (by simpa using h)
    rw [List.cons_append, List.cons_append, sames, sames, this, Bool.and_assoc]
mutual
/-- How many there are. -/
def nd : PT → Nat
  | .mk _ _ ks _ _ => 1 + nds ks
def nds : List PT → Nat
  | [] => 0
  | t :: ts => nd t + nds ts
end
theorem nds_app : ∀ a b : List PT, nds (a ++ b) = nds a + nds b
  | [], b => by simp [nds]
  | t :: ts, b => by rw [List.cons_append, nds, nds, nds_app ts b]; omega
theorem nd_pos (t : PT) : 1 ≤ nd t := by cases t; rw [nd]; omega
theorem nds_len : ∀ a : List PT, a.length ≤ nds a
  | [] => Nat.zero_le _
  | t :: ts => by have := nds_len ts; have := nd_pos t; rw [nds]; simp; omega
theorem nds_txr (s : UInt8) (m : Nat) : ∀ ts : List PT, (∀ t ∈ ts, nd t ≤ (tx t).length) → nds ts + ts.length ≤ (txr s m ts).length
  | [], _ => by simp [nds]
  | t :: ts, h => by
    have h1 := nds_txr s m ts fun u hu => h u (by simp [hu])
    have h2 := h t (by simp)
    have h3 : (tx t).length ≤ (win m t).length := by
      by_cases hw : bnd t.kind < m
      · rw [win_brk hw]; simp; omega
      · rw [win_bare hw]; omega
    rw [txr_cons, nds]; simp; omega
theorem nd_tx (t : PT) : ck t = 0 → nd t ≤ (tx t).length := by
  induction t using PT.ind with
  | h k l ks lo hi ih =>
    intro hc
    obtain ⟨ha, hk⟩ := ck_mk hc
    have hh : ∀ t ∈ ks, nd t ≤ (tx t).length := fun t ht => ih t ht (hk t ht)
    have hone : ∀ s : UInt8, ∀ m : Nat, ∀ ts : List PT, (∀ t ∈ ts, nd t ≤ (tx t).length) → ts ≠ [] → nds ts + ts.length ≤ (txs s m ts).length + 1 := fun s m ts h h0 => by
      have := nds_txr s m ts h
      cases ts with
      | nil => exact absurd rfl h0
      | cons t us => rw [txr_cons] at this; rw [txs_cons]; simp at this ⊢; omega
    rw [tx, nd]
    unfold headT
    rcases shapes ha with ⟨rfl, rfl⟩ | ⟨c, rfl, l1, -⟩ | ⟨c, hl, -⟩ | ⟨c, t, rfl⟩ | ⟨rfl, ⟨t, rfl⟩, -⟩
    · simp [nds]
    · have hl : 1 ≤ (nameT l).length := by
        have hle : l.length ≤ (nameT l).length ∨ 1 ≤ (nameT l).length := by
          unfold nameT; split
          · exact Or.inl (Nat.le_refl _)
          · exact Or.inr (by simp)
        omega
      rcases c with rfl | rfl
      · simp [nds]; omega
      · simp [nds]
    · have hne : ks ≠ [] := by rintro rfl; simp at hl
      rcases c with rfl | rfl
      · have := hone 47 2 ks hh hne; simp; omega
      · have := hone 124 1 ks hh hne; simp; omega
    · have := hone 0 3 [t] hh (by simp)
      simp only [List.length_singleton] at this
      rcases c with rfl | rfl | rfl
      · simp; omega
      · simp; omega
      · simp; omega
    · have := hone 0 3 [t] hh (by simp)
      simp only [List.length_singleton] at this
      unfold repT
      simp; omega
theorem nd_chk {t : PT} (h : chk t = 0) : nd t ≤ 3839 := Nat.le_trans (nd_tx t (chk_zero h).2.1) (chk_len h)
end Fo
set_option maxHeartbeats 8000000 in
theorem alone_any (x y : PV) (w : World) (hx : x.len ≤ 9223372036854775807) (hy : y.len ≤ 9223372036854775807) : Calls Tryz.prog 37 #[x.v, y.v] w fun e w' => e = .returned (.bool (sal x y)) ∧ Below w.heap.size w w' := by
  have HS : Hid (sal x y = (decide (x.kind = y.kind) && decide (x.len = y.len) && (if edge x.kind = true then decide (x.label.data.toList = y.label.data.toList) else if x.kind = 9 then decide (x.lo = y.lo) && decide (x.hi = y.hi) else true))) := rfl
  generalize sal x y = RES at HS ⊢
  obtain ⟨kind, label, a, len, cap, lo', hi'⟩ := x
  obtain ⟨kind2, label2, a2, len2, cap2, lo2, hi2⟩ := y
  unfold PV.v
  simp only at HS hx hy
  have HE : Hid (Below w.heap.size w ((w.alloc (.cells #[.int .i64 kind, .string label, .slice a len cap, .int .i64 lo', .int .i64 hi'] 25)).alloc (.cells #[.int .i64 kind2, .string label2, .slice a2 len2 cap2, .int .i64 lo2, .int .i64 hi2] 25))) := (below1 w _).alloc (by simp) _
  by_cases h1 : kind = kind2
  case neg =>
    rw [HS.out, decide_eq_false h1, Bool.false_and, Bool.false_and]
    clear HS
    have h1' : (kind != kind2) = true := by simpa using h1
    go_enter Tryz.func37, Tryz.ntmps37
    go_wp2
    go_ret
    exact ⟨rfl, HE.out⟩
  subst h1
  by_cases h2 : len = len2
  case neg =>
    rw [HS.out, decide_eq_false h2, Bool.and_false, Bool.false_and]
    clear HS
    have h2' : ((len : Int) != (len2 : Int)) = true := by simp; omega
    go_enter Tryz.func37, Tryz.ntmps37
    go_wp2
    go_ret
    exact ⟨rfl, HE.out⟩
  subst h2
  rw [decide_eq_true rfl, decide_eq_true rfl, Bool.true_and, Bool.true_and] at HS
  by_cases he : edge kind = true
  · rw [HS.out, if_pos he]
    clear HS
    have HD : Hid ((label.toList == label2.toList) = decide (label.data.toList = label2.data.toList)) := by
      show _ = _
      rw [ByteArray.toList_eq, ByteArray.toList_eq]
      by_cases h : label.data.toList = label2.data.toList
      · rw [h]; simp
      · rw [decide_eq_false h]; simpa using h
    go_enter Tryz.func37, Tryz.ntmps37
    go_wp2_with (go_at_call 58; refine (hlb_any _ _).mono ?_; rintro e wl ⟨rfl, rfl⟩; rw [he])
    go_ret
    exact ⟨congrArg (fun b => Ending.returned (.bool b)) HD.out, HE.out⟩
  have he : edge kind = false := by simpa using he
  by_cases h9 : kind = 9
  · rw [HS.out, if_neg (by rw [he]; decide), if_pos h9]
    clear HS
    subst h9
    by_cases hq : lo' = lo2
    · subst hq
      rw [decide_eq_true rfl, Bool.true_and]
      by_cases hz : hi' = hi2
      · subst hz
        rw [decide_eq_true rfl]
        go_enter Tryz.func37, Tryz.ntmps37
        go_wp2_with (go_at_call 58; refine (hlb_any _ _).mono ?_; rintro e wl ⟨rfl, rfl⟩; rw [he])
        go_ret
        exact ⟨rfl, HE.out⟩
      · rw [decide_eq_false hz]
        have hz' : (hi' == hi2) = false := by simpa using hz
        go_enter Tryz.func37, Tryz.ntmps37
        go_wp2_with (go_at_call 58; refine (hlb_any _ _).mono ?_; rintro e wl ⟨rfl, rfl⟩; rw [he])
        go_ret
        exact ⟨rfl, HE.out⟩
    · rw [decide_eq_false hq, Bool.false_and]
      have hq' : (lo' == lo2) = false := by simpa using hq
      go_enter Tryz.func37, Tryz.ntmps37
      go_wp2_with (go_at_call 58; refine (hlb_any _ _).mono ?_; rintro e wl ⟨rfl, rfl⟩; rw [he])
      go_ret
      exact ⟨rfl, HE.out⟩
  · rw [HS.out, if_neg (by rw [he]; decide), if_neg h9]
    clear HS
    have h9' : (kind != 9) = true := by simpa using h9
    go_enter Tryz.func37, Tryz.ntmps37
    go_wp2_with (go_at_call 58; refine (hlb_any _ _).mono ?_; rintro e wl ⟨rfl, rfl⟩; rw [he])
    go_ret
    exact ⟨rfl, HE.out⟩
end Go.Proofs.YtbgkfjelgnbfmaaGreatDoor
