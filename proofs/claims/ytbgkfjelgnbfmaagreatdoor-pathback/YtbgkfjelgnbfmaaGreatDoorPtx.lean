/- Paths, written: parts. -/
import Derived.Test.YtbgkfjelgnbfmaaGreatDoorPnb
import Derived.Test.YtbgkfjelgnbfmaaGreatDoorPcz
import Derived.Lib.ItoaNum
namespace Go.Proofs.YtbgkfjelgnbfmaaGreatDoor
open Go.RowKit Fo
set_option maxRecDepth 100000
set_option linter.unusedSimpArgs false
set_option linter.unusedVariables false

/-- make([]T, n). -/
theorem wpList_make_ow {P : Program} {T E : TypeId} (L : Elt P T E) (w : World) {ops : Array Oper} {rest : List Oper} {o : Oper} {a : Act} {Q : Exit → Act → World → Prop}
    (hg : o.guard = none) (l c : Operand) (hop : o.op = Op.makeSlice T l c) (z : Value) (hz : L.z = z) (hz1 : z.cells = #[z]) (kl kc : IntKind) (n : Nat) (hl : a.eval l = .int kl n) (hc : a.eval c = .int kc n) (hn : n ≤ 1000000000)
    (hK : ∀ w', Ow E w.heap.size w' (.slice (some ⟨w.heap.size, 0, none⟩) n n) n (fun _ => z) → Below w.heap.size w w' → wpList P ops Q rest (a.put o.dst (.slice (some ⟨w.heap.size, 0, none⟩) n n)) w') :
    wpList P ops Q (o :: rest) a w := by
  refine wpList_make_full w hg l c T hop w.heap.size E L.i L.z 1 L.hT L.hi L.hz L.hsize kl kc n n n hl hc rfl rfl ?_ (by unfold maxLen; omega) (Nat.le_refl _) fun w' h1 h2 => hK w' ?_ ?_
  · rw [L.hby]; exact Nat.le_trans (Nat.mul_le_mul L.hb8 hn) (by decide)
  · subst hz
    rw [hz1, Nat.mul_one, toList_madeCells_one] at h1
    have e : fl (fun _ => L.z) n = List.replicate n L.z := by
      apply List.ext_getElem?
      intro j
      by_cases hj : j < n
      · rw [fl_get _ _ _ hj]; simp [hj]
      · rw [List.getElem?_eq_none (by rw [fl_len]; omega), List.getElem?_eq_none (by simp; omega)]
    show w'.ownsRow _ _ _ _ _ _
    rw [e]
    exact h1
  · exact (below_refl w).grown h2 (Nat.le_refl _) fun k hk => by cases hk
noncomputable def eStr : Elt Tryz.prog 89 9 := ⟨Tryz.t9, .string ⟨#[]⟩, 16, Tryz.underlying89, by kernel_rfl, by kernel_rfl, by kernel_rfl, by kernel_rfl, rfl, by decide⟩
namespace Fo
theorem str_app (a b : List UInt8) : str a ++ str b = str (a ++ b) := by
  unfold str
  apply ByteArray.ext
  rw [ByteArray.data_append]
  simp
theorem txr_tail (s : UInt8) (m : Nat) : ∀ ts : List PT, txr s m ts = Lib.joinTail [s] (ts.map (win m))
  | [] => by rw [txr]; rfl
  | t :: ts => by rw [txr_cons, txr_tail s m ts]; simp [Lib.joinTail]
theorem txs_join (s : UInt8) (m : Nat) (ks : List PT) : txs s m ks = Lib.join (ks.map (win m)) [s] := by
  cases ks with
  | nil => rw [txs]; rfl
  | cons t ts => rw [txs_cons, txr_tail, List.map_cons, Lib.join_cons]
theorem win_le_txr (s : UInt8) (m : Nat) : ∀ (ts : List PT) (t : PT), t ∈ ts → (win m t).length ≤ (txr s m ts).length
  | u :: us, t, h => by
    rw [txr_cons]
    rcases List.mem_cons.1 h with rfl | h'
    · simp; omega
    · have := win_le_txr s m us t h'
      simp; omega
theorem win_le (s : UInt8) (m : Nat) (ks : List PT) (t : PT) (h : t ∈ ks) : (win m t).length ≤ (txs s m ks).length := by
  cases ks with
  | nil => cases h
  | cons u us =>
    rw [txs_cons]
    rcases List.mem_cons.1 h with rfl | h'
    · simp
    · have := win_le_txr s m us t h'
      simp; omega
theorem tx_le_win (m : Nat) (t : PT) : (tx t).length ≤ (win m t).length := by
  unfold win brk
  split <;> simp <;> omega
theorem dec_dg (n : Int) (h1 : 0 ≤ n) (h2 : n ≤ 8) : Lib.decDigits n.toNat = dg n := by
  rw [Lib.decDigits_one (by omega)]; rfl
end Fo
theorem bnd_any (w : World) (k : Int) : Calls Tryz.prog 73 #[.int .i64 k] w fun e w' => e = .returned (.int .i64 (bnd k)) ∧ w' = w := by
  by_cases h5 : k = 5
  · subst h5
    go_enter Tryz.func73, Tryz.ntmps73
    go_wp2
    go_ret
    exact ⟨rfl, rfl⟩
  by_cases h4 : k = 4
  · subst h4
    go_enter Tryz.func73, Tryz.ntmps73
    go_wp2
    go_ret
    exact ⟨rfl, rfl⟩
  have f5 : (k == 5) = false := by simp [h5]
  have f4 : (k == 4) = false := by simp [h4]
  have HV : Hid (bnd k = 3) := by show _ = _; unfold bnd; simp [h5, h4]
  go_enter Tryz.func73, Tryz.ntmps73
  go_wp2
  go_ret
  exact ⟨ret_int (by rw [HV.out]; rfl), rfl⟩
theorem its_any (w : World) (n : Int) (h1 : 0 ≤ n) (h2 : n ≤ 8) : Calls Tryz.prog 74 #[.int .i64 n] w fun e w' => e = .returned (.string (str (dg n))) ∧ w' = w := by
  have := Tryz.strconv_Itoa_small n.toNat (by omega) w
  rw [dec_dg n h1 h2, show ((n.toNat : Nat) : Int) = n by omega] at this
  exact this
theorem dg_size (n : Int) : (str (dg n)).size = 1 := rfl
set_option maxHeartbeats 4000000 in
theorem bds_any (w : World) (lo hi : Int) (h1 : 0 ≤ lo) (h2 : lo ≤ 8) (h3 : hi = -1 ∨ (1 ≤ hi ∧ hi ≤ 8)) : Calls Tryz.prog 54 #[.int .i64 lo, .int .i64 hi] w fun e w' => e = .returned (.string (str (repT lo hi))) ∧ w' = w := by
  have z1 : (str (dg lo)).size ≤ 10 := by rw [dg_size]; omega
  rcases h3 with rfl | ⟨h3, h4⟩
  · have HV : Hid (str (repT lo (-1)) = ⟨#[123]⟩ ++ str (dg lo) ++ ⟨#[44]⟩ ++ ⟨#[125]⟩) := by
      show _ = str [123] ++ str (dg lo) ++ str [44] ++ str [125]
      rw [str_app, str_app, str_app]
      simp [repT]
    have C := its_any w lo h1 h2
    generalize str (repT lo (-1)) = RR at HV
    generalize str (dg lo) = S1 at z1 C HV
    have HC : Hid (Calls _ _ _ _ _) := C
    clear C
    go_enter Tryz.func54, Tryz.ntmps54
    go_wp2_with (go_at_call 74; fail)
    refine HC.out.mono ?_
    rintro e w2 ⟨rfl, rfl⟩
    go_wp2
    go_ret
    exact ⟨ret_str HV.out.symm, rfl⟩
  · have HV : Hid (str (repT lo hi) = ⟨#[123]⟩ ++ str (dg lo) ++ ⟨#[44]⟩ ++ str (dg hi) ++ ⟨#[125]⟩) := by
      show _ = str [123] ++ str (dg lo) ++ str [44] ++ str (dg hi) ++ str [125]
      rw [str_app, str_app, str_app, str_app]
      unfold repT
      rw [if_neg (by omega)]
      simp
    have C := its_any w lo h1 h2
    have C2 := its_any w hi (by omega) h4
    have z2 : (str (dg hi)).size ≤ 10 := by rw [dg_size]; omega
    have hne : (hi != -1) = true := by simp; omega
    generalize str (repT lo hi) = RR at HV
    generalize str (dg lo) = S1 at z1 C HV
    generalize str (dg hi) = S2 at z2 C2 HV
    have HC : Hid (Calls _ _ _ _ _) := C
    have HC2 : Hid (Calls _ _ _ _ _) := C2
    clear C C2
    go_enter Tryz.func54, Tryz.ntmps54
    go_wp2_with (go_at_call 74; fail)
    refine HC.out.mono ?_
    rintro e w2 ⟨rfl, rfl⟩
    go_wp2_with (go_at_call 74; fail)
    refine HC2.out.mono ?_
    rintro e w3 ⟨rfl, rfl⟩
    go_wp2
    go_ret
    exact ⟨ret_str HV.out.symm, rfl⟩
/-- What bare answers of a path. -/
def BareSays (t : PT) : Prop := ∀ (F : Nat → Prop) (w : World) (x : PV), IsP F w x t → Calls Tryz.prog 33 #[x.v] w fun e w' => e = .returned (.string (str (tx t))) ∧ Below w.heap.size w w'
set_option maxHeartbeats 4000000 in
theorem wit_any (t : PT) (hb : BareSays t) (hl : (tx t).length ≤ 1000000) (F : Nat → Prop) (w : World) (x : PV) (m : Nat) (hp : IsP F w x t) : Calls Tryz.prog 53 #[x.v, .int .i64 m] w fun e w' => e = .returned (.string (str (win m t))) ∧ Below w.heap.size w w' := by
  have HP : Hid (IsP F w x t) := hp
  have HBS : Hid (BareSays t) := hb
  have hk : x.kind = t.kind := by cases hp; rfl
  have HW : Hid (str (win m t) = if bnd t.kind < m then ⟨#[40]⟩ ++ str (tx t) ++ ⟨#[41]⟩ else str (tx t)) := by
    show _ = if bnd t.kind < m then str [40] ++ str (tx t) ++ str [41] else str (tx t)
    by_cases h : bnd t.kind < m
    · rw [win_brk h, if_pos h, str_app, str_app]; simp
    · rw [win_bare h, if_neg h]
  have hz : (str (tx t)).size ≤ 1000000 := by rw [str_size]; exact hl
  rw [← hk] at HW
  clear hp hb hk hl
  obtain ⟨kind, label, a, len, cap, lo', hi'⟩ := x
  unfold PV.v
  simp only at HW
  generalize str (win m t) = RR at HW ⊢
  obtain ⟨S, hS⟩ : ∃ S, S = str (tx t) := ⟨_, rfl⟩
  have HS : Hid (S = str (tx t)) := hS
  rw [← hS] at HW hz
  clear hS
  obtain ⟨W1, hW1⟩ : ∃ W1, W1 = w.alloc (.cells #[.int .i64 kind, .string label, .slice a len cap, .int .i64 lo', .int .i64 hi'] 25) := ⟨_, rfl⟩
  have HBW1 : Hid (Below w.heap.size w W1) := by rw [hW1]; exact below1 w _
  have HGW1 : Hid (W1.heap[w.heap.size]? = some (.cells #[.int .i64 kind, .string label, .slice a len cap, .int .i64 lo', .int .i64 hi'] 25)) := by show W1.heap[_]? = _; rw [hW1]; exact heap_new1 w _
  go_enter Tryz.func53, Tryz.ntmps53
  go_wp2_with (go_at_call 73; refine (bnd_any _ _).mono ?_; rintro e wl ⟨rfl, rfl⟩; fail)
  rw [← hW1]
  clear hW1
  refine (bnd_any _ _).mono ?_
  rintro e wl ⟨rfl, rfl⟩
  have d0 := cell_of_row _ _ 0 _ _ _ HGW1.out
  have d1 := cell_of_row _ _ 1 _ _ _ HGW1.out
  have d2 := cell_of_row _ _ 2 _ _ _ HGW1.out
  have d3 := cell_of_row _ _ 3 _ _ _ HGW1.out
  have d4 := cell_of_row _ _ 4 _ _ _ HGW1.out
  simp only [List.getElem?_toArray, List.getElem?_cons_zero, List.getElem?_cons_succ] at d0 d1 d2 d3 d4
  generalize bnd kind = bk at HW
  by_cases h : bk < m
  · have h' : (bk : Int) < (m : Int) := by omega
    go_wp2_with (go_at_call 33; fail)
    refine (HBS.out F _ ⟨kind, label, a, len, cap, lo', hi'⟩ (HP.out.kp (Kp.of_below (F := fun _ => False) HBW1.out) (fun _ _ h => h) fun _ _ h => h)).mono ?_
    rw [← HS.out]
    rintro e w2 ⟨rfl, b2⟩
    have HB2 : Hid (Below w.heap.size w w2) := below_step HBW1.out b2
    clear b2 d0 d1 d2 d3 d4
    go_wp2
    go_ret
    exact ⟨ret_str (by rw [HW.out, if_pos h]), HB2.out⟩
  · have h' : ¬ (bk : Int) < (m : Int) := by omega
    go_wp2_with (go_at_call 33; fail)
    refine (HBS.out F _ ⟨kind, label, a, len, cap, lo', hi'⟩ (HP.out.kp (Kp.of_below (F := fun _ => False) HBW1.out) (fun _ _ h => h) fun _ _ h => h)).mono ?_
    rw [← HS.out]
    rintro e w2 ⟨rfl, b2⟩
    have HB2 : Hid (Below w.heap.size w w2) := below_step HBW1.out b2
    clear b2 d0 d1 d2 d3 d4
    go_wp2
    go_ret
    exact ⟨ret_str (by rw [HW.out, if_neg h]), HB2.out⟩
set_option maxHeartbeats 8000000 in
theorem joi_any (ks : List PT) (hb : ∀ t ∈ ks, BareSays t) (sign : UInt8) (m : Nat) (hl : (txs sign m ks).length ≤ 1000000) (hn : ks.length ≤ 1000001) (F : Nat → Prop) (w : World) (V : Nat → PV) (a : Option Addr) (cap : Nat) (hr : PRow F w a ks.length cap V) (hk : ∀ (j : Nat) (h : j < ks.length), IsP F w (V j) ks[j]) :
    Calls Tryz.prog 52 #[.slice a ks.length cap, .string (str [sign]), .int .i64 m] w fun e w' => e = .returned (.string (str (txs sign m ks))) ∧ Below w.heap.size w w' := by
  have HR : Hid (PRow F w a ks.length cap V) := hr
  have HK : Hid (∀ (j : Nat) (h : j < ks.length), IsP F w (V j) ks[j]) := hk
  have HBS : Hid (∀ t ∈ ks, BareSays t) := hb
  have HLT : Hid (∀ t ∈ ks, (tx t).length ≤ 1000000) := fun t ht => Nat.le_trans (tx_le_win m t) (Nat.le_trans (win_le sign m ks t ht) hl)
  have HL : Hid ((txs sign m ks).length ≤ 1000000) := hl
  have hl1 := hr.1
  have hl2 := hr.2.1
  have hsg : str [sign] = ⟨#[sign]⟩ := rfl
  have HSG : Hid (str [sign] = str [sign]) := rfl
  generalize hSS : str [sign] = SS
  have HSS : Hid (str [sign] = SS) := hSS
  clear hb hk hr hl hsg HSG hSS
  go_enter Tryz.func52, Tryz.ntmps52
  go_wp2_with (at_make; refine wpList_make_ow eStr w rfl _ _ rfl (.string ⟨#[]⟩) rfl rfl _ _ ks.length rfl rfl (by omega) ?_; intro w1 hO1 hb1; have HO1 : Hid (Ow 9 w.heap.size w1 (.slice (some ⟨w.heap.size, 0, none⟩) ks.length ks.length) ks.length fun _ => .string ⟨#[]⟩) := hO1; have HB1 : Hid (Below w.heap.size w w1) := hb1; clear hO1 hb1)
  go_loopw [15] (fun v15 wr => ∃ (i : Nat) (Z : Nat → Value), i ≤ ks.length ∧ v15 = .int .i64 i ∧ Hid (Below w.heap.size w wr) ∧ Hid (Ow 9 w.heap.size wr (.slice (some ⟨w.heap.size, 0, none⟩) ks.length ks.length) ks.length Z) ∧ Hid (∀ (j : Nat) (h : j < ks.length), j < i → Z j = .string (str (win m ks[j])))) (fun v _ => ks.length - (intOf v).toNat)
  case atStart => exact ⟨0, _, Nat.zero_le _, rfl, HB1.out, HO1.out, fun j h hj => absurd hj (Nat.not_lt_zero j)⟩
  case round =>
    obtain ⟨i, Z, hi, rfl, HB, HO, HZ⟩ := hrel
    rename World => wr
    by_cases hlt : i < ks.length
    · obtain ⟨b, off, rfl, -, hc⟩ := HR.out.2.2.resolve_left (by omega)
      have hP := (hc i hlt).of_block (HB.out.block b (hc i hlt).lt)
      have HKI : Hid (IsP F wr (V i) ks[i]) := (HK.out i hlt).kp (Kp.of_below (F := fun _ => False) HB.out) (fun _ _ h => h) fun _ _ h => h
      have HWI := fun (w' : World) (x : PV) (h : IsP F w' x ks[i]) => wit_any ks[i] (HBS.out _ (List.getElem_mem hlt)) (HLT.out _ (List.getElem_mem hlt)) F w' x m h
      have HW : Hid (∀ (w' : World) (x : PV) (h : IsP F w' x ks[i]), Calls Tryz.prog 53 #[x.v, .int .i64 m] w' fun e w'' => e = .returned (.string (str (win m ks[i]))) ∧ Below w'.heap.size w' w'') := HWI
      have HZ2 : Hid (∀ (j : Nat) (h : j < ks.length), j < i + 1 → updV Z i (.string (str (win m ks[i]))) j = .string (str (win m ks[j]))) := fun j h hj => by
        unfold updV
        by_cases e : j = i
        · subst e; rw [if_pos rfl]
        · rw [if_neg e]; exact HZ.out j h (by omega)
      clear hc HWI HZ HB1 HO1
      generalize ks[i] = ti at HKI HW HZ2
      obtain ⟨y, hy⟩ : ∃ y, y = V i := ⟨_, rfl⟩
      rw [← hy] at hP HKI
      clear hy
      obtain ⟨c0, c1, c2, c3, c4⟩ := hP
      obtain ⟨k0, k1, k2, k3, k4, k5, k6⟩ := y
      simp only at c0 c1 c2 c3 c4
      have j1 : (0 : Int) ≤ (i : Int) := by omega
      have j2 : (i : Int) < (ks.length : Int) := by omega
      go_wp2_with (go_at_call 53; fail)
      refine (HW.out _ ⟨k0, k1, k2, k3, k4, k5, k6⟩ (HKI.out.bel (below1 _ _))).mono ?_
      generalize str (win m ti) = S at HZ2
      rintro e w2 ⟨rfl, b2⟩
      have b3 : Below wr.heap.size wr w2 := below_step (below1 _ _) b2
      have hO2 := HO.out.below b3
      obtain ⟨g, eg, -, hc2, hz2⟩ := hO2.cells (by omega)
      obtain rfl : w.heap.size = g := by simpa using eg
      have e1 := hc2 i hlt
      have e2 := hz2 i
      have HO3 : Hid (Ow 9 w.heap.size (w2.setCell ⟨w.heap.size, i, none⟩ (.string S)) (.slice (some ⟨w.heap.size, 0, none⟩) ks.length ks.length) ks.length (updV Z i (.string S))) := hO2.put i _ hlt
      have HB3 : Hid (Below w.heap.size w (w2.setCell ⟨w.heap.size, i, none⟩ (.string S))) := ((Kp.of_below (F := fun _ => False) (below_step HB.out b3)).set (p := ⟨w.heap.size, i, none⟩) (Or.inr (Nat.le_refl _)) _).below (Nat.le_refl _) fun _ _ h => h
      clear b2 b3 hO2 eg hc2 hz2 HB HO
      go_wp2
      exact ⟨⟨i + 1, _, by omega, by simp, HB3.out, HO3.out, HZ2.out⟩, by simp [intOf]; omega⟩
    · have hn : i = ks.length := by omega
      subst hn
      have HJ : Hid (Calls Tryz.prog 72 #[.slice (some ⟨w.heap.size, 0, none⟩) ks.length ks.length, .string SS] wr fun e w' => e = .returned (.string (str (txs sign m ks))) ∧ Below wr.heap.size wr w') := by
        show Calls _ _ _ _ _
        rw [← HSS.out]
        by_cases h0 : ks = []
        · subst h0
          refine (Tryz.strings_Join_none _ _ _ _).mono ?_
          rintro e w' ⟨rfl, rfl⟩
          exact ⟨by rw [txs]; rfl, below_refl _⟩
        · have hpos : 0 < ks.length := by cases ks with | nil => exact absurd rfl h0 | cons => simp
          obtain ⟨g, eg, -, hc2, hz2⟩ := HO.out.cells hpos
          obtain rfl : w.heap.size = g := by simpa using eg
          have hjl : Lib.join ((ks.map fun t => str (win m t)).map (·.data.toList)) (str [sign]).data.toList = txs sign m ks := by
            rw [txs_join, List.map_map]
            rfl
          have hJ := Tryz.strings_Join w.heap.size 0 ks.length (ks.map fun t => str (win m t)) (str [sign]) wr (fun j x hx => by
            rw [List.getElem?_map] at hx
            have hj : j < ks.length := by
              rcases Nat.lt_or_ge j ks.length with h | h
              · exact h
              · rw [List.getElem?_eq_none h] at hx; cases hx
            rw [List.getElem?_eq_getElem hj] at hx
            have hx' : str (win m ks[j]) = x := by simpa using hx
            rw [Nat.zero_add, hc2 j hj, HZ.out j hj hj, hx']) (World.block_lt_of_cell? wr _ (hc2 0 hpos)) (by simp; omega) (by simp) (by rw [hjl]; have := HL.out; omega)
          rw [hjl, List.length_map] at hJ
          exact hJ
      clear HB1 HO1 HO HZ
      go_wp2_with (go_at_call 72; fail)
      refine HJ.out.mono ?_
      rintro e w2 ⟨rfl, b2⟩
      have HB2 : Hid (Below w.heap.size w w2) := below_step HB.out b2
      clear b2
      go_wp2
      go_ret
      exact ⟨ret_str rfl, HB2.out⟩
end Go.Proofs.YtbgkfjelgnbfmaaGreatDoor
