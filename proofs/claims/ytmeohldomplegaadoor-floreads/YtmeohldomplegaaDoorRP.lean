/- The contract of the document's own Parse: a text is read as the number whose text it is, or refused. -/
import Derived.Test.YtmeohldomplegaaDoorY
import Derived.Test.YtmeohldomplegaaDoorZ
import Derived.Test.YtmeohldomplegaaDoorX
namespace Go.Proofs.YtmeohldomplegaaDoor
open Go.RowKit Fo Go.Sort
set_option maxRecDepth 100000

/-- Read, or refused. -/
def RPost (l : List UInt8) (r : Ending) : Prop :=
  ∃ (y : Nat) (f : Int), r = .returned (.tuple #[.float .f64 y, .int .i64 f]) ∧ ((∃ x, x < 18446744073709551616 ∧ textOf x = l ∧ y = bitsOf x ∧ f = 0) ∨ ((∀ x, x < 18446744073709551616 → textOf x ≠ l) ∧ y = 0 ∧ f = 16))
theorem RPost.no {l : List UInt8} (h : ∀ x, x < 18446744073709551616 → textOf x ≠ l) : RPost l (.returned (.tuple #[.float .f64 0, .int .i64 16])) := ⟨0, 16, rfl, Or.inr ⟨h, rfl, rfl⟩⟩
theorem RPost.yes {l : List UInt8} {x : Nat} (hx : x < 18446744073709551616) (h : textOf x = l) : RPost l (.returned (.tuple #[.float .f64 (bitsOf x), .int .i64 0])) := ⟨_, _, rfl, Or.inl ⟨x, hx, h, rfl, rfl⟩⟩

theorem smallB (T : ByteArray) (mo : Nat) (hmo : mo ≤ 17) (hmax : T.size ≤ 1000) (w0 w : World) (hB : Below w0.heap.size w0 w) :
    Calls Tryd.prog 44 #[.string T, .int .i64 mo] w fun r w' => (∃ n : Int, ∃ ok : Bool, r = .returned (.tuple #[.int .i64 n, .bool ok]) ∧ -1000000000000000000 < n ∧ n < 1000000000000000000 ∧ Hid ((T.data.toList.length ≤ mo + 1 → n = sN T.data.toList ∧ ok = sOk T.data.toList) ∧ (mo + 1 < T.data.toList.length → ok = false))) ∧ Below w0.heap.size w0 w' := by
  have hT : (⟨T.data.toList.toArray⟩ : ByteArray) = T := by apply ByteArray.ext; simp
  have := small_any T.data.toList mo hmo (by have : T.data.toList.length = T.size := by simp
                                             omega) w
  rw [hT] at this
  refine this.mono fun r w' hh => ?_
  obtain ⟨⟨n, ok, h1, h2, h3, h4, h5⟩, hb⟩ := hh
  exact ⟨⟨n, ok, h1, h2, h3, h4, h5⟩, hB.trans (hb.mono hB.size)⟩
theorem rtextB (y : Nat) (hy : y < 18446744073709551616) (w0 w : World) (hB : Below w0.heap.size w0 w) :
    Calls Tryd.prog 22 #[.float .f64 y] w fun e w' => e = .returned (.string ⟨(textOf y).toArray⟩) ∧ Below w0.heap.size w0 w' :=
  (rtext_any y hy w).mono fun _ _ hh => ⟨hh.1, hB.trans (hh.2.mono hB.size)⟩
theorem rbitsB (y : Nat) (hy : y < 18446744073709551616) (w0 w : World) (hB : Below w0.heap.size w0 w) :
    Calls Tryd.prog 14 #[.float .f64 y] w fun e w' => e = .returned (.int .u64 (bitsOf y : Nat)) ∧ Below w0.heap.size w0 w' :=
  (rbits_any y hy w).mono fun _ _ hh => ⟨hh.1, hh.2 ▸ hB⟩
theorem rofB (y : Nat) (hy : y < 18446744073709551616) (w0 w : World) (hB : Below w0.heap.size w0 w) :
    Calls Tryd.prog 20 #[.int .u64 (bitsOf y : Int)] w fun e w' => e = .returned (.float .f64 (bitsOf y)) ∧ Below w0.heap.size w0 w' :=
  (rofbits y _ rfl hy w).mono fun _ _ hh => ⟨hh.1, hh.2 ▸ hB⟩

set_option maxHeartbeats 8000000 in
theorem rp_neg (S t : ByteArray) (hS : S.size ≤ 300) (h1 : 0 < S.size) (hneg : (((S[0].toNat : Nat) : Int) == 45) = true) (ht : S.extract 1 S.size = t) (n1 : (t.toList == [110, 97, 110]) = false) (n2 : (t.toList == [105, 110, 102]) = false) (hts : t.size ≤ 300) (w : World)
    (hnone : (∀ (j : Nat) (h : j < t.size), t[j].toNat ≠ 98) → ∀ x, x < 18446744073709551616 → textOf x ≠ S.toList)
    (hsome : ∀ (k : Nat) (h : k < t.size), t[k].toNat = 98 → (∀ (j : Nat) (h : j < t.size), j < k → t[j].toNat ≠ 98) → ∀ x, x < 18446744073709551616 → textOf x = S.toList →
      ((t.extract 0 k).data.toList.length ≤ 18 ∧ (t.extract (k + 1) t.size).data.toList.length ≤ 6 ∧ sOk (t.extract 0 k).data.toList = true ∧ sOk (t.extract (k + 1) t.size).data.toList = true ∧ 0 ≤ sN (t.extract 0 k).data.toList ∧ sN (t.extract 0 k).data.toList ≤ 9007199254740992 ∧ -1074 ≤ sN (t.extract (k + 1) t.size).data.toList ∧ sN (t.extract (k + 1) t.size).data.toList ≤ 1023) ∧
      (∀ (M E : Nat), sN (t.extract 0 k).data.toList = M → sN (t.extract (k + 1) t.size).data.toList = E → textOf (flip (dblN E (f64 M))) = S.toList) ∧
      (∀ (M E : Nat), sN (t.extract 0 k).data.toList = M → sN (t.extract (k + 1) t.size).data.toList = -(E : Int) → textOf (flip (hlvN E (f64 M))) = S.toList)) :
    Calls Tryd.prog 25 #[.string S] w fun r w' => RPost S.toList r ∧ Below w.heap.size w w' := by
  have HNONE : Hid ((∀ (j : Nat) (h : j < t.size), t[j].toNat ≠ 98) → ∀ x, x < 18446744073709551616 → textOf x ≠ S.toList) := hnone
  clear hnone
  have HSOME := Lib.hid hsome
  clear hsome
  have hBr := Below.refl w.heap.size w
  go_enter Tryd.func25, Tryd.ntmps25
  go_wp2
  go_loop [7] (fun vk => ∃ k : Nat, k ≤ t.size ∧ vk = .int .i64 k ∧ Hid (∀ (j : Nat) (h : j < t.size), j < k → t[j].toNat ≠ 98)) (fun i => t.size - (intOf i).toNat)
  case atStart => exact ⟨0, by omega, rfl, fun j h h' => absurd h' (by omega)⟩
  case round =>
    obtain ⟨k, hk, rfl, HK⟩ := hrel
    by_cases hlt : k < t.size
    · by_cases hb : t[k].toNat = 98
      · have hb' : (((t[k].toNat : Nat) : Int) != 98) = false := by simp [hb]
        have hle : ¬ (t.size : Int) ≤ k := by omega
        have hyes0 := HSOME.out k hlt hb HK.out
        have hbH : Hid (t[k].toNat = 98) := hb
        have hz1 : (t.extract 0 k).size ≤ 1000 := by rw [ByteArray.size_extract]; omega
        have hz2 : (t.extract (k + 1) t.size).size ≤ 1000 := by rw [ByteArray.size_extract]; omega
        have HY0 := Lib.hid hyes0
        clear hb hyes0 HSOME HNONE
        obtain ⟨ta, hta⟩ : ∃ ta, ta = t.extract 0 k := ⟨_, rfl⟩
        obtain ⟨tb, htb⟩ : ∃ tb, tb = t.extract (k + 1) t.size := ⟨_, rfl⟩
        rw [← hta] at hz1
        rw [← htb] at hz2
        rw [← hta, ← htb] at HY0
        have hta' := hta.symm
        have htb' := htb.symm
        clear hta htb
        have c44a : ∀ w', Below w.heap.size w w' → Calls Tryd.prog 44 #[.string ta, .int .i64 17] w' fun r w'' => (∃ n : Int, ∃ ok : Bool, r = .returned (.tuple #[.int .i64 n, .bool ok]) ∧ -1000000000000000000 < n ∧ n < 1000000000000000000 ∧ Hid ((ta.data.toList.length ≤ 17 + 1 → n = sN ta.data.toList ∧ ok = sOk ta.data.toList) ∧ (17 + 1 < ta.data.toList.length → ok = false))) ∧ Below w.heap.size w w'' := fun w' hB => smallB ta 17 (by decide) hz1 w w' hB
        have c44b : ∀ w', Below w.heap.size w w' → Calls Tryd.prog 44 #[.string tb, .int .i64 5] w' fun r w'' => (∃ n : Int, ∃ ok : Bool, r = .returned (.tuple #[.int .i64 n, .bool ok]) ∧ -1000000000000000000 < n ∧ n < 1000000000000000000 ∧ Hid ((tb.data.toList.length ≤ 5 + 1 → n = sN tb.data.toList ∧ ok = sOk tb.data.toList) ∧ (5 + 1 < tb.data.toList.length → ok = false))) ∧ Below w.heap.size w w'' := fun w' hB => smallB tb 5 (by decide) hz2 w w' hB
        go_wp2_with (go_at_call 44; fail)
        refine (c44a _ hBr).mono ?_
        rintro e wa ⟨⟨m, ok1, rfl, l1, u1, H1⟩, hB1⟩
        clear c44a
        go_wp2_with (go_at_call 44; fail)
        refine (c44b _ hB1).mono ?_
        rintro e wb ⟨⟨n, ok2, rfl, l2, u2, H2⟩, hB2⟩
        clear c44b
        have HR : Hid (∀ x, x < 18446744073709551616 → textOf x = S.toList → ok1 = true ∧ ok2 = true ∧ 0 ≤ m ∧ m ≤ 9007199254740992 ∧ -1074 ≤ n ∧ n ≤ 1023 ∧ m = sN ta.data.toList ∧ n = sN tb.data.toList) := fun x hx h => by
          obtain ⟨⟨a1, a2, a3, a4, a5, a6, a7, a8⟩, -, -⟩ := HY0.out x hx h
          obtain ⟨e1, e2⟩ := H1.out.1 (by omega)
          obtain ⟨e3, e4⟩ := H2.out.1 (by omega)
          rw [e1, e2, e3, e4]
          exact ⟨a3, a4, a5, a6, a7, a8, rfl, rfl⟩
        have HYD : Hid (∀ x, x < 18446744073709551616 → textOf x = S.toList → (∀ (M E : Nat), m = M → n = E → textOf (flip (dblN E (f64 M))) = S.toList) ∧ (∀ (M E : Nat), m = M → n = -(E : Int) → textOf (flip (hlvN E (f64 M))) = S.toList)) := fun x hx h => by
          obtain ⟨-, -, -, -, -, -, e1, e2⟩ := HR.out x hx h
          obtain ⟨-, d, g⟩ := HY0.out x hx h
          rw [e1, e2]; exact ⟨d, g⟩
        clear HY0 H1 H2
        cases ok1
        · go_wp2
          go_ret2
          exact ⟨RPost.no fun x hx h => (by have := (HR.out x hx h).1; cases this), by assumption⟩
        cases ok2
        · go_wp2
          go_ret2
          exact ⟨RPost.no fun x hx h => (by have := (HR.out x hx h).2.1; cases this), by assumption⟩
        by_cases r1 : m < 0
        · go_wp2
          go_ret2
          exact ⟨RPost.no fun x hx h => by have := HR.out x hx h; omega, by assumption⟩
        by_cases r2 : 9007199254740992 < m
        · go_wp2
          go_ret2
          exact ⟨RPost.no fun x hx h => by have := HR.out x hx h; omega, by assumption⟩
        by_cases r3 : n < -1074
        · go_wp2
          go_ret2
          exact ⟨RPost.no fun x hx h => by have := HR.out x hx h; omega, by assumption⟩
        by_cases r4 : 1023 < n
        · go_wp2
          go_ret2
          exact ⟨RPost.no fun x hx h => by have := HR.out x hx h; omega, by assumption⟩
        obtain ⟨M, hM⟩ : ∃ M : Nat, m = (M : Int) := ⟨m.toNat, by omega⟩
        have hx0 : f64 M ≤ 9218868437227405312 := by
          by_cases h0 : M = 0
          · subst h0; rw [f64_zero]; decide
          · have := f64_bd M (by omega) (by omega); omega
        have hfo : floatOfInt .f64 m = f64 M := by rw [hM]; rfl
        have HM := Lib.hid hM
        clear hM
        clear HR
        by_cases hpos : 0 < n
        · obtain ⟨E, hEn⟩ : ∃ E : Nat, n = (E : Int) := ⟨n.toNat, by omega⟩
          have HE := Lib.hid hEn
          clear hEn
          have HX : Hid (∀ x, x < 18446744073709551616 → textOf x = S.toList → textOf (flip (dblN E (f64 M))) = S.toList) := fun x hx h => (HYD.out x hx h).1 M E HM.out HE.out
          clear HYD HM
          generalize f64 M = x0 at hx0 HX hfo
          have hdl := dblN_le x0 hx0
          have HDL := Lib.hid hdl
          clear hdl hx0
          go_wp2
          go_loop [6, 10] (fun vx ve => ∃ (i X : Nat), i ≤ E ∧ ve = .int .i64 i ∧ vx = .float .f64 X ∧ Hid (X = dblN (E - i) x0)) (fun _ ve => (intOf ve).toNat)
          case atStart => exact ⟨E, x0, Nat.le_refl _, by rw [HE.out], rfl, by rw [Nat.sub_self]; rfl⟩
          case round =>
            obtain ⟨i, X, hi, rfl, rfl, HXi⟩ := hrel
            have hE23 : E ≤ 1023 := by have := HE.out; omega
            have hXle : X ≤ 9218868437227405312 := by rw [HXi.out]; exact HDL.out _
            by_cases hi0 : 0 < i
            · have hdb := (dbl_some X hXle).1
              have HN : Hid (dbl X = dblN (E - (i - 1)) x0) := by
                show dbl X = _
                rw [HXi.out, show E - (i - 1) = (E - i) + 1 by omega]; rfl
              have m1 : ∀ (w : World) t, (binOp .mul t (.float .f64 X) (.float .f64 4611686018427387904)).run Tryd.prog w = .ok (.float .f64 (dbl X)) w :=
                fun w t => run_float_arith w .mul t .f64 _ _ _ hdb
              clear hdb
              go_wp2
              go_round
              case rel => exact ⟨i - 1, dbl X, by omega, by go_num, rfl, HN.out⟩
              case measure => simp [intOf]; omega
            · obtain rfl : i = 0 := by omega
              rw [Nat.sub_zero] at HXi
              rw [← HXi.out] at HX
              clear HXi HDL hi0 hi
              go_wp2
              go_loop [6, 10] (fun vx ve => ve = .int .i64 0 ∧ vx = .float .f64 X) (fun _ _ => 0)
              case atStart => exact ⟨rfl, rfl⟩
              case round =>
                obtain ⟨rfl, rfl⟩ := hrel
                have hXlt : X < 18446744073709551616 := by omega
                have hunary : Op.unary .neg (.float .f64 X) = pure (.float .f64 (flip X)) := by rw [← neg_eq X hXlt]; rfl
                have hYlt : (flip X) < 18446744073709551616 := flip_lt X hXlt
                obtain ⟨Y, hY⟩ : ∃ Y, Y = (flip X) := ⟨_, rfl⟩
                rw [← hY] at hYlt HX hunary
                clear hY
                cases q : (textOf Y == S.toList)
                · have HQ : Hid (¬ textOf Y = S.toList) := by
                    show ¬ _
                    intro h; rw [h] at q; simp at q
                  go_wp2_with (go_at_call 22; refine (rtextB _ hYlt w _ (by assumption)).mono ?_; rintro e w' ⟨rfl, hB'⟩)
                  go_ret2
                  exact ⟨RPost.no fun x hx h => HQ.out (HX.out x hx h), by assumption⟩
                · have HQ : Hid (textOf Y = S.toList) := beq_iff_eq.1 q
                  go_wp2_with (first
                    | (go_at_call 22; refine (rtextB _ hYlt w _ (by assumption)).mono ?_; rintro e w' ⟨rfl, hB'⟩)
                    | (go_at_call 14; refine (rbitsB _ hYlt w _ (by assumption)).mono ?_; rintro e w' ⟨rfl, hB'⟩)
                    | (go_at_call 20; refine (rofB _ hYlt w _ (by assumption)).mono ?_; rintro e w' ⟨rfl, hB'⟩))
                  go_ret2
                  exact ⟨RPost.yes hYlt HQ.out, by assumption⟩
        · obtain ⟨E, rfl⟩ : ∃ E : Nat, n = -(E : Int) := ⟨(-n).toNat, by omega⟩
          have HX : Hid (∀ x, x < 18446744073709551616 → textOf x = S.toList → textOf (flip (hlvN E (f64 M))) = S.toList) := fun x hx h => (HYD.out x hx h).2 M E HM.out rfl
          clear HYD HM
          generalize f64 M = x0 at hx0 HX hfo
          have hdl := hlvN_le x0 hx0
          have HDL := Lib.hid hdl
          clear hdl hx0
          go_wp2
          go_loop [6, 10] (fun vx ve => ve = .int .i64 (-(E : Int)) ∧ vx = .float .f64 x0) (fun _ _ => 0)
          case atStart => exact ⟨rfl, rfl⟩
          case round =>
            obtain ⟨rfl, rfl⟩ := hrel
            go_wp2
            go_loop [6, 10] (fun vx ve => ∃ (i X : Nat), i ≤ E ∧ ve = .int .i64 (-(i : Int)) ∧ vx = .float .f64 X ∧ Hid (X = hlvN (E - i) x0)) (fun _ ve => (-intOf ve).toNat)
            case atStart => exact ⟨E, x0, Nat.le_refl _, rfl, rfl, by rw [Nat.sub_self]; rfl⟩
            case round =>
              obtain ⟨i, X, hi, rfl, rfl, HXi⟩ := hrel
              have hXle : X ≤ 9218868437227405312 := by rw [HXi.out]; exact HDL.out _
              by_cases hi0 : 0 < i
              · have hdb := (hlv_some X hXle).1
                have HN : Hid (hlv X = hlvN (E - (i - 1)) x0) := by
                  show hlv X = _
                  rw [HXi.out, show E - (i - 1) = (E - i) + 1 by omega]; rfl
                have m1 : ∀ (w : World) t, (binOp .quo t (.float .f64 X) (.float .f64 4611686018427387904)).run Tryd.prog w = .ok (.float .f64 (hlv X)) w :=
                  fun w t => run_float_arith w .quo t .f64 _ _ _ hdb
                clear hdb
                go_wp2
                go_round
                case rel => exact ⟨i - 1, hlv X, by omega, by go_num, rfl, HN.out⟩
                case measure => simp [intOf]; omega
              · obtain rfl : i = 0 := by omega
                rw [Nat.sub_zero] at HXi
                rw [← HXi.out] at HX
                clear HXi HDL hi0 hi
                have hXlt : X < 18446744073709551616 := by omega
                have hunary : Op.unary .neg (.float .f64 X) = pure (.float .f64 (flip X)) := by rw [← neg_eq X hXlt]; rfl
                have hYlt : (flip X) < 18446744073709551616 := flip_lt X hXlt
                obtain ⟨Y, hY⟩ : ∃ Y, Y = (flip X) := ⟨_, rfl⟩
                rw [← hY] at hYlt HX hunary
                clear hY
                cases q : (textOf Y == S.toList)
                · have HQ : Hid (¬ textOf Y = S.toList) := by
                    show ¬ _
                    intro h; rw [h] at q; simp at q
                  go_wp2_with (go_at_call 22; refine (rtextB _ hYlt w _ (by assumption)).mono ?_; rintro e w' ⟨rfl, hB'⟩)
                  go_ret2
                  exact ⟨RPost.no fun x hx h => HQ.out (HX.out x hx h), by assumption⟩
                · have HQ : Hid (textOf Y = S.toList) := beq_iff_eq.1 q
                  go_wp2_with (first
                    | (go_at_call 22; refine (rtextB _ hYlt w _ (by assumption)).mono ?_; rintro e w' ⟨rfl, hB'⟩)
                    | (go_at_call 14; refine (rbitsB _ hYlt w _ (by assumption)).mono ?_; rintro e w' ⟨rfl, hB'⟩)
                    | (go_at_call 20; refine (rofB _ hYlt w _ (by assumption)).mono ?_; rintro e w' ⟨rfl, hB'⟩))
                  go_ret2
                  exact ⟨RPost.yes hYlt HQ.out, by assumption⟩
      · have hb' : (((t[k].toNat : Nat) : Int) != 98) = true := by simp; omega
        have HK' : Hid (∀ (j : Nat) (h : j < t.size), j < k + 1 → t[j].toNat ≠ 98) := fun j h h' => by
          by_cases e : j = k
          · subst e; exact hb
          · exact HK.out j h (by omega)
        clear hb
        go_wp2
        go_round
        case rel => exact ⟨k + 1, by omega, by go_num, HK'.out⟩
        case measure => simp [intOf]; omega
    · have hle : (t.size : Int) ≤ k := by omega
      have hn := HNONE.out (fun j h => HK.out j h (by omega))
      have HN := Lib.hid hn
      clear hn HSOME HNONE
      go_wp2
      go_ret2
      exact ⟨RPost.no HN.out, by assumption⟩
end Go.Proofs.YtmeohldomplegaaDoor
