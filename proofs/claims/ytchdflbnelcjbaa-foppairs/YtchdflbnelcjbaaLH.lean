/- The walk of FopPairs: it answers true at every two lists of numbers and every place. -/
import Derived.Test.YtchdflbnelcjbaaFB
import Derived.Deep.DeepCutAuto
namespace Go.Proofs.Ytchdflbnelcjbaa
open Go.RowKit Fo
set_option maxRecDepth 100000

theorem row_some {B : Nat} {w : World} {g n c k : Nat} {X : Nat → Nat} (h : FR B w (.slice (some ⟨g, 0, none⟩) n c) n X) (hk : some g = some k) : B ≤ k := by
  have := h.row g rfl
  have : g = k := Option.some.inj hk
  omega
theorem some_ne {g h : Nat} (e : g ≠ h) : some g ≠ some h := fun c => e (Option.some.inj c)
theorem Fo.FR.apart {B : Nat} {w cur : World} {g n c g' : Nat} {X : Nat → Nat} (h : FR B w (.slice (some ⟨g, 0, none⟩) n c) n X) (hk : ∀ k, k < w.heap.size → cur.heap[k]? = w.heap[k]?) (e : g' = cur.heap.size) : g' ≠ g := by
  have h1 := h.lt1
  have h2 := hk g h1
  rw [Array.getElem?_eq_getElem h1] at h2
  have := (Array.getElem?_eq_some_iff.1 h2).1
  omega
theorem Fo.FR.apart2 {B : Nat} {w cur : World} {g n c g' g1 : Nat} {X : Nat → Nat} (h : FR B w (.slice (some ⟨g, 0, none⟩) n c) n X) (hk : ∀ k, k < w.heap.size → cur.heap[k]? = w.heap[k]?) (hat : g' = g1 ∨ g' = cur.heap.size) (hne : g1 ≠ g) : g' ≠ g := by
  rcases hat with e | e
  · rw [e]; exact hne
  · exact h.apart hk e
theorem below_drew0 {B : Nat} {a w : World} (h : Below B a w) : Below B a w.drew := h.drew
theorem turn_pos (k0 : Int) (n : Nat) (hn : 1 ≤ n) : ∃ p : Nat, p < n ∧ ((k0.tmod (n : Int) = (p : Int)) ∨ (∃ q : Int, k0.tmod (n : Int) = q ∧ q < 0 ∧ -(n : Int) ≤ q ∧ q + (n : Int) = (p : Int))) := by
  obtain ⟨m, rfl⟩ : ∃ m, n = m + 1 := ⟨n - 1, by omega⟩
  obtain ⟨p, hp, h | ⟨q, h, h1, h2, h3⟩⟩ := turn_any k0 m
  · exact ⟨p, by omega, Or.inl (by rw [← h]; rfl)⟩
  · exact ⟨p, by omega, Or.inr ⟨q, by rw [← h]; rfl, h1, by omega, by omega⟩⟩
theorem pairs_out (a1 : Option Addr) (n cap1 : Nat) (a2 : Option Addr) (m cap2 : Nat) (k0 : Int) (w : World) (h : 200 < n ∨ (n ≤ 200 ∧ (n ≠ m ∨ n = 0))) :
    Calls Try.prog 7 #[.slice a1 n cap1, .slice a2 m cap2, .int .i64 k0] w fun r w' => r = .returned (.bool true) ∧ Below w.heap.size w w' := by
  rcases h with h | ⟨h, h2⟩
  · go_enter Try.func7, Try.ntmps7
    go_wp2_with (first | (go_at_call 15; refine (small_not _ _ _ _ (by assumption)).mono ?_; rintro e w' ⟨rfl, rfl⟩) | (go_at_call 14; refine (awake_true _).mono ?_; rintro e w' ⟨rfl, hb⟩))
    go_ret
    exact ⟨rfl, hb⟩
  · by_cases hne : n = m
    · subst hne
      obtain rfl : n = 0 := by omega
      clear h2
      go_enter Try.func7, Try.ntmps7
      go_wp2_with (first | (go_at_call 15; refine (small_yes _ _ _ _ (by decide)).mono ?_; rintro e w' ⟨rfl, rfl⟩) | (go_at_call 14; refine (awake_true _).mono ?_; rintro e w' ⟨rfl, hb⟩))
      go_ret
      exact ⟨rfl, hb⟩
    · have h1 : ((n : Int) != (m : Int)) = true := by simp; omega
      clear h2 hne
      go_enter Try.func7, Try.ntmps7
      go_wp2_with (first | (go_at_call 15; refine (small_yes _ _ _ _ (by assumption)).mono ?_; rintro e w' ⟨rfl, rfl⟩) | (go_at_call 14; refine (awake_true _).mono ?_; rintro e w' ⟨rfl, hb⟩))
      go_ret
      exact ⟨rfl, hb⟩
theorem pairs_bad (b1 off1 cap1 b2 off2 cap2 n : Nat) (k0 : Int) (w : World) (hn : n ≤ 200) (hn1 : 1 ≤ n)
    (c16 : ∀ w1, w1 = w → Calls Try.prog 16 #[.slice (some ⟨b1, off1, none⟩) n cap1, .slice (some ⟨b2, off2, none⟩) n cap2] w1 fun r w' => r = .returned (.tuple #[.float .f64 0, .int .i64 16]) ∧ Below w.heap.size w w') :
    Calls Try.prog 7 #[.slice (some ⟨b1, off1, none⟩) n cap1, .slice (some ⟨b2, off2, none⟩) n cap2, .int .i64 k0] w fun r w' => r = .returned (.bool true) ∧ Below w.heap.size w w' := by
  have h0 : ((n : Int) == 0) = false := by simp; omega
  have o : FloatKind.f64.format.order 0 0 = some .eq := ord_eq (by decide) rfl
  go_enter Try.func7, Try.ntmps7
  go_wp2_with (first
    | (go_at_call 15; refine (small_yes _ _ _ _ (by assumption)).mono ?_; rintro e w' ⟨rfl, hw⟩; replace hw := hw.symm; subst hw)
    | (go_at_call 16; refine (c16 _ rfl).mono ?_; rintro e w1 ⟨rfl, hB⟩)
    | (go_at_call 14; refine (awake_true _).mono ?_; rintro e w2 ⟨rfl, hb⟩))
  go_ret
  exact ⟨rfl, below_step hB hb⟩
set_option maxHeartbeats 16000000 in
theorem pairs_core (b1 off1 cap1 b2 off2 cap2 n : Nat) (k0 : Int) (w : World) (hn : n ≤ 200) (hn1 : 1 ≤ n) (X Y : Nat → Nat) (V : Nat) (TV : Nat → Nat → Nat) (TE : Nat → Nat → Int) (hV : V < 18446744073709551616)
    (h1 : Sl w (some ⟨b1, off1, none⟩) n cap1 X) (h2 : Sl w (some ⟨b2, off2, none⟩) n cap2 Y) (hX : ∀ j, X j < 18446744073709551616) (hY : ∀ j, Y j < 18446744073709551616)
    (c16' : ∀ w1, w1 = w → Calls Try.prog 16 #[.slice (some ⟨b1, off1, none⟩) n cap1, .slice (some ⟨b2, off2, none⟩) n cap2] w1 fun r w' => r = .returned (.tuple #[.float .f64 V, .int .i64 0]) ∧ Below w.heap.size w w')
    (c9 : ∀ a b, a < 18446744073709551616 → b < 18446744073709551616 → ∀ w, Calls Try.prog 9 #[.float .f64 a, .float .f64 b] w fun e w' => e = .returned (.tuple #[.float .f64 (TV a b), .int .i64 (TE a b)]) ∧ w' = w)
    (mt : Nat → Bool) (hmt : anyB mt n = true) (hT : ∀ j, j < n → TE (X j) (Y j) = 0 ∧ ((mt j = true ∧ FloatKind.f64.format.order (TV (X j) (Y j)) V = some .eq) ∨ (mt j = false ∧ FloatKind.f64.format.order (TV (X j) (Y j)) V = some .lt)))
    (HTurn : Hid (∀ p, p < n → ∃ Z1 Z2 : Nat → Nat, (∀ j, Z1 j < 18446744073709551616) ∧ (∀ j, Z2 j < 18446744073709551616) ∧ (∀ j, j < n → cat (fun j => Y (p + j)) (n - p) Y j = Z1 j) ∧ (∀ j, j < n → cat (fun j => X (p + j)) (n - p) X j = Z2 j) ∧
      ∀ a c1 b c2 w1, Sl w1 a n c1 Z1 → Sl w1 b n c2 Z2 → Calls Try.prog 16 #[.slice a n c1, .slice b n c2] w1 fun r w' => r = .returned (.tuple #[.float .f64 V, .int .i64 0]) ∧ Below w1.heap.size w1 w')) :
    Calls Try.prog 7 #[.slice (some ⟨b1, off1, none⟩) n cap1, .slice (some ⟨b2, off2, none⟩) n cap2, .int .i64 k0] w fun r w' => r = .returned (.bool true) ∧ Below w.heap.size w w' := by
  have h0 : ((n : Int) == 0) = false := by simp; omega
  have H1 : Hid (Sl w (some ⟨b1, off1, none⟩) n cap1 X) := h1
  have H2 : Hid (Sl w (some ⟨b2, off2, none⟩) n cap2 Y) := h2
  have hcap1 : n ≤ cap1 := h1.1
  have hcap2 : n ≤ cap2 := h2.1
  have hcc1 : cap1 ≤ 9223372036854775807 := h1.2.1
  have hcc2 : cap2 ≤ 9223372036854775807 := h2.2.1
  have HT : Hid (∀ j, j < n → TE (X j) (Y j) = 0 ∧ ((mt j = true ∧ FloatKind.f64.format.order (TV (X j) (Y j)) V = some .eq) ∨ (mt j = false ∧ FloatKind.f64.format.order (TV (X j) (Y j)) V = some .lt))) := hT
  clear h1 h2 hT
  go_enter Try.func7, Try.ntmps7
  go_wp2_with (first
    | (go_at_call 15; refine (small_yes _ _ _ _ (by assumption)).mono ?_; rintro e w' ⟨rfl, hw⟩; replace hw := hw.symm; subst hw)
    | (go_at_call 16; refine (c16' _ rfl).mono ?_; rintro e w1 ⟨rfl, hB⟩))
  have HB1 : Hid (Below w.heap.size w w1) := hB
  clear hB c16'
  go_loopw [9, 10] (fun met i wr => ∃ k : Nat, k ≤ n ∧ i = .int .i64 k ∧ met = .bool (anyB mt k) ∧ Hid (Below w.heap.size w wr)) (fun _ i _ => n - (intOf i).toNat)
  case atStart => exact ⟨0, Nat.zero_le _, rfl, rfl, HB1⟩
  case round =>
    obtain ⟨k, hk, rfl, rfl, HB⟩ := hrel
    rename World => wr
    by_cases hlt : k < n
    · obtain ⟨-, -, -, hz | ⟨b, off, e, hc⟩⟩ := H1.out.below HB.out
      · omega
      obtain ⟨rfl, rfl⟩ : b1 = b ∧ off1 = off := by simpa using e
      obtain ⟨-, -, -, hz | ⟨b, off, e, hd⟩⟩ := H2.out.below HB.out
      · omega
      obtain ⟨rfl, rfl⟩ : b2 = b ∧ off2 = off := by simpa using e
      have hck := hc k hlt
      have hdk := hd k hlt
      have hXk := hX k
      have hYk := hY k
      obtain ⟨e1, hm⟩ := HT.out k hlt
      have i1 : (0 : Int) ≤ (k : Int) := by omega
      have i2 : (k : Int) < (n : Int) := by omega
      have HA : Hid (anyB mt (k + 1) = (anyB mt k || mt k)) := rfl
      clear hc hd hX hY HT HTurn hmt H1 H2 HB1 e
      generalize anyB mt k = la at HA ⊢
      rcases hm with ⟨m1, o1⟩ | ⟨m1, o1⟩
      all_goals
        rw [m1] at HA
        cases la
        all_goals
          go_wp2
          go_quiet ((go_at_call 9; exact Calls.quiet_of_same (c9 _ _ (by assumption) (by assumption) _)))
          go_wp2
          go_roundw
          case rel => exact ⟨k + 1, by omega, by go_num, bool_eq HA.out.symm, below_drewN HB.out _⟩
          case measure => simp [intOf]; omega
    · obtain rfl : k = n := by omega
      rw [hmt]
      clear hX hY HT hmt c9 HB1
      obtain ⟨p, hp, hq⟩ := turn_pos k0 k hn1
      obtain ⟨Z1, Z2, hZ1l, hZ2l, hZ1e, hZ2e, c16⟩ := HTurn.out p hp
      have HZ1l : Hid (∀ j, Z1 j < 18446744073709551616) := hZ1l
      have HZ2l : Hid (∀ j, Z2 j < 18446744073709551616) := hZ2l
      have HZ1e : Hid (∀ j, j < k → cat (fun j => Y (p + j)) (k - p) Y j = Z1 j) := hZ1e
      have HZ2e : Hid (∀ j, j < k → cat (fun j => X (p + j)) (k - p) X j = Z2 j) := hZ2e
      clear hZ1l hZ2l hZ1e hZ2e HTurn
      have i1 : (0 : Int) ≤ (p : Int) := by omega
      have i2 : (p : Int) ≤ (k : Int) := by omega
      have i3 : (p : Int) ≤ (cap1 : Int) := by omega
      have i4 : (p : Int) ≤ (cap2 : Int) := by omega
      have hc1 : cap1 ≠ p := by omega
      have hc2 : cap2 ≠ p := by omega
      have hkz : ((k : Int) == 0) = false := h0
      have HSl1 : Hid (Sl wr (some ⟨b1, off1 + p, none⟩) (k - p) (cap1 - p) (fun j => X (p + j))) := (H1.out.below HB.out).tail p (k - p) (cap1 - p) (by omega) (by omega) (fun _ => rfl)
      have HSr1 : Hid (Sl wr (some ⟨b2, off2 + p, none⟩) (k - p) (cap2 - p) (fun j => Y (p + j))) := (H2.out.below HB.out).tail p (k - p) (cap2 - p) (by omega) (by omega) (fun _ => rfl)
      have HSl2 : Hid (Sl wr (some ⟨b1, off1, none⟩) p cap1 X) := (H1.out.below HB.out).head p (by omega)
      have HSr2 : Hid (Sl wr (some ⟨b2, off2, none⟩) p cap2 Y) := (H2.out.below HB.out).head p (by omega)
      clear H1 H2
      have HBr : Below wr.heap.size wr wr := below_refl wr
      rcases hq with hq | ⟨q, hq, q1, q2, q3⟩
      · go_upto_region 17 with fail
        go_cut [13, 14] (fun y g wx => y = .float .f64 V ∧ g = .int .i64 0 ∧ Below wr.heap.size wr wx)
        case first =>
          go_region_held3 (fun w' => Below wr.heap.size wr w') (first | exact below_drew0 (by assumption) | exact (Below.alloc (by assumption) (Below.size (by assumption)) _).drew | exact Below.alloc (by assumption) (Below.size (by assumption)) _ | assumption) (first
            | (refine step_app0 (B := wr.heap.size) (by rfl) (.tmp 86) (.tmp 89) (by rfl) (by rfl) (Below.size (by assumption)) (HSr1.out.below (by assumption)) (by omega) (by omega) (by rfl) (by rfl) ?_; intro gA kA wA hFA hGA hgA; have hBN := Below.grown (by assumption) hGA (Below.size (by assumption)) (fun k hk => by cases hk); have hne := FR.apart hFB (by first | exact heap_made _ _ | exact heap_made2 _ _ _ | exact Below.heap_alloc _ _ | exact fun _ _ => rfl) hgA; replace hFB := hFB.carry (by first | exact heap_made _ _ | exact heap_made2 _ _ _ | exact Below.heap_alloc _ _ | exact fun _ _ => rfl) hGA (by simp); clear hgA hGA)
            | (refine step_app0 (B := wr.heap.size) (by rfl) (.tmp 86) (.tmp 89) (by rfl) (by rfl) (Below.size (by assumption)) (HSr1.out.below (by assumption)) (by omega) (by omega) (by rfl) (by rfl) ?_; intro gA kA wA hFA hGA hgA; have hBN := Below.grown (by assumption) hGA (Below.size (by assumption)) (fun k hk => by cases hk); clear hgA hGA)
            | (refine step_app0 (B := wr.heap.size) (by rfl) (.tmp 95) (.tmp 98) (by rfl) (by rfl) (Below.size (by assumption)) (HSl1.out.below (by assumption)) (by omega) (by omega) (by rfl) (by rfl) ?_; intro gB kB wB hFB hGB hgB; have hBN := Below.grown (by assumption) hGB (Below.size (by assumption)) (fun k hk => by cases hk); have hne := (FR.apart hFA (by first | exact heap_made _ _ | exact heap_made2 _ _ _ | exact Below.heap_alloc _ _ | exact fun _ _ => rfl) hgB).symm; replace hFA := hFA.carry (by first | exact heap_made _ _ | exact heap_made2 _ _ _ | exact Below.heap_alloc _ _ | exact fun _ _ => rfl) hGB (by simp); clear hgB hGB)
            | (refine step_app0 (B := wr.heap.size) (by rfl) (.tmp 95) (.tmp 98) (by rfl) (by rfl) (Below.size (by assumption)) (HSl1.out.below (by assumption)) (by omega) (by omega) (by rfl) (by rfl) ?_; intro gB kB wB hFB hGB hgB; have hBN := Below.grown (by assumption) hGB (Below.size (by assumption)) (fun k hk => by cases hk); clear hgB hGB)
            | (refine step_app2 (by rfl) (.tmp 90) (.tmp 93) (by rfl) (by rfl) hFA (by first | exact heap_made _ _ | exact heap_made2 _ _ _ | exact Below.heap_alloc _ _ | exact fun _ _ => rfl) (Below.size (by assumption)) (HSr2.out.below (by assumption)) (by omega) k (by omega) (by omega) Z1 HZ1l.out HZ1e.out (by rfl) (by rfl) ?_; intro g2 k2 w2 hF2 hG2 hat; have hBN := Below.grown (by assumption) hG2 (Below.size (by assumption)) (fun k hk => row_some hFA hk); have hne2 := (FR.apart2 hFB (by first | exact heap_made _ _ | exact heap_made2 _ _ _ | exact Below.heap_alloc _ _ | exact fun _ _ => rfl) hat hne); replace hFB := hFB.carry (by first | exact heap_made _ _ | exact heap_made2 _ _ _ | exact Below.heap_alloc _ _ | exact fun _ _ => rfl) hG2 (some_ne hne.symm); clear hne; have hne := hne2; clear hne2; clear hFA; have hFA := hF2; clear hF2 hat hG2)
            | (refine step_app2 (by rfl) (.tmp 90) (.tmp 93) (by rfl) (by rfl) hFA (by first | exact heap_made _ _ | exact heap_made2 _ _ _ | exact Below.heap_alloc _ _ | exact fun _ _ => rfl) (Below.size (by assumption)) (HSr2.out.below (by assumption)) (by omega) k (by omega) (by omega) Z1 HZ1l.out HZ1e.out (by rfl) (by rfl) ?_; intro g2 k2 w2 hF2 hG2 hat; have hBN := Below.grown (by assumption) hG2 (Below.size (by assumption)) (fun k hk => row_some hFA hk); clear hFA; have hFA := hF2; clear hF2 hat hG2)
            | (refine step_app2 (by rfl) (.tmp 99) (.tmp 102) (by rfl) (by rfl) hFB (by first | exact heap_made _ _ | exact heap_made2 _ _ _ | exact Below.heap_alloc _ _ | exact fun _ _ => rfl) (Below.size (by assumption)) (HSl2.out.below (by assumption)) (by omega) k (by omega) (by omega) Z2 HZ2l.out HZ2e.out (by rfl) (by rfl) ?_; intro g2 k2 w2 hF2 hG2 hat; have hBN := Below.grown (by assumption) hG2 (Below.size (by assumption)) (fun k hk => row_some hFB hk); have hne2 := (FR.apart2 hFA (by first | exact heap_made _ _ | exact heap_made2 _ _ _ | exact Below.heap_alloc _ _ | exact fun _ _ => rfl) hat hne.symm).symm; replace hFA := hFA.carry (by first | exact heap_made _ _ | exact heap_made2 _ _ _ | exact Below.heap_alloc _ _ | exact fun _ _ => rfl) hG2 (some_ne hne); clear hne; have hne := hne2; clear hne2; clear hFB; have hFB := hF2; clear hF2 hat hG2)
            | (refine step_app2 (by rfl) (.tmp 99) (.tmp 102) (by rfl) (by rfl) hFB (by first | exact heap_made _ _ | exact heap_made2 _ _ _ | exact Below.heap_alloc _ _ | exact fun _ _ => rfl) (Below.size (by assumption)) (HSl2.out.below (by assumption)) (by omega) k (by omega) (by omega) Z2 HZ2l.out HZ2e.out (by rfl) (by rfl) ?_; intro g2 k2 w2 hF2 hG2 hat; have hBN := Below.grown (by assumption) hG2 (Below.size (by assumption)) (fun k hk => row_some hFB hk); clear hFB; have hFB := hF2; clear hF2 hat hG2)
            | (go_at_call 16; refine (c16 _ _ _ _ _ (by exact hFA.sl1) (by exact hFB.sl1)).mono ?_; rintro e w' ⟨rfl, hBc⟩; have hBN := Below.trans (by assumption) (hBc.mono (Below.size (by assumption)))))
          all_goals (go_wp2_with fail; go_meet; exact ⟨rfl, rfl, by assumption⟩)
        case rest =>
          obtain ⟨rfl, rfl, hBx⟩ := hcut
          clear HZ1l HZ2l HZ1e HZ2e c16 HSl1 HSl2 HSr1 HSr2
          go_wp2_with (first
            | (go_at_call 13; refine (same_self _ (by assumption) _).mono ?_; rintro e w' ⟨rfl, hw⟩; replace hw := hw.symm; subst hw)
            | (go_at_call 14; refine (awake_true _).mono ?_; rintro e w8 ⟨rfl, hb⟩))
          go_ret
          exact ⟨rfl, below_step (below_step HB.out hBx) hb⟩
      · go_upto_region 17 with fail
        go_cut [13, 14] (fun y g wx => y = .float .f64 V ∧ g = .int .i64 0 ∧ Below wr.heap.size wr wx)
        case first =>
          go_region_held3 (fun w' => Below wr.heap.size wr w') (first | exact below_drew0 (by assumption) | exact (Below.alloc (by assumption) (Below.size (by assumption)) _).drew | exact Below.alloc (by assumption) (Below.size (by assumption)) _ | assumption) (first
            | (refine step_app0 (B := wr.heap.size) (by rfl) (.tmp 86) (.tmp 89) (by rfl) (by rfl) (Below.size (by assumption)) (HSr1.out.below (by assumption)) (by omega) (by omega) (by rfl) (by rfl) ?_; intro gA kA wA hFA hGA hgA; have hBN := Below.grown (by assumption) hGA (Below.size (by assumption)) (fun k hk => by cases hk); have hne := FR.apart hFB (by first | exact heap_made _ _ | exact heap_made2 _ _ _ | exact Below.heap_alloc _ _ | exact fun _ _ => rfl) hgA; replace hFB := hFB.carry (by first | exact heap_made _ _ | exact heap_made2 _ _ _ | exact Below.heap_alloc _ _ | exact fun _ _ => rfl) hGA (by simp); clear hgA hGA)
            | (refine step_app0 (B := wr.heap.size) (by rfl) (.tmp 86) (.tmp 89) (by rfl) (by rfl) (Below.size (by assumption)) (HSr1.out.below (by assumption)) (by omega) (by omega) (by rfl) (by rfl) ?_; intro gA kA wA hFA hGA hgA; have hBN := Below.grown (by assumption) hGA (Below.size (by assumption)) (fun k hk => by cases hk); clear hgA hGA)
            | (refine step_app0 (B := wr.heap.size) (by rfl) (.tmp 95) (.tmp 98) (by rfl) (by rfl) (Below.size (by assumption)) (HSl1.out.below (by assumption)) (by omega) (by omega) (by rfl) (by rfl) ?_; intro gB kB wB hFB hGB hgB; have hBN := Below.grown (by assumption) hGB (Below.size (by assumption)) (fun k hk => by cases hk); have hne := (FR.apart hFA (by first | exact heap_made _ _ | exact heap_made2 _ _ _ | exact Below.heap_alloc _ _ | exact fun _ _ => rfl) hgB).symm; replace hFA := hFA.carry (by first | exact heap_made _ _ | exact heap_made2 _ _ _ | exact Below.heap_alloc _ _ | exact fun _ _ => rfl) hGB (by simp); clear hgB hGB)
            | (refine step_app0 (B := wr.heap.size) (by rfl) (.tmp 95) (.tmp 98) (by rfl) (by rfl) (Below.size (by assumption)) (HSl1.out.below (by assumption)) (by omega) (by omega) (by rfl) (by rfl) ?_; intro gB kB wB hFB hGB hgB; have hBN := Below.grown (by assumption) hGB (Below.size (by assumption)) (fun k hk => by cases hk); clear hgB hGB)
            | (refine step_app2 (by rfl) (.tmp 90) (.tmp 93) (by rfl) (by rfl) hFA (by first | exact heap_made _ _ | exact heap_made2 _ _ _ | exact Below.heap_alloc _ _ | exact fun _ _ => rfl) (Below.size (by assumption)) (HSr2.out.below (by assumption)) (by omega) k (by omega) (by omega) Z1 HZ1l.out HZ1e.out (by rfl) (by rfl) ?_; intro g2 k2 w2 hF2 hG2 hat; have hBN := Below.grown (by assumption) hG2 (Below.size (by assumption)) (fun k hk => row_some hFA hk); have hne2 := (FR.apart2 hFB (by first | exact heap_made _ _ | exact heap_made2 _ _ _ | exact Below.heap_alloc _ _ | exact fun _ _ => rfl) hat hne); replace hFB := hFB.carry (by first | exact heap_made _ _ | exact heap_made2 _ _ _ | exact Below.heap_alloc _ _ | exact fun _ _ => rfl) hG2 (some_ne hne.symm); clear hne; have hne := hne2; clear hne2; clear hFA; have hFA := hF2; clear hF2 hat hG2)
            | (refine step_app2 (by rfl) (.tmp 90) (.tmp 93) (by rfl) (by rfl) hFA (by first | exact heap_made _ _ | exact heap_made2 _ _ _ | exact Below.heap_alloc _ _ | exact fun _ _ => rfl) (Below.size (by assumption)) (HSr2.out.below (by assumption)) (by omega) k (by omega) (by omega) Z1 HZ1l.out HZ1e.out (by rfl) (by rfl) ?_; intro g2 k2 w2 hF2 hG2 hat; have hBN := Below.grown (by assumption) hG2 (Below.size (by assumption)) (fun k hk => row_some hFA hk); clear hFA; have hFA := hF2; clear hF2 hat hG2)
            | (refine step_app2 (by rfl) (.tmp 99) (.tmp 102) (by rfl) (by rfl) hFB (by first | exact heap_made _ _ | exact heap_made2 _ _ _ | exact Below.heap_alloc _ _ | exact fun _ _ => rfl) (Below.size (by assumption)) (HSl2.out.below (by assumption)) (by omega) k (by omega) (by omega) Z2 HZ2l.out HZ2e.out (by rfl) (by rfl) ?_; intro g2 k2 w2 hF2 hG2 hat; have hBN := Below.grown (by assumption) hG2 (Below.size (by assumption)) (fun k hk => row_some hFB hk); have hne2 := (FR.apart2 hFA (by first | exact heap_made _ _ | exact heap_made2 _ _ _ | exact Below.heap_alloc _ _ | exact fun _ _ => rfl) hat hne.symm).symm; replace hFA := hFA.carry (by first | exact heap_made _ _ | exact heap_made2 _ _ _ | exact Below.heap_alloc _ _ | exact fun _ _ => rfl) hG2 (some_ne hne); clear hne; have hne := hne2; clear hne2; clear hFB; have hFB := hF2; clear hF2 hat hG2)
            | (refine step_app2 (by rfl) (.tmp 99) (.tmp 102) (by rfl) (by rfl) hFB (by first | exact heap_made _ _ | exact heap_made2 _ _ _ | exact Below.heap_alloc _ _ | exact fun _ _ => rfl) (Below.size (by assumption)) (HSl2.out.below (by assumption)) (by omega) k (by omega) (by omega) Z2 HZ2l.out HZ2e.out (by rfl) (by rfl) ?_; intro g2 k2 w2 hF2 hG2 hat; have hBN := Below.grown (by assumption) hG2 (Below.size (by assumption)) (fun k hk => row_some hFB hk); clear hFB; have hFB := hF2; clear hF2 hat hG2)
            | (go_at_call 16; refine (c16 _ _ _ _ _ (by exact hFA.sl1) (by exact hFB.sl1)).mono ?_; rintro e w' ⟨rfl, hBc⟩; have hBN := Below.trans (by assumption) (hBc.mono (Below.size (by assumption)))))
          all_goals (go_wp2_with fail; go_meet; exact ⟨rfl, rfl, by assumption⟩)
        case rest =>
          obtain ⟨rfl, rfl, hBx⟩ := hcut
          clear HZ1l HZ2l HZ1e HZ2e c16 HSl1 HSl2 HSr1 HSr2
          go_wp2_with (first
            | (go_at_call 13; refine (same_self _ (by assumption) _).mono ?_; rintro e w' ⟨rfl, hw⟩; replace hw := hw.symm; subst hw)
            | (go_at_call 14; refine (awake_true _).mono ?_; rintro e w8 ⟨rfl, hb⟩))
          go_ret
          exact ⟨rfl, below_step (below_step HB.out hBx) hb⟩
end Go.Proofs.Ytchdflbnelcjbaa
