/- hasPartOf: is one of the sets that a tree holds a part of a set? -/
import Derived.Test.YteaajhpgmndomaaTri
namespace Go.Proofs.Yteaajhpgmndomaa
open Go.RowKit Fo
set_option maxRecDepth 100000

namespace Fo
theorem IsL.dropS {w : World} {b off i : Nat} {l : List Int} {c : Nat} (h : IsL w (.slice (some ⟨b, off, none⟩) l.length c) l) (hi : i ≤ l.length) : IsL w (.slice (some ⟨b, off + i, none⟩) (l.length - i) (c - i)) (l.drop i) := by
  refine h.dropAt i _ _ rfl rfl hi fun _ b' off' e => ?_
  have e' : b = b' ∧ off = off' := by simpa using e
  rw [e'.1, e'.2]
theorem quiet2 {P : Program} {f : FuncId} {args : Array Value} {w : World} {a n : Nat} {v : Value} (h : Calls P f args (w.drewN (a + n)) fun e w' => e = .returned v ∧ Drw (w.drewN (a + n)) w') : Calls P f args (w.drewN (a + n)) fun e w'' => e = .returned v ∧ ∃ m, w'' = w.drewN (a + m) :=
  h.mono fun _ _ ⟨he, q, hq⟩ => ⟨he, n + q, by rw [hq, World.drewN_drewN, Nat.add_assoc]⟩
/-- A set behind a beginning is a part. -/
def hpP (D : List Int → Prop) (en : List Int → Bool) (p s : List Int) : Prop := ∃ q, D (p ++ q) ∧ en (p ++ q) = true ∧ sub q s
/-- .. through one of the next numbers from a place on. -/
def hpQ (D : List Int → Prop) (en : List Int → Bool) (p nums cur : List Int) (i : Nat) : Prop := ∃ j, i ≤ j ∧ j < nums.length ∧ gt nums j ∈ cur ∧ ∃ q, D (p ++ [gt nums j] ++ q) ∧ en (p ++ [gt nums j] ++ q) = true ∧ sub q cur
theorem rise_behind {p q : List Int} {x : Int} (h : Rise (p ++ [x] ++ q)) : ∀ z, z ∈ q → x < z := by
  intro z hz
  unfold Rise at h
  rw [List.pairwise_append] at h
  exact h.2.2 x (by simp) z hz
theorem gt_mono {l : List Int} (h : Rise l) {i j : Nat} (hij : i < j) (hj : j < l.length) : gt l i < gt l j := by
  have := (List.pairwise_iff_getElem.1 h) i j (by omega) hj hij
  unfold gt
  rwa [List.getD_eq_getElem?_getD, List.getD_eq_getElem?_getD, List.getElem?_eq_getElem (by omega), List.getElem?_eq_getElem hj]
section
variable {w : World} {own : Nat → Option (List Int × Nat)} {blk : List Int → Nat} {D : List Int → Prop} {en : List Int → Bool} {N : Nat} {p nums : List Int}
theorem hp_start (T : TIn w own blk D en N) (he : en p = false) (hm : ∀ x, x ∈ nums ↔ D (p ++ [x])) (s : List Int) : hpP D en p s ↔ hpQ D en p nums s 0 := by
  constructor
  · rintro ⟨q, hd, hen, hs⟩
    cases q with
    | nil => rw [List.append_nil, he] at hen; cases hen
    | cons x q =>
      rw [show p ++ x :: q = p ++ [x] ++ q by simp] at hd hen
      obtain ⟨j, hj, e⟩ := gt_mem.1 ((hm x).2 (T.pref _ _ hd))
      refine ⟨j, Nat.zero_le _, hj, ?_, q, ?_, ?_, fun z hz => hs z (List.mem_cons_of_mem _ hz)⟩
      · rw [e]; exact hs x (List.mem_cons_self ..)
      · rw [e]; exact hd
      · rw [e]; exact hen
  · rintro ⟨j, -, -, hx, q, hd, hen, hs⟩
    rw [show p ++ [gt nums j] ++ q = p ++ gt nums j :: q by simp] at hd hen
    refine ⟨_, hd, hen, fun z hz => ?_⟩
    rcases List.mem_cons.1 hz with e | e
    · rw [e]; exact hx
    · exact hs z e
theorem hp_far (hn : Rise nums) {x : Int} {c : List Int} (hc : Rise (x :: c)) {i : Nat} : hpQ D en p nums (x :: c) i ↔ hpQ D en p nums (x :: c) (i + lo (nums.drop i) x) := by
  constructor
  · rintro ⟨j, h1, h2, hx, rest⟩
    refine ⟨j, ?_, h2, hx, rest⟩
    have hge : ∀ z, z ∈ x :: c → x ≤ z := fun z hz => by
      rcases List.mem_cons.1 hz with e | e
      · omega
      · have := rise_head hc z e; omega
    have h3 := hge _ hx
    by_cases k : j < i + lo (nums.drop i) x
    · have := (lo_split (rise_drop hn i) x).1 (j - i) (by omega)
      rw [gt_drop, show i + (j - i) = j by omega] at this
      omega
    · omega
  · rintro ⟨j, h1, rest⟩
    exact ⟨j, by omega, rest⟩
theorem hp_found (T : TIn w own blk D en N) (hn : Rise nums) {x : Int} {c : List Int} {i : Nat} (hi : i < nums.length) (hx : gt nums i = x) : hpQ D en p nums (x :: c) i ↔ hpP D en (p ++ [x]) c ∨ hpQ D en p nums c (i + 1) := by
  constructor
  · rintro ⟨j, h1, h2, hm, q, hd, hen, hs⟩
    have hb := rise_behind (T.rise _ hd)
    rcases Nat.lt_or_eq_of_le h1 with k | k
    · have hlt := gt_mono hn k h2
      rw [hx] at hlt
      refine Or.inr ⟨j, k, h2, ?_, q, hd, hen, fun z hz => ?_⟩
      · rcases List.mem_cons.1 hm with e | e
        · omega
        · exact e
      · rcases List.mem_cons.1 (hs z hz) with e | e
        · have := hb z hz; omega
        · exact e
    · subst k
      rw [hx] at hd hen hb
      refine Or.inl ⟨q, hd, hen, fun z hz => ?_⟩
      rcases List.mem_cons.1 (hs z hz) with e | e
      · have := hb z hz; omega
      · exact e
  · rintro (⟨q, hd, hen, hs⟩ | ⟨j, h1, h2, hm, q, hd, hen, hs⟩)
    · exact ⟨i, Nat.le_refl _, hi, by rw [hx]; exact List.mem_cons_self .., q, by rw [hx]; exact hd, by rw [hx]; exact hen, fun z hz => List.mem_cons_of_mem _ (hs z hz)⟩
    · exact ⟨j, by omega, h2, List.mem_cons_of_mem _ hm, q, hd, hen, fun z hz => List.mem_cons_of_mem _ (hs z hz)⟩
theorem mem_dropLo {l : List Int} (h : Rise l) {y z : Int} (hz : y ≤ z) : z ∈ l.drop (lo l y) ↔ z ∈ l := by
  constructor
  · exact fun h => List.mem_of_mem_drop h
  · intro hm
    obtain ⟨j, hj, e⟩ := gt_mem.1 hm
    have hj1 : lo l y ≤ j := by
      by_cases k : j < lo l y
      · have := (lo_split h y).1 j k; omega
      · omega
    exact gt_mem.2 ⟨j - lo l y, by rw [List.length_drop]; omega, by rw [gt_drop, show lo l y + (j - lo l y) = j by omega]; exact e⟩
theorem hp_leap (T : TIn w own blk D en N) (hn : Rise nums) {cur : List Int} (hc : Rise cur) {i : Nat} : hpQ D en p nums cur i ↔ hpQ D en p nums (cur.drop (lo cur (gt nums i))) i := by
  have key : ∀ j, i ≤ j → j < nums.length → gt nums i ≤ gt nums j := fun j h1 h2 => by
    rcases Nat.lt_or_eq_of_le h1 with k | k
    · exact Int.le_of_lt (gt_mono hn k h2)
    · rw [k]; exact Int.le_refl _
  constructor
  · rintro ⟨j, h1, h2, hm, q, hd, hen, hs⟩
    have hb := rise_behind (T.rise _ hd)
    have hk := key j h1 h2
    exact ⟨j, h1, h2, (mem_dropLo hc hk).2 hm, q, hd, hen, fun z hz => (mem_dropLo hc (by have := hb z hz; omega)).2 (hs z hz)⟩
  · rintro ⟨j, h1, h2, hm, q, hd, hen, hs⟩
    exact ⟨j, h1, h2, List.mem_of_mem_drop hm, q, hd, hen, fun z hz => List.mem_of_mem_drop (hs z hz)⟩
end
theorem TIn.drw {w w' : World} {own : Nat → Option (List Int × Nat)} {blk : List Int → Nat} {D : List Int → Prop} {en : List Int → Bool} {N : Nat} (h : TIn w own blk D en N) (hw : Drw w w') : TIn w' own blk D en N := h.below hw.below
end Fo
set_option maxHeartbeats 16000000 in
theorem hp_any {own : Nat → Option (List Int × Nat)} {blk : List Int → Nat} {D : List Int → Prop} {en : List Int → Bool} {N : Nat} (hN : N ≤ 100000000) : ∀ (k : Nat) (w : World) (p s : List Int) (v : Value) (R : Bool), s.length < k → s.length ≤ 1000000000 → TIn w own blk D en N → D p → IsL w v s → Rise s → (R = true ↔ hpP D en p s) →
    Calls Try.prog 59 #[.pointer (some ⟨blk p, 0, none⟩), v] w fun e w' => e = .returned (.bool R) ∧ Drw w w' := by
  intro k
  induction k with
  | zero => intro w p s v R hk; exact absurd hk (Nat.not_lt_zero _)
  | succ k ih =>
  intro w p s v R hk hsl T hp hv hs hR
  have HIH := ih
  clear ih
  obtain ⟨ho, nv, kv, nums, hb, h1, h2, h3, h4, hnr, hnm, hnl⟩ := T.nd p hp
  have HT : Hid (TIn w own blk D en N) := T
  have HV : Hid (IsL w v s) := hv
  have HS : Hid (Rise s) := hs
  have HR : Hid (R = true ↔ hpP D en p s) := hR
  have HNR : Hid (Rise nums) := hnr
  have HNM : Hid (∀ x, x ∈ nums ↔ D (p ++ [x])) := hnm
  have f0 : w.cell? ⟨blk p, 0, none⟩ = some (.bool (en p)) := by rw [cell_of_row _ _ _ _ _ _ hb]; rfl
  have f1 : w.cell? ⟨blk p, 1, none⟩ = some nv := by rw [cell_of_row _ _ _ _ _ _ hb]; rfl
  have f2 : w.cell? ⟨blk p, 2, none⟩ = some kv := by rw [cell_of_row _ _ _ _ _ _ hb]; rfl
  obtain ⟨na, nc, rfl, hnd⟩ := h1.rd
  obtain ⟨ka, kc, rfl, hkd⟩ := h2.rd
  have HND : Hid (Rd w na nums.length nc (ivs (gt nums))) := hnd
  have HKD : Hid (Rd w ka nums.length kc (fun j => .pointer (some ⟨blk (p ++ [gt nums j]), 0, none⟩))) := hkd
  have hnl2 : nums.length ≤ 100000000 := by omega
  have hnc := hnd.1
  have hkc := hkd.1
  have hnc2 := hnd.2.1
  have hkc2 := hkd.2.1
  clear T hv hs hR hnr hnm hnd hkd h1 h2 h3 h4 ho hb hnl
  cases he : en p
  case true =>
    obtain rfl : R = true := HR.out.2 ⟨[], by rw [List.append_nil]; exact hp, by rw [List.append_nil]; exact he, fun z hz => by cases hz⟩
    rw [he] at f0
    clear HR HIH
    go_enter Try.func59, Try.ntmps59
    go_wp2
    go_ret
    exact ⟨rfl, Drw.refl w⟩
  case false =>
    rw [he] at f0
    have HQ0 : Hid (R = true ↔ hpQ D en p nums s 0) := HR.out.trans (hp_start HT.out he HNM.out s)
    go_enter Try.func59, Try.ntmps59
    go_wp2
    go_loopw [1, 5] (fun v1 v5 wr => ∃ (cur : List Int) (i : Nat), v5 = .int .i64 i ∧ i ≤ nums.length ∧ Hid (IsL w v1 cur) ∧ Hid (Rise cur) ∧ cur.length ≤ s.length ∧ Hid (R = true ↔ hpQ D en p nums cur i) ∧ Hid (Drw w wr)) (fun v1 v5 _ => slLen v1 + (nums.length - (intOf v5).toNat))
    case atStart => exact ⟨s, 0, rfl, Nat.zero_le _, HV, HS, Nat.le_refl _, HQ0, Drw.refl w⟩
    case round =>
      obtain ⟨cur, i, rfl, hi, HC, HCR, hcl, HQ, HW⟩ := hrel
      obtain ⟨qw, rfl⟩ := HW
      obtain ⟨sa, sc, rfl, hsd⟩ := id HC.out
      have hsc1 := hsd.1
      have hsc2 := hsd.2.1
      cases cur with
      | nil =>
        have HE : Hid (R = false) := by
          cases R
          · rfl
          · obtain ⟨j, -, -, hm, -⟩ := HQ.out.1 rfl; cases hm
        obtain rfl := HE.out
        clear HQ HQ0 HR HIH HC hsd
        go_wp2
        go_ret
        exact ⟨rfl, _, rfl⟩
      | cons x c =>
        by_cases hin : i < nums.length
        · obtain ⟨sb, so, rfl, hsc⟩ := hsd.at (by simp)
          have hx0 := hsc 0 (by simp)
          simp only [ivs, gt, List.getD_cons_zero, Nat.add_zero] at hx0
          obtain ⟨m, hm⟩ : ∃ m, m = (x :: c).length := ⟨_, rfl⟩
          obtain ⟨ng, no, rfl, hncell⟩ := HND.out.at (by omega)
          obtain ⟨kg, ko, rfl, hkcell⟩ := HKD.out.at (by omega)
          obtain ⟨f, hf⟩ : ∃ f, f = lo (nums.drop i) x := ⟨_, rfl⟩
          have hfl : i + f ≤ nums.length := by have := lo_le (nums.drop i) x; rw [← hf, List.length_drop] at this; omega
          have HQ1 : Hid (R = true ↔ hpQ D en p nums (x :: c) (i + f)) := by rw [hf]; exact HQ.out.trans (hp_far HNR.out HCR.out)
          have HTL : Hid (IsL w (.slice (if sc = 1 then some ⟨sb, so, none⟩ else some ⟨sb, so + 1, none⟩) (m - 1) (sc - 1)) c) := IsL.tail1 HC.out (by rw [hm]; rfl)
          have HC' : Hid (IsL w (.slice (some ⟨sb, so, none⟩) m sc) (x :: c)) := by rw [hm]; exact HC
          have HNI : Hid (IsL w (.slice (some ⟨ng, no + i, none⟩) (nums.length - i) (nc - i)) (nums.drop i)) := IsL.dropS ⟨_, _, rfl, HND.out⟩ hi
          have hbs : ∀ r : Bool, (r = true ↔ x ∈ nums.drop i) → ∀ j, Calls Try.prog 77 #[.slice (some ⟨ng, no + i, none⟩) (nums.length - i) (nc - i), .int .i64 x] (w.drewN j) fun e w' => e = .returned (.tuple #[.int .i64 f, .bool r]) ∧ Drw (w.drewN j) w' := fun r hr j => bs_any (w.drewN j) _ (nums.drop i) x (show IsL (w.drewN j) _ _ from HNI.out) (rise_drop HNR.out i) (by rw [List.length_drop]; omega) r hr f hf
          have hmem : x ∈ nums.drop i ↔ f < (nums.drop i).length ∧ gt (nums.drop i) f = x := by rw [hf]; exact lo_mem (rise_drop HNR.out i) x
          rw [gt_drop, List.length_drop] at hmem
          rw [← hm]
          rw [← hm] at hsc1 hcl
          have hm1 : m = c.length + 1 := by rw [hm]; rfl
          have HM : Hid (m = c.length + 1) := hm1
          have hpos : (0 : Int) < (m : Int) := by omega
          have hin' : (i : Int) < (nums.length : Int) := by omega
          have hi0 : (0 : Int) ≤ (i : Int) := by omega
          have hi1 : (i : Int) ≤ (nums.length : Int) := by omega
          have hncne : ¬ (nc = i) := by omega
          have hw1 : IntKind.i64.wrap ((i : Int) + (f : Int)) = (i : Int) + (f : Int) := by rw [IntKind.wrap_i64]; omega
          have hnm1 : nums.length ≤ 9223372036854775807 := by omega
          clear hm hsc hsd HQ hm1
          by_cases hr : x ∈ nums.drop i
          · obtain ⟨hf1, hgx⟩ := hmem.1 hr
            have HB : Hid (∀ j, Calls Try.prog 77 #[.slice (some ⟨ng, no + i, none⟩) (nums.length - i) (nc - i), .int .i64 x] (w.drewN j) fun e w' => e = .returned (.tuple #[.int .i64 f, .bool true]) ∧ Drw (w.drewN j) w') := hbs true ⟨fun _ => hr, fun _ => rfl⟩
            have hkid := hkcell (i + f) (by omega)
            rw [hgx] at hkid
            obtain ⟨r, hrr⟩ : ∃ r : Bool, r = true ↔ hpP D en (p ++ [x]) c := by
              by_cases q : hpP D en (p ++ [x]) c
              · exact ⟨true, fun _ => q, fun _ => rfl⟩
              · exact ⟨false, fun h => Bool.noConfusion h, fun h => absurd h q⟩
            have HRR : Hid (r = true ↔ hpP D en (p ++ [x]) c) := hrr
            have HQ2 : Hid (R = true ↔ r = true ∨ hpQ D en p nums c (i + f + 1)) := by
              show _ ↔ _
              rw [hrr]
              exact HQ1.out.trans (hp_found HT.out HNR.out (by omega) hgx)
            have HR2 : Hid (∀ q, Calls Try.prog 59 #[.pointer (some ⟨blk (p ++ [x]), 0, none⟩), .slice (if sc = 1 then some ⟨sb, so, none⟩ else some ⟨sb, so + 1, none⟩) (m - 1) (sc - 1)] (w.drewN q) fun e w' => e = .returned (.bool r) ∧ Drw (w.drewN q) w') := fun q => by
              have hl : c.length < k := by have := HM.out; omega
              exact HIH (w.drewN q) (p ++ [x]) c _ r hl (by have := HM.out; omega) (HT.out.drw ⟨q, rfl⟩) ((HNM.out x).1 (List.mem_of_mem_drop hr)) HTL.out (rise_tail HCR.out) hrr
            have ht1 : ((i : Int) + (f : Int)).toNat = i + f := by omega
            have ht2 : (0 : Int) ≤ (i : Int) + (f : Int) := by omega
            have ht3 : (i : Int) + (f : Int) < (nums.length : Int) := by omega
            have hw2 : IntKind.i64.wrap ((i : Int) + (f : Int) + 1) = (i : Int) + (f : Int) + 1 := by rw [IntKind.wrap_i64]; omega
            clear hbs hmem hr hrr hncell hkcell HQ1 HR HQ0 hf HIH
            go_wp2
            go_quiet (first | (go_at_call 77; refine quiet2 (HB.out _)))
            go_wp2
            go_quiet (first | (go_at_call 59; refine quiet2 (HR2.out _)))
            cases r
            case true =>
              have HE : Hid (true = R) := (HQ2.out.2 (Or.inl rfl)).symm
              clear HQ2 HR2 HRR HB
              go_wp2
              all_goals go_ret
              all_goals exact ⟨ret_bool HE.out, by first | exact ⟨_, rfl⟩ | exact ⟨_, World.drewN_drewN⟩⟩
            case false =>
              have HE : Hid (R = true ↔ hpQ D en p nums c (i + f + 1)) := HQ2.out.trans ⟨fun h => h.elim (fun q => Bool.noConfusion q) id, Or.inr⟩
              clear HQ2 HR2 HRR HB
              go_wp2
              go_roundw
              case rel => exact ⟨c, i + f + 1, by go_num, by omega, HTL, rise_tail HCR.out, by have := HM.out; omega, HE, by first | exact ⟨_, rfl⟩ | exact ⟨_, World.drewN_drewN⟩⟩
              case measure => simp [intOf, slLen]; omega
          · have HB : Hid (∀ j, Calls Try.prog 77 #[.slice (some ⟨ng, no + i, none⟩) (nums.length - i) (nc - i), .int .i64 x] (w.drewN j) fun e w' => e = .returned (.tuple #[.int .i64 f, .bool false]) ∧ Drw (w.drewN j) w') := hbs false ⟨fun h => Bool.noConfusion h, fun h => absurd h hr⟩
            have ht2 : (0 : Int) ≤ (i : Int) + (f : Int) := by omega
            by_cases hif : i + f < nums.length
            · have ht1 : ((i : Int) + (f : Int)).toNat = i + f := by omega
              have ht3 : (i : Int) + (f : Int) < (nums.length : Int) := by omega
              obtain ⟨y, hy⟩ : ∃ y, y = gt nums (i + f) := ⟨_, rfl⟩
              have hyc := hncell (i + f) hif
              have hyc' : w.cell? ⟨ng, no + (i + f), none⟩ = some (.int .i64 y) := by rw [hyc, hy]; rfl
              have hxy : x < y := by
                have h1 : x ≤ gt (nums.drop i) f := by rw [hf]; exact (lo_split (rise_drop HNR.out i) x).2 _ (Nat.le_refl _) (by rw [← hf, List.length_drop]; omega)
                rw [gt_drop, ← hy] at h1
                have h2 : ¬ y = x := fun e => hr (hmem.2 ⟨by omega, by rw [← hy]; exact e⟩)
                omega
              obtain ⟨g, hg⟩ : ∃ g, g = lo (x :: c) y := ⟨_, rfl⟩
              have hgl : g ≤ m := by rw [hg]; have := lo_le (x :: c) y; have := HM.out; rw [List.length_cons] at *; omega
              have hg0 : 0 < g := by
                have := (lo_split HCR.out y).2 0
                rw [← hg] at this
                by_cases k0 : g = 0
                · have := this (by omega) (by simp)
                  have e : gt (x :: c) 0 = x := rfl
                  omega
                · omega
              have HQ2 : Hid (R = true ↔ hpQ D en p nums ((x :: c).drop g) (i + f)) := by rw [hg, hy]; exact HQ1.out.trans (hp_leap HT.out HNR.out HCR.out)
              obtain ⟨r2, hr2⟩ : ∃ r2 : Bool, r2 = true ↔ y ∈ x :: c := by
                by_cases q : y ∈ x :: c
                · exact ⟨true, fun _ => q, fun _ => rfl⟩
                · exact ⟨false, fun h => Bool.noConfusion h, fun h => absurd h q⟩
              have HB2 : Hid (∀ j, Calls Try.prog 77 #[.slice (some ⟨sb, so, none⟩) m sc, .int .i64 y] (w.drewN j) fun e w' => e = .returned (.tuple #[.int .i64 g, .bool r2]) ∧ Drw (w.drewN j) w') := fun j => bs_any (w.drewN j) _ (x :: c) y (show IsL (w.drewN j) _ _ from HC'.out) HCR.out (by have := HM.out; rw [List.length_cons]; omega) r2 hr2 g hg
              have HCD : Hid (∀ a', (g < m → a' = some ⟨sb, so + g, none⟩) → IsL w (.slice a' (m - g) (sc - g)) ((x :: c).drop g)) := fun a' ha => by
                have h := HC'.out
                rw [show m = (x :: c).length by have := HM.out; rw [List.length_cons]; exact this] at h ha hgl ⊢
                refine h.dropAt g _ _ rfl rfl hgl fun hlt b off e => ?_
                have e' : sb = b ∧ so = off := by simpa using e
                rw [ha hlt, e'.1, e'.2]
              have HDL : Hid (((x :: c).drop g).length = m - g) := by have := HM.out; show _ = _; rw [List.length_drop, List.length_cons]; omega
              have hgm : (g : Int) ≤ (m : Int) := by omega
              have hg1 : (0 : Int) ≤ (g : Int) := by omega
              clear hbs hmem hr hncell hkcell HQ1 HR HQ0 hf HIH hyc hy hg hr2 hxy
              go_wp2
              go_quiet (first | (go_at_call 77; refine quiet2 (HB.out _)))
              go_wp2_with (go_at_call 77; fail)
              refine (HB2.out _).mono ?_
              rintro e wz ⟨rfl, qz, rfl⟩
              go_wp2
              all_goals go_roundw
              case rel => exact ⟨(x :: c).drop g, i + f, by go_num, by omega, HCD.out _ (fun h => by simp; omega), rise_drop HCR.out g, by have := HDL.out; omega, HQ2, by first | exact ⟨_, rfl⟩ | exact ⟨_, World.drewN_drewN⟩⟩
              case measure => simp [intOf, slLen]; omega
            · have ht3 : ¬ (i : Int) + (f : Int) < (nums.length : Int) := by omega
              clear hbs hmem hr hncell hkcell HR HQ0 hf HIH
              go_wp2
              go_quiet (first | (go_at_call 77; refine quiet2 (HB.out _)))
              go_wp2
              go_roundw
              case rel => exact ⟨x :: c, i + f, by go_num, by omega, HC', HCR, by have := HM.out; rw [List.length_cons]; omega, HQ1, by first | exact ⟨_, rfl⟩ | exact ⟨_, World.drewN_drewN⟩⟩
              case measure => simp [intOf, slLen]; omega
        · obtain rfl : i = nums.length := by omega
          have HE : Hid (R = false) := by
            cases R
            · rfl
            · obtain ⟨j, h1, h2, -⟩ := HQ.out.1 rfl; omega
          obtain rfl := HE.out
          have hpos : (0 : Int) < ((x :: c).length : Int) := by rw [List.length_cons]; omega
          have hge : ¬ (nums.length : Int) < (nums.length : Int) := by omega
          clear HQ HQ0 HR HIH HC hsd
          go_wp2
          go_ret
          exact ⟨rfl, _, rfl⟩
end Go.Proofs.Yteaajhpgmndomaa
