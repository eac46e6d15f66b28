/- The walk of putting a set into a tree. -/
import Derived.Test.YteaajhpgmndomaaTad
namespace Go.Proofs.Yteaajhpgmndomaa
open Go.RowKit Fo
set_option maxRecDepth 100000

namespace Fo
/-- Behind putting a set in. -/
def AddR (own : Nat → Option (List Int × Nat)) (blk : List Int → Nat) (en : List Int → Bool) (N : Nat) (s : List Int) (w w' : World) : Prop :=
  (∃ own' blk' D', blk' [] = blk [] ∧ TIn w' own' blk' D' (fun p => en p || decide (p = s)) (N + s.length) ∧ ∀ b, own' b ≠ none → own b ≠ none ∨ w.heap.size ≤ b) ∧ Kp (fun b => own b ≠ none) w w'
theorem take_snoc {s : List Int} {i : Nat} (h : i < s.length) : s.take (i + 1) = s.take i ++ [gt s i] := by
  rw [List.take_add_one, List.getElem?_eq_getElem h]
  unfold gt
  rw [List.getD_eq_getElem?_getD, List.getElem?_eq_getElem h]; rfl
theorem rise_take {s : List Int} (h : Rise s) (i : Nat) : Rise (s.take i) := List.Pairwise.sublist (List.take_sublist i s) h
theorem frz_of {w : World} {b : Nat} {cur : Array Value} {E : TypeId} (h : w.heap[b]? = some (.cells cur E)) (j : Nat) : w.frozen? ⟨b, j, none⟩ = false := by simp [World.frozen?, h]
theorem Ow.keepB {E : TypeId} {B : Nat} {w w' : World} {v : Value} {n : Nat} {V : Nat → Value} (h : Ow E B w v n V) (hk : ∀ g, v.ownBlock = some g → w'.heap[g]? = w.heap[g]?) : Ow E B w' v n V := by
  refine ⟨h.1, ?_⟩
  rcases h.2 with hn | ⟨g, cap, cur, e, hb, hgg, rest⟩
  · exact Or.inl hn
  · exact Or.inr ⟨g, cap, cur, e, hb, (hk g (by rw [e]; rfl)).trans hgg, rest⟩
theorem Ow.far {E E' : TypeId} {B : Nat} {w : World} {v : Value} {n : Nat} {V : Nat → Value} (h : Ow E B w v n V) {g : Nat} {cur : Array Value} {fr : Nat × Nat} (hg : w.heap[g]? = some (.cells cur E' fr)) (hne : E ≠ E') : v.ownBlock ≠ some g := fun e => by
  obtain ⟨c, hc⟩ := h.blk e
  rw [hg] at hc; injection hc with hc; injection hc with _ hc; exact hne hc.symm
theorem Ow.ltb {E : TypeId} {B : Nat} {w : World} {v : Value} {n : Nat} {V : Nat → Value} (h : Ow E B w v n V) {g : Nat} (hg : v.ownBlock = some g) : g < w.heap.size := (World.ownsRow.lt h g hg).2
theorem set_heap {w : World} {b j : Nat} {cur : Array Value} {E : TypeId} {fr : Nat × Nat} (h : w.heap[b]? = some (.cells cur E fr)) (u : Value) : (w.setCell ⟨b, j, none⟩ u).heap[b]? = some (.cells (cur.setIfInBounds j u) E fr) := by
  simp [World.setCell, Array.getElem?_modify, h]
end Fo
set_option maxHeartbeats 16000000 in
theorem tadd_any (w : World) (own : Nat → Option (List Int × Nat)) (blk : List Int → Nat) (D : List Int → Prop) (en : List Int → Bool) (N : Nat) (s : List Int) (v : Value) (T : TIn w own blk D en N) (hv : SIO (fun b => own b ≠ none) w v s) (hs : Rise s) (hN : N + s.length ≤ 100000000) :
    Calls Try.prog 58 #[.pointer (some ⟨blk [], 0, none⟩), v] w fun e w' => e = .returned (.tuple #[]) ∧ AddR own blk en N s w w' := by
  have HT : Hid (TIn w own blk D en N) := T
  have HV : Hid (SIO (fun b => own b ≠ none) w v s) := hv
  have HS : Hid (Rise s) := hs
  have hsl : s.length ≤ 100000000 := by omega
  have HRoot : Hid (D []) := T.root
  obtain ⟨sa, sc, rfl, hsd⟩ := hv
  have hsc1 := hsd.1.1
  have hsc2 := hsd.1.2.1
  clear T hs hsd
  go_enter Try.func58, Try.ntmps58
  go_wp2
  go_loopw [0, 10] (fun v0 v10 wr => ∃ (i : Nat) (own' : Nat → Option (List Int × Nat)) (blk' : List Int → Nat) (D' : List Int → Prop), v10 = .int .i64 i ∧ i ≤ s.length ∧ v0 = .pointer (some ⟨blk' (s.take i), 0, none⟩) ∧ Hid (TIn wr own' blk' D' en (N + i)) ∧ Hid (D' (s.take i)) ∧ Hid (blk' [] = blk []) ∧ Hid (∀ b, own' b ≠ none → own b ≠ none ∨ w.heap.size ≤ b) ∧ Hid (Kp (fun b => own b ≠ none) w wr)) (fun _ v10 _ => s.length - (intOf v10).toNat)
  case atStart => exact ⟨0, own, blk, D, rfl, Nat.zero_le _, rfl, HT, HRoot, rfl, fun b h => Or.inl h, Kp.refl _ w⟩
  case round =>
    obtain ⟨i, own', blk', D', rfl, hi, rfl, HT', HD, HB, HO, HK⟩ := hrel
    rename World => wr
    obtain ⟨p, hp⟩ : ∃ p, p = s.take i := ⟨_, rfl⟩
    have HP : Hid (p = s.take i) := hp
    obtain ⟨ho, nv, kv, nums, hb, h1, h2, h3, h4, hnr, hnm, hnl⟩ := HT'.out.nd (s.take i) HD.out
    rw [← hp] at ho hb h2 h3 h4 hnm HD
    rw [← hp]
    obtain ⟨tb, htb⟩ : ∃ tb, tb = blk' p := ⟨_, rfl⟩
    have HTB : Hid (tb = blk' p) := htb
    rw [← htb] at hb ho
    rw [← htb]
    clear hp htb
    by_cases hlt : i < s.length
    · obtain ⟨x, hx⟩ : ∃ x, x = gt s i := ⟨_, rfl⟩
      have hV2 : SIO (fun b => own b ≠ none) wr (.slice sa s.length sc) s := HV.out.step HK.out fun _ _ h => h
      obtain ⟨sa', sc', e, hsd⟩ := hV2
      obtain ⟨rfl, rfl⟩ : sa = sa' ∧ sc = sc' := by simpa using e
      obtain ⟨sg, so, rfl, hscell⟩ := hsd.1.at (by omega)
      have hxc : wr.cell? ⟨sg, so + i, none⟩ = some (.int .i64 x) := by rw [hscell i hlt, hx]; rfl
      have HXP : Hid (s.take (i + 1) = p ++ [x]) := by rw [HP.out, hx]; exact take_snoc hlt
      have HXR : Hid (Rise (p ++ [x])) := by rw [← HXP.out]; exact rise_take HS.out _
      have j1 : (0 : Int) ≤ (i : Int) := by omega
      have j2 : (i : Int) < (s.length : Int) := by omega
      obtain ⟨f, hf⟩ : ∃ f, f = lo nums x := ⟨_, rfl⟩
      have HF : Hid (f = lo nums x) := hf
      have hfl : f ≤ nums.length := by rw [hf]; exact lo_le _ _
      obtain ⟨na, nc, rfl, hnd⟩ := id h1.rd
      obtain ⟨ka, kc, rfl, hkd⟩ := id h2.rd
      have f0 : wr.cell? ⟨tb, 0, none⟩ = some (.bool (en p)) := by rw [cell_of_row _ _ _ _ _ _ hb]; rfl
      have f1 : wr.cell? ⟨tb, 1, none⟩ = some (.slice na nums.length nc) := by rw [cell_of_row _ _ _ _ _ _ hb]; rfl
      have f2 : wr.cell? ⟨tb, 2, none⟩ = some (.slice ka nums.length kc) := by rw [cell_of_row _ _ _ _ _ _ hb]; rfl
      have HNL : Hid (IsL wr (.slice na nums.length nc) nums) := ⟨na, nc, rfl, hnd⟩
      have hnl2 : nums.length ≤ 100000000 := by omega
      have HNR : Hid (Rise nums) := hnr
      have HNM : Hid (∀ x, x ∈ nums ↔ D' (p ++ [x])) := hnm
      have HNl : Hid (nums.length ≤ N + i) := hnl
      have HH1 : Hid (Ow 3 0 wr (.slice na nums.length nc) nums.length (ivs (gt nums))) := h1
      have HH2 : Hid (Ow 59 0 wr (.slice ka nums.length kc) nums.length (fun j => .pointer (some ⟨blk' (p ++ [gt nums j]), 0, none⟩))) := h2
      have HG1 : Hid (∀ g, (Value.slice na nums.length nc).ownBlock = some g → own' g = some (p, 1)) := h3
      have HG2 : Hid (∀ g, (Value.slice ka nums.length kc).ownBlock = some g → own' g = some (p, 2)) := h4
      have HKD : Hid (Rd wr ka nums.length kc (fun j => .pointer (some ⟨blk' (p ++ [gt nums j]), 0, none⟩))) := hkd
      have HBk : Hid (wr.heap[tb]? = some (.cells #[.bool (en p), .slice na nums.length nc, .slice ka nums.length kc] 62)) := hb
      have HOw : Hid (own' tb = some (p, 0)) := ho
      have hkc1 := hkd.1
      have hkc2 := hkd.2.1
      clear hsd hscell h1 h2 h3 h4 hnd hkd hnr hnm hnl hb ho hx hf e HV
      by_cases hr : x ∈ nums
      · obtain ⟨hf1, hgx⟩ := (lo_mem HNR.out x).1 hr
        rw [← HF.out] at hf1 hgx
        obtain ⟨kg, ko, rfl, hkcell⟩ := HKD.out.at (by omega)
        have hkid := hkcell f hf1
        rw [hgx] at hkid
        have HD2 : Hid (D' (s.take (i + 1))) := by show D' _; rw [HXP.out]; exact (HNM.out x).1 hr
        have hf2 : (f : Int) < (nums.length : Int) := by omega
        have hf3 : (0 : Int) ≤ (f : Int) := by omega
        have HBS := bs_any wr _ nums x HNL.out HNR.out (by omega) true ⟨fun _ => hr, fun _ => rfl⟩ f HF.out
        clear hr hkcell HNR HNM HH1 HH2 HG1 HG2
        go_wp2_with (go_at_call 77; fail)
        refine HBS.mono ?_
        rintro e w1 ⟨rfl, hw1⟩
        have HT1 : Hid (TIn w1 own' blk' D' en (N + (i + 1))) := (HT'.out.drw hw1).more (by omega)
        have HK1 : Hid (Kp (fun b => own b ≠ none) w w1) := HK.out.trans (Kp.of_below (F := fun b => own b ≠ none) hw1.below) fun _ _ h => h
        obtain ⟨qw, rfl⟩ := hw1
        clear HBS
        go_wp2
        go_roundw
        case rel => exact ⟨i + 1, own', blk', D', by go_num, by omega, by rw [HXP.out], HT1, HD2, HB, HO, HK1⟩
        case measure => simp [intOf]; omega
      · have HR : Hid (¬ x ∈ nums) := hr
        have HBS := bs_any wr _ nums x HNL.out HNR.out (by omega) false ⟨fun h => Bool.noConfusion h, fun h => absurd h hr⟩ f HF.out
        clear hr
        go_wp2_with (go_at_call 77; fail)
        refine HBS.mono ?_
        rintro e w1 ⟨rfl, qw, rfl⟩
        clear HBS
        go_wp2_with (go_at_call 78; fail)
        obtain ⟨W1, hW1⟩ : ∃ W1, W1 = (wr.drewN qw).alloc (.cells #[.int .i64 x] 3) := ⟨_, rfl⟩
        have hb1 : Below wr.heap.size wr W1 := by rw [hW1]; exact (below_drewN (below_refl wr) qw).alloc (by simp) _
        have hnew1 : W1.heap[wr.heap.size]? = some (.cells #[.int .i64 x] 3) := by rw [hW1]; exact heap_new1 (wr.drewN qw) _
        have hs1 : W1.heap.size = wr.heap.size + 1 := by rw [hW1]; simp
        rw [← hW1]
        clear hW1
        have hTB : tb < wr.heap.size := lt_of_heap HBk.out
        refine (ins_int 0 W1 _ nums.length (ivs (gt nums)) (HH1.out.below hb1) f hfl hnl2 wr.heap.size (.int .i64 x) hnew1 (fun e => absurd (World.ownsRow.lt HH1.out _ e).2 (Nat.lt_irrefl _)) (fun _ _ => rfl) rfl (Nat.zero_le _)).mono ?_
        rintro e w2 ⟨⟨v', rfl, hO2, hv2⟩, g2⟩
        obtain ⟨na2, nc2, rfl, -⟩ := hO2.rd
        have hne1 : some tb ≠ (Value.slice na nums.length nc).ownBlock := fun e => by
          have h := HG1.out tb e.symm
          rw [HOw.out] at h; injection h with h; injection h with _ h; exact absurd h (by decide)
        have hb2 : w2.heap[tb]? = some (.cells #[.bool (en p), .slice na nums.length nc, .slice ka nums.length kc] 62) := by rw [g2.block tb (by omega) hne1, hb1.block tb hTB]; exact HBk.out
        have c1 : w2.cell? ⟨tb, 1, none⟩ = some (.slice na nums.length nc) := by rw [cell_of_row _ _ _ _ _ _ hb2]; rfl
        have c2 : w2.cell? ⟨tb, 2, none⟩ = some (.slice ka nums.length kc) := by rw [cell_of_row _ _ _ _ _ _ hb2]; rfl
        have z1 := frz_of hb2 1
        have z2 := frz_of hb2 2
        have HO2 : Hid (Ow 3 0 w2 (.slice na2 (nums.length + 1) nc2) (nums.length + 1) (insW (ivs (gt nums)) f (.int .i64 x))) := hO2
        have HV2 : Hid ((Value.slice na2 (nums.length + 1) nc2).ownBlock = (Value.slice na nums.length nc).ownBlock ∨ (Value.slice na2 (nums.length + 1) nc2).ownBlock = some W1.heap.size) := hv2
        have HG2' : Hid (W1.grownBy w2 (Value.slice na nums.length nc).ownBlock) := g2
        have HB1 : Hid (Below wr.heap.size wr W1) := hb1
        have HS1 : Hid (W1.heap.size = wr.heap.size + 1) := hs1
        have HB2 : Hid (w2.heap[tb]? = some (.cells #[.bool (en p), .slice na nums.length nc, .slice ka nums.length kc] 62)) := hb2
        have HN1 : Hid (some tb ≠ (Value.slice na nums.length nc).ownBlock) := hne1
        clear hO2 hv2 g2 hb1 hs1 hnew1 hb2 hne1 f0 f1 f2 hxc
        go_wp2_with (go_at_call 79; fail)
        obtain ⟨W5, hW5⟩ : ∃ W5, W5 = ((w2.setCell ⟨tb, 1, none⟩ (.slice na2 (nums.length + 1) nc2)).alloc (.cells #[.bool false, .slice none 0 0, .slice none 0 0] 62)).alloc (.cells #[.pointer (some ⟨w2.heap.size, 0, none⟩)] 59) := ⟨_, rfl⟩
        have hs3 : (w2.setCell ⟨tb, 1, none⟩ (.slice na2 (nums.length + 1) nc2)).heap.size = w2.heap.size := by simp
        have hs5 : W5.heap.size = w2.heap.size + 2 := by rw [hW5]; simp
        have hz5 : W5.heap[w2.heap.size]? = some (.cells #[.bool false, .slice none 0 0, .slice none 0 0] 62) := by
          rw [hW5]
          have := heap_new2 (w2.setCell ⟨tb, 1, none⟩ (.slice na2 (nums.length + 1) nc2)) (.cells #[.bool false, .slice none 0 0, .slice none 0 0] 62) (.cells #[.pointer (some ⟨w2.heap.size, 0, none⟩)] 59)
          rwa [hs3] at this
        have hu5 : W5.heap[w2.heap.size + 1]? = some (.cells #[.pointer (some ⟨w2.heap.size, 0, none⟩)] 59) := by
          rw [hW5]
          have := heap_new1 ((w2.setCell ⟨tb, 1, none⟩ (.slice na2 (nums.length + 1) nc2)).alloc (.cells #[.bool false, .slice none 0 0, .slice none 0 0] 62)) (.cells #[.pointer (some ⟨w2.heap.size, 0, none⟩)] 59)
          simpa using this
        have hold5 : ∀ b, b < w2.heap.size → W5.heap[b]? = (w2.setCell ⟨tb, 1, none⟩ (.slice na2 (nums.length + 1) nc2)).heap[b]? := fun b hb => by
          rw [hW5, Below.heap_alloc _ _ _ (by simp; omega), Below.heap_alloc _ _ _ (by simpa using hb)]
        have hs2 : wr.heap.size + 1 ≤ w2.heap.size := by have := HG2'.out.size; have := HS1.out; omega
        have hkeep5 : ∀ b, b < w2.heap.size → b ≠ tb → W5.heap[b]? = w2.heap[b]? := fun b hb hne => by rw [hold5 b hb]; exact Below.heap_setCell w2 _ _ b hne
        have hb5 : W5.heap[tb]? = some (.cells #[.bool (en p), .slice na2 (nums.length + 1) nc2, .slice ka nums.length kc] 62) := by rw [hold5 tb (by omega), set_heap HB2.out]; rfl
        have hkp5 : Kp (fun b => own' b ≠ none) w2 W5 := by
          rw [hW5]
          exact (((Kp.refl _ w2).set (p := ⟨tb, 1, none⟩) (Or.inl (by show own' tb ≠ none; rw [HOw.out]; simp)) _).alloc _).alloc _
        rw [← hW5]
        clear hW5 hs3 hold5
        have hk2 : Ow 59 0 w2 (.slice ka nums.length kc) nums.length (fun j => .pointer (some ⟨blk' (p ++ [gt nums j]), 0, none⟩)) := (HH2.out.below HB1.out).keepB fun g hg => HG2'.out.block g (by have := HH2.out.ltb hg; have := HB1.out.size; omega) fun e => by
          have h := HG1.out g e.symm
          rw [HG2.out g hg] at h; injection h with h; injection h with _ h; exact absurd h (by decide)
        have hk5 : Ow 59 0 W5 (.slice ka nums.length kc) nums.length (fun j => .pointer (some ⟨blk' (p ++ [gt nums j]), 0, none⟩)) := hk2.keepB fun g hg => hkeep5 g (hk2.ltb hg) fun e => hk2.far HB2.out (by decide) (e ▸ hg)
        have hn5 : Ow 3 0 W5 (.slice na2 (nums.length + 1) nc2) (nums.length + 1) (insW (ivs (gt nums)) f (.int .i64 x)) := HO2.out.keepB fun g hg => hkeep5 g (HO2.out.ltb hg) fun e => HO2.out.far HB2.out (by decide) (e ▸ hg)
        have HK5 : Hid (Ow 59 0 W5 (.slice ka nums.length kc) nums.length (fun j => .pointer (some ⟨blk' (p ++ [gt nums j]), 0, none⟩))) := hk5
        have HN5 : Hid (Ow 3 0 W5 (.slice na2 (nums.length + 1) nc2) (nums.length + 1) (insW (ivs (gt nums)) f (.int .i64 x))) := hn5
        have hk2l : ∀ g, (Value.slice ka nums.length kc).ownBlock = some g → g < w2.heap.size := fun g hg => hk2.ltb hg
        clear hk2 hk5 hn5
        refine (ins_ptr 0 W5 _ nums.length _ HK5.out f hfl hnl2 (w2.heap.size + 1) (.pointer (some ⟨w2.heap.size, 0, none⟩)) hu5 (fun e => absurd (hk2l _ e) (by omega)) (fun _ _ => rfl) rfl (Nat.zero_le _)).mono ?_
        rintro e w6 ⟨⟨v', rfl, hO6, hv6⟩, g6⟩
        obtain ⟨ka6, kc6, rfl, hr6⟩ := hO6.rd
        obtain ⟨kg, rfl, -, hkcell, -⟩ := hO6.cells (by omega)
        have hkf := hkcell f (by omega)
        unfold insW at hkf
        rw [if_neg (Nat.lt_irrefl f), if_pos rfl] at hkf
        have hb6 : w6.heap[tb]? = some (.cells #[.bool (en p), .slice na2 (nums.length + 1) nc2, .slice ka nums.length kc] 62) := by rw [g6.block tb (by omega) (fun e => HK5.out.far hb5 (by decide) e.symm)]; exact hb5
        have hkgne : ¬ kg = tb := fun e => hO6.far hb6 (by decide) (by rw [e]; rfl)
        have d2 : w6.cell? ⟨tb, 2, none⟩ = some (.slice ka nums.length kc) := by rw [cell_of_row _ _ _ _ _ _ hb6]; rfl
        have y2 := frz_of hb6 2
        have hz6 : w6.heap[w2.heap.size]? = some (.cells #[.bool false, .slice none 0 0, .slice none 0 0] 62) := by rw [g6.block _ (by omega) (fun e => HK5.out.far hz5 (by decide) e.symm)]; exact hz5
        have hn6 : Ow 3 0 w6 (.slice na2 (nums.length + 1) nc2) (nums.length + 1) (insW (ivs (gt nums)) f (.int .i64 x)) := HN5.out.keepB fun g hg => g6.block g (HN5.out.ltb hg) fun e => by
          obtain ⟨cc, hcc⟩ := HK5.out.blk e.symm
          exact HN5.out.far hcc (by decide) hg
        obtain ⟨W7, hW7⟩ : ∃ W7, W7 = w6.setCell ⟨tb, 2, none⟩ (.slice (some ⟨kg, 0, none⟩) (nums.length + 1) kc6) := ⟨_, rfl⟩
        have hkeep7 : ∀ b, b ≠ tb → W7.heap[b]? = w6.heap[b]? := fun b hne => by rw [hW7]; exact Below.heap_setCell w6 _ _ b hne
        have hs7 : W7.heap.size = w6.heap.size := by rw [hW7]; simp
        have hs6 : w2.heap.size + 2 ≤ w6.heap.size := by have := g6.size; omega
        have HT7 : Hid (TIn W7 (ownI own' p x w2.heap.size (.slice na2 (nums.length + 1) nc2) (.slice (some ⟨kg, 0, none⟩) (nums.length + 1) kc6)) (blkI blk' p x w2.heap.size) (fun q => D' q ∨ q = p ++ [x]) en (N + (i + 1))) := by
          have hND : ¬ D' (p ++ [x]) := fun h => HR.out ((HNM.out x).2 h)
          have h := TIn.insert (w' := W7) HT'.out HD.out hND HXR.out HNR.out HNM.out HNl.out (nb := w2.heap.size) (nv := .slice na2 (nums.length + 1) nc2) (kv := .slice (some ⟨kg, 0, none⟩) (nums.length + 1) kc6) (by omega) (by omega) (by omega)
            (by rw [← HTB.out, hW7, set_heap hb6]; rfl)
            (by rw [← HF.out]; exact hn6.keepB fun g hg => hkeep7 g fun e => hn6.far hb6 (by decide) (e ▸ hg))
            (by rw [← HF.out]; exact hO6.keepB fun g hg => hkeep7 g fun e => hO6.far hb6 (by decide) (e ▸ hg))
            (fun g hg => by
              rcases HV2.out with q | q
              · exact Or.inl (HG1.out g (q ▸ hg))
              · rw [q] at hg; injection hg with hg; have := HS1.out; exact Or.inr (by omega))
            (fun g hg => by
              rcases hv6 with q | q
              · exact Or.inl (HG2.out g (q ▸ hg))
              · rw [q] at hg; injection hg with hg; exact Or.inr (by omega))
            (by rw [hkeep7 _ (by omega)]; exact hz6)
            (fun b hb hn => by
              have n1 : b ≠ tb := fun e => hn 0 (by rw [e]; exact HOw.out)
              have n2 : some b ≠ (Value.slice na nums.length nc).ownBlock := fun e => hn 1 (HG1.out b e.symm)
              have n3 : some b ≠ (Value.slice ka nums.length kc).ownBlock := fun e => hn 2 (HG2.out b e.symm)
              have := HB1.out.size
              rw [hkeep7 b n1, g6.block b (by omega) n3, hkeep5 b (by omega) n1, HG2'.out.block b (by omega) n2, HB1.out.block b hb])
          rw [show N + (i + 1) = N + i + 1 by omega]
          exact h
        have HKP7 : Hid (Kp (fun b => own b ≠ none) w W7) := by
          have k1 : Kp (fun b => own' b ≠ none) wr w2 := (Kp.of_below HB1.out).trans (Kp.of_grown HG2'.out (F := fun b => own' b ≠ none) fun g hg => by rw [HG1.out g hg]; simp) fun _ _ h => h
          have k2 : Kp (fun b => own' b ≠ none) wr W5 := k1.trans hkp5 fun _ _ h => h
          have k3 : Kp (fun b => own' b ≠ none) wr w6 := k2.trans (Kp.of_grown g6 (F := fun b => own' b ≠ none) fun g hg => by rw [HG2.out g hg]; simp) fun _ _ h => h
          have k4 : Kp (fun b => own' b ≠ none) wr W7 := by rw [hW7]; exact k3.set (p := ⟨tb, 2, none⟩) (Or.inl (by show own' tb ≠ none; rw [HOw.out]; simp)) _
          exact HK.out.trans k4 fun b hb hg => (HO.out b hg).elim id fun h => absurd hb (by omega)
        have HO7 : Hid (∀ b, ownI own' p x w2.heap.size (.slice na2 (nums.length + 1) nc2) (.slice (some ⟨kg, 0, none⟩) (nums.length + 1) kc6) b ≠ none → own b ≠ none ∨ w.heap.size ≤ b) := fun b hb => by
          have hwr := HK.out.size
          unfold ownI at hb
          by_cases e1 : b = w2.heap.size
          · exact Or.inr (by omega)
          · rw [if_neg e1] at hb
            by_cases e2 : (Value.slice na2 (nums.length + 1) nc2).ownBlock = some b
            · rcases HV2.out with q | q
              · exact HO.out b (by rw [HG1.out b (q ▸ e2)]; simp)
              · rw [q] at e2; injection e2 with e2; have := HS1.out; exact Or.inr (by omega)
            · rw [if_neg e2] at hb
              by_cases e3 : (Value.slice (some ⟨kg, 0, none⟩) (nums.length + 1) kc6).ownBlock = some b
              · rcases hv6 with q | q
                · exact HO.out b (by rw [HG2.out b (q ▸ e3)]; simp)
                · rw [q] at e3; injection e3 with e3; exact Or.inr (by omega)
              · rw [if_neg e3] at hb
                exact HO.out b hb
        have HB7 : Hid (blkI blk' p x w2.heap.size [] = blk []) := by
          show _ = _
          unfold blkI
          rw [if_neg (fun e => by have := congrArg List.length e; simp at this)]
          exact HB.out
        have HE7 : Hid (blkI blk' p x w2.heap.size (s.take (i + 1)) = w2.heap.size) := by
          show _ = _
          unfold blkI
          rw [if_pos HXP.out]
        have hf2 : (f : Int) < (nums.length : Int) + 1 := by omega
        have hf3 : (0 : Int) ≤ (f : Int) := by omega
        have HW7 : Hid (W7 = w6.setCell ⟨tb, 2, none⟩ (.slice (some ⟨kg, 0, none⟩) (nums.length + 1) kc6)) := hW7
        clear hW7 hkeep7 hs7 hs6 hn6 hz6 hb6 hkcell hr6 hO6 hv6 g6 hkp5 hk2l hkeep5 hs5 hz5 hu5 hb5 hs2 c1 c2 z1 z2 HNR HNM HH1 HH2 HG1 HG2
        go_wp2
        go_roundw
        case rel => exact ⟨i + 1, _, blkI blk' p x w2.heap.size, _, by go_num, by omega, by rw [HE7.out], by rw [← HW7.out]; exact HT7, by rw [HXP.out]; exact Or.inr rfl, HB7, HO7, by rw [← HW7.out]; exact HKP7⟩
        case measure => simp [intOf]; omega
    · obtain rfl : i = s.length := by omega
      have HPS : Hid (p = s) := by show _ = _; rw [HP.out, List.take_length]
      have f0 : wr.cell? ⟨tb, 0, none⟩ = some (.bool (en p)) := by rw [cell_of_row _ _ _ _ _ _ hb]; rfl
      have z0 := frz_of hb 0
      have hge : ¬ (s.length : Int) < (s.length : Int) := by omega
      have HTM : Hid (TIn (wr.setCell ⟨tb, 0, none⟩ (.bool true)) own' blk' D' (fun p => en p || decide (p = s)) (N + s.length)) := by
        have hD := HD.out
        rw [HPS.out] at hD
        have h := TIn.mark HT'.out hD
        rw [← HPS.out, ← HTB.out] at h
        rwa [← HPS.out]
      have HKM : Hid (Kp (fun b => own b ≠ none) w (wr.setCell ⟨tb, 0, none⟩ (.bool true))) := HK.out.set (p := ⟨tb, 0, none⟩) (by
        rcases HO.out tb (by rw [ho]; simp) with h | h
        · exact Or.inl h
        · exact Or.inr h) _
      clear ho hb h1 h2 h3 h4 hnr hnm hnl HT' HV
      go_wp2
      go_end0
      first | exact ⟨rfl, ⟨own', blk', D', HB.out, HTM.out, HO.out⟩, HKM.out⟩ | exact ⟨⟨own', blk', D', HB.out, HTM.out, HO.out⟩, HKM.out⟩
end Go.Proofs.Yteaajhpgmndomaa
