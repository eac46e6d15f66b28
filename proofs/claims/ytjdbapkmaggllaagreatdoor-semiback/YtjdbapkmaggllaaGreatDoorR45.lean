/- The contracts of guess and Parse at every short text; what 'awake' answers: true. -/
import Derived.Test.YtjdbapkmaggllaaGreatDoorR44
import Derived.Lib.ParseIntBTie
namespace Go.Proofs.YtjdbapkmaggllaaGreatDoor.Fl
open Go.RowKit Fo Go.Sort
set_option maxRecDepth 100000

namespace Fo
/-- The only number whose text it may be, unless it is one of the three words. -/
def gN (s : List UInt8) : Option Nat :=
  match Lib.parseUintB 64 (Lib.cut (Lib.trimPrefix s [45]) [98]).1, Lib.parseIntB 16 (Lib.cut (Lib.trimPrefix s [45]) [98]).2.1 with
  | .ok m, .ok e => some (if Lib.hasPrefix s [45] then flip (ldx (f64 m) e) else ldx (f64 m) e)
  | _, _ => none
/-- The only number whose text it may be. -/
def gP (s : List UInt8) : Option Nat :=
  if s = [110, 97, 110] then some 9221120237041090560 else if s = [105, 110, 102] then some 9218868437227405312 else if s = [45, 105, 110, 102] then some 18442240474082181120 else gN s
theorem gP_lt {s : List UInt8} {x : Nat} (h : gP s = some x) : x < 18446744073709551616 := by
  unfold gP at h
  split at h
  · cases h; decide
  split at h
  · cases h; decide
  split at h
  · cases h; decide
  unfold gN at h
  split at h
  · rename_i m e hm he
    have := ldx_lt m (by have := Lib.parseUintB_le hm; omega) e
    cases h
    split
    · exact flip_lt _ this
    · exact this
  · cases h
/-- What Parse answers. -/
def pOf (s : List UInt8) : Nat × Int :=
  match gP s with
  | some x => if textOf x = s then (x, 0) else (0, 16)
  | none => (0, 16)
end Fo

theorem ba_size (l : List UInt8) : (⟨l.toArray⟩ : ByteArray).size = l.length := by
  show l.toArray.size = _; simp
theorem cut_len (s sep : List UInt8) : (Lib.cut s sep).1.length ≤ s.length ∧ (Lib.cut s sep).2.1.length ≤ s.length := by
  unfold Lib.cut; split
  · simp; omega
  · simp
theorem trim_len (s p : List UInt8) : (Lib.trimPrefix s p).length ≤ s.length := by
  unfold Lib.trimPrefix; split <;> simp

theorem guess_any (s : List UInt8) (hs : s.length < 4294967281) (w : World) (henv : Env w) :
    Calls Tryz.prog 112 #[.string ⟨s.toArray⟩] w fun r w' => r = .returned (.tuple #[.float .f64 ((gP s).getD 0), .bool (gP s).isSome]) ∧ Below w.heap.size w w' := by
  unfold gP
  by_cases h1 : s = [110, 97, 110]
  · subst h1; rw [if_pos rfl]
    exact (guess_nan w).mono fun _ _ hh => ⟨hh.1, hh.2 ▸ Below.refl _ _⟩
  rw [if_neg h1]
  by_cases h2 : s = [105, 110, 102]
  · subst h2; rw [if_pos rfl]
    exact (guess_inf w).mono fun _ _ hh => ⟨hh.1, hh.2 ▸ Below.refl _ _⟩
  rw [if_neg h2]
  by_cases h3 : s = [45, 105, 110, 102]
  · subst h3; rw [if_pos rfl]
    exact (guess_ninf w).mono fun _ _ hh => ⟨hh.1, hh.2 ▸ Below.refl _ _⟩
  rw [if_neg h3]
  have n1 : ((⟨s.toArray⟩ : ByteArray).toList == [110, 97, 110]) = false := by rw [ByteArray.toList_eq]; simpa using h1
  have n2 : ((⟨s.toArray⟩ : ByteArray).toList == [105, 110, 102]) = false := by rw [ByteArray.toList_eq]; simpa using h2
  have n3 : ((⟨s.toArray⟩ : ByteArray).toList == [45, 105, 110, 102]) = false := by rw [ByteArray.toList_eq]; simpa using h3
  have lD := trim_len s [45]
  have c51 := fun w => Tryz.strings_CutPrefix ⟨s.toArray⟩ ⟨#[45]⟩ w
  have c52 := fun w (he : Env w) => cut_env ⟨(Lib.trimPrefix s [45]).toArray⟩ ⟨#[98]⟩ w he (by rw [ba_size]; omega)
  obtain ⟨lM, lX⟩ := cut_len (Lib.trimPrefix s [45]) [98]
  unfold gN
  have p53 := fun w (he : Env w) => pu_env ⟨(Lib.cut (Lib.trimPrefix s [45]) [98]).1.toArray⟩ (by rw [ba_size]; omega) w he
  have p54 := fun w (he : Env w) => pi_env ⟨(Lib.cut (Lib.trimPrefix s [45]) [98]).2.1.toArray⟩ (by rw [ba_size]; omega) w he
  have q54 : ∀ w, Env w → Calls Tryz.prog 129 #[.string ⟨(Lib.cut (Lib.trimPrefix s [45]) [98]).2.1.toArray⟩, .int .i64 10, .int .i64 16] w fun r w' => (∃ e v, r = .returned (.tuple #[.int .i64 e, v])) ∧ Below w.heap.size w w' :=
    fun w he => (p54 w he).mono fun _ _ hh => by
      obtain ⟨⟨u, v, hr, -⟩, hb⟩ := hh
      exact ⟨⟨u, v, hr⟩, hb⟩
  cases hm : Lib.parseUintB 64 (Lib.cut (Lib.trimPrefix s [45]) [98]).1 with
  | ok m =>
    have q53 : ∀ w, Env w → Calls Tryz.prog 128 #[.string ⟨(Lib.cut (Lib.trimPrefix s [45]) [98]).1.toArray⟩, .int .i64 10, .int .i64 64] w fun r w' => r = .returned (.tuple #[.int .u64 m, .nilIface]) ∧ Below w.heap.size w w' :=
      fun w he => (p53 w he).mono fun _ _ hh => by
        obtain ⟨⟨u, v, hr, hc⟩, hb⟩ := hh
        refine ⟨?_, hb⟩
        rcases hc with ⟨h1, h2, rfl⟩ | ⟨h1, -⟩
        · have h1' : Lib.parseUintB 64 (Lib.cut (Lib.trimPrefix s [45]) [98]).1 = .ok u.toNat := h1
          rw [hm] at h1'
          have : u = (m : Int) := by injection h1' with h; omega
          rw [hr, this]
        · exact absurd hm (h1 m)
    cases he : Lib.parseIntB 16 (Lib.cut (Lib.trimPrefix s [45]) [98]).2.1 with
    | ok e =>
      have r54 : ∀ w, Env w → Calls Tryz.prog 129 #[.string ⟨(Lib.cut (Lib.trimPrefix s [45]) [98]).2.1.toArray⟩, .int .i64 10, .int .i64 16] w fun r w' => r = .returned (.tuple #[.int .i64 e, .nilIface]) ∧ Below w.heap.size w w' :=
        fun w hE => (p54 w hE).mono fun _ _ hh => by
          obtain ⟨⟨u, v, hr, hc⟩, hb⟩ := hh
          refine ⟨?_, hb⟩
          rcases hc with ⟨h1, rfl⟩ | ⟨h1, -⟩
          · have h1' : Lib.parseIntB 16 (Lib.cut (Lib.trimPrefix s [45]) [98]).2.1 = .ok u := h1
            rw [he] at h1'
            injection h1' with h
            rw [hr, h]
          · exact absurd he (h1 e)
      have bm := Lib.parseUintB_le hm
      have be := Lib.parseIntB_bounds he
      exact guess_try ⟨s.toArray⟩ _ _ _ _ _ w henv n1 n2 n3 c51 c52 m q53 (by omega) e (by omega) (by omega) r54
    | «syntax» =>
      exact guess_bad2 ⟨s.toArray⟩ _ _ _ _ _ w henv n1 n2 n3 c51 c52 (fun w he => (q53 w he).mono fun _ _ hh => ⟨⟨_, hh.1⟩, hh.2⟩) (fun w hE => (p54 w hE).mono fun _ _ hh => by
        obtain ⟨⟨u, v, hr, hc⟩, hb⟩ := hh
        refine ⟨?_, hb⟩
        rcases hc with ⟨h1, rfl⟩ | ⟨-, t, p, rfl⟩
        · have h1' : Lib.parseIntB 16 (Lib.cut (Lib.trimPrefix s [45]) [98]).2.1 = .ok u := h1
          rw [he] at h1'; cases h1'
        · exact ⟨u, t, p, hr⟩)
    | range =>
      exact guess_bad2 ⟨s.toArray⟩ _ _ _ _ _ w henv n1 n2 n3 c51 c52 (fun w he => (q53 w he).mono fun _ _ hh => ⟨⟨_, hh.1⟩, hh.2⟩) (fun w hE => (p54 w hE).mono fun _ _ hh => by
        obtain ⟨⟨u, v, hr, hc⟩, hb⟩ := hh
        refine ⟨?_, hb⟩
        rcases hc with ⟨h1, rfl⟩ | ⟨-, t, p, rfl⟩
        · have h1' : Lib.parseIntB 16 (Lib.cut (Lib.trimPrefix s [45]) [98]).2.1 = .ok u := h1
          rw [he] at h1'; cases h1'
        · exact ⟨u, t, p, hr⟩)
  | «syntax» =>
    exact guess_bad1 ⟨s.toArray⟩ _ _ _ _ _ w henv n1 n2 n3 c51 c52 (fun w he => (p53 w he).mono fun _ _ hh => by
        obtain ⟨⟨u, v, hr, hc⟩, hb⟩ := hh
        refine ⟨?_, hb⟩
        rcases hc with ⟨h1, -, -⟩ | ⟨-, t, p, rfl⟩
        · have h1' : Lib.parseUintB 64 (Lib.cut (Lib.trimPrefix s [45]) [98]).1 = .ok u.toNat := h1
          rw [hm] at h1'; cases h1'
        · exact ⟨u, t, p, hr⟩) q54
  | range =>
    exact guess_bad1 ⟨s.toArray⟩ _ _ _ _ _ w henv n1 n2 n3 c51 c52 (fun w he => (p53 w he).mono fun _ _ hh => by
        obtain ⟨⟨u, v, hr, hc⟩, hb⟩ := hh
        refine ⟨?_, hb⟩
        rcases hc with ⟨h1, -, -⟩ | ⟨-, t, p, rfl⟩
        · have h1' : Lib.parseUintB 64 (Lib.cut (Lib.trimPrefix s [45]) [98]).1 = .ok u.toNat := h1
          rw [hm] at h1'; cases h1'
        · exact ⟨u, t, p, hr⟩) q54

theorem parse_no (s : List UInt8) (w : World) (henv : Env w) (x : Nat)
    (hg : ∀ w, Env w → Calls Tryz.prog 112 #[.string ⟨s.toArray⟩] w fun r w' => r = .returned (.tuple #[.float .f64 x, .bool false]) ∧ Below w.heap.size w w') :
    Calls Tryz.prog 91 #[.string ⟨s.toArray⟩] w fun r w' => r = .returned (.tuple #[.float .f64 0, .int .i64 16]) ∧ Below w.heap.size w w' := by
  go_enter Tryz.func91, Tryz.ntmps91
  go_wp2_with (go_at_call 112; refine (hg _ henv).mono ?_; rintro e w1 ⟨rfl, hb1⟩)
  go_ret2
  exact ⟨rfl, hb1⟩
theorem parse_some (s T : List UInt8) (w : World) (henv : Env w) (x : Nat)
    (hg : ∀ w, Env w → Calls Tryz.prog 112 #[.string ⟨s.toArray⟩] w fun r w' => r = .returned (.tuple #[.float .f64 x, .bool true]) ∧ Below w.heap.size w w')
    (ht : ∀ w, Env w → Calls Tryz.prog 57 #[.float .f64 x] w fun r w' => r = .returned (.string ⟨T.toArray⟩) ∧ Below w.heap.size w w') (v : Bool) (hv : (T == s) = v) :
    Calls Tryz.prog 91 #[.string ⟨s.toArray⟩] w fun r w' => r = .returned (.tuple #[.float .f64 (if v then x else 0), .int .i64 (if v then 0 else 16)]) ∧ Below w.heap.size w w' := by
  cases v
  all_goals
    go_enter Tryz.func91, Tryz.ntmps91
    go_wp2_with (first
      | (go_at_call 112; refine (hg _ henv).mono ?_; rintro e w1 ⟨rfl, hb1⟩)
      | (go_at_call 57; refine (ht _ (henv.below hb1)).mono ?_; rintro e w2 ⟨rfl, hb2⟩))
    go_ret2
    exact ⟨rfl, hb1.trans (hb2.mono hb1.size)⟩
theorem parse_any (s : List UInt8) (hs : s.length < 4294967281) (w : World) (henv : Env w) :
    Calls Tryz.prog 91 #[.string ⟨s.toArray⟩] w fun r w' => r = .returned (.tuple #[.float .f64 (pOf s).1, .int .i64 (pOf s).2]) ∧ Below w.heap.size w w' := by
  have hg := fun w he => guess_any s hs w he
  unfold pOf
  cases hp : gP s with
  | none =>
    rw [hp] at hg
    exact parse_no s w henv _ hg
  | some x =>
    rw [hp] at hg
    have hx := gP_lt hp
    have := parse_some s (textOf x) w henv x hg (fun w he => text_any x hx w he) _ rfl
    refine this.mono fun _ _ hh => ⟨hh.1.trans ?_, hh.2⟩
    by_cases h : textOf x = s
    · have e : (textOf x == s) = true := by simp [h]
      rw [e]; simp only [h, if_true]
    · have e : (textOf x == s) = false := by simpa using h
      rw [e]; simp only [h, if_false, Bool.false_eq_true]

theorem pOf_awake : pOf [51, 98, 45, 50] = (4604930618986332160, 0) := by decide +kernel
theorem textOf_awake : textOf 4604930618986332160 = [51, 98, 45, 50] := by decide +kernel
end Go.Proofs.YtjdbapkmaggllaaGreatDoor.Fl
