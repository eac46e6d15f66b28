/- What a call of a function value does, how it ends, and what bail's functions answer. -/
import Derived.Test.YtbgkfjelgnbfmaaGreatDoorBky
import Derived.Test.YtbgkfjelgnbfmaaGreatDoorProg
import Derived.Defers
import Derived.Recover
import Derived.KernelRfl
namespace Go.Proofs.YtbgkfjelgnbfmaaGreatDoor
open Go.RowKit Fo
set_option maxRecDepth 100000

namespace Fo
theorem fold_at : ∀ (os : List Obj) (w : World), (os.foldl World.alloc w).heap = w.heap ++ os.toArray
  | [], w => by simp
  | o :: os, w => by
    rw [List.foldl_cons, fold_at os (w.alloc o)]
    show w.heap.push o ++ os.toArray = _
    simp
theorem fold_heap (os : List Obj) (w : World) (k : Nat) (o : Obj) (h : os[k]? = some o) : (os.foldl World.alloc w).heap[w.heap.size + k]? = some o := by
  rw [fold_at, Array.getElem?_append_right (by omega)]
  simpa using h
theorem fold_size (os : List Obj) (w : World) : (os.foldl World.alloc w).heap.size = w.heap.size + os.length := by rw [fold_at]; simp
theorem fold_below : ∀ (os : List Obj) (w w0 : World), Below w0.heap.size w0 w → Below w0.heap.size w0 (os.foldl World.alloc w)
  | [], _, _, h => h
  | o :: os, w, w0, h => fold_below os (w.alloc o) w0 (h.alloc h.size o)
/-- What a function's body does, whether it is called or deferred. -/
def Plays (P : Program) (f : FuncId) (args : Array Value) (w : World) (R : Ending → World → Prop) : Prop :=
  ∃ fn c, P.funcs[f]? = some fn ∧ fn.body = some c ∧ c.wp P (bodyPost P fn R) { tmps := args ++ Array.replicate (fn.ntmps - args.size) undef, defers := [] } w
theorem Plays.calls {P : Program} {f : FuncId} {args : Array Value} {w : World} {R : Ending → World → Prop} (h : Plays P f args w R) : Calls P f args w R :=
  let ⟨_, _, h1, h2, h3⟩ := h; calls_of_wp h1 h2 h3
theorem Plays.deferred {P : Program} {f : FuncId} {args : Array Value} {w : World} {R : Ending → World → Prop} (h : Plays P f args w R) (u : FrameMode) : CallsD P f args u w fun e u' w' => u' = u ∧ R e w' :=
  let ⟨_, _, h1, h2, h3⟩ := h; callsD_of_wp h1 h2 h3
theorem bp_put {P : Program} {fn : Func} {R : Ending → World → Prop} (c : List PanicEntry) (a : Act) {d : Option Tmp} {v : Value} (w : World) (h : bodyPost P fn R (.panic c) (a.put d v) w) : bodyPost P fn R (.panic c) a w :=
  ⟨by cases d <;> exact h.1, h.2⟩
/-- A function value without a receiver, that may be called. -/
def Fnv (P : Program) (f : FuncId) (cap : Array Value) : Prop := ∀ w, (callFunc f cap).run P w = .ok (.enter f cap) w
/-- How a call ends. -/
inductive En where
  | ret
  | bail (c a : Int)
  | num (n : Int)
  | nilB
/-- The value of a panic. -/
def PanV (lo : Nat) (F : Nat → Prop) (w : World) : En → Value → Prop
  | .ret, _ => False
  | .bail c a, v => ∃ b, v = .iface 57 (.pointer (some ⟨b, 0, none⟩)) ∧ w.heap[b]? = some (.cells #[.int .i64 c, .int .i64 a] 61) ∧ ¬ F b ∧ lo ≤ b
  | .num n, v => v = .iface 3 (.int .i64 n)
  | .nilB, v => v = .iface 57 (.pointer none)
/-- A call that ends so. -/
def EnIn (lo : Nat) (F : Nat → Prop) (w : World) (r : En) (e : Ending) : Prop :=
  (r = .ret ∧ e = .returned (.tuple #[])) ∨ ∃ v old, e = .panicked ({ v := v, recovered := false } :: old) ∧ (∀ x, x ∈ old → x.goexit = false) ∧ PanV lo F w r v
/-- What is in memory in blocks of F. -/
structure StF {α : Type} (S : (Nat → Prop) → World → α → Prop) : Prop where
  frame : ∀ {F G : Nat → Prop} {w w' : World} {x : α}, S F w x → Kp G w w' → (∀ b, F b → ¬ G b) → S F w' x
  lt : ∀ {F : Nat → Prop} {w : World} {x : α}, S F w x → ∀ b, F b → b < w.heap.size
theorem StF.drew {α : Type} {S : (Nat → Prop) → World → α → Prop} (hS : StF S) {F : Nat → Prop} {w : World} {x : α} (h : S F w x) : S F w.drew x := hS.frame h (Kp.of_below (F := fun _ => False) (below_refl w).drew) fun _ _ h => h
theorem Kp.undrew {F : Nat → Prop} {w w' : World} (h : Kp F w.drew w') : Kp F w w' := (Kp.of_below (F := F) (below_refl w).drew).trans h fun _ _ h => h
/-- What is left in memory: behind w, with F. -/
def Lft {α : Type} (S : (Nat → Prop) → World → α → Prop) (F : Nat → Prop) (w : World) (y : α) (G : Nat → Prop) (w' : World) : Prop := S G w' y ∧ (∀ b, G b → F b ∨ w.heap.size ≤ b) ∧ Kp F w w'
/-- A call from w, that leaves y and ends as r. -/
def Fins {α : Type} (S : (Nat → Prop) → World → α → Prop) (F : Nat → Prop) (w : World) (r : En) (y : α) (e : Ending) (w' : World) : Prop :=
  ∃ G, Lft S F w y G w' ∧ EnIn w.heap.size G w' r e
theorem PanV.step {lo lo' : Nat} {F F' G : Nat → Prop} {w w' : World} {r : En} {v : Value} (h : PanV lo F w r v) (hl : lo' ≤ lo) (hk : Kp G w w') (hG : ∀ b, lo ≤ b → b < w.heap.size → ¬ F b → ¬ G b) (hF : ∀ b, b < w.heap.size → F' b → F b) : PanV lo' F' w' r v := by
  cases r with
  | bail c a =>
    obtain ⟨b, e, hb, hf, hlo⟩ := h
    have hlt := lt_of_heap hb
    exact ⟨b, e, hk.heap hb (hG b hlo hlt hf), fun k => hf (hF b hlt k), Nat.le_trans hl hlo⟩
  | ret => exact h
  | num n => exact h
  | nilB => exact h
/-- What Catch answers, by how f ends. -/
def CatE (lo : Nat) (F : Nat → Prop) (w : World) (r : En) (e : Ending) : Prop :=
  match r with
  | .ret => e = .returned (.tuple #[.int .i64 0, .int .i64 0])
  | .bail c a => e = .returned (.tuple #[.int .i64 c, .int .i64 a])
  | r => EnIn lo F w r e
def OnlE (k : Int) (lo : Nat) (F : Nat → Prop) (w : World) (r : En) (e : Ending) : Prop :=
  (r = .ret ∧ e = .returned (.bool false)) ∨ (∃ a, r = .bail k a ∧ e = .returned (.bool true)) ∨ (r ≠ .ret ∧ (∀ a, r ≠ .bail k a) ∧ EnIn lo F w r e)
def SafE (lo : Nat) (F : Nat → Prop) (w : World) (r : En) (e : Ending) : Prop :=
  (r = .ret ∧ e = .returned (.tuple #[.nilIface, .bool true])) ∨ ∃ v, e = .returned (.tuple #[v, .bool false]) ∧ PanV lo F w r v
/-- The second end, if it is none; else the first. -/
def En.behind : En → En → En
  | r, .ret => r
  | _, r => r
end Fo
/-- What bail's functions of leaving answer. -/
structure BailSays : Prop where
  out : ∀ (w : World) (c a : Int), Calls Tryz.prog 65 #[.int .i64 c, .int .i64 a] w fun e w' => Below w.heap.size w w' ∧ EnIn w.heap.size (fun _ => False) w' (.bail c a) e
  catches : ∀ {α : Type} {S : (Nat → Prop) → World → α → Prop}, StF S → ∀ (F : Nat → Prop) (w : World) (x y : α) (f : FuncId) (cap : Array Value) (r : En), Fnv Tryz.prog f cap → S F w x →
    (∀ w1, Below w.heap.size w w1 → S F w1 x → Plays Tryz.prog f cap w1 (Fins S F w1 r y)) →
    Calls Tryz.prog 23 #[.func (.func f) #[] cap] w fun e w' => ∃ G, Lft S F w y G w' ∧ CatE w.heap.size G w' r e
end Go.Proofs.YtbgkfjelgnbfmaaGreatDoor
