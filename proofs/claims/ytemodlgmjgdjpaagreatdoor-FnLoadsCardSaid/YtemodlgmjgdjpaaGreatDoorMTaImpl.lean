/-
  What the small functions of keeping apart answer in the program: plain answers, at every argument; nothing that was there is written.
  Callees that make one, two, three blocks, in a region that draws its order. No condition.
  Alert of the model and of the program: the plain answer, at every argument; nothing that was there is written.
-/
import Derived.Test.YtemodlgmjgdjpaaGreatDoorMBase
import Derived.Test.YtemodlgmjgdjpaaGreatDoorMNameIs
import Derived.Test.YtemodlgmjgdjpaaGreatDoorMOnly

namespace Go.Proofs.YtemodlgmjgdjpaaGreatDoor
open Go.RowKit

theorem taDr {B : Nat} {w w' : World} (h : Below B w w') (n : Nat) : Below B w (w'.drewN n) := h.trans (bel0d' n)












end Go.Proofs.YtemodlgmjgdjpaaGreatDoor

namespace Go.Proofs.YtemodlgmjgdjpaaGreatDoor
open Go.RowKit

theorem belA1 {P : Program} {F : FuncId} {args : Array Value} {w : World} {ι : Type} {f : ι → World} (hb : ∀ x, Below w.heap.size w (f x)) (hall : ∀ w', Below w.heap.size w w' → ∃ x, w' = f x) {x : ι} {v : Value} {o0 : Obj}
    (h : Calls P F args (f x) fun e w' => e = .returned v ∧ w' = ((f x).alloc o0)) : Calls P F args (f x) fun e w'' => e = .returned v ∧ ∃ y, w'' = f y :=
  belQ hb hall (h.mono fun _ _ ⟨he, k⟩ => ⟨he, by rw [k]; repeat (first | exact Below.refl _ _ | refine Below.alloc ?_ (by simp; try omega) _)⟩)

theorem belA2 {P : Program} {F : FuncId} {args : Array Value} {w : World} {ι : Type} {f : ι → World} (hb : ∀ x, Below w.heap.size w (f x)) (hall : ∀ w', Below w.heap.size w w' → ∃ x, w' = f x) {x : ι} {v : Value} {o0 o1 : Obj}
    (h : Calls P F args (f x) fun e w' => e = .returned v ∧ w' = (((f x).alloc o0).alloc o1)) : Calls P F args (f x) fun e w'' => e = .returned v ∧ ∃ y, w'' = f y :=
  belQ hb hall (h.mono fun _ _ ⟨he, k⟩ => ⟨he, by rw [k]; repeat (first | exact Below.refl _ _ | refine Below.alloc ?_ (by simp; try omega) _)⟩)

theorem belA3 {P : Program} {F : FuncId} {args : Array Value} {w : World} {ι : Type} {f : ι → World} (hb : ∀ x, Below w.heap.size w (f x)) (hall : ∀ w', Below w.heap.size w w' → ∃ x, w' = f x) {x : ι} {v : Value} {o0 o1 o2 : Obj}
    (h : Calls P F args (f x) fun e w' => e = .returned v ∧ w' = ((((f x).alloc o0).alloc o1).alloc o2)) : Calls P F args (f x) fun e w'' => e = .returned v ∧ ∃ y, w'' = f y :=
  belQ hb hall (h.mono fun _ _ ⟨he, k⟩ => ⟨he, by rw [k]; repeat (first | exact Below.refl _ _ | refine Below.alloc ?_ (by simp; try omega) _)⟩)

theorem belAl {W X : World} (h : Below W.heap.size W X) (o : Obj) : Below W.heap.size W (X.alloc o) := h.alloc h.size o
theorem belG {P : Program} {F : FuncId} {args : Array Value} {W X : World} {ι : Type} {f : ι → World} (hall : ∀ w', Below W.heap.size W w' → ∃ x, w' = f x) {v : Value} (hX : Below W.heap.size W X)
    (h : Calls P F args X fun e w' => e = .returned v ∧ Below X.heap.size X w') : Calls P F args X fun e w'' => e = .returned v ∧ ∃ y, w'' = f y :=
  h.mono fun _ _ ⟨he, k⟩ => ⟨he, hall _ (hX.trans (k.mono hX.size))⟩

theorem thB_four (oi oh oc os ti th tc tf tk ts near wi : Int) : thB oi oh oc os ti th tc tf tk ts near wi = (tiB ti th tc tf tk ts && (avB oi oh oc os && inB near 0 10000 && inB wi 1 300) && !(oi == ti) && decide (tiN ti th tc tf tk ts ≤ wi) && decide (((dfN oh oc th tc (tiN ti th tc tf tk ts)).natAbs : Int) < near)) := by
  unfold thB
  cases tiB ti th tc tf tk ts <;> cases avB oi oh oc os <;> cases (oi == ti) <;> cases inB near 0 10000 <;> simp
theorem dfN_is (oh oc th tc n : Int) : oh + n * oc - (th + n * tc) = dfN oh oc th tc n := by unfold dfN; omega

end Go.Proofs.YtemodlgmjgdjpaaGreatDoor

namespace Go.Proofs.YtemodlgmjgdjpaaGreatDoor
open Go.RowKit

theorem al_no {gs : List Int} {h c m : Int} (hv : alOk gs h c m = false) : alR gs h c m = -1 ∧ alB gs h c m = false := by simp [alR, alB, hv]
theorem al_here {gs : List Int} {h c m : Int} {k : Nat} (hv : alOk gs h c m = true) (hk : k < gs.length) (e : alF gs h c m = k) : alR gs h c m = k ∧ alB gs h c m = true := by
  have : alB gs h c m = true := by simp [alB, hv, e, hk]
  simp [alR, this, e]
theorem al_none {gs : List Int} {h c m : Int} (e : alF gs h c m = gs.length) : alR gs h c m = -1 ∧ alB gs h c m = false := by
  have : alB gs h c m = false := by simp [alB, e]
  simp [alR, this]





end Go.Proofs.YtemodlgmjgdjpaaGreatDoor
