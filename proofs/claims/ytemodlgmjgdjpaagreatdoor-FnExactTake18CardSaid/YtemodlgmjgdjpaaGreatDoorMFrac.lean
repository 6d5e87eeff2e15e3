/-
  What the fractions of the model and of the program are: lowest terms by the greatest common divisor, the same in both, wherever the numerator is at most 10^15 either way and the denominator in 1 .. 10^15; nothing that was there is written.
  Two, three, four variables in blocks of their own, one laid behind the other. No condition.
  What the small functions of keeping apart answer in the program: plain answers, at every argument; nothing that was there is written.
  Callees that make one, two, three blocks, in a region that draws its order. No condition.
-/
import Derived.Test.YtemodlgmjgdjpaaGreatDoorMMake
import Derived.Test.YtemodlgmjgdjpaaGreatDoorMRowE
import Derived.Test.YtemodlgmjgdjpaaGreatDoorMStrRow
import Derived.Test.YtemodlgmjgdjpaaGreatDoorMBel

namespace Go.Proofs.YtemodlgmjgdjpaaGreatDoor
open Go.RowKit

def fracN (n d : Int) : Int := n.tdiv (Int.gcd n d)
def fracD (n d : Int) : Int := d / (Int.gcd n d)

theorem gcd_stepT (a b : Int) : Int.gcd b (a.tmod b) = Int.gcd a b := by
  unfold Int.gcd
  rw [Int.natAbs_tmod, Nat.gcd_comm a.natAbs b.natAbs, Nat.gcd_comm b.natAbs (a.natAbs % b.natAbs), ← Nat.gcd_rec]
theorem gcd_stepE (a b : Int) (ha : 0 ≤ a) : Int.gcd b (a % b) = Int.gcd a b := by
  have e : a.tmod b = a % b := Int.tmod_eq_emod_of_nonneg ha
  rw [← e]; exact gcd_stepT a b
theorem gcd_pos (n d : Int) (h : 1 ≤ d) : (1 : Int) ≤ (Int.gcd n d : Int) := by
  have : 0 < Int.gcd n d := Nat.gcd_pos_of_pos_right _ (by omega)
  omega
theorem gcd_le (n d : Int) (h : 1 ≤ d) : (Int.gcd n d : Int) ≤ d := by
  have : Int.gcd n d ≤ d.natAbs := Nat.gcd_le_right _ (by omega)
  omega

/-- The copying of two numbers by Euclid, both at least 0. -/
theorem emod_lt (a b : Int) (hb : 0 < b) : 0 ≤ a % b ∧ a % b < b := ⟨Int.emod_nonneg _ (by omega), Int.emod_lt_of_pos _ hb⟩

end Go.Proofs.YtemodlgmjgdjpaaGreatDoor

namespace Go.Proofs.YtemodlgmjgdjpaaGreatDoor
open Go.RowKit

theorem Blk.next {w : World} {B : Nat} (vs : List Value) (T : TypeId) (h : w.heap.size = B) : Blk (w.alloc (Obj.cells vs.toArray T)) B vs := by
  subst h; exact Blk.new vs T
theorem blkAt2_0 {w : World} {v1 v2 : List Value} {T1 T2 : TypeId} : Blk ((w.alloc (Obj.cells v1.toArray T1)).alloc (Obj.cells v2.toArray T2)) w.heap.size v1 := (Blk.new v1 T1).alloc _
theorem blkAt2_1 {w : World} {v1 v2 : List Value} {T1 T2 : TypeId} : Blk ((w.alloc (Obj.cells v1.toArray T1)).alloc (Obj.cells v2.toArray T2)) (w.heap.size + 1) v2 := Blk.next v2 T2 (by simp)
theorem blkAt3_0 {w : World} {v1 v2 v3 : List Value} {T1 T2 T3 : TypeId} : Blk (((w.alloc (Obj.cells v1.toArray T1)).alloc (Obj.cells v2.toArray T2)).alloc (Obj.cells v3.toArray T3)) w.heap.size v1 := blkAt2_0.alloc _
theorem blkAt3_1 {w : World} {v1 v2 v3 : List Value} {T1 T2 T3 : TypeId} : Blk (((w.alloc (Obj.cells v1.toArray T1)).alloc (Obj.cells v2.toArray T2)).alloc (Obj.cells v3.toArray T3)) (w.heap.size + 1) v2 := blkAt2_1.alloc _
theorem blkAt3_2 {w : World} {v1 v2 v3 : List Value} {T1 T2 T3 : TypeId} : Blk (((w.alloc (Obj.cells v1.toArray T1)).alloc (Obj.cells v2.toArray T2)).alloc (Obj.cells v3.toArray T3)) (w.heap.size + 1 + 1) v3 := Blk.next v3 T3 (by simp)

end Go.Proofs.YtemodlgmjgdjpaaGreatDoor

namespace Go.Proofs.YtemodlgmjgdjpaaGreatDoor
open Go.RowKit

theorem taDr {B : Nat} {w w' : World} (h : Below B w w') (n : Nat) : Below B w (w'.drewN n) := h.trans (bel0d' n)












end Go.Proofs.YtemodlgmjgdjpaaGreatDoor

namespace Go.Proofs.YtemodlgmjgdjpaaGreatDoor
open Go.RowKit

theorem belA1 {P : Program} {F : FuncId} {args : Array Value} {w : World} {ι : Type} {f : ι → World} (hb : ∀ x, Below w.heap.size w (f x)) (hall : ∀ w', Below w.heap.size w w' → ∃ x, w' = f x) {x : ι} {v : Value} {o0 : Obj}
    (h : Calls P F args (f x) fun e w' => e = .returned v ∧ w' = ((f x).alloc o0)) : Calls P F args (f x) fun e w'' => e = .returned v ∧ ∃ y, w'' = f y :=
  belQ hb hall (h.mono fun _ _ ⟨he, k⟩ => ⟨he, by rw [k]; repeat (first | exact Below.refl _ _ | refine Below.alloc ?_ (by simp; try omega) _)⟩)

theorem belA2 {P : Program} {F : FuncId} {args : Array Value} {w : World} {ι : Type} {f : ι → World} (hb : ∀ x, Below w.heap.size w (f x)) (hall : ∀ w', Below w.heap.size w w' → ∃ x, w' = f x) {x : ι} {v : Value} {o0 o1 : Obj}
    (h : Calls P F args (f x) fun e w' => e = .returned v ∧ w' = (((f x).alloc o0).alloc o1)) : Calls P F args (f x) fun e w'' => e = .returned v ∧ ∃ y, w'' = f y :=
  belQ hb hall (h.mono fun _ _ ⟨he, k⟩ => ⟨he, by rw [k]; repeat (first | exact Below.refl _ _ | refine Below.alloc ?_ (by simp; try omega) _)⟩)

theorem belA3 {P : Program} {F : FuncId} {args : Array Value} {w : World} {ι : Type} {f : ι → World} (hb : ∀ x, Below w.heap.size w (f x)) (hall : ∀ w', Below w.heap.size w w' → ∃ x, w' = f x) {x : ι} {v : Value} {o0 o1 o2 : Obj}
    (h : Calls P F args (f x) fun e w' => e = .returned v ∧ w' = ((((f x).alloc o0).alloc o1).alloc o2)) : Calls P F args (f x) fun e w'' => e = .returned v ∧ ∃ y, w'' = f y :=
  belQ hb hall (h.mono fun _ _ ⟨he, k⟩ => ⟨he, by rw [k]; repeat (first | exact Below.refl _ _ | refine Below.alloc ?_ (by simp; try omega) _)⟩)

theorem belAl {W X : World} (h : Below W.heap.size W X) (o : Obj) : Below W.heap.size W (X.alloc o) := h.alloc h.size o
theorem belG {P : Program} {F : FuncId} {args : Array Value} {W X : World} {ι : Type} {f : ι → World} (hall : ∀ w', Below W.heap.size W w' → ∃ x, w' = f x) {v : Value} (hX : Below W.heap.size W X)
    (h : Calls P F args X fun e w' => e = .returned v ∧ Below X.heap.size X w') : Calls P F args X fun e w'' => e = .returned v ∧ ∃ y, w'' = f y :=
  h.mono fun _ _ ⟨he, k⟩ => ⟨he, hall _ (hX.trans (k.mono hX.size))⟩

theorem thB_four (oi oh oc os ti th tc tf tk ts near wi : Int) : thB oi oh oc os ti th tc tf tk ts near wi = (tiB ti th tc tf tk ts && (avB oi oh oc os && inB near 0 10000 && inB wi 1 300) && !(oi == ti) && decide (tiN ti th tc tf tk ts ≤ wi) && decide (((dfN oh oc th tc (tiN ti th tc tf tk ts)).natAbs : Int) < near)) := by
  unfold thB
  cases tiB ti th tc tf tk ts <;> cases avB oi oh oc os <;> cases (oi == ti) <;> cases inB near 0 10000 <;> simp
theorem dfN_is (oh oc th tc n : Int) : oh + n * oc - (th + n * tc) = dfN oh oc th tc n := by unfold dfN; omega

end Go.Proofs.YtemodlgmjgdjpaaGreatDoor
