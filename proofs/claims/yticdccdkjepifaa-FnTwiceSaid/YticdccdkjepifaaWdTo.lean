/-
  The law's size, copy and comparison of a Word16. The copy at lists of at most 1048576; nothing that was there is written.
-/
import Derived.Test.YticdccdkjepifaaMOnly
import Derived.Test.YticdccdkjepifaaRowBy
namespace Go.Proofs.Yticdccdkjepifaa
open Go.RowKit
/-- Its lists, read. -/
structure WdIn (w : World) (a1 : Option Addr) (l1 : Nat) (z1 : List Int) : Prop where
  r1 : RowE 1 byC w a1 l1 z1
theorem WdIn.below {w w' : World} {a1 : Option Addr} {l1 : Nat} {z1 : List Int} (h : WdIn w a1 l1 z1) (k : Below w.heap.size w w') : WdIn w' a1 l1 z1 :=
  ⟨h.r1.below k⟩
/-- Its lists that a call has made, each in memory of its own. -/
structure WdOwn (w : World) (base : Nat) (a1 : Option Addr) (l1 c1 : Nat) (z1 : List Int) : Prop where
  o1 : OwnE 1 byC w base 5 (.slice a1 l1 c1) z1
theorem WdOwn.below {w w' : World} {base : Nat} {a1 : Option Addr} {l1 c1 : Nat} {z1 : List Int} (h : WdOwn w base a1 l1 c1 z1) (k : Below w.heap.size w w') : WdOwn w' base a1 l1 c1 z1 :=
  ⟨h.o1.below k⟩
theorem WdOwn.mono {w : World} {base : Nat} {a1 : Option Addr} {l1 c1 : Nat} {z1 : List Int} (h : WdOwn w base a1 l1 c1 z1) {base' : Nat} (hb : base' ≤ base) : WdOwn w base' a1 l1 c1 z1 :=
  ⟨h.o1.mono hb⟩
theorem WdOwn.read {w : World} {base : Nat} {a1 : Option Addr} {l1 c1 : Nat} {z1 : List Int} (h : WdOwn w base a1 l1 c1 z1) : WdIn w a1 l1 z1 :=
  ⟨h.o1.row⟩
/-- Blocks of its lists lie from base on, below a number. -/
def WdLies (base hi : Nat) (a1 : Option Addr) (l1 c1 : Nat) : Prop :=
  (∀ g, (Value.slice a1 l1 c1).ownBlock = some g → base ≤ g ∧ g < hi)
theorem WdOwn.lies {w : World} {base : Nat} {a1 : Option Addr} {l1 c1 : Nat} {z1 : List Int} (h : WdOwn w base a1 l1 c1 z1) : WdLies base w.heap.size a1 l1 c1 := h.o1.lies
theorem WdOwn.only {w w' : World} {base : Nat} {a1 : Option Addr} {l1 c1 : Nat} {z1 : List Int} {lo hi b u : Nat} (h : WdOwn w base a1 l1 c1 z1) (k : Only lo hi w w') (hl : WdLies b u a1 l1 c1) (hs : u ≤ lo ∨ hi ≤ b) : WdOwn w' base a1 l1 c1 z1 :=
  ⟨h.o1.only k (fun g hg => by have := hl g hg; omega)⟩
theorem WdOwn.set_other {w : World} {base : Nat} {a1 : Option Addr} {l1 c1 : Nat} {z1 : List Int} (h : WdOwn w base a1 l1 c1 z1) {S o : Nat} (u : Value) (n1 : (Value.slice a1 l1 c1).ownBlock ≠ some S) : WdOwn (w.setCell ⟨S, o, none⟩ u) base a1 l1 c1 z1 :=
  ⟨h.o1.set_other u n1⟩

end Go.Proofs.Yticdccdkjepifaa
