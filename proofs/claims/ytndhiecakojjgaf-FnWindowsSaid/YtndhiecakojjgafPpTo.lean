/-
  The law's size, copy and comparison of a Plan17. The copy at lists of at most 1048576; nothing that was there is written.
-/
import Derived.Test.YtndhiecakojjgafOnly
import Derived.Test.YtndhiecakojjgafRowWn
namespace Go.Proofs.Ytndhiecakojjgaf
open Go.RowKit
/-- Its lists, read. -/
structure PpIn (w : World) (a1 : Option Addr) (l1 : Nat) (z1 : List Wn) : Prop where
  r1 : RowE 3 wnC w a1 l1 z1
theorem PpIn.below {w w' : World} {a1 : Option Addr} {l1 : Nat} {z1 : List Wn} (h : PpIn w a1 l1 z1) (k : Below w.heap.size w w') : PpIn w' a1 l1 z1 :=
  ⟨h.r1.below k⟩
/-- Its lists that a call has made, each in memory of its own. -/
structure PpOwn (w : World) (base : Nat) (a1 : Option Addr) (l1 c1 : Nat) (z1 : List Wn) : Prop where
  o1 : OwnE 3 wnC w base 91 (.slice a1 l1 c1) z1
theorem PpOwn.below {w w' : World} {base : Nat} {a1 : Option Addr} {l1 c1 : Nat} {z1 : List Wn} (h : PpOwn w base a1 l1 c1 z1) (k : Below w.heap.size w w') : PpOwn w' base a1 l1 c1 z1 :=
  ⟨h.o1.below k⟩
theorem PpOwn.mono {w : World} {base : Nat} {a1 : Option Addr} {l1 c1 : Nat} {z1 : List Wn} (h : PpOwn w base a1 l1 c1 z1) {base' : Nat} (hb : base' ≤ base) : PpOwn w base' a1 l1 c1 z1 :=
  ⟨h.o1.mono hb⟩
theorem PpOwn.read {w : World} {base : Nat} {a1 : Option Addr} {l1 c1 : Nat} {z1 : List Wn} (h : PpOwn w base a1 l1 c1 z1) : PpIn w a1 l1 z1 :=
  ⟨h.o1.row⟩
/-- Blocks of its lists lie from base on, below a number. -/
def PpLies (base hi : Nat) (a1 : Option Addr) (l1 c1 : Nat) : Prop :=
  (∀ g, (Value.slice a1 l1 c1).ownBlock = some g → base ≤ g ∧ g < hi)
theorem PpOwn.lies {w : World} {base : Nat} {a1 : Option Addr} {l1 c1 : Nat} {z1 : List Wn} (h : PpOwn w base a1 l1 c1 z1) : PpLies base w.heap.size a1 l1 c1 := h.o1.lies
theorem PpOwn.only {w w' : World} {base : Nat} {a1 : Option Addr} {l1 c1 : Nat} {z1 : List Wn} {lo hi b u : Nat} (h : PpOwn w base a1 l1 c1 z1) (k : Only lo hi w w') (hl : PpLies b u a1 l1 c1) (hs : u ≤ lo ∨ hi ≤ b) : PpOwn w' base a1 l1 c1 z1 :=
  ⟨h.o1.only k (fun g hg => by have := hl g hg; omega)⟩
theorem PpOwn.set_other {w : World} {base : Nat} {a1 : Option Addr} {l1 c1 : Nat} {z1 : List Wn} (h : PpOwn w base a1 l1 c1 z1) {S o : Nat} (u : Value) (n1 : (Value.slice a1 l1 c1).ownBlock ≠ some S) : PpOwn (w.setCell ⟨S, o, none⟩ u) base a1 l1 c1 z1 :=
  ⟨h.o1.set_other u n1⟩

end Go.Proofs.Ytndhiecakojjgaf
