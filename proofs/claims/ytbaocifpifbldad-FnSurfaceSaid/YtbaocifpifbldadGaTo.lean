/-
  The law's size, copy and comparison of a Gain. The copy at lists of at most 1048576; nothing that was there is written.
-/
import Derived.Test.YtbaocifpifbldadOnly
import Derived.Test.YtbaocifpifbldadOwnI
namespace Go.Proofs.Ytbaocifpifbldad
open Go.RowKit
/-- Its lists, read. -/
structure GaIn (w : World) (a1 a2 : Option Addr) (l1 l2 : Nat) (z1 : List Int) (z2 : List Int) : Prop where
  r1 : Row w a1 l1 z1
  r2 : Row w a2 l2 z2
theorem GaIn.below {w w' : World} {a1 a2 : Option Addr} {l1 l2 : Nat} {z1 : List Int} {z2 : List Int} (h : GaIn w a1 a2 l1 l2 z1 z2) (k : Below w.heap.size w w') : GaIn w' a1 a2 l1 l2 z1 z2 :=
  ⟨h.r1.below k, h.r2.below k⟩
/-- Its lists that a call has made, each in memory of its own. -/
structure GaOwn (w : World) (base : Nat) (a1 a2 : Option Addr) (l1 c1 l2 c2 : Nat) (z1 : List Int) (z2 : List Int) : Prop where
  o1 : OwnI w base (.slice a1 l1 c1) z1
  o2 : OwnI w base (.slice a2 l2 c2) z2
  p12 : ∀ g, (Value.slice a1 l1 c1).ownBlock = some g → (Value.slice a2 l2 c2).ownBlock ≠ some g
theorem GaOwn.below {w w' : World} {base : Nat} {a1 a2 : Option Addr} {l1 c1 l2 c2 : Nat} {z1 : List Int} {z2 : List Int} (h : GaOwn w base a1 a2 l1 c1 l2 c2 z1 z2) (k : Below w.heap.size w w') : GaOwn w' base a1 a2 l1 c1 l2 c2 z1 z2 :=
  ⟨h.o1.below k, h.o2.below k, h.p12⟩
theorem GaOwn.mono {w : World} {base : Nat} {a1 a2 : Option Addr} {l1 c1 l2 c2 : Nat} {z1 : List Int} {z2 : List Int} (h : GaOwn w base a1 a2 l1 c1 l2 c2 z1 z2) {base' : Nat} (hb : base' ≤ base) : GaOwn w base' a1 a2 l1 c1 l2 c2 z1 z2 :=
  ⟨h.o1.mono hb, h.o2.mono hb, h.p12⟩
theorem GaOwn.read {w : World} {base : Nat} {a1 a2 : Option Addr} {l1 c1 l2 c2 : Nat} {z1 : List Int} {z2 : List Int} (h : GaOwn w base a1 a2 l1 c1 l2 c2 z1 z2) : GaIn w a1 a2 l1 l2 z1 z2 :=
  ⟨h.o1.row, h.o2.row⟩
/-- Blocks of its lists lie from base on, below a number. -/
def GaLies (base hi : Nat) (a1 a2 : Option Addr) (l1 c1 l2 c2 : Nat) : Prop :=
  (∀ g, (Value.slice a1 l1 c1).ownBlock = some g → base ≤ g ∧ g < hi) ∧ (∀ g, (Value.slice a2 l2 c2).ownBlock = some g → base ≤ g ∧ g < hi)
theorem GaOwn.lies {w : World} {base : Nat} {a1 a2 : Option Addr} {l1 c1 l2 c2 : Nat} {z1 : List Int} {z2 : List Int} (h : GaOwn w base a1 a2 l1 c1 l2 c2 z1 z2) : GaLies base w.heap.size a1 a2 l1 c1 l2 c2 :=
  ⟨h.o1.lies, h.o2.lies⟩
theorem GaOwn.only {w w' : World} {base : Nat} {a1 a2 : Option Addr} {l1 c1 l2 c2 : Nat} {z1 : List Int} {z2 : List Int} {lo hi b u : Nat} (h : GaOwn w base a1 a2 l1 c1 l2 c2 z1 z2) (k : Only lo hi w w') (hl : GaLies b u a1 a2 l1 c1 l2 c2) (hs : u ≤ lo ∨ hi ≤ b) : GaOwn w' base a1 a2 l1 c1 l2 c2 z1 z2 :=
  ⟨h.o1.only k (fun g hg => by have := hl.1 g hg; omega), h.o2.only k (fun g hg => by have := hl.2 g hg; omega), h.p12⟩
theorem GaOwn.set_other {w : World} {base : Nat} {a1 a2 : Option Addr} {l1 c1 l2 c2 : Nat} {z1 : List Int} {z2 : List Int} (h : GaOwn w base a1 a2 l1 c1 l2 c2 z1 z2) {S o : Nat} (u : Value) (n1 : (Value.slice a1 l1 c1).ownBlock ≠ some S) (n2 : (Value.slice a2 l2 c2).ownBlock ≠ some S) : GaOwn (w.setCell ⟨S, o, none⟩ u) base a1 a2 l1 c1 l2 c2 z1 z2 :=
  ⟨h.o1.set_other u n1, h.o2.set_other u n2, h.p12⟩

end Go.Proofs.Ytbaocifpifbldad
