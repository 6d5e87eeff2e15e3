/-
  A desk's lists, read; made by a call, each in memory of its own. No condition.
-/
import Derived.Test.YtglefolkecimabdFlIn
import Derived.Test.YtglefolkecimabdLg1
import Derived.Test.YtglefolkecimabdCp1
import Derived.Test.YtglefolkecimabdPure1
namespace Go.Proofs.Ytglefolkecimabd
open Go.RowKit

/-- Its lists, read. -/
structure DkIn (w : World) (g a1 a2 a3 : Option Addr) (n l1 l2 l3 : Nat) (ls : List Lg) (z1 : List Ts) (z2 : List Cr) (z3 : List Df) : Prop where
  lg : RowE 4 lgC w g n ls
  fl : FlIn w a1 a2 a3 l1 l2 l3 z1 z2 z3
theorem DkIn.below {w w' : World} {g a1 a2 a3 : Option Addr} {n l1 l2 l3 : Nat} {ls : List Lg} {z1 : List Ts} {z2 : List Cr} {z3 : List Df} (h : DkIn w g a1 a2 a3 n l1 l2 l3 ls z1 z2 z3) (k : Below w.heap.size w w') : DkIn w' g a1 a2 a3 n l1 l2 l3 ls z1 z2 z3 :=
  ⟨h.lg.below k, h.fl.below k⟩
/-- Its lists that a call has made, each in memory of its own. -/
structure DkOwn (w : World) (base : Nat) (g a1 a2 a3 : Option Addr) (n c0 l1 c1 l2 c2 l3 c3 : Nat) (ls : List Lg) (z1 : List Ts) (z2 : List Cr) (z3 : List Df) : Prop where
  ol : OwnE 4 lgC w base 91 (.slice g n c0) ls
  fl : FlOwn w base a1 a2 a3 l1 c1 l2 c2 l3 c3 z1 z2 z3
  p1 : ∀ i, (Value.slice g n c0).ownBlock = some i → (Value.slice a1 l1 c1).ownBlock ≠ some i
  p2 : ∀ i, (Value.slice g n c0).ownBlock = some i → (Value.slice a2 l2 c2).ownBlock ≠ some i
  p3 : ∀ i, (Value.slice g n c0).ownBlock = some i → (Value.slice a3 l3 c3).ownBlock ≠ some i
theorem DkOwn.below {w w' : World} {base : Nat} {g a1 a2 a3 : Option Addr} {n c0 l1 c1 l2 c2 l3 c3 : Nat} {ls : List Lg} {z1 : List Ts} {z2 : List Cr} {z3 : List Df} (h : DkOwn w base g a1 a2 a3 n c0 l1 c1 l2 c2 l3 c3 ls z1 z2 z3) (k : Below w.heap.size w w') : DkOwn w' base g a1 a2 a3 n c0 l1 c1 l2 c2 l3 c3 ls z1 z2 z3 :=
  ⟨h.ol.below k, h.fl.below k, h.p1, h.p2, h.p3⟩
theorem DkOwn.mono {w : World} {base : Nat} {g a1 a2 a3 : Option Addr} {n c0 l1 c1 l2 c2 l3 c3 : Nat} {ls : List Lg} {z1 : List Ts} {z2 : List Cr} {z3 : List Df} (h : DkOwn w base g a1 a2 a3 n c0 l1 c1 l2 c2 l3 c3 ls z1 z2 z3) {base' : Nat} (hb : base' ≤ base) : DkOwn w base' g a1 a2 a3 n c0 l1 c1 l2 c2 l3 c3 ls z1 z2 z3 :=
  ⟨h.ol.mono hb, h.fl.mono hb, h.p1, h.p2, h.p3⟩
theorem DkOwn.read {w : World} {base : Nat} {g a1 a2 a3 : Option Addr} {n c0 l1 c1 l2 c2 l3 c3 : Nat} {ls : List Lg} {z1 : List Ts} {z2 : List Cr} {z3 : List Df} (h : DkOwn w base g a1 a2 a3 n c0 l1 c1 l2 c2 l3 c3 ls z1 z2 z3) : DkIn w g a1 a2 a3 n l1 l2 l3 ls z1 z2 z3 :=
  ⟨h.ol.row, h.fl.read⟩
theorem FlOwn.far {w w' : World} {base : Nat} {a1 a2 a3 : Option Addr} {l1 c1 l2 c2 l3 c3 : Nat} {z1 : List Ts} {z2 : List Cr} {z3 : List Df} {row : Option Nat} (h : FlOwn w base a1 a2 a3 l1 c1 l2 c2 l3 c3 z1 z2 z3) (k : w.grownBy w' row) (hne : ∀ i, base ≤ i → some i ≠ row) : FlOwn w' base a1 a2 a3 l1 c1 l2 c2 l3 c3 z1 z2 z3 :=
  ⟨h.o1.far k (fun i hi => hne i (h.o1.lies i hi).1), h.o2.far k (fun i hi => hne i (h.o2.lies i hi).1), h.o3.far k (fun i hi => hne i (h.o3.lies i hi).1), h.p12, h.p13, h.p23⟩
/-- What a desk is. -/
structure Dk where
  C : Cf
  ls : List Lg
  P : Pl
  F : Fl
def lgsB (ls : List Lg) : Bool := ls.all fun x => lgB x.a0 x.a1 x.a2 x.a3
def dskB (d : Dk) : Bool := cfB ⟨d.C.a0, d.C.a1, d.C.a2, d.C.a3, d.C.a4⟩ && (decide (d.ls.length ≤ 30) && lgsB d.ls) && apOk d.P && flB d.F

end Go.Proofs.Ytglefolkecimabd
