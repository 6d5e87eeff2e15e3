/-
  The region of a law in which a panel is held against a fresh copy: what is true whichever operation comes next. No condition.
-/
import Derived.Test.YtjalfalgffphmawPan1
import Derived.Test.YtjalfalgffphmawRegInv
namespace Go.Proofs.Ytjalfalgffphmaw
open Go.RowKit

structure EqR (W : World) (xv pv : Value) (l1 l2 l3 : Nat) (z1 z2 z3 : List ByteArray) (t0 t1 t2 t3 t4 : Bool) (v1 v2 v3 v4 v5 : Value) (w : World) : Prop where
  bel : Below W.heap.size W w
  e0 : t0 = true → v1 = xv
  e1 : t1 = true → v2 = pv
  e2 : t2 = true → ∃ g1 g2 g3, v3 = .agg #[.slice (some ⟨g1, 0, none⟩) l1 l1, .slice (some ⟨g2, 0, none⟩) l2 l2, .slice (some ⟨g3, 0, none⟩) l3 l3] ∧ PnIn w (some ⟨g1, 0, none⟩) (some ⟨g2, 0, none⟩) (some ⟨g3, 0, none⟩) l1 l2 l3 z1 z2 z3
  e3 : t3 = true → v4 = .bool true
  e4 : t4 = true → v5 = .bool false
theorem EqR.below {W : World} {xv pv : Value} {l1 l2 l3 : Nat} {z1 z2 z3 : List ByteArray} {t0 t1 t2 t3 t4 : Bool} {v1 v2 v3 v4 v5 : Value} {w w' : World} (K : EqR W xv pv l1 l2 l3 z1 z2 z3 t0 t1 t2 t3 t4 v1 v2 v3 v4 v5 w) (k : Below w.heap.size w w') : EqR W xv pv l1 l2 l3 z1 z2 z3 t0 t1 t2 t3 t4 v1 v2 v3 v4 v5 w' :=
  ⟨K.bel.trans (k.mono K.bel.size), K.e0, K.e1, fun h => by obtain ⟨g1, g2, g3, e, q⟩ := K.e2 h; exact ⟨g1, g2, g3, e, q.below k⟩, K.e3, K.e4⟩
def EqRJ (W : World) (xv pv : Value) (l1 l2 l3 : Nat) (z1 z2 z3 : List ByteArray) (k1 k2 k3 k4 k5 : Nat) (A0 : Act) (l : Nat → Bool) (a : Act) (V : World) : Prop := ∃ v1 v2 v3 v4 v5, a = (((((A0.put (some k1) v1).put (some k2) v2).put (some k3) v3).put (some k4) v4).put (some k5) v5) ∧ EqR W xv pv l1 l2 l3 z1 z2 z3 (l 0) (l 1) (l 2) (l 3) (l 4) v1 v2 v3 v4 v5 V
theorem EqRJ.mk {W : World} {xv pv : Value} {l1 l2 l3 : Nat} {z1 z2 z3 : List ByteArray} {k1 k2 k3 k4 k5 : Nat} {A0 : Act} {l : Nat → Bool} {a : Act} {V : World} {v1 v2 v3 v4 v5 : Value} (K : EqR W xv pv l1 l2 l3 z1 z2 z3 (l 0) (l 1) (l 2) (l 3) (l 4) v1 v2 v3 v4 v5 V) (h : a = (((((A0.put (some k1) v1).put (some k2) v2).put (some k3) v3).put (some k4) v4).put (some k5) v5)) : EqRJ W xv pv l1 l2 l3 z1 z2 z3 k1 k2 k3 k4 k5 A0 l a V := ⟨v1, v2, v3, v4, v5, h, K⟩

end Go.Proofs.Ytjalfalgffphmaw
