/-
  What the drawing of a law's gains holds on to. No condition.
-/
import Derived.Test.YtbaocifpifbldadDrRise
import Derived.Test.YtbaocifpifbldadAppS
import Derived.Test.YtbaocifpifbldadGaTo
import Derived.Test.YtbaocifpifbldadCtlPure
import Derived.Test.YtbaocifpifbldadBlk
import Derived.Test.YtbaocifpifbldadApFar
namespace Go.Proofs.Ytbaocifpifbldad
open Go.RowKit

structure Gd (w : World) (C G : Nat) (a : Option Addr) (len cap : Nat) (W : World) (v1 v2 : Value) (xs ys : List Int) : Prop where
  d : Dr w C a len cap W
  inn : ∀ b off, a = some ⟨b, off, none⟩ → b < w.heap.size
  cb : C < G
  p : Blk W G [v1, v2]
  o1 : OwnI W (C + 1) v1 xs
  b1 : ∀ g, v1.ownBlock = some g → g < G
  o2 : OwnI W (G + 1) v2 ys
theorem Gd.below {w : World} {C G : Nat} {a : Option Addr} {len cap : Nat} {W W' : World} {v1 v2 : Value} {xs ys : List Int} (h : Gd w C G a len cap W v1 v2 xs ys) (k : Below W.heap.size W W') : Gd w C G a len cap W' v1 v2 xs ys :=
  ⟨h.d.below k, h.inn, h.cb, h.p.below k, h.o1.below k, h.b1, h.o2.below k⟩
theorem Gd.call {w : World} {C G : Nat} {a : Option Addr} {len cap : Nat} {W W' : World} {v1 v2 : Value} {xs ys : List Int} (h : Gd w C G a len cap W v1 v2 xs ys) (k : W.grownBy W' (some C)) (d : Dr w C a len cap W') : Gd w C G a len cap W' v1 v2 xs ys := by
  have cb := h.cb
  exact ⟨d, h.inn, h.cb, h.p.apart k (fun e => by have := Option.some.inj e; omega), h.o1.far k (fun g hg e => by have := Option.some.inj e; have := (h.o1.lies g hg).1; omega), h.b1, h.o2.far k (fun g hg e => by have := Option.some.inj e; have := (h.o2.lies g hg).1; omega)⟩
theorem Gd.push {w : World} {C G : Nat} {a : Option Addr} {len cap : Nat} {W W' : World} {v1 v2 v3 : Value} {xs ys zs : List Int} (h : Gd w C G a len cap W v1 v2 xs ys) (o : OwnI W' (G + 1) v3 zs) (k : W.grownBy W' v2.ownBlock) : Gd w C G a len cap (W'.setCell ⟨G, 1, none⟩ v3) v1 v3 xs zs := by
  have cb := h.cb
  have row : ∀ q, v2.ownBlock = some q → G < q := fun q hq => by have := (h.o2.lies q hq).1; omega
  have d1 := h.d.own k (fun q hq => by have := row q hq; omega) h.inn
  refine ⟨d1.own (grown_set (grown_refl W' (some G)) 1 v3) (fun q hq => by have := Option.some.inj hq; omega) h.inn, h.inn, cb, ?_, ?_, h.b1, ?_⟩
  · have := (h.p.apart k (fun e => by have := row G e.symm; omega)).set 1 (by simp) v3
    simpa using this
  · exact (h.o1.far k (fun g hg e => by have h1 := row g e.symm; have h2 := h.b1 g hg; omega)).set_other _ (fun e => by have := h.b1 G e; omega)
  · exact o.set_other _ (fun e => by have := (o.lies G e).1; omega)

end Go.Proofs.Ytbaocifpifbldad
