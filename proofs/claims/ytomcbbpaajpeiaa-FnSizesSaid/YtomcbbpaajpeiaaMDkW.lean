/-
  The drawing cursor beside what was there at a start: nothing but the cursor's block has turned below it. No condition. (The same stand in DwIs: never import both.)
  One whole number more behind a list that a call has made, as a law for the walk. At lists of at most 1000000.
-/
import Derived.Test.YtomcbbpaajpeiaaDraw
import Derived.Test.YtomcbbpaajpeiaaAps
import Derived.Test.YtomcbbpaajpeiaaMarkI
import Derived.Deep.AppendLies

namespace Go.Proofs.Ytomcbbpaajpeiaa
open Go Go.RowKit

structure Dk (w : World) (C : Nat) (a : Option Addr) (len cap : Nat) (W0 W : World) : Prop where
  d : Dr w C a len cap W
  g : Aps (· = C) W0 W
  inn : ∀ b off, a = some ⟨b, off, none⟩ → b < w.heap.size
  lo : C < W0.heap.size
theorem Dk.start {w : World} {C : Nat} {a : Option Addr} {len cap : Nat} {W : World} (h : Dr w C a len cap W) (hin : ∀ b off, a = some ⟨b, off, none⟩ → b < w.heap.size) : Dk w C a len cap W W := ⟨h, Aps.refl _ _, hin, h.lt⟩
theorem Dk.below {w : World} {C : Nat} {a : Option Addr} {len cap : Nat} {W0 W W' : World} (h : Dk w C a len cap W0 W) (b : Below W.heap.size W W') : Dk w C a len cap W0 W' := ⟨h.d.below b, h.g.trans (Aps.of_below b), h.inn, h.lo⟩
theorem Dk.call {w : World} {C : Nat} {a : Option Addr} {len cap : Nat} {W0 W W' : World} (h : Dk w C a len cap W0 W) (gr : W.grownBy W' (some C)) (d : Dr w C a len cap W') : Dk w C a len cap W0 W' := ⟨d, h.g.grow gr (fun _ hq => (Option.some.inj hq).symm), h.inn, h.lo⟩
theorem Dk.own {w : World} {C : Nat} {a : Option Addr} {len cap : Nat} {W0 W W' : World} {B : Nat} (h : Dk w C a len cap W0 W) (gr : W.grownBy W' (some B)) (hB : W0.heap.size ≤ B) : Dk w C a len cap W0 W' :=
  ⟨h.d.own gr (fun k hk => by have e := Option.some.inj hk; have := h.lo; omega) h.inn, h.g.growN gr (fun _ hq => .inr (by have e := Option.some.inj hq; omega)), h.inn, h.lo⟩
theorem Dk.gr {w : World} {C : Nat} {a : Option Addr} {len cap : Nat} {W0 W : World} (h : Dk w C a len cap W0 W) : W0.grownBy W (some C) :=
  ⟨h.g.os, h.g.tape, h.g.output, h.g.size, fun k hk e => h.g.block k hk (fun e2 => e (by rw [e2]))⟩

end Go.Proofs.Ytomcbbpaajpeiaa

namespace Go.Proofs.Ytomcbbpaajpeiaa
open Go.RowKit

theorem grownBy_alloc_then {w w' : World} {o : Obj} {row : Option Nat} (h : (w.alloc o).grownBy w' row) : w.grownBy w' row :=
  ⟨h.os, h.tape, h.output, Nat.le_trans (by simp) h.size, fun k hk hne => (h.block k (Nat.lt_of_lt_of_le hk (by simp)) hne).trans (Below.heap_alloc _ _ _ hk)⟩
end Go.Proofs.Ytomcbbpaajpeiaa
