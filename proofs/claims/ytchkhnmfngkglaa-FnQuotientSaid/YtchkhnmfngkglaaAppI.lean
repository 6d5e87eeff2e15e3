/-
  One whole number more behind a list that a call has made, as a law for the walk. At lists of at most 1000000.
-/
import Derived.Test.YtchkhnmfngkglaaMarkI
import Derived.Deep.AppendLies
namespace Go.Proofs.Ytchkhnmfngkglaa
open Go.RowKit

theorem grownBy_alloc_then {w w' : World} {o : Obj} {row : Option Nat} (h : (w.alloc o).grownBy w' row) : w.grownBy w' row :=
  ⟨h.os, h.tape, h.output, Nat.le_trans (by simp) h.size, fun k hk hne => (h.block k (Nat.lt_of_lt_of_le hk (by simp)) hne).trans (Below.heap_alloc _ _ _ hk)⟩
end Go.Proofs.Ytchkhnmfngkglaa
