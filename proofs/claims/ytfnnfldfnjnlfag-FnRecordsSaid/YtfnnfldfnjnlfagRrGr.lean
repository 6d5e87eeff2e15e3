/-
  A list of rows that grows, each row made behind those that are there. No condition.
-/
import Derived.Test.YtfnnfldfnjnlfagRrOwn
namespace Go.Proofs.Ytfnnfldfnjnlfag
open Go Go.RowKit

structure RrG (w wr : World) (g i c : Nat) (us : List Rx) (z : List (List Int)) : Prop where
  o : OwnRr wr w.heap.size (.slice (some ⟨g, 0, none⟩) i c) us
  l : us.length = i
  z : rxZ us = z
theorem RrG.below {w wr w' : World} {g i c : Nat} {us : List Rx} {z : List (List Int)} (h : RrG w wr g i c us z) (b : Below wr.heap.size wr w') : RrG w w' g i c us z := ⟨h.o.below b, h.l, h.z⟩
/-- A block that is none of its own is written. -/
theorem RrG.far {w wr w' : World} {g i c q B : Nat} {us : List Rx} {z : List (List Int)} (h : RrG w wr g i c us z) (hl : RrLies w.heap.size B (.slice (some ⟨g, 0, none⟩) i c) us) (k : wr.grownBy w' (some q)) (hq : q < w.heap.size ∨ B ≤ q) : RrG w w' g i c us z :=
  ⟨h.o.far k (fun p hp e => by have := hl.1 p hp; have := Option.some.inj e; omega) (fun j hj p hp e => by have := hl.2 j hj p hp; have := Option.some.inj e; omega), h.l, h.z⟩
theorem RrG.push {w V w9 : World} {g i c B g9 c9 : Nat} {us : List Rx} {z : List (List Int)} {x : Rx} (h : RrG w V g i c us z) (hl : RrLies w.heap.size B (.slice (some ⟨g, 0, none⟩) i c) us) (hd : OwnI V B (rxV x) x.zs) (hB : w.heap.size ≤ B) (o : OwnE 1 rxC w9 w.heap.size 68 (.slice (some ⟨g9, 0, none⟩) (i + 1) c9) (us ++ [x])) (gr : V.grownBy w9 (Value.slice (some ⟨g, 0, none⟩) i c).ownBlock) (hg : (Value.slice (some ⟨g, 0, none⟩) i c).ownBlock = some g9 ∨ V.heap.size < g9) : RrG w w9 g9 (i + 1) c9 (us ++ [x]) (z ++ [x.zs]) := by
  refine ⟨h.o.push o gr (hg.imp id (by omega)) (hd.mono hB) (fun q hq e => ?_) (fun j hj q hq e => ?_), by simp [h.l], by simp [rxZ, ← h.z]⟩
  · have := (hd.lies q hq).1; have := hl.1 q e; omega
  · have := (hd.lies q e).1; have := hl.2 j hj q hq; omega
theorem RrG.row {w V w9 : World} {g i c B : Nat} {us : List Rx} {z : List (List Int)} {v : Value} {L : List Int} (_h : RrG w V g i c us z) (hl : RrLies w.heap.size B (.slice (some ⟨g, 0, none⟩) i c) us) (hd : OwnI V B v L) (gr : V.grownBy w9 (Value.slice (some ⟨g, 0, none⟩) i c).ownBlock) : OwnI w9 B v L :=
  hd.far gr (fun q hq e => by have := (hd.lies q hq).1; have := hl.1 q e.symm; omega)

end Go.Proofs.Ytfnnfldfnjnlfag
