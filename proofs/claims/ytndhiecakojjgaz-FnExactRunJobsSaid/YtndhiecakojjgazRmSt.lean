/-
  Three lists of whole numbers that a call has made, apart from each other and from a variable: what stays, what a store turns. No condition.
-/
import Derived.Test.YtndhiecakojjgazRw1
import Derived.Test.YtndhiecakojjgazMadeI
import Derived.Test.YtndhiecakojjgazPpOwn
namespace Go.Proofs.Ytndhiecakojjgaz
open Go.RowKit

theorem madeI_own (W : World) {L base : Nat} (hL : L ≤ 1048576) (hb : base ≤ W.heap.size) : OwnI (W.alloc (.cells (madeCells #[.int .i64 0] L) 3)) base (.slice (some ⟨W.heap.size, 0, none⟩) L L) (List.replicate L 0) := by
  have e : madeCells #[.int .i64 0] L = (List.replicate L (Value.int .i64 0)).toArray := by
    apply Array.ext'
    rw [toList_madeCells_one]
  rw [e]
  refine ⟨⟨List.replicate L (Value.int .i64 0), ?_, fun j hj => ?_⟩, fun i => by rw [nthZ]; omega⟩
  · have := World.ownsRow_lit (base := base) (e := 3) (size := 1) W (List.replicate L (Value.int .i64 0)).toArray L hb (by unfold maxLen; omega) (by simp)
    simpa using this
  · have hj' : j < L := by simpa using hj
    rw [nthZ]
    simp [hj']
theorem OwnI.setN {w : World} {base g n cap : Nat} {zs : List Int} (h : OwnI w base (.slice (some ⟨g, 0, none⟩) n cap) zs) (hn : zs.length = n) {i : Nat} (hi : i < n) {a : Int} (ha : -9223372036854775808 ≤ a ∧ a ≤ 9223372036854775807) : OwnI (w.setCell ⟨g, i, none⟩ (.int .i64 a)) base (.slice (some ⟨g, 0, none⟩) n cap) (zs.set i a) := by
  subst hn
  exact h.set i hi a ha
structure RjM (w wr : World) (vs : List Value) (ga gb gc n : Nat) (A B C : List Int) : Prop where
  a : OwnI wr w.heap.size (.slice (some ⟨ga, 0, none⟩) n n) A
  b : OwnI wr w.heap.size (.slice (some ⟨gb, 0, none⟩) n n) B
  c : OwnI wr w.heap.size (.slice (some ⟨gc, 0, none⟩) n n) C
  la : A.length = n
  lb : B.length = n
  lc : C.length = n
  lt : w.heap.size < ga ∧ ga < gb ∧ gb < gc
  blk : Blk wr w.heap.size vs
  bel : Below w.heap.size w wr
theorem RjM.below {w wr w' : World} {vs : List Value} {ga gb gc n : Nat} {A B C : List Int} (k : RjM w wr vs ga gb gc n A B C) (b : Below wr.heap.size wr w') : RjM w w' vs ga gb gc n A B C :=
  ⟨k.a.below b, k.b.below b, k.c.below b, k.la, k.lb, k.lc, k.lt, k.blk.below b, k.bel.trans (b.mono k.bel.size)⟩
theorem RjM.cells {w wr : World} {vs : List Value} {ga gb gc n : Nat} {A B C : List Int} (k : RjM w wr vs ga gb gc n A B C) {i : Nat} (hi : i < n) : (wr.cell? ⟨ga, i, none⟩ = some (.int .i64 (nth A i)) ∧ wr.frozen? ⟨ga, i, none⟩ = false) ∧ (wr.cell? ⟨gb, i, none⟩ = some (.int .i64 (nth B i)) ∧ wr.frozen? ⟨gb, i, none⟩ = false) ∧ (wr.cell? ⟨gc, i, none⟩ = some (.int .i64 (nth C i)) ∧ wr.frozen? ⟨gc, i, none⟩ = false) := by
  have a := k.a
  have b := k.b
  have c := k.c
  have la := k.la
  have lb := k.lb
  have lc := k.lc
  refine ⟨?_, ?_, ?_⟩
  · rw [← la] at a; exact a.here i (by omega)
  · rw [← lb] at b; exact b.here i (by omega)
  · rw [← lc] at c; exact c.here i (by omega)
theorem RjM.setA {w wr : World} {vs : List Value} {ga gb gc n : Nat} {A B C : List Int} (k : RjM w wr vs ga gb gc n A B C) {i : Nat} (hi : i < n) {x : Int} (hx : -9223372036854775808 ≤ x ∧ x ≤ 9223372036854775807) : RjM w (wr.setCell ⟨ga, i, none⟩ (.int .i64 x)) vs ga gb gc n (A.set i x) B C := by
  refine ⟨?_, ?_, ?_, ?_, ?_, ?_, k.lt, k.blk.other (p := ⟨ga, i, none⟩) (by have := k.lt; show ga ≠ w.heap.size; omega) _, k.bel.setCell (p := ⟨ga, i, none⟩) (by have := k.lt; show w.heap.size ≤ ga; omega) _⟩
  · exact k.a.setN k.la hi hx
  · exact k.b.set_other _ (by intro e; simp only [Value.ownBlock, Option.some.injEq] at e; have := k.lt; omega)
  · exact k.c.set_other _ (by intro e; simp only [Value.ownBlock, Option.some.injEq] at e; have := k.lt; omega)
  · simpa using k.la
  · exact k.lb
  · exact k.lc
theorem RjM.setB {w wr : World} {vs : List Value} {ga gb gc n : Nat} {A B C : List Int} (k : RjM w wr vs ga gb gc n A B C) {i : Nat} (hi : i < n) {x : Int} (hx : -9223372036854775808 ≤ x ∧ x ≤ 9223372036854775807) : RjM w (wr.setCell ⟨gb, i, none⟩ (.int .i64 x)) vs ga gb gc n A (B.set i x) C := by
  refine ⟨?_, ?_, ?_, ?_, ?_, ?_, k.lt, k.blk.other (p := ⟨gb, i, none⟩) (by have := k.lt; show gb ≠ w.heap.size; omega) _, k.bel.setCell (p := ⟨gb, i, none⟩) (by have := k.lt; show w.heap.size ≤ gb; omega) _⟩
  · exact k.a.set_other _ (by intro e; simp only [Value.ownBlock, Option.some.injEq] at e; have := k.lt; omega)
  · exact k.b.setN k.lb hi hx
  · exact k.c.set_other _ (by intro e; simp only [Value.ownBlock, Option.some.injEq] at e; have := k.lt; omega)
  · exact k.la
  · simpa using k.lb
  · exact k.lc
theorem RjM.setC {w wr : World} {vs : List Value} {ga gb gc n : Nat} {A B C : List Int} (k : RjM w wr vs ga gb gc n A B C) {i : Nat} (hi : i < n) {x : Int} (hx : -9223372036854775808 ≤ x ∧ x ≤ 9223372036854775807) : RjM w (wr.setCell ⟨gc, i, none⟩ (.int .i64 x)) vs ga gb gc n A B (C.set i x) := by
  refine ⟨?_, ?_, ?_, ?_, ?_, ?_, k.lt, k.blk.other (p := ⟨gc, i, none⟩) (by have := k.lt; show gc ≠ w.heap.size; omega) _, k.bel.setCell (p := ⟨gc, i, none⟩) (by have := k.lt; show w.heap.size ≤ gc; omega) _⟩
  · exact k.a.set_other _ (by intro e; simp only [Value.ownBlock, Option.some.injEq] at e; have := k.lt; omega)
  · exact k.b.set_other _ (by intro e; simp only [Value.ownBlock, Option.some.injEq] at e; have := k.lt; omega)
  · exact k.c.setN k.lc hi hx
  · exact k.la
  · exact k.lb
  · simpa using k.lc

end Go.Proofs.Ytndhiecakojjgaz
