/-
  What heights can be had, in the model: the plain answer, at every list and slopes; the list owns its memory; nothing that was there is written.
-/
import Derived.Test.YtbaocifpifbldaePfOk
import Derived.Test.YtbaocifpifbldaeMinMax
import Derived.Test.YtbaocifpifbldaeThen
import Derived.Test.YtbaocifpifbldaeBel
import Derived.Test.YtbaocifpifbldaeAppEl
import Derived.Test.YtbaocifpifbldaeBlk
import Derived.Test.YtbaocifpifbldaeRowPo
namespace Go.Proofs.Ytbaocifpifbldae
open Go.RowKit

theorem poE_none {w w1 : World} (h : w.heap.size ≤ w1.heap.size) : OwnE 3 poC (w1.alloc (Obj.cells #[] 53)) w.heap.size 53 (.slice (some ⟨w1.heap.size, 0, none⟩) 0 0) [] := by
  refine ⟨⟨[], ⟨rfl, .inr ⟨_, _, #[], rfl, h, ?_, Nat.le_refl _, by simp [maxLen], rfl, rfl⟩⟩, fun j hj => by simp at hj⟩⟩
  show (w1.heap.push _)[w1.heap.size]? = _
  simp
/-- A list of points that grows. -/
structure RcW (w wr : World) (g n cp : Nat) (out : List Po) : Prop where
  o : OwnE 3 poC wr w.heap.size 53 (.slice (some ⟨g, 0, none⟩) n cp) out
  l : out.length = n
  bel : Below w.heap.size w wr
theorem RcW.below {w wr w' : World} {g n cp : Nat} {out : List Po} (k : RcW w wr g n cp out) (b : Below wr.heap.size wr w') : RcW w w' g n cp out := ⟨k.o.below b, k.l, k.bel.trans (b.mono k.bel.size)⟩
theorem RcW.setP {w wr : World} {g n cp : Nat} {out : List Po} (k : RcW w wr g n cp out) {P o : Nat} (v : Value) (h : P ≠ g) (hP : w.heap.size ≤ P) : RcW w (wr.setCell ⟨P, o, none⟩ v) g n cp out := by
  refine ⟨k.o.set_other _ ?_, k.l, k.bel.setCell hP _⟩
  intro e
  have : g = P := Option.some.inj e
  omega
theorem RcW.app {w wr w' : World} {g n cp g' cp' : Nat} {out : List Po} {z : Po} (k : RcW w wr g n cp out) (o : OwnE 3 poC w' w.heap.size 53 (.slice (some ⟨g', 0, none⟩) (n + 1) cp') (out ++ [z])) (gr : wr.grownBy w' (Value.slice (some ⟨g, 0, none⟩) n cp).ownBlock) : RcW w w' g' (n + 1) cp' (out ++ [z]) :=
  ⟨o, by simp [k.l], k.bel.grown gr k.bel.size (fun q hq => (k.o.lies q hq).1)⟩
theorem RcW.lt {w wr : World} {g n cp : Nat} {out : List Po} (k : RcW w wr g n cp out) : g < wr.heap.size := (k.o.lies g rfl).2
theorem RcW.at_ {w wr : World} {g n cp : Nat} {out : List Po} (k : RcW w wr g n cp out) {j : Nat} (hj : j < n) (q : Nat) (hq : q < 3) : wr.cell? ⟨g, j * 3 + q, none⟩ = some (poC (elAt out j) q) := (k.o.here k.l j hj q hq).1
theorem rcA_in (ps : List Po) (up down : Int) : ∀ k, (elAt ps k).a1 ≤ (rcA ps up down k).a1 ∧ (rcA ps up down k).a2 ≤ (elAt ps k).a2
  | 0 => ⟨Int.le_refl _, Int.le_refl _⟩
  | k + 1 => ⟨by simp only [rcA]; omega, by simp only [rcA]; omega⟩



theorem rchL_small (ps : List Po) (up down : Int) : (rchL ps up down).length ≤ 1048576 := by
  unfold rchL
  split
  · rename_i h
    simp only [Bool.and_eq_true] at h
    have := (poB_facts h.1).2.2
    rw [rcL_len]
    unfold rcK
    cases e : (List.range ps.length).find? fun k => decide ((rcA ps up down k).a2 < (rcA ps up down k).a1) with
    | none => simp; omega
    | some k =>
      rw [List.find?_range_eq_some] at e
      have := List.mem_range.1 e.2.1
      simp; omega
  · simp

end Go.Proofs.Ytbaocifpifbldae
