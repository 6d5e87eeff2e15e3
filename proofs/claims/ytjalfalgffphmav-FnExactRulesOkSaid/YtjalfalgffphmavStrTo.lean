/-
  The law's size and copy of a list of texts. At lengths of at most 1048576.
-/
import Derived.Test.YtjalfalgffphmavStrRow
import Derived.Test.YtjalfalgffphmavMake
namespace Go.Proofs.Ytjalfalgffphmav
open Go.RowKit


theorem info_tx : (Try.prog.info? 9).map (fun i => (i.zero, i.size, i.bytes)) = some (some (.string ⟨#[]⟩), 1, 16) := by kernel_rfl
/-- After k rounds of the copying; the new row lies in block B. -/
structure CopiedSt (w wr : World) (B : Nat) (ps : List ByteArray) (k : Nat) : Prop where
  own : ∃ xs : List Value, wr.ownsRow B 9 1 (.slice (some ⟨B, 0, none⟩) ps.length ps.length) ps.length xs ∧ ∀ j, j < k → xs[j]? = some (.string (elAt ps j))
  bel : Below w.heap.size w wr
  here : B < wr.heap.size
  old : w.heap.size ≤ B
theorem CopiedSt.at_ {w wr : World} {B : Nat} {ps : List ByteArray} {k : Nat} (h : CopiedSt w wr B ps k) (i : Nat) (hi : i < ps.length) : (∃ v, wr.cell? ⟨B, i, none⟩ = some v) ∧ wr.frozen? ⟨B, i, none⟩ = false := by
  obtain ⟨xs, ho, _⟩ := h.own
  refine ⟨?_, ho.frozenAt i⟩
  rw [ho.cellAt i (by omega)]
  have := ho.1
  exact ⟨xs[i]'(by omega), List.getElem?_eq_getElem (by omega)⟩
theorem CopiedSt.step {w wr : World} {B : Nat} {ps : List ByteArray} {k : Nat} (h : CopiedSt w wr B ps k) (hk : k < ps.length) : CopiedSt w (wr.setCell ⟨B, k, none⟩ (.string (elAt ps k))) B ps (k + 1) := by
  obtain ⟨xs, ho, hx⟩ := h.own
  have hl := ho.1
  refine ⟨⟨_, (ho.stored k _).1, fun j hj => ?_⟩, h.bel.setCell h.old _, by have := h.here; simpa [World.setCell] using this, h.old⟩
  by_cases e : j = k
  · subst e
    exact List.getElem?_set_self (by omega)
  · rw [List.getElem?_set_ne (by omega)]
    exact hx j (by omega)
theorem CopiedSt.done {w wr : World} {B : Nat} {ps : List ByteArray} (h : CopiedSt w wr B ps ps.length) : OwnE 1 stC wr B 9 (.slice (some ⟨B, 0, none⟩) ps.length ps.length) ps := by
  obtain ⟨xs, ho, hx⟩ := h.own
  refine ⟨⟨xs, ho, fun j hj q hq => ?_⟩⟩
  obtain rfl : q = 0 := by omega
  rw [Nat.mul_one, Nat.add_zero]
  exact hx j hj


end Go.Proofs.Ytjalfalgffphmav
