/-
  The law's size, copy and comparison of a Carry and of a list of them. The copy at lists of at most 1048576; nothing that was there is written.
-/
import Derived.Test.YtfnnfldfnjnlfagMWrOrd
import Derived.Test.YtfnnfldfnjnlfagMMarkText
import Derived.Deep.DrawnRows
import Derived.Laws.MakeOwn
namespace Go.Proofs.Ytfnnfldfnjnlfag
open Go.RowKit




/-- After k rounds of the copying; the new row lies in block B. -/
structure CopiedCr (T : TypeId) (w wr : World) (B : Nat) (ps : List Cr) (k : Nat) : Prop where
  own : ∃ xs : List Value, wr.ownsRow B T 3 (.slice (some ⟨B, 0, none⟩) ps.length ps.length) ps.length xs ∧ ∀ j, j < k → ∀ q, q < 3 → xs[j * 3 + q]? = some (crC (elAt ps j) q)
  bel : Below w.heap.size w wr
  here : B < wr.heap.size
  old : w.heap.size ≤ B
theorem CopiedCr.at_ {T : TypeId} {w wr : World} {B : Nat} {ps : List Cr} {k : Nat} (h : CopiedCr T w wr B ps k) (i : Nat) (hi : i < ps.length * 3) : (∃ v, wr.cell? ⟨B, i, none⟩ = some v) ∧ wr.frozen? ⟨B, i, none⟩ = false := by
  obtain ⟨xs, ho, _⟩ := h.own
  refine ⟨?_, ho.frozenAt i⟩
  rw [ho.cellAt i hi]
  have := ho.1
  exact ⟨xs[i]'(by omega), List.getElem?_eq_getElem (by omega)⟩
theorem CopiedCr.call {T : TypeId} {w wr w' : World} {B : Nat} {ps : List Cr} {k : Nat} (h : CopiedCr T w wr B ps k) (b : Below wr.heap.size wr w') : CopiedCr T w w' B ps k := by
  obtain ⟨xs, ho, hx⟩ := h.own
  exact ⟨⟨xs, ownsRow_below ho b, hx⟩, h.bel.trans (b.mono h.bel.size), Nat.lt_of_lt_of_le h.here b.size, h.old⟩
theorem CopiedCr.step {T : TypeId} {w wr : World} {B : Nat} {ps : List Cr} {k : Nat} (h : CopiedCr T w wr B ps k) (hk : k < ps.length) :
    CopiedCr T w (((wr.setCell ⟨B, k * 3, none⟩ (.string (elAt ps k).n)).setCell ⟨B, k * 3 + 1, none⟩ (.int .i64 (elAt ps k).m)).setCell ⟨B, k * 3 + 2, none⟩ (.int .i64 (elAt ps k).d)) B ps (k + 1) := by
  obtain ⟨xs, ho, hx⟩ := h.own
  have hl := ho.1
  have o0 := (ho.stored (k * 3) (.string (elAt ps k).n)).1
  have o1 := (o0.stored (k * 3 + 1) (.int .i64 (elAt ps k).m)).1
  have o2 := (o1.stored (k * 3 + 2) (.int .i64 (elAt ps k).d)).1
  refine ⟨⟨_, o2, fun j hj q hq => ?_⟩, (((h.bel.setCell h.old _).setCell h.old _).setCell h.old _), by have := h.here; simpa [World.setCell] using this, h.old⟩
  by_cases e : j = k
  · subst e
    have hq' : q = 0 ∨ q = 1 ∨ q = 2 := by omega
    rcases hq' with rfl | rfl | rfl
    · rw [List.getElem?_set_ne (by omega), List.getElem?_set_ne (by omega)]; exact List.getElem?_set_self (by first | omega | (simp; omega))
    · rw [List.getElem?_set_ne (by omega)]; exact List.getElem?_set_self (by first | omega | (simp; omega))
    · exact List.getElem?_set_self (by first | omega | (simp; omega))
  · rw [List.getElem?_set_ne (by omega), List.getElem?_set_ne (by omega), List.getElem?_set_ne (by omega)]
    exact hx j (by omega) q hq

theorem infoCr : (Try.prog.info? 54).map (fun i => (i.zero, i.size, i.bytes)) = some (some (.agg #[.string ⟨#[]⟩, .int .i64 0, .int .i64 0]), 3, 32) := by kernel_rfl

end Go.Proofs.Ytfnnfldfnjnlfag
