/-
  The law's size, copy and comparison of a Deed19 and of a list of them. The copy at lists of at most 1048576; nothing that was there is written.
-/
import Derived.Test.YtfnnfldfnjnlfagMWrOrd
import Derived.Test.YtfnnfldfnjnlfagMMarkText
import Derived.Deep.DrawnRows
import Derived.Laws.MakeOwn
namespace Go.Proofs.Ytfnnfldfnjnlfag
open Go.RowKit




/-- After k rounds of the copying; the new row lies in block B. -/
structure CopiedDe (T : TypeId) (w wr : World) (B : Nat) (ps : List De) (k : Nat) : Prop where
  own : ∃ xs : List Value, wr.ownsRow B T 4 (.slice (some ⟨B, 0, none⟩) ps.length ps.length) ps.length xs ∧ ∀ j, j < k → ∀ q, q < 4 → xs[j * 4 + q]? = some (deC (elAt ps j) q)
  bel : Below w.heap.size w wr
  here : B < wr.heap.size
  old : w.heap.size ≤ B
theorem CopiedDe.at_ {T : TypeId} {w wr : World} {B : Nat} {ps : List De} {k : Nat} (h : CopiedDe T w wr B ps k) (i : Nat) (hi : i < ps.length * 4) : (∃ v, wr.cell? ⟨B, i, none⟩ = some v) ∧ wr.frozen? ⟨B, i, none⟩ = false := by
  obtain ⟨xs, ho, _⟩ := h.own
  refine ⟨?_, ho.frozenAt i⟩
  rw [ho.cellAt i hi]
  have := ho.1
  exact ⟨xs[i]'(by omega), List.getElem?_eq_getElem (by omega)⟩
theorem CopiedDe.call {T : TypeId} {w wr w' : World} {B : Nat} {ps : List De} {k : Nat} (h : CopiedDe T w wr B ps k) (b : Below wr.heap.size wr w') : CopiedDe T w w' B ps k := by
  obtain ⟨xs, ho, hx⟩ := h.own
  exact ⟨⟨xs, ownsRow_below ho b, hx⟩, h.bel.trans (b.mono h.bel.size), Nat.lt_of_lt_of_le h.here b.size, h.old⟩
theorem CopiedDe.step {T : TypeId} {w wr : World} {B : Nat} {ps : List De} {k : Nat} (h : CopiedDe T w wr B ps k) (hk : k < ps.length) :
    CopiedDe T w ((((wr.setCell ⟨B, k * 4, none⟩ (.int .i64 (elAt ps k).k)).setCell ⟨B, k * 4 + 1, none⟩ (.string (elAt ps k).n)).setCell ⟨B, k * 4 + 2, none⟩ (.int .i64 (elAt ps k).i)).setCell ⟨B, k * 4 + 3, none⟩ (.int .i64 (elAt ps k).m)) B ps (k + 1) := by
  obtain ⟨xs, ho, hx⟩ := h.own
  have hl := ho.1
  have o0 := (ho.stored (k * 4) (.int .i64 (elAt ps k).k)).1
  have o1 := (o0.stored (k * 4 + 1) (.string (elAt ps k).n)).1
  have o2 := (o1.stored (k * 4 + 2) (.int .i64 (elAt ps k).i)).1
  have o3 := (o2.stored (k * 4 + 3) (.int .i64 (elAt ps k).m)).1
  refine ⟨⟨_, o3, fun j hj q hq => ?_⟩, ((((h.bel.setCell h.old _).setCell h.old _).setCell h.old _).setCell h.old _), by have := h.here; simpa [World.setCell] using this, h.old⟩
  by_cases e : j = k
  · subst e
    have hq' : q = 0 ∨ q = 1 ∨ q = 2 ∨ q = 3 := by omega
    rcases hq' with rfl | rfl | rfl | rfl
    · rw [List.getElem?_set_ne (by omega), List.getElem?_set_ne (by omega), List.getElem?_set_ne (by omega)]; exact List.getElem?_set_self (by first | omega | (simp; omega))
    · rw [List.getElem?_set_ne (by omega), List.getElem?_set_ne (by omega)]; exact List.getElem?_set_self (by first | omega | (simp; omega))
    · rw [List.getElem?_set_ne (by omega)]; exact List.getElem?_set_self (by first | omega | (simp; omega))
    · exact List.getElem?_set_self (by first | omega | (simp; omega))
  · rw [List.getElem?_set_ne (by omega), List.getElem?_set_ne (by omega), List.getElem?_set_ne (by omega), List.getElem?_set_ne (by omega)]
    exact hx j (by omega) q hq

theorem infoDe : (Try.prog.info? 42).map (fun i => (i.zero, i.size, i.bytes)) = some (some (.agg #[.int .i64 0, .string ⟨#[]⟩, .int .i64 0, .int .i64 0]), 4, 40) := by kernel_rfl

end Go.Proofs.Ytfnnfldfnjnlfag
