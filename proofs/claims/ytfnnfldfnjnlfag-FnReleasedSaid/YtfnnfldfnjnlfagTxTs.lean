/-
  The law's size, copy and comparison of a Task and of a list of them. The copy at lists of at most 1048576; nothing that was there is written.
-/
import Derived.Test.YtfnnfldfnjnlfagMWrOrd
import Derived.Test.YtfnnfldfnjnlfagMMarkText
import Derived.Test.YtfnnfldfnjnlfagMToCk
import Derived.Deep.DrawnRows
import Derived.Laws.MakeOwn
namespace Go.Proofs.Ytfnnfldfnjnlfag
open Go.RowKit



/-- After k rounds of the copying; the new row lies in block B. -/
structure CopiedTs (T : TypeId) (w wr : World) (B : Nat) (ps : List Ts) (k : Nat) : Prop where
  own : ∃ xs : List Value, wr.ownsRow B T 7 (.slice (some ⟨B, 0, none⟩) ps.length ps.length) ps.length xs ∧ ∀ j, j < k → ∀ q, q < 7 → xs[j * 7 + q]? = some (tsC (elAt ps j) q)
  bel : Below w.heap.size w wr
  here : B < wr.heap.size
  old : w.heap.size ≤ B
theorem CopiedTs.at_ {T : TypeId} {w wr : World} {B : Nat} {ps : List Ts} {k : Nat} (h : CopiedTs T w wr B ps k) (i : Nat) (hi : i < ps.length * 7) : (∃ v, wr.cell? ⟨B, i, none⟩ = some v) ∧ wr.frozen? ⟨B, i, none⟩ = false := by
  obtain ⟨xs, ho, _⟩ := h.own
  refine ⟨?_, ho.frozenAt i⟩
  rw [ho.cellAt i hi]
  have := ho.1
  exact ⟨xs[i]'(by omega), List.getElem?_eq_getElem (by omega)⟩
theorem CopiedTs.call {T : TypeId} {w wr w' : World} {B : Nat} {ps : List Ts} {k : Nat} (h : CopiedTs T w wr B ps k) (b : Below wr.heap.size wr w') : CopiedTs T w w' B ps k := by
  obtain ⟨xs, ho, hx⟩ := h.own
  exact ⟨⟨xs, ownsRow_below ho b, hx⟩, h.bel.trans (b.mono h.bel.size), Nat.lt_of_lt_of_le h.here b.size, h.old⟩
theorem CopiedTs.step {T : TypeId} {w wr : World} {B : Nat} {ps : List Ts} {k : Nat} (h : CopiedTs T w wr B ps k) (hk : k < ps.length) :
    CopiedTs T w (((((((wr.setCell ⟨B, k * 7, none⟩ (.string (elAt ps k).nm)).setCell ⟨B, k * 7 + 1, none⟩ (.int .i64 (elAt ps k).h)).setCell ⟨B, k * 7 + 2, none⟩ (.int .i64 (elAt ps k).c)).setCell ⟨B, k * 7 + 3, none⟩ (.int .i64 (elAt ps k).d)).setCell ⟨B, k * 7 + 4, none⟩ (.int .i64 (elAt ps k).dh)).setCell ⟨B, k * 7 + 5, none⟩ (.int .i64 (elAt ps k).dc)).setCell ⟨B, k * 7 + 6, none⟩ (.int .i64 (elAt ps k).dd)) B ps (k + 1) := by
  obtain ⟨xs, ho, hx⟩ := h.own
  have hl := ho.1
  have o0 := (ho.stored (k * 7) (.string (elAt ps k).nm)).1
  have o1 := (o0.stored (k * 7 + 1) (.int .i64 (elAt ps k).h)).1
  have o2 := (o1.stored (k * 7 + 2) (.int .i64 (elAt ps k).c)).1
  have o3 := (o2.stored (k * 7 + 3) (.int .i64 (elAt ps k).d)).1
  have o4 := (o3.stored (k * 7 + 4) (.int .i64 (elAt ps k).dh)).1
  have o5 := (o4.stored (k * 7 + 5) (.int .i64 (elAt ps k).dc)).1
  have o6 := (o5.stored (k * 7 + 6) (.int .i64 (elAt ps k).dd)).1
  refine ⟨⟨_, o6, fun j hj q hq => ?_⟩, (((((((h.bel.setCell h.old _).setCell h.old _).setCell h.old _).setCell h.old _).setCell h.old _).setCell h.old _).setCell h.old _), by have := h.here; simpa [World.setCell] using this, h.old⟩
  by_cases e : j = k
  · subst e
    have hq' : q = 0 ∨ q = 1 ∨ q = 2 ∨ q = 3 ∨ q = 4 ∨ q = 5 ∨ q = 6 := by omega
    rcases hq' with rfl | rfl | rfl | rfl | rfl | rfl | rfl
    · rw [List.getElem?_set_ne (by omega), List.getElem?_set_ne (by omega), List.getElem?_set_ne (by omega), List.getElem?_set_ne (by omega), List.getElem?_set_ne (by omega), List.getElem?_set_ne (by omega)]; exact List.getElem?_set_self (by first | omega | (simp; omega))
    · rw [List.getElem?_set_ne (by omega), List.getElem?_set_ne (by omega), List.getElem?_set_ne (by omega), List.getElem?_set_ne (by omega), List.getElem?_set_ne (by omega)]; exact List.getElem?_set_self (by first | omega | (simp; omega))
    · rw [List.getElem?_set_ne (by omega), List.getElem?_set_ne (by omega), List.getElem?_set_ne (by omega), List.getElem?_set_ne (by omega)]; exact List.getElem?_set_self (by first | omega | (simp; omega))
    · rw [List.getElem?_set_ne (by omega), List.getElem?_set_ne (by omega), List.getElem?_set_ne (by omega)]; exact List.getElem?_set_self (by first | omega | (simp; omega))
    · rw [List.getElem?_set_ne (by omega), List.getElem?_set_ne (by omega)]; exact List.getElem?_set_self (by first | omega | (simp; omega))
    · rw [List.getElem?_set_ne (by omega)]; exact List.getElem?_set_self (by first | omega | (simp; omega))
    · exact List.getElem?_set_self (by first | omega | (simp; omega))
  · rw [List.getElem?_set_ne (by omega), List.getElem?_set_ne (by omega), List.getElem?_set_ne (by omega), List.getElem?_set_ne (by omega), List.getElem?_set_ne (by omega), List.getElem?_set_ne (by omega), List.getElem?_set_ne (by omega)]
    exact hx j (by omega) q hq

theorem infoTs : (Try.prog.info? 44).map (fun i => (i.zero, i.size, i.bytes)) = some (some (.agg #[.string ⟨#[]⟩, .int .i64 0, .int .i64 0, .int .i64 0, .int .i64 0, .int .i64 0, .int .i64 0]), 7, 64) := by kernel_rfl

end Go.Proofs.Ytfnnfldfnjnlfag
