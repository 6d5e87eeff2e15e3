/-
  From which heights a way through all that follow is possible, in the model: the plain answer, at points that are so; the list owns its memory; nothing that was there is written.
-/
import Derived.Test.YtbaocifpifbldaePfRch
import Derived.Test.YtbaocifpifbldaePgPure
import Derived.Test.YtbaocifpifbldaeAppR
namespace Go.Proofs.Ytbaocifpifbldae
open Go.RowKit

theorem po_one : ∀ (x : Po) (q : Nat), (poC x q).oneCell' = true := by
  intro x q
  match q with
  | 0 => rfl
  | 1 => rfl
  | n + 2 => rfl
theorem rcw_first {w w1 : World} {v : Value} {ps : List Po} (o : OwnE 3 poC w1 w.heap.size 53 v ([] ++ ps)) (gr : (w.alloc (Obj.cells #[] 53)).grownBy w1 (Value.slice (some ⟨w.heap.size, 0, none⟩) 0 0).ownBlock) (hn : v = .slice none 0 0 → (Value.slice (some ⟨w.heap.size, 0, none⟩) 0 0) = .slice none 0 0) :
    ∃ g cp, v = .slice (some ⟨g, 0, none⟩) ps.length cp ∧ RcW w w1 g ps.length cp ps := by
  simp only [List.nil_append] at o
  rcases o.form with h | ⟨g, cp, h⟩
  · exact absurd (hn h.1) (by simp)
  · obtain ⟨hv, _, _⟩ := h
    subst hv
    exact ⟨g, cp, rfl, o, rfl, (bel1 (w := w) _).grown gr (by simp) (fun q hq => by have : w.heap.size = q := Option.some.inj hq; omega)⟩

end Go.Proofs.Ytbaocifpifbldae
