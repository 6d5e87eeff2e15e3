/-
  A list that a call has made and that is not nil: where it lies. No condition.
-/
import Derived.Test.YtbaocifpifbldaaRowE
namespace Go.Proofs.Ytbaocifpifbldaa
open Go.RowKit

theorem OwnE.some_ {α : Type} [Inhabited α] {K : Nat} {cells : α → Nat → Value} {w : World} {base : Nat} {T : TypeId} {v : Value} {ps : List α} (h : OwnE K cells w base T v ps) (hn : v = .slice none 0 0 → False) : ∃ g c, v = .slice (some ⟨g, 0, none⟩) ps.length c ∧ base ≤ g ∧ g < w.heap.size := by
  rcases h.form with ⟨e, _⟩ | ⟨g, c, e, h1, h2, _, _⟩
  · exact (hn e).elim
  · exact ⟨g, c, e, h1, h2⟩

end Go.Proofs.Ytbaocifpifbldaa
