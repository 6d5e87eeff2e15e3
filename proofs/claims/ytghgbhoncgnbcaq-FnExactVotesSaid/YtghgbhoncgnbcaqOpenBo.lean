/-
  How lists of bools are opened. No condition.
-/
import Derived.Test.YtghgbhoncgnbcaqOpen
import Derived.Test.YtghgbhoncgnbcaqOpenE
import Derived.Test.YtghgbhoncgnbcaqArr
import Derived.Test.YtghgbhoncgnbcaqRowBo
import Derived.Laws.Cover2
namespace Go.Proofs.Ytghgbhoncgnbcaq
open Go.ChangeShapes Go.WideShapes Go.ChangeAt Go.RowKit Go.Joins Go.Deep

theorem cellsBo : Try.prog.cellsOf 4 = 1 := by kernel_rfl
theorem rowBo_of {H : Type} {enc : TypeId × Value → H} {W : World} {base fuel : Nat} {held : Bool} {v : Value} {y : DataW H × List MemPlace}
    (h : DataW.trod enc Try.prog W base (fun _ => true) held fuel 22 [v] = some y) :
    ∃ a len cap ps, v = .slice a len cap ∧ RowE 1 boC W a len ps ∧ len ≤ cap ∧ ∀ i, i < len → True :=
  rowE_of (Pr := fun _ => True) Try.underlying22 cellsBo (by omega) (fun n cs y hl h => by
    obtain ⟨x, e, _⟩ := DataW.trod_bool Try.underlying4 h
    subst e
    exact ⟨x, trivial, fun q hq => by obtain rfl : q = 0 := by omega
                                      rfl⟩) h

end Go.Proofs.Ytghgbhoncgnbcaq
