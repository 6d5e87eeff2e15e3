/-
  A slice of Windows that is handed in, opened: its cells. No condition.
-/
import Derived.Test.YtndhiecakojjgbaOpen
import Derived.Test.YtndhiecakojjgbaOpenE
import Derived.Test.YtndhiecakojjgbaToWn
namespace Go.Proofs.Ytndhiecakojjgba
open Go.ChangeShapes Go.WideShapes Go.ChangeAt Go.RowKit Go.Joins Go.Deep

theorem cellsWn : Try.prog.cellsOf 49 = 3 := by kernel_rfl
theorem rowWn_of {H : Type} {enc : TypeId × Value → H} {W : World} {base fuel : Nat} {held : Bool} {v : Value} {y : DataW H × List MemPlace}
    (h : DataW.trod enc Try.prog W base (fun _ => true) held fuel 22 [v] = some y) :
    ∃ a len cap ps, v = .slice a len cap ∧ RowE 3 wnC W a len ps ∧ len ≤ cap ∧ ∀ i, i < len → True :=
  rowE_of (Pr := fun _ => True) Try.underlying22 cellsWn (by omega) (fun n cs y hl h => by
    obtain ⟨k, hf⟩ := fields_of1 Try.underlying49 (by kernel_rfl) hl h
    obtain ⟨c0, y0, e0, t0⟩ := hf 0 _ rfl
    obtain ⟨c1, y1, e1, t1⟩ := hf 1 _ rfl
    obtain ⟨c2, y2, e2, t2⟩ := hf 2 _ rfl
    obtain ⟨b0, f0, _⟩ := DataW.trod_int Try.underlying3 t0
    obtain ⟨b1, f1, _⟩ := DataW.trod_int Try.underlying3 t1
    obtain ⟨b2, f2, _⟩ := DataW.trod_int Try.underlying3 t2
    simp only [List.cons.injEq, and_true] at f0 f1 f2
    subst f0 f1 f2
    refine ⟨⟨b0, b1, b2⟩, trivial, fun q hq => ?_⟩
    have hq' : q = 0 ∨ q = 1 ∨ q = 2 := by omega
    rcases hq' with rfl | rfl | rfl <;> assumption) h

end Go.Proofs.Ytndhiecakojjgba
