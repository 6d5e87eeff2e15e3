/-
  A slice of Pushs that is handed in, opened: its cells. No condition.
-/
import Derived.Test.YtidgkkldhnckeatOpen
import Derived.Test.YtidgkkldhnckeatOpenE
import Derived.Test.YtidgkkldhnckeatToPu
namespace Go.Proofs.Ytidgkkldhnckeat
open Go.ChangeShapes Go.WideShapes Go.ChangeAt Go.RowKit Go.Joins Go.Deep

theorem cellsPu : Try.prog.cellsOf 75 = 2 := by kernel_rfl
theorem rowPu_of {H : Type} {enc : TypeId × Value → H} {W : World} {base fuel : Nat} {held : Bool} {v : Value} {y : DataW H × List MemPlace}
    (h : DataW.trod enc Try.prog W base (fun _ => true) held fuel 45 [v] = some y) :
    ∃ a len cap ps, v = .slice a len cap ∧ RowE 2 puC W a len ps ∧ len ≤ cap ∧ ∀ i, i < len → True :=
  rowE_of (Pr := fun _ => True) Try.underlying45 cellsPu (by omega) (fun n cs y hl h => by
    obtain ⟨k, hf⟩ := fields_of1 Try.underlying75 (by kernel_rfl) hl h
    obtain ⟨c0, y0, e0, t0⟩ := hf 0 _ rfl
    obtain ⟨c1, y1, e1, t1⟩ := hf 1 _ rfl
    obtain ⟨b0, f0, _⟩ := DataW.trod_int Try.underlying3 t0
    obtain ⟨b1, f1, _⟩ := DataW.trod_int Try.underlying3 t1
    simp only [List.cons.injEq, and_true] at f0 f1
    subst f0 f1
    refine ⟨⟨b0, b1⟩, trivial, fun q hq => ?_⟩
    have hq' : q = 0 ∨ q = 1 := by omega
    rcases hq' with rfl | rfl <;> assumption) h

end Go.Proofs.Ytidgkkldhnckeat
