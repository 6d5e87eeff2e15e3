/-
  A slice of Tracks that is handed in, opened: its cells. No condition.
-/
import Derived.Test.YtbaocifpifbldaxOpen
import Derived.Test.YtbaocifpifbldaxOpenE
import Derived.Test.YtbaocifpifbldaxToTc
namespace Go.Proofs.Ytbaocifpifbldax
open Go.ChangeShapes Go.WideShapes Go.ChangeAt Go.RowKit Go.Joins Go.Deep

theorem cellsTc : Try.prog.cellsOf 23 = 6 := by kernel_rfl
theorem rowTc_of {H : Type} {enc : TypeId × Value → H} {W : World} {base fuel : Nat} {held : Bool} {v : Value} {y : DataW H × List MemPlace}
    (h : DataW.trod enc Try.prog W base (fun _ => true) held fuel 39 [v] = some y) :
    ∃ a len cap ps, v = .slice a len cap ∧ RowE 6 tcC W a len ps ∧ len ≤ cap ∧ ∀ i, i < len → True :=
  rowE_of (Pr := fun _ => True) Try.underlying39 cellsTc (by omega) (fun n cs y hl h => by
    obtain ⟨k, hf⟩ := fields_of1 Try.underlying23 (by kernel_rfl) hl h
    obtain ⟨c0, y0, e0, t0⟩ := hf 0 _ rfl
    obtain ⟨c1, y1, e1, t1⟩ := hf 1 _ rfl
    obtain ⟨c2, y2, e2, t2⟩ := hf 2 _ rfl
    obtain ⟨c3, y3, e3, t3⟩ := hf 3 _ rfl
    obtain ⟨c4, y4, e4, t4⟩ := hf 4 _ rfl
    obtain ⟨c5, y5, e5, t5⟩ := hf 5 _ rfl
    obtain ⟨b0, f0, _⟩ := DataW.trod_int Try.underlying3 t0
    obtain ⟨b1, f1, _⟩ := DataW.trod_int Try.underlying3 t1
    obtain ⟨b2, f2, _⟩ := DataW.trod_int Try.underlying3 t2
    obtain ⟨b3, f3, _⟩ := DataW.trod_int Try.underlying3 t3
    obtain ⟨b4, f4, _⟩ := DataW.trod_int Try.underlying3 t4
    obtain ⟨b5, f5, _⟩ := DataW.trod_int Try.underlying3 t5
    simp only [List.cons.injEq, and_true] at f0 f1 f2 f3 f4 f5
    subst f0 f1 f2 f3 f4 f5
    refine ⟨⟨b0, b1, b2, b3, b4, b5⟩, trivial, fun q hq => ?_⟩
    have hq' : q = 0 ∨ q = 1 ∨ q = 2 ∨ q = 3 ∨ q = 4 ∨ q = 5 := by omega
    rcases hq' with rfl | rfl | rfl | rfl | rfl | rfl <;> assumption) h

end Go.Proofs.Ytbaocifpifbldax
