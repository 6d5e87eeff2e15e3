/-
  A slice of Pilots that is handed in, opened: its cells. No condition.
-/
import Derived.Test.YtpmplcbagkhigasOpen
import Derived.Test.YtpmplcbagkhigasOpenE
import Derived.Test.YtpmplcbagkhigasToPl
namespace Go.Proofs.Ytpmplcbagkhigas
open Go.ChangeShapes Go.WideShapes Go.ChangeAt Go.RowKit Go.Joins Go.Deep

theorem cellsPl : Try.prog.cellsOf 26 = 9 := by kernel_rfl
theorem rowPl_of {H : Type} {enc : TypeId × Value → H} {W : World} {base fuel : Nat} {held : Bool} {v : Value} {y : DataW H × List MemPlace}
    (h : DataW.trod enc Try.prog W base (fun _ => true) held fuel 45 [v] = some y) :
    ∃ a len cap ps, v = .slice a len cap ∧ RowE 9 plC W a len ps ∧ len ≤ cap ∧ ∀ i, i < len → True :=
  rowE_of (Pr := fun _ => True) Try.underlying45 cellsPl (by omega) (fun n cs y hl h => by
    obtain ⟨k, hf⟩ := fields_of1 Try.underlying26 (by kernel_rfl) hl h
    obtain ⟨c0, y0, e0, t0⟩ := hf 0 _ rfl
    obtain ⟨c1, y1, e1, t1⟩ := hf 1 _ rfl
    obtain ⟨c2, y2, e2, t2⟩ := hf 2 _ rfl
    obtain ⟨c3, y3, e3, t3⟩ := hf 3 _ rfl
    obtain ⟨c4, y4, e4, t4⟩ := hf 4 _ rfl
    obtain ⟨c5, y5, e5, t5⟩ := hf 5 _ rfl
    obtain ⟨c6, y6, e6, t6⟩ := hf 6 _ rfl
    obtain ⟨c7, y7, e7, t7⟩ := hf 7 _ rfl
    obtain ⟨c8, y8, e8, t8⟩ := hf 8 _ rfl
    obtain ⟨b0, f0, _⟩ := DataW.trod_int Try.underlying3 t0
    obtain ⟨b1, f1, _⟩ := DataW.trod_int Try.underlying3 t1
    obtain ⟨b2, f2, _⟩ := DataW.trod_int Try.underlying3 t2
    obtain ⟨b3, f3, _⟩ := DataW.trod_int Try.underlying3 t3
    obtain ⟨b4, f4, _⟩ := DataW.trod_int Try.underlying3 t4
    obtain ⟨b5, f5, _⟩ := DataW.trod_int Try.underlying3 t5
    obtain ⟨b6, f6, _⟩ := DataW.trod_int Try.underlying3 t6
    obtain ⟨b7, f7, _⟩ := DataW.trod_int Try.underlying3 t7
    obtain ⟨b8, f8, _⟩ := DataW.trod_bool Try.underlying4 t8
    simp only [List.cons.injEq, and_true] at f0 f1 f2 f3 f4 f5 f6 f7 f8
    subst f0 f1 f2 f3 f4 f5 f6 f7 f8
    refine ⟨⟨b0, b1, b2, b3, b4, b5, b6, b7, b8⟩, trivial, fun q hq => ?_⟩
    have hq' : q = 0 ∨ q = 1 ∨ q = 2 ∨ q = 3 ∨ q = 4 ∨ q = 5 ∨ q = 6 ∨ q = 7 ∨ q = 8 := by omega
    rcases hq' with rfl | rfl | rfl | rfl | rfl | rfl | rfl | rfl | rfl <;> assumption) h

end Go.Proofs.Ytpmplcbagkhigas
