/-
  How a list of lives or of stays is opened: its texts and numbers. No condition.
-/
import Derived.Test.YtnpohiceefkhdaoOpen
import Derived.Test.YtnpohiceefkhdaoOpenE
import Derived.Test.YtnpohiceefkhdaoPtPure
namespace Go.Proofs.Ytnpohiceefkhdao
open Go.ChangeShapes Go.WideShapes Go.ChangeAt Go.RowKit Go.Joins Go.Deep

theorem fit_all {ps : List Pt} {len : Nat} (hl : ps.length = len) (h : ∀ i, i < len → ptFit (elAt ps i)) : ∀ i, ptFit (elAt ps i) := by
  intro i
  by_cases hi : i < len
  · exact h i hi
  · unfold elAt
    rw [List.getElem?_eq_none (by omega)]
    exact ⟨by decide, by decide, by decide, by decide⟩

theorem cellsLife : Try.prog.cellsOf 37 = 4 := by kernel_rfl
theorem rowLife_of {H : Type} {enc : TypeId × Value → H} {W : World} {base fuel : Nat} {held : Bool} {v : Value} {y : DataW H × List MemPlace}
    (h : DataW.trod enc Try.prog W base (fun _ => true) held fuel 48 [v] = some y) :
    ∃ a len cap ps, v = .slice a len cap ∧ (RowE 4 ptC W a len ps ∧ ∀ i, ptFit (elAt ps i)) ∧ len ≤ cap ∧ True := by
  obtain ⟨a, len, cap, ps, hv, hr, hc, hp⟩ := rowE_of (cells := ptC) (Pr := ptFit) Try.underlying48 cellsLife (by omega) (fun n cs y hl h => by
    obtain ⟨k, hf⟩ := fields_of1 Try.underlying37 (by kernel_rfl) hl h
    obtain ⟨c0, y0, e0, t0⟩ := hf 0 _ rfl
    obtain ⟨c1, y1, e1, t1⟩ := hf 1 _ rfl
    obtain ⟨c2, y2, e2, t2⟩ := hf 2 _ rfl
    obtain ⟨c3, y3, e3, t3⟩ := hf 3 _ rfl
    obtain ⟨b0, f0, _, s0⟩ := DataW.trod_string Try.underlying9 t0
    obtain ⟨b1, f1, _, w1⟩ := DataW.trod_int Try.underlying3 t1
    obtain ⟨b2, f2, _, w2⟩ := DataW.trod_int Try.underlying3 t2
    obtain ⟨b3, f3, _, w3⟩ := DataW.trod_int Try.underlying3 t3
    simp only [List.cons.injEq, and_true] at f0 f1 f2 f3
    subst f0 f1 f2 f3
    refine ⟨⟨b0, b1, b2, b3⟩, ⟨by unfold maxLen at s0; exact s0, bounds_i64 w1, bounds_i64 w2, bounds_i64 w3⟩, fun q hq => ?_⟩
    have hq' : q = 0 ∨ q = 1 ∨ q = 2 ∨ q = 3 := by omega
    rcases hq' with rfl | rfl | rfl | rfl <;> assumption) h
  exact ⟨a, len, cap, ps, hv, ⟨hr, fit_all hr.len_eq hp⟩, hc, trivial⟩

theorem cellsStay : Try.prog.cellsOf 38 = 4 := by kernel_rfl
theorem rowStay_of {H : Type} {enc : TypeId × Value → H} {W : World} {base fuel : Nat} {held : Bool} {v : Value} {y : DataW H × List MemPlace}
    (h : DataW.trod enc Try.prog W base (fun _ => true) held fuel 49 [v] = some y) :
    ∃ a len cap ps, v = .slice a len cap ∧ (RowE 4 ptC W a len ps ∧ ∀ i, ptFit (elAt ps i)) ∧ len ≤ cap ∧ True := by
  obtain ⟨a, len, cap, ps, hv, hr, hc, hp⟩ := rowE_of (cells := ptC) (Pr := ptFit) Try.underlying49 cellsStay (by omega) (fun n cs y hl h => by
    obtain ⟨k, hf⟩ := fields_of1 Try.underlying38 (by kernel_rfl) hl h
    obtain ⟨c0, y0, e0, t0⟩ := hf 0 _ rfl
    obtain ⟨c1, y1, e1, t1⟩ := hf 1 _ rfl
    obtain ⟨c2, y2, e2, t2⟩ := hf 2 _ rfl
    obtain ⟨c3, y3, e3, t3⟩ := hf 3 _ rfl
    obtain ⟨b0, f0, _, s0⟩ := DataW.trod_string Try.underlying9 t0
    obtain ⟨b1, f1, _, w1⟩ := DataW.trod_int Try.underlying3 t1
    obtain ⟨b2, f2, _, w2⟩ := DataW.trod_int Try.underlying3 t2
    obtain ⟨b3, f3, _, w3⟩ := DataW.trod_int Try.underlying3 t3
    simp only [List.cons.injEq, and_true] at f0 f1 f2 f3
    subst f0 f1 f2 f3
    refine ⟨⟨b0, b1, b2, b3⟩, ⟨by unfold maxLen at s0; exact s0, bounds_i64 w1, bounds_i64 w2, bounds_i64 w3⟩, fun q hq => ?_⟩
    have hq' : q = 0 ∨ q = 1 ∨ q = 2 ∨ q = 3 := by omega
    rcases hq' with rfl | rfl | rfl | rfl <;> assumption) h
  exact ⟨a, len, cap, ps, hv, ⟨hr, fit_all hr.len_eq hp⟩, hc, trivial⟩

end Go.Proofs.Ytnpohiceefkhdao
