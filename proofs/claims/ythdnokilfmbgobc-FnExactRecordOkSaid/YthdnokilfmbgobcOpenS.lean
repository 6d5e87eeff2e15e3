/-
  How an argument that is a slice of slices of whole numbers is opened: it is a row of rows of numbers. No condition.
-/
import Derived.Test.YthdnokilfmbgobcOpen
import Derived.Test.YthdnokilfmbgobcRowS
import Derived.Deep.Slices
namespace Go.Proofs.Ythdnokilfmbgobc
open Go.ChangeShapes Go.WideShapes Go.ChangeAt Go.RowKit Go.Joins Go.Deep

theorem cells_ints : Try.prog.cellsOf 79 = 1 := by kernel_rfl

theorem rowS_of {H : Type} {enc : TypeId × Value → H} {W : World} {base fuel : Nat} {held : Bool} {v : Value} {y : DataW H × List MemPlace}
    (h : DataW.trod enc Try.prog W base (fun _ => true) held fuel 43 [v] = some y) :
    ∃ a len cap zss, v = .slice a len cap ∧ RowS W a len zss ∧ len ≤ cap := by
  rcases open_slice1 Try.underlying43 cells_ints h with ⟨hcs, _⟩ | ⟨x, l, c, m, n, V, D, Pl, hcs, _, hl, hm, hmm, _, hx⟩
  · simp at hcs
    exact ⟨_, _, _, [], hcs, ⟨rfl, by omega, fun i hi => by omega⟩, Nat.le_refl _⟩
  · simp at hcs
    simp only [↓reduceIte] at hmm
    unfold maxLen at hm
    subst hmm
    have each : ∀ i, i < l → ∃ z : List Int, ∃ ai li ci, V i = .slice ai li ci ∧ Row W ai li z ∧ li ≤ ci := by
      intro i hi
      obtain ⟨ai, li, ci, z, e, r, q⟩ := row_of (hx i (by omega)).2
      exact ⟨z, ai, li, ci, e, r, q⟩
    obtain ⟨f, hf⟩ := choose_lt each
    have hn : ∀ i, i < l → nthS ((List.range l).map f) i = f i := by
      intro i hi
      simp [nthS, hi]
    refine ⟨_, _, _, (List.range l).map f, hcs, ⟨by simp, by omega, fun i hi => ?_⟩, hl⟩
    obtain ⟨ai, li, ci, e, r, q⟩ := hf i hi
    have hc := (hx i (by omega)).1
    have hc0 := (hx 0 (by omega)).1
    obtain ⟨b, off, spot⟩ := x
    have hspot : spot = none := by simpa [Addr.add] using World.cell?_spot hc0
    subst hspot
    refine ⟨b, off, ai, li, ci, rfl, ?_, by rw [hn i hi]; exact r, q⟩
    rw [← e, ← hc]
    rcases Nat.eq_zero_or_pos i with h0 | h0
    · subst h0; rfl
    · simp [Addr.add, show ¬ i = 0 from by omega]

end Go.Proofs.Ythdnokilfmbgobc
