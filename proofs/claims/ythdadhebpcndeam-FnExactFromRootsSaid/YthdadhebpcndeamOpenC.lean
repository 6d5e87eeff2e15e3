/-
  How an argument that is a slice of complex numbers is opened: it is a row of pairs. No condition.
-/
import Derived.Test.YthdadhebpcndeamOpenF
import Derived.Test.YthdadhebpcndeamRowC
import Derived.Deep.SlicePairs
namespace Go.Proofs.Ythdadhebpcndeam
open Go.ChangeShapes Go.WideShapes Go.ChangeAt Go.RowKit Go.Joins Go.Deep

theorem cells_f64 : Try.prog.cellsOf 23 = 1 := by kernel_rfl
theorem cellsCx : Try.prog.cellsOf 25 = 2 := by kernel_rfl

theorem rowC_of {H : Type} {enc : TypeId × Value → H} {W : World} {base fuel : Nat} {held : Bool} {v : Value} {y : DataW H × List MemPlace}
    (h : DataW.trod enc Try.prog W base (fun _ => true) held fuel 22 [v] = some y) :
    ∃ a len cap ps, v = .slice a len cap ∧ RowC W a len ps ∧ len ≤ cap := by
  rcases open_slice_pairs Try.underlying22 Try.underlying25 cellsCx rfl rfl cells_f64 cells_f64 h with ⟨hcs, _⟩ | ⟨x, l, c, m, n, V0, V1, D0, D1, P0, P1, hcs, _, hl, hm, hmm, _, hx⟩
  · simp at hcs
    exact ⟨_, _, _, [], hcs, ⟨rfl, by omega, fun i hi => by omega⟩, Nat.le_refl _⟩
  · simp at hcs
    simp only [↓reduceIte] at hmm
    unfold maxLen at hm
    subst hmm
    have each : ∀ i, i < l → ∃ z : Nat × Nat, V0 i = .float .f64 z.1 ∧ V1 i = .float .f64 z.2 := by
      intro i hi
      obtain ⟨_, _, t0, t1⟩ := hx i (by omega)
      obtain ⟨p, e0, _, _⟩ := trod_float Try.underlying23 t0
      obtain ⟨q, e1, _, _⟩ := trod_float Try.underlying23 t1
      simp at e0 e1
      exact ⟨(p, q), e0, e1⟩
    obtain ⟨f, hf⟩ := choose_lt each
    have hn : ∀ i, i < l → ((List.range l).map f)[i]?.getD (0, 0) = f i := by
      intro i hi
      simp [hi]
    refine ⟨_, _, _, (List.range l).map f, hcs, ⟨by simp, by omega, fun i hi => ?_⟩, hl⟩
    · obtain ⟨e0, e1⟩ := hf i hi
      obtain ⟨ha, hb, _, _⟩ := hx i (by omega)
      obtain ⟨h0, _, _, _⟩ := hx 0 (by omega)
      obtain ⟨b, off, spot⟩ := x
      have hspot : spot = none := by simpa [Addr.add] using World.cell?_spot h0
      subst hspot
      refine ⟨b, off, rfl, ?_, ?_⟩
      · unfold reAt
        rw [hn i hi, ← e0, ← ha]
        rcases Nat.eq_zero_or_pos i with q | q
        · subst q; rfl
        · simp [Addr.add, show ¬ i * 2 = 0 from by omega]
      · unfold imAt
        rw [hn i hi, ← e1, ← hb]
        simp [Addr.add, Nat.add_assoc]

end Go.Proofs.Ythdadhebpcndeam
