/-
  How an argument that is a slice of pairs of whole numbers (FuelTank) is opened: it is a row of pairs. No condition.
-/
import Derived.Test.YtbaocifpifbldajOpen
import Derived.Test.YtbaocifpifbldajRow2
import Derived.Deep.SlicePairs
namespace Go.Proofs.Ytbaocifpifbldaj
open Go.ChangeShapes Go.WideShapes Go.ChangeAt Go.RowKit Go.Joins Go.Deep

theorem cellsFuelTank : Try.prog.cellsOf 80 = 2 := by kernel_rfl

theorem row2_ofFuelTank {H : Type} {enc : TypeId × Value → H} {W : World} {base fuel : Nat} {held : Bool} {v : Value} {y : DataW H × List MemPlace}
    (h : DataW.trod enc Try.prog W base (fun _ => true) held fuel 37 [v] = some y) :
    ∃ a len cap ps, v = .slice a len cap ∧ Row2 W a len ps ∧ len ≤ cap := by
  rcases open_slice_pairs Try.underlying37 Try.underlying80 cellsFuelTank rfl rfl cells_int cells_int h with ⟨hcs, _⟩ | ⟨x, l, c, m, n, V0, V1, D0, D1, P0, P1, hcs, _, hl, hm, hmm, _, hx⟩
  · simp at hcs
    exact ⟨_, _, _, [], hcs, ⟨rfl, by omega, fun i hi => by omega, fun i => by simp [fstAt, sndAt]⟩, Nat.le_refl _⟩
  · simp at hcs
    simp only [↓reduceIte] at hmm
    unfold maxLen at hm
    subst hmm
    have each : ∀ i, i < l → ∃ z : Int × Int, (V0 i = .int .i64 z.1 ∧ V1 i = .int .i64 z.2) ∧ (Lit.int .i64 z.1).wf = true ∧ (Lit.int .i64 z.2).wf = true := by
      intro i hi
      obtain ⟨_, _, t0, t1⟩ := hx i (by omega)
      obtain ⟨p, e0, _, w0⟩ := DataW.trod_int Try.underlying3 t0
      obtain ⟨q, e1, _, w1⟩ := DataW.trod_int Try.underlying3 t1
      simp at e0 e1
      exact ⟨(p, q), ⟨e0, e1⟩, w0, w1⟩
    obtain ⟨f, hf⟩ := choose_lt each
    have hn : ∀ i, i < l → ((List.range l).map f)[i]?.getD (0, 0) = f i := by
      intro i hi
      simp [hi]
    refine ⟨_, _, _, (List.range l).map f, hcs, ⟨by simp, by omega, fun i hi => ?_, fun i => ?_⟩, hl⟩
    · obtain ⟨⟨e0, e1⟩, _, _⟩ := hf i hi
      obtain ⟨ha, hb, _, _⟩ := hx i (by omega)
      obtain ⟨h0, _, _, _⟩ := hx 0 (by omega)
      obtain ⟨b, off, spot⟩ := x
      have hspot : spot = none := by simpa [Addr.add] using World.cell?_spot h0
      subst hspot
      refine ⟨b, off, rfl, ?_, ?_⟩
      · unfold fstAt
        rw [hn i hi, ← e0, ← ha]
        rcases Nat.eq_zero_or_pos i with q | q
        · subst q; rfl
        · simp [Addr.add, show ¬ i * 2 = 0 from by omega]
      · unfold sndAt
        rw [hn i hi, ← e1, ← hb]
        simp [Addr.add, Nat.add_assoc]
    · by_cases hi : i < l
      · obtain ⟨_, w0, w1⟩ := hf i hi
        unfold fstAt sndAt
        rw [hn i hi]
        exact ⟨bounds_i64 w0, bounds_i64 w1⟩
      · have e : ((List.range l).map f)[i]?.getD (0, 0) = (0, 0) := by simp [hi]
        unfold fstAt sndAt
        rw [e]
        simp

end Go.Proofs.Ytbaocifpifbldaj
