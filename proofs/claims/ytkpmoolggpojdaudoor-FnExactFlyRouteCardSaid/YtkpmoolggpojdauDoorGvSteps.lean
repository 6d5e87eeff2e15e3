/-
  What the row's list gives: the table of steps holds what the program's text says. No condition.
-/
import Derived.Test.YtkpmoolggpojdauDoorGyStep
import Derived.OpenShut
import Derived.ChangeSame
import Derived.Lib.LaidTab
import Derived.Test.YtkpmoolggpojdauDoorRows
namespace Go.Proofs.YtkpmoolggpojdauDoor
open Go.RowKit Go.ChangeShapes

theorem gSteps : Tryd.prog.globalNamed "loop.example/g00063/impl.directionSteps" = some 0 := by kernel_rfl
theorem gStepsType : (Tryd.prog.globals[0]?).map (·.type) = some 94 := by kernel_rfl
theorem cellsPlace : Tryd.prog.cellsOf 73 = 2 := by kernel_rfl
theorem cellsInt : Tryd.prog.cellsOf 3 = 1 := by kernel_rfl

/-- A place that reads as two numbers holds them. -/
theorem place_cells {H : Type} {enc : TypeId × Value → H} {w : World} {base : Nat} {sp : Nat → Bool} {held : Bool} {fuel : Nat} {cs : List Value} {y : DataW H × List MemPlace} {u v : Int}
    (h : DataW.trod enc Tryd.prog w base sp held fuel 73 cs = some y) (hy : y.1 = .agg [.lit (.int .i64 u), .lit (.int .i64 v)]) : cs[0]? = some (.int .i64 u) ∧ cs[1]? = some (.int .i64 v) := by
  obtain ⟨y0, y1, n, rfl, _, h0, h1⟩ := trod_struct2 Tryd.underlying73 h
  obtain ⟨z0, hc0, rfl, _⟩ := DataW.trod_int Tryd.underlying3 h0
  obtain ⟨z1, hc1, rfl, _⟩ := DataW.trod_int Tryd.underlying3 h1
  simp only [DataW.agg.injEq, List.cons.injEq, DataW.lit.injEq, Lit.int.injEq, true_and, and_true] at hy
  obtain ⟨rfl, rfl⟩ := hy
  refine ⟨?_, ?_⟩
  · have := congrArg (·[0]?) hc0
    simpa [List.getElem?_take, List.getElem?_drop, cellsInt] using this
  · have := congrArg (·[0]?) hc1
    simpa [List.getElem?_take, List.getElem?_drop, cellsInt] using this

theorem stg_of_laid {W : World} {rest : List (String × DataW Unit)} (h : laidMet Tryd.prog (("loop.example/g00063/impl.directionSteps", Rows.laid_loop_example_g00063_impl_directionSteps) :: rest) W) : StG W := by
  obtain ⟨ps, ⟨g', t', cs, fuel, p, q, hg', ht', hvar, hd, _, _⟩, _⟩ := h
  obtain rfl := Option.some.inj (gSteps.symm.trans hg')
  obtain rfl := Option.some.inj (gStepsType.symm.trans ht')
  obtain ⟨xs, m, _, hx, hl, hlen, hf⟩ := DataW.trod_array Tryd.underlying94 hd
  rw [cellsPlace] at hf
  have hmap : xs.map (·.1) = [_, _, _, _, _, _, _, _] := (by
    have e := congrArg Prod.fst hx
    simp only [Rows.laid_loop_example_g00063_impl_directionSteps, DataW.agg.injEq] at e
    exact e.symm)
  have two : ∀ (j : Nat) (u v : Int), j < 8 → (xs.map (·.1))[j]? = some (.agg [.lit (.int .i64 u), .lit (.int .i64 v)]) → cs[2 * j]? = some (.int .i64 u) ∧ cs[2 * j + 1]? = some (.int .i64 v) := by
    intro j u v hj he
    have hlt : j < xs.length := by omega
    have hy := hf j hj
    rw [List.getElem?_eq_getElem hlt] at hy
    have h1 : (xs[j]).1 = .agg [.lit (.int .i64 u), .lit (.int .i64 v)] := by
      rw [List.getElem?_map, List.getElem?_eq_getElem hlt] at he
      exact Option.some.inj he
    have hc := place_cells hy h1
    refine ⟨?_, ?_⟩
    · have := hc.1
      rw [List.getElem?_take, List.getElem?_drop] at this
      simpa [Nat.mul_comm] using this
    · have := hc.2
      rw [List.getElem?_take, List.getElem?_drop] at this
      simpa [Nat.mul_comm] using this
  rw [hmap] at two
  have c0 := two 0 0 1 (by decide) rfl
  have c1 := two 1 1 1 (by decide) rfl
  have c2 := two 2 1 0 (by decide) rfl
  have c3 := two 3 1 (-1) (by decide) rfl
  have c4 := two 4 0 (-1) (by decide) rfl
  have c5 := two 5 (-1) (-1) (by decide) rfl
  have c6 := two 6 (-1) 0 (by decide) rfl
  have c7 := two 7 (-1) 1 (by decide) rfl
  intro i hi
  rw [World.var?_cell gSteps hvar i]
  match i, hi with
  | 0, _ => exact c0.1
  | 1, _ => exact c0.2
  | 2, _ => exact c1.1
  | 3, _ => exact c1.2
  | 4, _ => exact c2.1
  | 5, _ => exact c2.2
  | 6, _ => exact c3.1
  | 7, _ => exact c3.2
  | 8, _ => exact c4.1
  | 9, _ => exact c4.2
  | 10, _ => exact c5.1
  | 11, _ => exact c5.2
  | 12, _ => exact c6.1
  | 13, _ => exact c6.2
  | 14, _ => exact c7.1
  | 15, _ => exact c7.2
  | n + 16, hi => exact absurd hi (by omega)

theorem one_var {H : Type} {enc : TypeId × Value → H} {P : Program} {W : World} {sp : Nat → Bool} {n : String} {gs : List (DataW H)} {q : List MemPlace} (h : DataW.TrodVars enc P W sp [n] gs q) : ∃ g1, gs = [g1] := by
  match gs, h with
  | [], h => exact h.elim
  | [g], _ => exact ⟨g, rfl⟩
  | _ :: _ :: _, h =>
    obtain ⟨_, _, _, _, _, _, _, _, _, _, h2, _⟩ := h
    exact h2.elim

end Go.Proofs.YtkpmoolggpojdauDoor
