/-
  How the arguments of the laws are opened: a slice of whole numbers that can be read as data is a row of numbers. No condition.
  How a slice of bytes that a law is given is opened: it can be read as bytes, and its memory is there. No condition.
-/
import Derived.Test.YtemodlgmjgdjpaaGreatDoorRows
import Derived.Test.YtemodlgmjgdjpaaGreatDoorMBase
import Derived.Lib.SmallJoins
import Derived.Test.YtemodlgmjgdjpaaGreatDoorMCur

namespace Go.Proofs.YtemodlgmjgdjpaaGreatDoor
open Go.ChangeShapes Go.WideShapes Go.ChangeAt Go.RowKit Go.Joins

theorem own : ownKnob Tryz.prog.godebug = none := by kernel_rfl
theorem laidOut : laidOutB Tryz.prog = true := by kernel_rfl
theorem cells_int : Tryz.prog.cellsOf 3 = 1 := by kernel_rfl

theorem row_of {H : Type} {enc : TypeId × Value → H} {W : World} {base fuel : Nat} {held : Bool} {v : Value} {y : DataW H × List MemPlace}
    (h : DataW.trod enc Tryz.prog W base (fun _ => true) held fuel 39 [v] = some y) :
    ∃ a len cap zs, v = .slice a len cap ∧ Row W a len zs ∧ len ≤ cap := by
  rcases open_ints Tryz.underlying39 Tryz.underlying3 cells_int h with ⟨hcs, _⟩ | ⟨x, l, c, zs, hcs, _, hl, hm, hz, _, hcell, hwz⟩
  · simp at hcs
    refine ⟨_, _, _, [], hcs, ⟨rfl, by omega, fun i hi => by omega, fun i => by simp [nth]⟩, Nat.le_refl _⟩
  · simp at hcs
    simp only [↓reduceIte] at hz
    unfold maxLen at hm
    have hn : ∀ i, i < l → nth (zs.take l) i = zs.getD i 0 := by
      intro i hi
      simp [nth, hi]
    refine ⟨_, _, _, zs.take l, hcs, ⟨by simp; omega, by omega, fun i hi => ?_, fun i => ?_⟩, hl⟩
    · obtain ⟨b, off, rfl, hc⟩ := ints_at hcell (by omega)
      refine ⟨b, off, rfl, ?_⟩
      rw [hn i hi]
      simpa using hc i (by omega)
    · by_cases hi : i < l
      · rw [hn i hi]
        have hil : i < zs.length := by omega
        have hmem : zs.getD i 0 ∈ zs := by
          rw [List.getD_eq_getElem?_getD, List.getElem?_eq_getElem hil]
          exact List.getElem_mem hil
        exact bounds_i64 (hwz _ hmem)
      · have : nth (zs.take l) i = 0 := by simp [nth, List.getElem?_take, hi]
        rw [this]; omega

end Go.Proofs.YtemodlgmjgdjpaaGreatDoor

namespace Go.Proofs.YtemodlgmjgdjpaaGreatDoor
open Go.ChangeShapes Go.WideShapes Go.ChangeAt Go.RowKit Go.Joins

theorem cells_byte : Tryz.prog.cellsOf 5 = 1 := by kernel_rfl
theorem bytes_of {H : Type} {enc : TypeId × Value → H} {W : World} {base fuel : Nat} {held : Bool} {v : Value} {y : DataW H × List MemPlace}
    (h : DataW.trod enc Tryz.prog W base (fun _ => true) held fuel 22 [v] = some y) :
    ∃ a len cap, v = .slice a len cap ∧ Bytes W a len := by
  rcases open_ints Tryz.underlying22 Tryz.underlying5 cells_byte h with ⟨hcs, _⟩ | ⟨x, l, c, zs, hcs, _, hl, hm, hz, _, hcell, hwz⟩
  · simp at hcs
    exact ⟨_, _, _, hcs, ⟨by omega, fun i hi => by omega⟩⟩
  · simp at hcs
    simp only [↓reduceIte] at hz
    unfold maxLen at hm
    refine ⟨_, _, _, hcs, ⟨by omega, fun i hi => ?_⟩⟩
    obtain ⟨b, off, rfl, hc⟩ := ints_at hcell (by omega)
    have hil : i < zs.length := by omega
    have hmem : zs.getD i 0 ∈ zs := by
      rw [List.getD_eq_getElem?_getD, List.getElem?_eq_getElem hil]
      exact List.getElem_mem hil
    exact ⟨b, off, rfl, _, hc i hil, bounds_u8 (hwz _ hmem)⟩
set_option maxRecDepth 100000 in
theorem bytes_in {W : World} {base : Nat} {a : Option Addr} {len cap : Nat} (h : Value.okWide Tryz.prog W .any base 22 (.slice a len cap)) : ∀ b off, a = some ⟨b, off, none⟩ → b < W.heap.size := by
  intro b off ha
  subst ha
  simp only [Value.okWide, Tryz.underlying22, Cell.okWide, Cell.ok, World.has] at h
  obtain ⟨_, _, _, _, rw0, cs0, hs, _⟩ := h
  rcases Nat.lt_or_ge b W.heap.size with h | h
  · exact h
  · simp [World.shape?, Array.getElem?_eq_none h] at hs

end Go.Proofs.YtemodlgmjgdjpaaGreatDoor
