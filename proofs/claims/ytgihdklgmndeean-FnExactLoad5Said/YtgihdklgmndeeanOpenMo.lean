/-
  How lists of floats and of motions are opened. No condition.
-/
import Derived.Test.YtgihdklgmndeeanOpenF
import Derived.Test.YtgihdklgmndeeanOpenE
import Derived.Test.YtgihdklgmndeeanRowFl
import Derived.Test.YtgihdklgmndeeanToMo
import Derived.Laws.Cover2
namespace Go.Proofs.Ytgihdklgmndeean
open Go.ChangeShapes Go.WideShapes Go.ChangeAt Go.RowKit Go.Joins Go.Deep

theorem arr2 (cs : Array Value) (h : cs.size = 2) {c0 c1 : Value} (e0 : cs[0]? = some c0) (e1 : cs[1]? = some c1) : cs = #[c0, c1] := by
  refine Array.ext' ?_
  refine List.ext_getElem? fun i => ?_
  match i with
  | 0 => simpa using e0
  | 1 => simpa using e1
  | i + 2 => simp; omega
theorem arr3 (cs : Array Value) (h : cs.size = 3) {c0 c1 c2 : Value} (e0 : cs[0]? = some c0) (e1 : cs[1]? = some c1) (e2 : cs[2]? = some c2) : cs = #[c0, c1, c2] := by
  refine Array.ext' ?_
  refine List.ext_getElem? fun i => ?_
  match i with
  | 0 => simpa using e0
  | 1 => simpa using e1
  | 2 => simpa using e2
  | i + 3 => simp; omega
theorem arr4 (cs : Array Value) (h : cs.size = 4) {c0 c1 c2 c3 : Value} (e0 : cs[0]? = some c0) (e1 : cs[1]? = some c1) (e2 : cs[2]? = some c2) (e3 : cs[3]? = some c3) : cs = #[c0, c1, c2, c3] := by
  refine Array.ext' ?_
  refine List.ext_getElem? fun i => ?_
  match i with
  | 0 => simpa using e0
  | 1 => simpa using e1
  | 2 => simpa using e2
  | 3 => simpa using e3
  | i + 4 => simp; omega
theorem arr5 (cs : Array Value) (h : cs.size = 5) {c0 c1 c2 c3 c4 : Value} (e0 : cs[0]? = some c0) (e1 : cs[1]? = some c1) (e2 : cs[2]? = some c2) (e3 : cs[3]? = some c3) (e4 : cs[4]? = some c4) : cs = #[c0, c1, c2, c3, c4] := by
  refine Array.ext' ?_
  refine List.ext_getElem? fun i => ?_
  match i with
  | 0 => simpa using e0
  | 1 => simpa using e1
  | 2 => simpa using e2
  | 3 => simpa using e3
  | 4 => simpa using e4
  | i + 5 => simp; omega

theorem cells_fl : Try.prog.cellsOf 22 = 1 := by kernel_rfl
theorem rowFl_of {H : Type} {enc : TypeId × Value → H} {W : World} {base fuel : Nat} {held : Bool} {v : Value} {y : DataW H × List MemPlace}
    (h : DataW.trod enc Try.prog W base (fun _ => true) held fuel 27 [v] = some y) :
    ∃ a len cap ps, v = .slice a len cap ∧ RowE 1 flC W a len ps ∧ len ≤ cap ∧ ∀ i, i < len → True :=
  rowE_of (Pr := fun _ => True) Try.underlying27 cells_fl (by omega) (fun n cs y hl h => by
    obtain ⟨x, e, _⟩ := trod_float Try.underlying22 h
    subst e
    exact ⟨x, trivial, fun q hq => by obtain rfl : q = 0 := by omega
                                      rfl⟩) h
theorem cellsMo : Try.prog.cellsOf 24 = 4 := by kernel_rfl
theorem rowMo_of {H : Type} {enc : TypeId × Value → H} {W : World} {base fuel : Nat} {held : Bool} {v : Value} {y : DataW H × List MemPlace}
    (h : DataW.trod enc Try.prog W base (fun _ => true) held fuel 51 [v] = some y) :
    ∃ a len cap ps, v = .slice a len cap ∧ RowE 4 moC W a len ps ∧ len ≤ cap ∧ ∀ i, i < len → True :=
  rowE_of (Pr := fun _ => True) Try.underlying51 cellsMo (by omega) (fun n cs y hl h => by
    obtain ⟨k, hf⟩ := fields_of1 Try.underlying24 (by kernel_rfl) hl h
    obtain ⟨c0, y0, e0, t0⟩ := hf 0 _ rfl
    obtain ⟨c1, y1, e1, t1⟩ := hf 1 _ rfl
    obtain ⟨c2, y2, e2, t2⟩ := hf 2 _ rfl
    obtain ⟨c3, y3, e3, t3⟩ := hf 3 _ rfl
    obtain ⟨b0, f0, _⟩ := trod_float Try.underlying22 t0
    obtain ⟨b1, f1, _⟩ := trod_float Try.underlying22 t1
    obtain ⟨b2, f2, _⟩ := trod_float Try.underlying22 t2
    obtain ⟨b3, f3, _⟩ := trod_float Try.underlying22 t3
    simp only [List.cons.injEq, and_true] at f0 f1 f2 f3
    subst f0 f1 f2 f3
    refine ⟨⟨b0, b1, b2, b3⟩, trivial, fun q hq => ?_⟩
    have hq' : q = 0 ∨ q = 1 ∨ q = 2 ∨ q = 3 := by omega
    rcases hq' with rfl | rfl | rfl | rfl <;> assumption) h

end Go.Proofs.Ytgihdklgmndeean
