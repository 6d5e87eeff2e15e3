/-
  How lists of bytes are opened: they can be read, and each is a byte. No condition.
-/
import Derived.Test.YticdccdkjepifaaMOpen
import Derived.Test.YticdccdkjepifaaOpenE
import Derived.Test.YticdccdkjepifaaArr
import Derived.Test.YticdccdkjepifaaRowBy
import Derived.Laws.Cover2
namespace Go.Proofs.Yticdccdkjepifaa
open Go.ChangeShapes Go.WideShapes Go.ChangeAt Go.RowKit Go.Joins Go.Deep

theorem cellsBy : Try.prog.cellsOf 5 = 1 := by kernel_rfl
/-- Each is a byte. -/
def BytesIn (zs : List Int) : Prop := ∀ i, i < zs.length → 0 ≤ elAt zs i ∧ elAt zs i ≤ 255
theorem rowBy_all {H : Type} {enc : TypeId × Value → H} {W : World} {base fuel : Nat} {held : Bool} {v : Value} {y : DataW H × List MemPlace}
    (h : DataW.trod enc Try.prog W base (fun _ => true) held fuel 22 [v] = some y) :
    ∃ a len cap ps, v = .slice a len cap ∧ RowE 1 byC W a len ps ∧ len ≤ cap ∧ ∀ i, i < len → 0 ≤ elAt ps i ∧ elAt ps i ≤ 255 :=
  rowE_of (Pr := fun x : Int => 0 ≤ x ∧ x ≤ 255) Try.underlying22 cellsBy (by omega) (fun n cs y hl h => by
    obtain ⟨x, e, _, hw⟩ := DataW.trod_int Try.underlying5 h
    subst e
    exact ⟨x, bounds_u8 hw, fun q hq => by obtain rfl : q = 0 := by omega
                                           rfl⟩) h
theorem rowBy_of {H : Type} {enc : TypeId × Value → H} {W : World} {base fuel : Nat} {held : Bool} {v : Value} {y : DataW H × List MemPlace}
    (h : DataW.trod enc Try.prog W base (fun _ => true) held fuel 22 [v] = some y) :
    ∃ a len cap ps, v = .slice a len cap ∧ (RowE 1 byC W a len ps ∧ BytesIn ps) ∧ len ≤ cap ∧ True := by
  obtain ⟨a, len, cap, ps, e, hr, hc, hb⟩ := rowBy_all h
  exact ⟨a, len, cap, ps, e, ⟨hr, fun i hi => hb i (by have := hr.len_eq; omega)⟩, hc, trivial⟩

end Go.Proofs.Yticdccdkjepifaa
