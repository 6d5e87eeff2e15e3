/-
  How a list of loads is opened, told by what the loads say. No condition.
-/
import Derived.Test.YtlpomplldgmkmbaOpenLd
import Derived.Test.YtlpomplldgmkmbaLx1
namespace Go.Proofs.Ytlpomplldgmkmba
open Go.ChangeShapes Go.WideShapes Go.ChangeAt Go.RowKit Go.Joins Go.Deep

theorem rowLt_of {H : Type} {enc : TypeId × Value → H} {W : World} {base fuel : Nat} {held : Bool} {v : Value} {y : DataW H × List MemPlace}
    (h : DataW.trod enc Try.prog W base (fun _ => true) held fuel 50 [v] = some y) :
    ∃ a len cap, ∃ zs : List Lc, v = .slice a len cap ∧ LsT W a len zs ∧ len ≤ cap ∧ True := by
  obtain ⟨a, len, cap, ps, e, hr, hc, hx⟩ := rowLd_of h
  exact ⟨a, len, cap, ps.map lxW, e, ⟨⟨ps, rfl, hr, hx⟩⟩, hc, trivial⟩

end Go.Proofs.Ytlpomplldgmkmba
