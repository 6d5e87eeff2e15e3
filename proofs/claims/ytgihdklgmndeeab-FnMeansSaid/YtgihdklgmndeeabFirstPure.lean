/-
  The place of the first motion that is faster, in plain numbers. No program here.
-/
import Derived.Test.YtgihdklgmndeeabToMo
namespace Go.Proofs.Ytgihdklgmndeeab
open Go

/-- Whether the motion at a place is faster. -/
def overAt (ps : List Mo) (sp : Nat) (i : Nat) : Bool := FloatKind.f64.format.order (elAt ps i).a0 sp == some .gt
/-- The place, or -1. -/
def firstN (ps : List Mo) (sp : Nat) : Int := match ps.findIdx? (fun m => FloatKind.f64.format.order m.a0 sp == some .gt) with | some i => (i : Int) | none => -1

theorem firstN_hit (ps : List Mo) (sp k : Nat) (hk : k < ps.length) (h : overAt ps sp k = true) (hb : ∀ j, j < k → overAt ps sp j = false) : firstN ps sp = k := by
  have e : ps.findIdx? (fun m => FloatKind.f64.format.order m.a0 sp == some .gt) = some k := by
    refine List.findIdx?_eq_some_iff_getElem.2 ⟨hk, ?_, fun j hj => ?_⟩
    · simpa [overAt, elAt, hk] using h
    · have := hb j hj
      have hj' : j < ps.length := by omega
      simpa [overAt, elAt, hj'] using this
  unfold firstN
  rw [e]
theorem firstN_none (ps : List Mo) (sp : Nat) (hb : ∀ j, j < ps.length → overAt ps sp j = false) : firstN ps sp = -1 := by
  have e : ps.findIdx? (fun m => FloatKind.f64.format.order m.a0 sp == some .gt) = none := by
    refine List.findIdx?_eq_none_iff.2 fun x hx => ?_
    obtain ⟨j, hj, rfl⟩ := List.getElem_of_mem hx
    have := hb j hj
    simpa [overAt, elAt, hj] using this
  unfold firstN
  rw [e]

end Go.Proofs.Ytgihdklgmndeeab
