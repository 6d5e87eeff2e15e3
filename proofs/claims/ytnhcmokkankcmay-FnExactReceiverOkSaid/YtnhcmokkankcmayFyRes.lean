/-
  A result that stands in a block, and two behind it. No condition.
-/
import Derived.Test.YtnhcmokkankcmayApFar
namespace Go.Proofs.Ytnhcmokkankcmay
open Go.RowKit

theorem results_cellBB {fn : Func} {p q r : Tmp} {t : TypeId} {tmps : Array Value} {w : World} {B : Nat} {vs : List Value} {x y : Value} (h : fn.results = #[.cell p t, .tmp q, .tmp r]) (hA : ∀ w, (isAgg t).run Try.prog w = .ok true w) (hZ : ∀ w, (Go.sizeOf t).run Try.prog w = .ok vs.length w)
    (hp : tmps.getD p undef = .pointer (some ⟨B, 0, none⟩)) (hb : Blk w B vs) (hq : tmps.getD q undef = x) (hr : tmps.getD r undef = y) : (results fn tmps).run Try.prog w = .ok (.tuple #[.agg vs.toArray, x, y]) w := by
  have hl := run_loadVar hA hZ hb
  have hp' : tmps[p]?.getD undef = .pointer (some ⟨B, 0, none⟩) := by simpa using hp
  have hq' : tmps[q]?.getD undef = x := by simpa using hq
  have hr' : tmps[r]?.getD undef = y := by simpa using hr
  simp only [results, h]
  simp [hp', hq', hr', asAddr, hl]

end Go.Proofs.Ytnhcmokkankcmay
