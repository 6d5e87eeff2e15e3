/-
  What the model's Due19 answers: plain answers, at every task and clock; nothing that was there is written.
-/
import Derived.Test.YtfnnfldfnjnlfahMMinMax
import Derived.Test.YtfnnfldfnjnlfahMWhole
import Derived.Deep.RegionHeld3
import Derived.Deep.CutRange
namespace Go.Proofs.Ytfnnfldfnjnlfah
open Go.RowKit

theorem results_BcellB {fn : Func} {p q r : Tmp} {t : TypeId} {tmps : Array Value} {w : World} {B : Nat} {vs : List Value} {x y : Value} (h : fn.results = #[.tmp q, .cell p t, .tmp r]) (hA : ∀ w, (isAgg t).run Try.prog w = .ok true w) (hZ : ∀ w, (Go.sizeOf t).run Try.prog w = .ok vs.length w)
    (hp : tmps.getD p undef = .pointer (some ⟨B, 0, none⟩)) (hb : Blk w B vs) (hq : tmps.getD q undef = x) (hr : tmps.getD r undef = y) : (results fn tmps).run Try.prog w = .ok (.tuple #[x, .agg vs.toArray, y]) w := by
  have hl := run_loadVar hA hZ hb
  have hp' : tmps[p]?.getD undef = .pointer (some ⟨B, 0, none⟩) := by simpa using hp
  have hq' : tmps[q]?.getD undef = x := by simpa using hq
  have hr' : tmps[r]?.getD undef = y := by simpa using hr
  simp only [results, h]
  simp [hp', hq', hr', asAddr, hl]

theorem d9_bd (W : World) : Below W.heap.size W W.drew := ⟨rfl, rfl, rfl, Nat.le_refl _, fun _ _ => rfl⟩
theorem d9_bel {B : Nat} {w w' : World} (h : Below B w w') : Below B w w'.drew := h.trans ⟨rfl, rfl, rfl, Nat.le_refl _, fun _ _ => rfl⟩
theorem d9_dr (W : World) (a : Addr) : W.drew.cell? a = W.cell? a := rfl

end Go.Proofs.Ytfnnfldfnjnlfah
