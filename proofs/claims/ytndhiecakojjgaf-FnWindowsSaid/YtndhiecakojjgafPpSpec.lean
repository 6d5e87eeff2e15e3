/-
  What the model's PlanOk and Owner answer: the plain answers, at every plan; nothing that was there is written.
-/
import Derived.Test.YtndhiecakojjgafPure1
import Derived.Test.YtndhiecakojjgafBel1
import Derived.Test.YtndhiecakojjgafRowWn
import Derived.Test.YtndhiecakojjgafBlk1
import Derived.Deep.Cut
namespace Go.Proofs.Ytndhiecakojjgaf
open Go.RowKit

theorem RowE.wn3 {w : World} {a : Option Addr} {len : Nat} {ws : List Wn} (h : RowE 3 wnC w a len ws) : (len = 0 ∧ ws = []) ∨ ∃ b off, a = some ⟨b, off, none⟩ ∧ 0 < len ∧ ∀ i, i < len → w.cell? ⟨b, off + i * 3, none⟩ = some (.int .i64 (elAt ws i).a0) ∧ w.cell? ⟨b, off + i * 3 + 1, none⟩ = some (.int .i64 (elAt ws i).a1) ∧ w.cell? ⟨b, off + i * 3 + 2, none⟩ = some (.int .i64 (elAt ws i).a2) := by
  rcases h.open_ with k | ⟨b, off, ha, h0, hc⟩
  · exact .inl k
  · exact .inr ⟨b, off, ha, h0, fun i hi => ⟨hc i hi 0 (by omega), hc i hi 1 (by omega), hc i hi 2 (by omega)⟩⟩


end Go.Proofs.Ytndhiecakojjgaf
