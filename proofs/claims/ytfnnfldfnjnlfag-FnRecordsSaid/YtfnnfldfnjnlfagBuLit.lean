/-
  Bytes written out in the text, as a list in memory of its own. No condition but that they are at most 100.
-/
import Derived.Test.YtfnnfldfnjnlfagApp1
import Derived.Laws.OwnMore
namespace Go.Proofs.Ytfnnfldfnjnlfag
open Go.RowKit

theorem byL_lit {base : Nat} (w : World) (zs : List Int) (hb : base ≤ w.heap.size) (hn : zs.length ≤ 100) : OwnE 1 byC (w.alloc (Obj.cells (zs.map (Value.int .u8)).toArray 5)) base 5 (.slice (some ⟨w.heap.size, 0, none⟩) zs.length zs.length) zs := by
  refine ⟨⟨_, World.ownsRow_lit w _ zs.length hb (by unfold maxLen; omega) (by simp), fun j hj q hq => ?_⟩⟩
  obtain rfl : q = 0 := by omega
  simp [elAt, byC, hj]

end Go.Proofs.Ytfnnfldfnjnlfag
