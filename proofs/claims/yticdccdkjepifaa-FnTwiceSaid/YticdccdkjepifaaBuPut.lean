/-
  What the model's Put16 answers: the frame of a word, in memory of its own. At every word of at most so many bytes as fit; nothing that was there is written.
-/
import Derived.Test.YticdccdkjepifaaBuSpec
import Derived.Test.YticdccdkjepifaaMBuSum
import Derived.Test.YticdccdkjepifaaAppBy
import Derived.Laws.OwnMore
namespace Go.Proofs.Yticdccdkjepifaa
open Go.RowKit

/-- The frame of a word. -/
def ptH (l s : Int) (ds : List Int) : List Int := [l, s, (ds.length : Int)] ++ ds
def ptL (l s : Int) (ds : List Int) : List Int := if wdB l s ds.length = true then ptH l s ds ++ [smB (ptH l s ds)] else []
theorem byE_lit {base : Nat} (w : World) (zs : List Int) (hb : base ≤ w.heap.size) (hn : zs.length ≤ 100) : OwnE 1 byC (w.alloc (Obj.cells (zs.map (Value.int .u8)).toArray 5)) base 5 (.slice (some ⟨w.heap.size, 0, none⟩) zs.length zs.length) zs := by
  refine ⟨⟨_, World.ownsRow_lit w _ zs.length hb (by unfold maxLen; omega) (by simp), fun j hj q hq => ?_⟩⟩
  obtain rfl : q = 0 := by omega
  simp [elAt, byC, hj]
theorem belAl' {B : Nat} {w w1 : World} (h : Below B w w1) (o : Obj) (hs : B ≤ w.heap.size := by omega) : Below B w (w1.alloc o) := h.alloc (Nat.le_trans hs h.size) o


end Go.Proofs.Yticdccdkjepifaa
