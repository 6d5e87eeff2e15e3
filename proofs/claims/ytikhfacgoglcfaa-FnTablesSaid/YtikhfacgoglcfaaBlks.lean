/-
  Two, three, four variables in blocks of their own, one laid behind the other. No condition.
-/
import Derived.Test.YtikhfacgoglcfaaBlk
namespace Go.Proofs.Ytikhfacgoglcfaa
open Go.RowKit

theorem Blk.next {w : World} {B : Nat} (vs : List Value) (T : TypeId) (h : w.heap.size = B) : Blk (w.alloc (Obj.cells vs.toArray T)) B vs := by
  subst h; exact Blk.new vs T
theorem blkAt2_0 {w : World} {v1 v2 : List Value} {T1 T2 : TypeId} : Blk ((w.alloc (Obj.cells v1.toArray T1)).alloc (Obj.cells v2.toArray T2)) w.heap.size v1 := (Blk.new v1 T1).alloc _
theorem blkAt2_1 {w : World} {v1 v2 : List Value} {T1 T2 : TypeId} : Blk ((w.alloc (Obj.cells v1.toArray T1)).alloc (Obj.cells v2.toArray T2)) (w.heap.size + 1) v2 := Blk.next v2 T2 (by simp)
theorem blkAt3_0 {w : World} {v1 v2 v3 : List Value} {T1 T2 T3 : TypeId} : Blk (((w.alloc (Obj.cells v1.toArray T1)).alloc (Obj.cells v2.toArray T2)).alloc (Obj.cells v3.toArray T3)) w.heap.size v1 := blkAt2_0.alloc _
theorem blkAt3_1 {w : World} {v1 v2 v3 : List Value} {T1 T2 T3 : TypeId} : Blk (((w.alloc (Obj.cells v1.toArray T1)).alloc (Obj.cells v2.toArray T2)).alloc (Obj.cells v3.toArray T3)) (w.heap.size + 1) v2 := blkAt2_1.alloc _
theorem blkAt3_2 {w : World} {v1 v2 v3 : List Value} {T1 T2 T3 : TypeId} : Blk (((w.alloc (Obj.cells v1.toArray T1)).alloc (Obj.cells v2.toArray T2)).alloc (Obj.cells v3.toArray T3)) (w.heap.size + 1 + 1) v3 := Blk.next v3 T3 (by simp)

end Go.Proofs.Ytikhfacgoglcfaa
