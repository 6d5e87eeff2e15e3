/-
  What the fractions of the model and of the program are: lowest terms by the greatest common divisor, the same in both, wherever the numerator is at most 10^15 either way and the denominator in 1 .. 10^15; nothing that was there is written.
  Two, three, four variables in blocks of their own, one laid behind the other. No condition.
-/
import Derived.Test.YtfnnfldfnjnlfagMBlk

namespace Go.Proofs.Ytfnnfldfnjnlfag
open Go.RowKit

def fracN (n d : Int) : Int := n.tdiv (Int.gcd n d)
def fracD (n d : Int) : Int := d / (Int.gcd n d)

theorem gcd_stepT (a b : Int) : Int.gcd b (a.tmod b) = Int.gcd a b := by
  unfold Int.gcd
  rw [Int.natAbs_tmod, Nat.gcd_comm a.natAbs b.natAbs, Nat.gcd_comm b.natAbs (a.natAbs % b.natAbs), ← Nat.gcd_rec]
theorem gcd_stepE (a b : Int) (ha : 0 ≤ a) : Int.gcd b (a % b) = Int.gcd a b := by
  have e : a.tmod b = a % b := Int.tmod_eq_emod_of_nonneg ha
  rw [← e]; exact gcd_stepT a b
theorem gcd_pos (n d : Int) (h : 1 ≤ d) : (1 : Int) ≤ (Int.gcd n d : Int) := by
  have : 0 < Int.gcd n d := Nat.gcd_pos_of_pos_right _ (by omega)
  omega
theorem gcd_le (n d : Int) (h : 1 ≤ d) : (Int.gcd n d : Int) ≤ d := by
  have : Int.gcd n d ≤ d.natAbs := Nat.gcd_le_right _ (by omega)
  omega

/-- The copying of two numbers by Euclid, both at least 0. -/
theorem emod_lt (a b : Int) (hb : 0 < b) : 0 ≤ a % b ∧ a % b < b := ⟨Int.emod_nonneg _ (by omega), Int.emod_lt_of_pos _ hb⟩

end Go.Proofs.Ytfnnfldfnjnlfag

namespace Go.Proofs.Ytfnnfldfnjnlfag
open Go.RowKit

theorem Blk.next {w : World} {B : Nat} (vs : List Value) (T : TypeId) (h : w.heap.size = B) : Blk (w.alloc (Obj.cells vs.toArray T)) B vs := by
  subst h; exact Blk.new vs T
theorem blkAt2_0 {w : World} {v1 v2 : List Value} {T1 T2 : TypeId} : Blk ((w.alloc (Obj.cells v1.toArray T1)).alloc (Obj.cells v2.toArray T2)) w.heap.size v1 := (Blk.new v1 T1).alloc _
theorem blkAt2_1 {w : World} {v1 v2 : List Value} {T1 T2 : TypeId} : Blk ((w.alloc (Obj.cells v1.toArray T1)).alloc (Obj.cells v2.toArray T2)) (w.heap.size + 1) v2 := Blk.next v2 T2 (by simp)
theorem blkAt3_0 {w : World} {v1 v2 v3 : List Value} {T1 T2 T3 : TypeId} : Blk (((w.alloc (Obj.cells v1.toArray T1)).alloc (Obj.cells v2.toArray T2)).alloc (Obj.cells v3.toArray T3)) w.heap.size v1 := blkAt2_0.alloc _
theorem blkAt3_1 {w : World} {v1 v2 v3 : List Value} {T1 T2 T3 : TypeId} : Blk (((w.alloc (Obj.cells v1.toArray T1)).alloc (Obj.cells v2.toArray T2)).alloc (Obj.cells v3.toArray T3)) (w.heap.size + 1) v2 := blkAt2_1.alloc _
theorem blkAt3_2 {w : World} {v1 v2 v3 : List Value} {T1 T2 T3 : TypeId} : Blk (((w.alloc (Obj.cells v1.toArray T1)).alloc (Obj.cells v2.toArray T2)).alloc (Obj.cells v3.toArray T3)) (w.heap.size + 1 + 1) v3 := Blk.next v3 T3 (by simp)

end Go.Proofs.Ytfnnfldfnjnlfag
