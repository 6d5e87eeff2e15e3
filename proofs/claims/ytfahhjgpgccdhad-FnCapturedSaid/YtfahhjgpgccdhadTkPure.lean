/-
  Ticks one after the other: the pilots behind each, plainly. No condition.
-/
import Derived.Test.YtfahhjgpgccdhadApPure
namespace Go.Proofs.Ytfahhjgpgccdhad
open Go.RowKit

/-- The pilot behind k ticks. -/
def tkP (p : Pl) (zs : List Int) : Nat → Pl
  | 0 => p
  | k + 1 => tickP (tkP p zs k) (nth zs k)
/-- The pilots behind each of k ticks. -/
def tkL (p : Pl) (zs : List Int) : Nat → List Pl
  | 0 => []
  | k + 1 => tkL p zs k ++ [tkP p zs (k + 1)]
def tkB (p : Pl) (zs : List Int) : Bool := apOk p && !(decide (300 < (zs.length : Int))) && allB zs (-100) 100
def tkR (p : Pl) (zs : List Int) : List Pl := if tkB p zs = true then tkL p zs zs.length else []
theorem tkL_len (p : Pl) (zs : List Int) : ∀ k, (tkL p zs k).length = k
  | 0 => rfl
  | k + 1 => by simp [tkL, tkL_len p zs k]
theorem tkB_len {p : Pl} {zs : List Int} (h : tkB p zs = true) : zs.length ≤ 300 := by
  simp only [tkB, Bool.and_eq_true, Bool.not_eq_true', decide_eq_false_iff_not] at h; omega
theorem tkR_small (p : Pl) (zs : List Int) : (tkR p zs).length ≤ 1048576 := by
  unfold tkR; split
  · rw [tkL_len]; have := tkB_len ‹_›; omega
  · simp

end Go.Proofs.Ytfahhjgpgccdhad
