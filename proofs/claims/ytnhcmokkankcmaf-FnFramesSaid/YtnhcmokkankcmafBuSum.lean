/-
  The sum of a frame's bytes, of the model: by the lowest eight bits. At every list of bytes; nothing is written.
-/
import Derived.Test.YtnhcmokkankcmafBuPure
import Derived.Test.YtnhcmokkankcmafRowBy
namespace Go.Proofs.Ytnhcmokkankcmaf
open Go.RowKit

/-- The sum behind k bytes. -/
def smK (zs : List Int) : Nat → Int
  | 0 => 0
  | k + 1 => (smK zs k * 3 % 256 + elAt zs k) % 256
def smB (zs : List Int) : Int := smK zs zs.length
theorem ret_u8 {a b : Int} (h : a = b) : Ending.returned (.int .u8 a) = .returned (.int .u8 b) := by rw [h]
theorem smK_bd (zs : List Int) : ∀ k, 0 ≤ smK zs k ∧ smK zs k ≤ 255
  | 0 => by simp [smK]
  | k + 1 => by unfold smK; omega

end Go.Proofs.Ytnhcmokkankcmaf
