/-
  What the model's Slot16 and Gap16 answer: plain answers, at every argument; nothing that was there is written.
-/
import Derived.Test.YtnhcmokkankcmayBuSpec
namespace Go.Proofs.Ytnhcmokkankcmay
open Go.RowKit

theorem sl_no {gs : List Int} {t : Int} (h : slB16 gs t = false) : slR16 gs t = 0 := by simp [slR16, h]
theorem sl_yes {gs : List Int} {t : Int} (h : slB16 gs t = true) : slR16 gs t = nth gs (t % (gs.length : Int)).toNat := by simp [slR16, h]


end Go.Proofs.Ytnhcmokkankcmay
