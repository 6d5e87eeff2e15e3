/-
  Where this program holds the library's lock, and what Lock and Unlock of a free one do. No condition beyond that it is free.
-/
import Derived.Test.YtfnnfldfnjnlfahChecked
import Derived.Conc.MuLone
namespace Go.Proofs.Ytfnnfldfnjnlfah
open Go

abbrev muLk : Go.Conc.Locks.MuLink := { lock := 66, unlock := 67, ilock := 79, iunlock := 80, lockSlow := 100, unlockSlow := 103, disable := 96, enable := 98, acquire := 99, relMerge := 101, cas32 := 97, add32 := 102, tMutex := 112, tIMutex := 110, tPMutex := 125, tPIMutex := 141, tPI32 := 143, tUP := 145, tNoCopy := 107, tU32 := 108 }
theorem muLb : Go.Conc.Locks.MuLib Try.prog muLk :=
  ⟨Try.func66, Try.func67, Try.func79, Try.func80, Try.func96, Try.func98, Try.func99, Try.func101, Try.func97, Try.func102, Try.underlying110, Try.runUnderlying110, Try.sizeOf110, Try.isAgg110, Try.zeroValue110, Try.underlying112, Try.runUnderlying112, Try.sizeOf112, Try.isAgg112, Try.zeroValue112, Try.underlying125, Try.runUnderlying125, Try.sizeOf125, Try.isAgg125, Try.zeroValue125, Try.underlying141, Try.runUnderlying141, Try.sizeOf141, Try.isAgg141, Try.zeroValue141, Try.underlying143, Try.runUnderlying143, Try.sizeOf143, Try.isAgg143, Try.zeroValue143, Try.underlying145, Try.runUnderlying145, Try.sizeOf145, Try.isAgg145, Try.zeroValue145, Try.underlying107, Try.runUnderlying107, Try.sizeOf107, Try.isAgg107, Try.zeroValue107, Try.underlying21, Try.runUnderlying21, Try.sizeOf21, Try.isAgg21, Try.zeroValue21, (by kernel_rfl)⟩
theorem muLock (a : Addr) (w : World) (hc : w.cell? a = some (.int .i32 0)) (hz : w.frozen? a = false) :
    Calls Try.prog 66 #[.pointer (some a)] w fun e w' => e = .returned (.tuple #[]) ∧ w' = w.setCell a (.int .i32 1) := Go.MuLone.lock_free muLb a w hc hz
theorem muUnlock (a : Addr) (u : FrameMode) (w : World) (hc : w.cell? a = some (.int .i32 1)) (hz : w.frozen? a = false) :
    CallsD Try.prog 67 #[.pointer (some a)] u w fun e u' w' => u' = u ∧ (e = .returned (.tuple #[]) ∧ w' = w.setCell a (.int .i32 0)) := Go.MuLone.unlock_deferred muLb a u w hc hz

end Go.Proofs.Ytfnnfldfnjnlfah
