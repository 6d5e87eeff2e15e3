/-
  Where this program holds the library's lock, and what Lock and Unlock of a free one do. No condition beyond that it is free.
-/
import Derived.Test.YticdccdkjepifaaGreatChecked
import Derived.Conc.MuLone
namespace Go.Proofs.YticdccdkjepifaaGreat
open Go

abbrev muLk : Go.Conc.Locks.MuLink := { lock := 53, unlock := 54, ilock := 72, iunlock := 73, lockSlow := 96, unlockSlow := 99, disable := 92, enable := 94, acquire := 95, relMerge := 97, cas32 := 93, add32 := 98, tMutex := 102, tIMutex := 100, tPMutex := 118, tPIMutex := 134, tPI32 := 136, tUP := 138, tNoCopy := 97, tU32 := 98 }
theorem muLb : Go.Conc.Locks.MuLib Tryz.prog muLk :=
  ⟨Tryz.func53, Tryz.func54, Tryz.func72, Tryz.func73, Tryz.func92, Tryz.func94, Tryz.func95, Tryz.func97, Tryz.func93, Tryz.func98, Tryz.underlying100, Tryz.runUnderlying100, Tryz.sizeOf100, Tryz.isAgg100, Tryz.zeroValue100, Tryz.underlying102, Tryz.runUnderlying102, Tryz.sizeOf102, Tryz.isAgg102, Tryz.zeroValue102, Tryz.underlying118, Tryz.runUnderlying118, Tryz.sizeOf118, Tryz.isAgg118, Tryz.zeroValue118, Tryz.underlying134, Tryz.runUnderlying134, Tryz.sizeOf134, Tryz.isAgg134, Tryz.zeroValue134, Tryz.underlying136, Tryz.runUnderlying136, Tryz.sizeOf136, Tryz.isAgg136, Tryz.zeroValue136, Tryz.underlying138, Tryz.runUnderlying138, Tryz.sizeOf138, Tryz.isAgg138, Tryz.zeroValue138, Tryz.underlying97, Tryz.runUnderlying97, Tryz.sizeOf97, Tryz.isAgg97, Tryz.zeroValue97, Tryz.underlying21, Tryz.runUnderlying21, Tryz.sizeOf21, Tryz.isAgg21, Tryz.zeroValue21, (by kernel_rfl)⟩
theorem muLock (a : Addr) (w : World) (hc : w.cell? a = some (.int .i32 0)) (hz : w.frozen? a = false) :
    Calls Tryz.prog 53 #[.pointer (some a)] w fun e w' => e = .returned (.tuple #[]) ∧ w' = w.setCell a (.int .i32 1) := Go.MuLone.lock_free muLb a w hc hz
theorem muUnlock (a : Addr) (u : FrameMode) (w : World) (hc : w.cell? a = some (.int .i32 1)) (hz : w.frozen? a = false) :
    CallsD Tryz.prog 54 #[.pointer (some a)] u w fun e u' w' => u' = u ∧ (e = .returned (.tuple #[]) ∧ w' = w.setCell a (.int .i32 0)) := Go.MuLone.unlock_deferred muLb a u w hc hz

end Go.Proofs.YticdccdkjepifaaGreat
