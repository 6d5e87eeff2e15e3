/-
  Where this program holds the library's lock, and what Lock and Unlock of a free one do. No condition beyond that it is free.
-/
import Derived.Test.YtfnnfldfnjnlfagChecked
import Derived.Conc.MuLone
namespace Go.Proofs.Ytfnnfldfnjnlfag
open Go

abbrev muLk : Go.Conc.Locks.MuLink := { lock := 85, unlock := 86, ilock := 109, iunlock := 110, lockSlow := 124, unlockSlow := 127, disable := 120, enable := 122, acquire := 123, relMerge := 125, cas32 := 121, add32 := 126, tMutex := 139, tIMutex := 137, tPMutex := 156, tPIMutex := 164, tPI32 := 166, tUP := 168, tNoCopy := 134, tU32 := 135 }
theorem muLb : Go.Conc.Locks.MuLib Try.prog muLk :=
  ⟨Try.func85, Try.func86, Try.func109, Try.func110, Try.func120, Try.func122, Try.func123, Try.func125, Try.func121, Try.func126, Try.underlying137, Try.runUnderlying137, Try.sizeOf137, Try.isAgg137, Try.zeroValue137, Try.underlying139, Try.runUnderlying139, Try.sizeOf139, Try.isAgg139, Try.zeroValue139, Try.underlying156, Try.runUnderlying156, Try.sizeOf156, Try.isAgg156, Try.zeroValue156, Try.underlying164, Try.runUnderlying164, Try.sizeOf164, Try.isAgg164, Try.zeroValue164, Try.underlying166, Try.runUnderlying166, Try.sizeOf166, Try.isAgg166, Try.zeroValue166, Try.underlying168, Try.runUnderlying168, Try.sizeOf168, Try.isAgg168, Try.zeroValue168, Try.underlying134, Try.runUnderlying134, Try.sizeOf134, Try.isAgg134, Try.zeroValue134, Try.underlying21, Try.runUnderlying21, Try.sizeOf21, Try.isAgg21, Try.zeroValue21, (by kernel_rfl)⟩
theorem muLock (a : Addr) (w : World) (hc : w.cell? a = some (.int .i32 0)) (hz : w.frozen? a = false) :
    Calls Try.prog 85 #[.pointer (some a)] w fun e w' => e = .returned (.tuple #[]) ∧ w' = w.setCell a (.int .i32 1) := Go.MuLone.lock_free muLb a w hc hz
theorem muUnlock (a : Addr) (u : FrameMode) (w : World) (hc : w.cell? a = some (.int .i32 1)) (hz : w.frozen? a = false) :
    CallsD Try.prog 86 #[.pointer (some a)] u w fun e u' w' => u' = u ∧ (e = .returned (.tuple #[]) ∧ w' = w.setCell a (.int .i32 0)) := Go.MuLone.unlock_deferred muLb a u w hc hz

end Go.Proofs.Ytfnnfldfnjnlfag
