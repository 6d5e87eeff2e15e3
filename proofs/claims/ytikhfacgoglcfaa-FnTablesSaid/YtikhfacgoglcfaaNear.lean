/-
  What the program's neighbours answers: the two numbers from a place on, as a slice of the list itself, without spare room; no memory is written. The list has two numbers from that place on.
-/
import Derived.Test.YtikhfacgoglcfaaSmall
namespace Go.Proofs.Ytikhfacgoglcfaa
open Go.RowKit

theorem Row.two {w : World} {bb off len : Nat} {zs : List Int} (h : Row w (some ⟨bb, off, none⟩) len zs) (k : Nat) (hk : k + 2 ≤ len) : Row w (some ⟨bb, off + k, none⟩) 2 [nth zs k, nth zs (k + 1)] := by
  refine ⟨rfl, by omega, fun i hi => ⟨_, _, rfl, ?_⟩, fun i => ?_⟩
  · obtain ⟨b', off', ha, hc⟩ := h.cells (k + i) (by omega)
    simp only [Option.some.injEq, Addr.mk.injEq, and_true] at ha
    obtain ⟨rfl, rfl⟩ := ha
    have e : nth [nth zs k, nth zs (k + 1)] i = nth zs (k + i) := by
      rcases i with _ | _ | i
      · rfl
      · rfl
      · omega
    rw [e, Nat.add_assoc]
    exact hc
  · rcases i with _ | _ | i
    · exact h.fit k
    · exact h.fit (k + 1)
    · simp [nth]

set_option maxHeartbeats 400000 in
theorem neighbours_any (bb off len cap k : Nat) (w : World) (hk : k + 2 ≤ len) (hc : len ≤ cap) (hl : len ≤ 9223372036854775000) :
    Calls Try.prog 16 #[.slice (some ⟨bb, off, none⟩) len cap, .int .i64 k] w fun e w' => e = .returned (.slice (some ⟨bb, off + k, none⟩) 2 2) ∧ w' = w := by
  have hk1 : (0 : Int) ≤ (k : Int) := by omega
  have hk2 : (k : Int) + 2 ≤ (len : Int) := by omega
  have hk3 : (k : Int) + 2 ≤ (cap : Int) := by omega
  go_enter Try.func16, Try.ntmps16
  go_wp2
  go_ret
  refine ⟨?_, rfl⟩
  show Ending.returned (.slice (some ⟨bb, off + k, none⟩) (k + 2 - k) (k + 2 - k)) = _
  rw [show k + 2 - k = 2 from by omega]

end Go.Proofs.Ytikhfacgoglcfaa
