/-
  The sum of a frame's bytes, of the model: by the lowest eight bits. At every list of bytes; nothing is written.
-/
import Derived.Test.YtnhcmokkankcmayBuPure
import Derived.Test.YtnhcmokkankcmayRowBy
namespace Go.Proofs.Ytnhcmokkankcmay
open Go.RowKit

/-- The sum behind k bytes. -/
def smK (zs : List Int) : Nat → Int
  | 0 => 0
  | k + 1 => (smK zs k * 3 % 256 + elAt zs k) % 256
def smB (zs : List Int) : Int := smK zs zs.length
theorem ret_u8 {a b : Int} (h : a = b) : Ending.returned (.int .u8 a) = .returned (.int .u8 b) := by rw [h]
theorem smK_bd (zs : List Int) : ∀ k, 0 ≤ smK zs k ∧ smK zs k ≤ 255
  | 0 => by simp [smK]
  | k + 1 => by unfold smK; omega
set_option maxRecDepth 20000 in
set_option maxHeartbeats 1000000 in
theorem l16Sum_is {r : Int} (ad : Option Addr) (len cap : Nat) (zs : List Int) (w : World) (hr : RowE 1 byC w ad len zs) (hc : smB zs = r) :
    Calls Try.prog 42 #[.slice ad len cap] w fun e w' => e = .returned (.int .u8 r) ∧ ∃ n, w' = w.drewN n := by
  have hz := hr.len_eq
  have hs := hr.small
  have HO := hide hr.open1
  have HC := hide hc
  clear hr hc
  subst hz
  go_enter Try.func42, Try.ntmps42
  go_wp2_with fail
  go_loopw [3, 4] (fun s3 s4 wr => ∃ (k n : Nat) (x : Int), k ≤ zs.length ∧ s3 = .int .u8 x ∧ s4 = .int .i64 (k : Int) ∧ Hid (smK zs k = x) ∧ wr = w.drewN n) (fun _ s4 _ => zs.length - (intOf s4).toNat)
  case atStart => exact ⟨0, 0, 0, Nat.zero_le _, rfl, rfl, hide rfl, rfl⟩
  case round =>
    obtain ⟨k, n, x, hk, rfl, rfl, HK, rfl⟩ := hrel
    by_cases hlt : k < zs.length
    · rcases (unhide HO) with ⟨h0, _⟩ | ⟨bb, off, rfl, _, hcs⟩
      · omega
      have m0 : w.cell? ⟨bb, off + k, none⟩ = some (.int .u8 (elAt zs k)) := hcs k hlt
      have k0 : (0 : Int) ≤ (k : Int) := by omega
      have k1 : (k : Int) < (zs.length : Int) := by omega
      clear hcs
      go_wp2_with fail
      go_roundw
      case rel => exact ⟨k + 1, _, _, by omega, rfl, by go_num, hide (by rw [smK, unhide HK]), by first | rfl | exact rfl⟩
      case measure => simp [intOf]; omega
    · have hkl : k = zs.length := by omega
      have HE : Hid (smB zs = x) := hide (by rw [smB, ← hkl]; exact unhide HK)
      have k1 : ¬ (k : Int) < (zs.length : Int) := by omega
      clear hkl
      go_wp2_with fail
      go_ret
      exact ⟨ret_u8 ((unhide HE).symm.trans (unhide HC)), n, rfl⟩

end Go.Proofs.Ytnhcmokkankcmay
