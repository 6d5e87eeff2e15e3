/-
  Whether texts rise, as the program asks it: the plain answer, at every list; nothing that was there is written.
-/
import Derived.Test.YtemodlgmjgdjpaaGreatDoorMWrOrd
import Derived.Test.YtemodlgmjgdjpaaGreatDoorMMarkText
import Derived.Laws.Cover1
namespace Go.Proofs.YtemodlgmjgdjpaaGreatDoor
open Go.RowKit

set_option maxHeartbeats 1000000 in
theorem ascS_any (ad : Option Addr) (len cap : Nat) (ts : List ByteArray) (w : World) (hr : RowE 1 stC w ad len ts) :
    Calls Tryz.prog 84 #[.slice ad len cap] w fun e w' => e = .returned (.bool (riseS ts)) ∧ ∃ n, w' = w.drewN n := by
  have hz := hr.len_eq
  have hs := hr.small
  have hopen := hr.open1
  clear hr
  subst hz
  go_enter Tryz.func84, Tryz.ntmps84
  go_wp2
  go_loopw [3] (fun i wr => ∃ k n : Nat, i = .int .i64 ((k : Int) + 1) ∧ k ≤ ts.length ∧ Hid (∀ j, j < k → j + 1 < ts.length → sLt (elAt ts j) (elAt ts (j + 1)) = true) ∧ wr = w.drewN n) (fun i _ => ts.length + 1 - (intOf i).toNat)
  case atStart => exact ⟨0, 0, rfl, by omega, hide (fun j hj => by omega), rfl⟩
  case round =>
    obtain ⟨k, n, rfl, hk, hall, rfl⟩ := hrel
    by_cases hlt : k + 1 < ts.length
    · rcases hopen with ⟨h0, _⟩ | ⟨bb, off, rfl, _, hc⟩
      · omega
      have hc1 : w.cell? ⟨bb, off + k, none⟩ = some (.string (elAt ts k)) := hc k (by omega)
      have hc2 : w.cell? ⟨bb, off + (k + 1), none⟩ = some (.string (elAt ts (k + 1))) := hc (k + 1) hlt
      have hi1 : (0 : Int) ≤ (k : Int) := by omega
      have hi2 : (k : Int) < (ts.length : Int) := by omega
      have hi3 : (k : Int) + 1 < (ts.length : Int) := by omega
      have hi4 : ((k : Int) + 1).toNat = k + 1 := by omega
      have HD : Hid (sLt (elAt ts k) (elAt ts (k + 1)) = Op.bytesLess (elAt ts k).toList (elAt ts (k + 1)).toList) := hide rfl
      obtain ⟨x, hx⟩ : ∃ x, elAt ts k = x := ⟨_, rfl⟩
      obtain ⟨y, hy⟩ : ∃ y, elAt ts (k + 1) = y := ⟨_, rfl⟩
      rw [hx] at hc1
      rw [hy] at hc2
      rw [hx, hy] at HD
      have HX := hide hx
      have HY := hide hy
      clear hc hx hy
      have HOR : Hid ((Op.bytesLess y.toList x.toList || y.toList == x.toList) = !Op.bytesLess x.toList y.toList) := hide (sLt_or x y)
      cases hin : Op.bytesLess x.toList y.toList with
      | true =>
        rw [hin] at HD HOR
        have q1 : Op.bytesLess y.toList x.toList = false := by have := unhide HOR; simp at this; exact this.1
        have q2 : (y.toList == x.toList) = false := by have := unhide HOR; simp at this; simpa using this.2
        go_wp2
        go_quiet (fail)
        go_wp2
        go_roundw
        case rel => exact ⟨k + 1, _, by go_num, by omega, hide (fun j hj h2 => by rcases Nat.lt_succ_iff_lt_or_eq.1 hj with h | h; exact unhide hall j h h2; subst h; rw [unhide HX, unhide HY]; exact unhide HD), rfl⟩
        case measure => simp [intOf]; omega
      | false =>
        rw [hin] at HD HOR
        have q1 : (Op.bytesLess y.toList x.toList || y.toList == x.toList) = true := unhide HOR
        rcases Bool.or_eq_true_iff.1 q1 with q2 | q2
        all_goals
          clear q1
          go_wp2
          go_quiet (fail)
          go_wp2
          go_ret
          exact ⟨ret_bool (riseS_false hlt (by rw [unhide HX, unhide HY]; exact unhide HD)).symm, dn2 _ _ _⟩
    · have hi3 : ¬ (k : Int) + 1 < (ts.length : Int) := by omega
      go_wp2
      go_ret
      exact ⟨ret_bool (riseS_true fun j hj => unhide hall j (by omega) hj).symm, n, rfl⟩

end Go.Proofs.YtemodlgmjgdjpaaGreatDoor
