/-
  What the model's test of tanks answers: the plain test, at every list; no memory is written.
-/
import Derived.Test.YtbaocifpifbldajBurnPure
import Derived.Test.YtbaocifpifbldajSmall
namespace Go.Proofs.Ytbaocifpifbldaj
open Go.RowKit

set_option maxHeartbeats 1000000 in
theorem l2Tanks_any (ad : Option Addr) (len cap : Nat) (ps : List (Int × Int)) (w : World) (hr : Row2 w ad len ps) :
    Calls Try.prog 50 #[.slice ad len cap] w fun e w' => e = .returned (.bool (tanksB ps)) ∧ w' = w := by
  have hz := hr.len_eq
  have hs := hr.small
  have HO := hide hr.open_
  clear hr
  subst hz
  go_enter Try.func50, Try.ntmps50
  go_wp2
  go_loopw [3] (fun i wr => ∃ k : Nat, k ≤ ps.length ∧ i = .int .i64 k ∧ Hid (∀ j, j < k → itemB (fstAt ps j) (sndAt ps j) = true) ∧ wr = w) (fun i _ => ps.length - (intOf i).toNat)
  case atStart => exact ⟨0, Nat.zero_le _, rfl, (fun j hj => by omega), rfl⟩
  case round =>
    obtain ⟨k, hk, rfl, hall, hwr⟩ := hrel
    subst wr
    by_cases hlt : k < ps.length
    · rcases (unhide HO) with ⟨h0, _⟩ | ⟨bb, off, rfl, _, hc⟩
      · omega
      obtain ⟨ca, cb⟩ := hc k hlt
      have hi1 : (k : Int) < (ps.length : Int) := by omega
      clear hc
      cases hm : inB (fstAt ps k) 0 10000
      · have HE := hide (tanks_bad hlt (show itemB (fstAt ps k) (sndAt ps k) = false from by simp [itemB, hm]))
        go_wp2_with (go_at_call 38; refine (l1In_any _ _ _ _).mono ?_; rintro e w' ⟨rfl, hw⟩; subst w')
        go_ret
        exact ⟨ret_bool (unhide HE).symm, rfl⟩
      · cases ha : inB (sndAt ps k) (-1000) 1000
        · have HE := hide (tanks_bad hlt (show itemB (fstAt ps k) (sndAt ps k) = false from by simp [itemB, ha]))
          go_wp2_with (go_at_call 38; refine (l1In_any _ _ _ _).mono ?_; rintro e w' ⟨rfl, hw⟩; subst w')
          go_ret
          exact ⟨ret_bool (unhide HE).symm, rfl⟩
        · have HE := hide (show itemB (fstAt ps k) (sndAt ps k) = true from by simp [itemB, ha, hm])
          go_wp2_with (go_at_call 38; refine (l1In_any _ _ _ _).mono ?_; rintro e w' ⟨rfl, hw⟩; subst w')
          go_roundw
          case rel => exact ⟨k + 1, by omega, by go_num, (fun j hj => by rcases Nat.lt_succ_iff_lt_or_eq.1 hj with h | h; exact hall.out j h; subst h; exact unhide HE), by first | rfl | trivial⟩
          case measure => simp [intOf]; omega
    · have HE := hide (tanks_len (ts := ps) fun j hj => hall.out j (by omega))
      by_cases h8 : ps.length ≤ 8
      · have h8' : (ps.length : Int) ≤ 8 := by omega
        go_wp2
        go_ret
        exact ⟨ret_bool (by rw [unhide HE]; simp [h8]), rfl⟩
      · have h8' : ¬ (ps.length : Int) ≤ 8 := by omega
        go_wp2
        go_ret
        exact ⟨ret_bool (by rw [unhide HE]; simp; omega), rfl⟩
theorem l2Tanks_is {c : Bool} (ad : Option Addr) (len cap : Nat) (ps : List (Int × Int)) (w : World) (hc : tanksB ps = c) (hr : Row2 w ad len ps) :
    Calls Try.prog 50 #[.slice ad len cap] w fun e w' => e = .returned (.bool c) ∧ w' = w := by
  subst hc; exact l2Tanks_any ad len cap ps w hr

end Go.Proofs.Ytbaocifpifbldaj
