/-
  What Monitor answers in the model and in the program: the plain place. At every list and all numbers; nothing that was there is written.
-/
import Derived.Test.YthjaldlnlcjljadSmall
import Derived.Test.YthjaldlnlcjljadMonPure
namespace Go.Proofs.Ythjaldlnlcjljad
open Go.RowKit

set_option maxHeartbeats 1000000 in
theorem implMonitor_any (ad : Option Addr) (len cap : Nat) (zs : List Int) (lo hi hold : Int) (w : World) (hr : Row w ad len zs) :
    Calls Try.prog 15 #[.slice ad len cap, .int .i64 lo, .int .i64 hi, .int .i64 hold] w fun e w' => e = .returned (.tuple #[.int .i64 (monI zs lo hi hold), .bool (monB zs lo hi hold)]) ∧ ∃ n, w' = w.drewN n := by
  have hs := hr.small
  have hz := hr.len_eq
  have HO := hide hr.open_
  clear hr
  by_cases hl : 500 < len
  · have HE := hide (mon_long (lo := lo) (hi := hi) (hold := hold) (show 500 < zs.length by omega))
    have hl' : (500 : Int) < (len : Int) := by omega
    clear hz hl
    go_enter Try.func15, Try.ntmps15
    go_wp2_with fail
    go_ret2
    exact ⟨ret_ib (unhide HE).1.symm (unhide HE).2.symm, 0, rfl⟩
  have hl' : ¬ (500 : Int) < (len : Int) := by omega
  have HL : Hid (zs.length ≤ 500) := hide (by omega)
  have HLE : Hid (len ≤ 500) := hide (by omega)
  have HZ := hide hz
  clear hz hl
  by_cases ht : hi < lo
  · have HE := hide (mon_turned (zs := zs) (hold := hold) ht)
    go_enter Try.func15, Try.ntmps15
    go_wp2_with fail
    go_ret2
    exact ⟨ret_ib (unhide HE).1.symm (unhide HE).2.symm, 0, rfl⟩
  have HT : Hid (lo ≤ hi) := hide (by omega)
  cases hh : inB hold 1 100 with
  | false =>
    have HE := hide (mon_hold (zs := zs) (lo := lo) (hi := hi) hh)
    go_enter Try.func15, Try.ntmps15
    go_wp2_with (go_at_call 16; refine (within_is _ _ _ _ hh).mono ?_; rintro e w' ⟨rfl, hw⟩; subst w')
    go_ret2
    exact ⟨ret_ib (unhide HE).1.symm (unhide HE).2.symm, 0, rfl⟩
  | true =>
    have OK := hide (mon_ok (unhide HL) (unhide HT) hh)
    have hb := inB_bounds hh
    go_enter Try.func15, Try.ntmps15
    go_wp2_with (go_at_call 16; refine (within_is _ _ _ _ hh).mono ?_; rintro e w' ⟨rfl, hw⟩; subst w')
    clear hh
    go_loopw [10, 28] (fun q i wr => ∃ k : Nat, q = .int .i64 (rowTo zs lo hi k : Int) ∧ i = .int .i64 (k : Int) ∧ k ≤ len ∧ Hid (∀ j, j < k → (rowTo zs lo hi (j + 1) : Int) < hold) ∧ (rowTo zs lo hi k : Int) < hold ∧ wr = w) (fun _ i _ => len - (intOf i).toNat)
    case atStart => exact ⟨0, rfl, rfl, Nat.zero_le _, hide (fun j hj => by omega), (by simp [rowTo]; omega), rfl⟩
    case round =>
      obtain ⟨k, rfl, rfl, hk, HJ, hq, hwr⟩ := hrel
      subst wr
      have hq0 : (0 : Int) ≤ (rowTo zs lo hi k : Int) := by omega
      by_cases hlt : k < len
      · rcases (unhide HO) with ⟨h0, _⟩ | ⟨bb, off, rfl, _, hc⟩
        · omega
        have hc1 := hc k hlt
        have hi1 : (0 : Int) ≤ (k : Int) := by omega
        have hi2 : (k : Int) < (len : Int) := by omega
        have HLT : Hid (k < zs.length) := hide (by rw [unhide HZ]; exact hlt)
        clear hc
        cases hin : inB (nth zs k) lo hi with
        | true =>
          have HN := hide (rowTo_in hin)
          have HIN := hide hin
          clear hin
          have hz0 : ¬ hold ≤ 0 := by omega
          have hz1 : ¬ (0 : Int) = hold := by omega
          go_wp2_with (go_at_call 16; refine (within_is _ _ _ _ (unhide HIN)).mono ?_; rintro e w' ⟨rfl, hw⟩; subst w')
          go_roundw
          case rel => exact ⟨k + 1, by rw [unhide HN]; rfl, by go_num, by omega, hide (fun j hj => by rcases Nat.lt_succ_iff_lt_or_eq.1 hj with h | h; exact unhide HJ j h; subst h; rw [unhide HN]; simp; omega), by rw [unhide HN]; simp; omega, by first | rfl | trivial⟩
          case measure => simp [intOf]; omega
        | false =>
          have HN := hide (rowTo_out hin)
          have HIN := hide hin
          clear hin
          by_cases he : (rowTo zs lo hi k : Int) + 1 = hold
          · have HE := hide (mon_hit (unhide OK) (unhide HLT) (unhide HJ) (by rw [unhide HN]; simp; omega))
            have he1 : hold ≤ (rowTo zs lo hi k : Int) + 1 := by omega
            have he2 : ((rowTo zs lo hi k : Int) + 1 == hold) = true := by simp [he]
            clear he
            go_wp2_with (go_at_call 16; refine (within_is _ _ _ _ (unhide HIN)).mono ?_; rintro e w' ⟨rfl, hw⟩; subst w')
            go_ret2
            exact ⟨ret_ib (unhide HE).1.symm (unhide HE).2.symm, 0, rfl⟩
          · have he1 : ¬ hold ≤ (rowTo zs lo hi k : Int) + 1 := by omega
            go_wp2_with (go_at_call 16; refine (within_is _ _ _ _ (unhide HIN)).mono ?_; rintro e w' ⟨rfl, hw⟩; subst w')
            go_roundw
            case rel => exact ⟨k + 1, by rw [unhide HN]; go_num, by go_num, by omega, hide (fun j hj => by rcases Nat.lt_succ_iff_lt_or_eq.1 hj with h | h; exact unhide HJ j h; subst h; rw [unhide HN]; simp; omega), by rw [unhide HN]; simp; omega, by first | rfl | trivial⟩
            case measure => simp [intOf]; omega
      · have HE := hide (mon_none (unhide OK) (fun j hj => unhide HJ j (by rw [unhide HZ] at hj; omega)))
        have hi3 : ¬ (k : Int) < (len : Int) := by omega
        go_wp2_with fail
        go_ret2
        exact ⟨ret_ib (unhide HE).1.symm (unhide HE).2.symm, 0, rfl⟩

end Go.Proofs.Ythjaldlnlcjljad
