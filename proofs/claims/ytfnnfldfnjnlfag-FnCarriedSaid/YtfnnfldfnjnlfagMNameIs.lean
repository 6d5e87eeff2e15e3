/-
  What the model's l1Name and the program's nameOk answer: whether a text is a name. At every text; nothing is written.
  What the program's CarryOk answers: the plain answer, at every list; nothing that was there is written.
-/
import Derived.Test.YtfnnfldfnjnlfagSmall
import Derived.Test.YtfnnfldfnjnlfagMLowPure
import Derived.Test.YtfnnfldfnjnlfagMAscS
import Derived.Test.YtfnnfldfnjnlfagTaAlert

namespace Go.Proofs.Ytfnnfldfnjnlfag
open Go.RowKit

set_option maxHeartbeats 2000000 in
theorem nameByte_any (c : Int) (w : World) (h : 0 ≤ c ∧ c ≤ 255) :
    Calls Try.prog 92 #[.int .u8 c] w fun e w' => e = .returned (.bool (byteB c)) ∧ w' = w := by
  by_cases a1 : 97 ≤ c <;> by_cases a2 : c ≤ 122 <;> (try (exfalso; omega)) <;> by_cases a3 : 65 ≤ c <;> by_cases a4 : c ≤ 90 <;> (try (exfalso; omega)) <;> by_cases a5 : 48 ≤ c <;> by_cases a6 : c ≤ 57 <;> (try (exfalso; omega)) <;> by_cases a7 : c = 45 <;> (try (exfalso; omega))
  all_goals
    first
    | have HE : Hid (byteB c = true) := hide (by simp [byteB, inB]; omega)
    | have HE : Hid (byteB c = false) := hide (by simp [byteB, inB]; omega)
    go_enter Try.func92, Try.ntmps92
    go_wp2
    try rw [Exit.noGoto_ret]
    go_ret
    first
    | exact ⟨ret_bool (unhide HE).symm, rfl⟩
    | exact ⟨ret_bool (by rw [unhide HE]; simpa using a7), rfl⟩
    | exact ⟨ret_bool (by decide), rfl⟩

set_option maxHeartbeats 1000000 in
theorem nameOk_any (s : ByteArray) (w : World) (hs : s.size ≤ 9223372036854775807) :
    Calls Try.prog 59 #[.string s] w fun e w' => e = .returned (.bool (nameB s)) ∧ w' = w := by
  cases h : inB s.size 1 20 with
  | false =>
    have HE := hide (nameB_size h)
    go_enter Try.func59, Try.ntmps59
    go_wp2_with fail
    refine (within_is _ _ _ _ h).mono ?_
    rintro e w' ⟨rfl, hw⟩
    subst w'
    go_wp2_with fail
    go_ret
    exact ⟨ret_bool (unhide HE).symm, rfl⟩
  | true =>
    have hb := in_facts h
    go_enter Try.func59, Try.ntmps59
    go_wp2_with fail
    refine (within_is _ _ _ _ h).mono ?_
    rintro e w' ⟨rfl, hw⟩
    subst w'
    have HH := hide h
    clear h
    go_wp2_with fail
    go_loopw [10] (fun i wr => ∃ k : Nat, k ≤ s.size ∧ i = .int .i64 k ∧ Hid (∀ j, j < k → byteB (byAt s j) = true) ∧ wr = w) (fun i _ => s.size - (intOf i).toNat)
    case atStart => exact ⟨0, Nat.zero_le _, rfl, hide (fun j hj => by omega), rfl⟩
    case round =>
      obtain ⟨k, hk, rfl, HN, hwr⟩ := hrel
      subst wr
      by_cases hlt : k < s.size
      · have hi1 : (k : Int) < (s.size : Int) := by omega
        have hi0 : (0 : Int) ≤ (k : Int) := by omega
        have hby := byAt_is hlt
        have hbd := byAt_bd s k
        cases hc : byteB (byAt s k) with
        | false =>
          have HE := hide (nameB_at hlt hc)
          have HC := hide hc
          clear hc
          go_wp2_with fail
          refine (nameByte_any _ _ hbd).mono ?_
          rintro e w' ⟨rfl, hw⟩
          subst w'
          have hc := unhide HC
          go_wp2_with fail
          go_ret
          exact ⟨ret_bool (unhide HE).symm, rfl⟩
        | true =>
          have HC := hide hc
          clear hc
          go_wp2_with fail
          refine (nameByte_any _ _ hbd).mono ?_
          rintro e w' ⟨rfl, hw⟩
          subst w'
          have hc := unhide HC
          go_wp2_with fail
          go_roundw
          case rel => exact ⟨k + 1, by omega, by go_num, hide (fun j hj => by rcases Nat.lt_succ_iff_lt_or_eq.1 hj with h | h; exact unhide HN j h; subst h; exact unhide HC), trivial⟩
          case measure => simp [intOf]; omega
      · have HE : Hid (nameB s = true) := hide ((nameB_all (fun j hj => unhide HN j (by omega))).trans (unhide HH))
        go_wp2_with fail
        go_ret
        exact ⟨ret_bool (unhide HE).symm, rfl⟩

set_option maxHeartbeats 2000000 in
theorem l1Name_any (s : ByteArray) (w : World) (hs : s.size ≤ 9223372036854775807) :
    Calls Try.prog 97 #[.string s] w fun e w' => e = .returned (.bool (nameB s)) ∧ w' = w := by
  go_enter Try.func97, Try.ntmps97
  go_wp2_with fail
  go_loopw [3] (fun i wr => ∃ k : Nat, k ≤ s.size ∧ i = .int .i64 k ∧ Hid (∀ j, j < k → byteB (byAt s j) = true) ∧ wr = w) (fun i _ => s.size - (intOf i).toNat)
  case atStart => exact ⟨0, Nat.zero_le _, rfl, hide (fun j hj => by omega), rfl⟩
  case round =>
    obtain ⟨k, hk, rfl, HN, hwr⟩ := hrel
    subst wr
    by_cases hlt : k < s.size
    · have hi1 : (k : Int) < (s.size : Int) := by omega
      have hi0 : (0 : Int) ≤ (k : Int) := by omega
      have hby := byAt_is hlt
      have hbd := byAt_bd s k
      have HW : Hid (byteB (byAt s k) = (inB (byAt s k) 97 122 || inB (byAt s k) 65 90 || inB (byAt s k) 48 57 || decide (byAt s k = 45))) := hide rfl
      cases g1 : inB (byAt s k) 97 122 with
      | true =>
        have HB : Hid (byteB (byAt s k) = true) := hide (by rw [unhide HW, g1]; simp)
        go_wp2_with (go_at_call 98; refine (l1In_any _ _ _ _).mono ?_; rintro e w' ⟨rfl, hw⟩; subst w')
        go_roundw
        case rel => exact ⟨k + 1, by omega, by go_num, hide (fun j hj => by rcases Nat.lt_succ_iff_lt_or_eq.1 hj with h | h; exact unhide HN j h; subst h; exact unhide HB), trivial⟩
        case measure => simp [intOf]; omega
      | false =>
      cases g2 : inB (byAt s k) 65 90 with
      | true =>
        have HB : Hid (byteB (byAt s k) = true) := hide (by rw [unhide HW, g2]; simp)
        go_wp2_with (go_at_call 98; refine (l1In_any _ _ _ _).mono ?_; rintro e w' ⟨rfl, hw⟩; subst w')
        go_roundw
        case rel => exact ⟨k + 1, by omega, by go_num, hide (fun j hj => by rcases Nat.lt_succ_iff_lt_or_eq.1 hj with h | h; exact unhide HN j h; subst h; exact unhide HB), trivial⟩
        case measure => simp [intOf]; omega
      | false =>
      cases g3 : inB (byAt s k) 48 57 with
      | true =>
        have HB : Hid (byteB (byAt s k) = true) := hide (by rw [unhide HW, g3]; simp)
        go_wp2_with (go_at_call 98; refine (l1In_any _ _ _ _).mono ?_; rintro e w' ⟨rfl, hw⟩; subst w')
        go_roundw
        case rel => exact ⟨k + 1, by omega, by go_num, hide (fun j hj => by rcases Nat.lt_succ_iff_lt_or_eq.1 hj with h | h; exact unhide HN j h; subst h; exact unhide HB), trivial⟩
        case measure => simp [intOf]; omega
      | false =>
      by_cases g4 : byAt s k = 45
      · have HB : Hid (byteB (byAt s k) = true) := hide (by rw [unhide HW, g1, g2, g3]; simpa using g4)
        have g5 : (byAt s k != 45) = false := by simpa using g4
        clear g4
        go_wp2_with (go_at_call 98; refine (l1In_any _ _ _ _).mono ?_; rintro e w' ⟨rfl, hw⟩; subst w')
        go_roundw
        case rel => exact ⟨k + 1, by omega, by go_num, hide (fun j hj => by rcases Nat.lt_succ_iff_lt_or_eq.1 hj with h | h; exact unhide HN j h; subst h; exact unhide HB), trivial⟩
        case measure => simp [intOf]; omega
      · have HB : Hid (byteB (byAt s k) = false) := hide (by rw [unhide HW, g1, g2, g3]; simpa using g4)
        have g5 : (byAt s k != 45) = true := by simpa using g4
        clear g4
        have HE := hide (nameB_at hlt (unhide HB))
        go_wp2_with (go_at_call 98; refine (l1In_any _ _ _ _).mono ?_; rintro e w' ⟨rfl, hw⟩; subst w')
        go_ret
        exact ⟨ret_bool (unhide HE).symm, rfl⟩
    · have HE := hide (nameB_all (fun j hj => unhide HN j (by omega)))
      go_wp2_with (go_at_call 98; refine (l1In_any _ _ _ _).mono ?_; rintro e w' ⟨rfl, hw⟩; subst w')
      go_ret
      exact ⟨ret_bool (unhide HE).symm, rfl⟩

end Go.Proofs.Ytfnnfldfnjnlfag

namespace Go.Proofs.Ytfnnfldfnjnlfag
open Go Go.RowKit

set_option maxRecDepth 20000 in
set_option maxHeartbeats 1000000 in
theorem crSo_any (x : Cr) (w : World) (hs : fitT x.n) :
    Calls Try.prog 42 #[.agg #[.string x.n, .int .i64 x.m, .int .i64 x.d]] w fun e w' => e = .returned (.bool (crB x)) ∧ Below w.heap.size w w' := by
  rcases three (nameB x.n) (inB x.m 0 10) (inB x.d 0 120) with ⟨q1, hv⟩ | ⟨q1, q2, hv⟩ | ⟨q1, q2, q3, hv⟩ | ⟨q1, q2, q3, hv⟩
  all_goals
    have HE := hide (show crB x = _ from hv)
    rw [unhide HE]
    clear hv
    have CN : Hid (∀ W, Calls Try.prog 59 #[.string x.n] W fun e w' => e = .returned (.bool _) ∧ w' = W) := hide (fun W => by have := nameOk_any x.n W hs; rw [q1] at this; exact this)
    go_enter Try.func42, Try.ntmps42
    go_wp2_with (first | (go_at_call 59; refine (unhide CN _).mono ?_; rintro e w' ⟨rfl, hw⟩; subst w') | (go_at_call 69; refine (within_is _ _ _ _ (by first | exact q2 | exact q3)).mono ?_; rintro e w' ⟨rfl, hw⟩; subst w'))
    go_ret
    exact ⟨rfl, bel1 _⟩
set_option maxHeartbeats 1000000 in
theorem implCarryOk_any (a1 : Option Addr) (l1 c1 : Nat) (cs : List Cr) (w : World) (hr : RowE 3 crC w a1 l1 cs) (hf : ∀ i, fitT (elAt cs i).n) :
    Calls Try.prog 11 #[.slice a1 l1 c1] w fun e w' => e = .returned (.bool (caB cs)) ∧ Below w.heap.size w w' := by
  have CL := hide (listOkCr_any crB 20 a1 l1 c1 cs w (by omega) hr hf (fun x V hx _ => crSo_any x V hx))
  go_enter Try.func11, Try.ntmps11
  go_wp2_with (go_at_call 41; refine (unhide CL).mono ?_; rintro e w2 ⟨rfl, b2⟩; have B2 := hide b2; clear b2)
  go_ret
  exact ⟨rfl, unhide B2⟩

end Go.Proofs.Ytfnnfldfnjnlfag
