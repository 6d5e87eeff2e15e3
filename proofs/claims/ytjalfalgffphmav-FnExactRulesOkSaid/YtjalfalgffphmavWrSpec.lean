/-
  What the model of chapter 14 answers of names and rules.
-/
import Derived.Test.YtjalfalgffphmavWrB
import Derived.Test.YtjalfalgffphmavWrRow
namespace Go.Proofs.Ytjalfalgffphmav
open Go.RowKit

set_option maxRecDepth 20000 in
set_option maxHeartbeats 1000000 in
theorem l14Find_any (ad : Option Addr) (len cap : Nat) (rs : List Wr) (s : ByteArray) (w : World) (hr : RowW w ad len rs) (hl : len ≤ 1048576) :
    Calls Try.prog 50 #[.slice ad len cap, .string s] w fun e w' => e = .returned (.int .i64 (wfI rs s)) ∧ w' = w := by
  have hz := hr.len_eq
  have HO := hide hr.open_
  clear hr
  subst hz
  go_enter Try.func50, Try.ntmps50
  go_wp2_with fail
  go_loopw [5] (fun s5 wr => ∃ i : Nat, i ≤ rs.length ∧ s5 = .int .i64 (i : Int) ∧ Hid (∀ j, j < i → sEq (elAt rs j).n s = false) ∧ wr = w) (fun s5 _ => rs.length - (intOf s5).toNat)
  case atStart => exact ⟨0, Nat.zero_le _, rfl, hide (fun j hj => by omega), rfl⟩
  case round =>
    obtain ⟨i, hi, rfl, HN, hwr⟩ := hrel
    subst wr
    by_cases hlt : i < rs.length
    · rcases (unhide HO) with ⟨h0, _⟩ | ⟨bb, off, rfl, _, hc⟩
      · omega
      obtain ⟨qa, ql, qc, hat, _, _, _⟩ := hc i hlt
      have m0 := hat.c0
      have k0 : (0 : Int) ≤ (i : Int) := by omega
      have k1 : (i : Int) < (rs.length : Int) := by omega
      clear hc hat
      obtain ⟨x, hx⟩ : ∃ x, (elAt rs i).n = x := ⟨_, rfl⟩
      rw [hx] at m0
      have HX := hide hx
      clear hx
      cases g : (x.toList == s.toList) with
      | true =>
        have HE : Hid (wfI rs s = (i : Int)) := hide (by unfold wfI; rw [wfK_here hlt (by rw [unhide HX]; exact g) (unhide HN), if_pos hlt])
        go_wp2_with fail
        go_ret
        exact ⟨ret_int (unhide HE).symm, rfl⟩
      | false =>
        have HG : Hid (sEq (elAt rs i).n s = false) := hide (by rw [unhide HX]; exact g)
        go_wp2_with fail
        go_roundw
        case rel => exact ⟨i + 1, by omega, by go_num, hide (fun j hj => by rcases Nat.lt_succ_iff_lt_or_eq.1 hj with h | h; exact unhide HN j h; subst h; exact unhide HG), by first | rfl | trivial⟩
        case measure => simp [intOf]; omega
    · have k1 : ¬ (i : Int) < (rs.length : Int) := by omega
      have HE : Hid (wfI rs s = -1) := hide (by unfold wfI; rw [wfK_none (fun j hj => unhide HN j (by omega)), if_neg (by omega)])
      go_wp2_with fail
      go_ret
      exact ⟨ret_int (unhide HE).symm, rfl⟩

end Go.Proofs.Ytjalfalgffphmav
