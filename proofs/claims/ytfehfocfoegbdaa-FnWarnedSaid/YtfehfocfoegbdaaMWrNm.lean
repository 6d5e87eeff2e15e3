/-
  Whether names are among names, ascending names of rules, a panel so, in the model.
  Whether a panel is so, in the model.
  Whether a name is among names, by the law's own loop.
-/
import Derived.Test.YtfehfocfoegbdaaWrOk
import Derived.Test.YtfehfocfoegbdaaPnTo

namespace Go.Proofs.Ytfehfocfoegbdaa
open Go.RowKit



end Go.Proofs.Ytfehfocfoegbdaa

namespace Go.Proofs.Ytfehfocfoegbdaa
open Go.RowKit

/-- Whether a panel's lists are names of rules. -/
def pnlB (rs : List Wr) (z1 z2 z3 : List ByteArray) : Bool := nmB rs z1 && nmB rs z2 && nmB rs z3

end Go.Proofs.Ytfehfocfoegbdaa

namespace Go.Proofs.Ytfehfocfoegbdaa
open Go.RowKit

set_option maxRecDepth 20000 in
set_option maxHeartbeats 1000000 in
theorem lawHas_any (ad : Option Addr) (len cap : Nat) (ts : List ByteArray) (s : ByteArray) (w : World) (hr : RowE 1 stC w ad len ts) (hl : len ≤ 1048576) :
    Calls Try.prog 9 #[.slice ad len cap, .string s] w fun e w' => e = .returned (.bool (hasB ts s)) ∧ w' = w := by
  have hz := hr.len_eq
  have HO := hide hr.open1
  clear hr
  subst hz
  go_enter Try.func9, Try.ntmps9
  go_wp2_with fail
  go_loopw [5] (fun s5 wr => ∃ i : Nat, i ≤ ts.length ∧ s5 = .int .i64 (i : Int) ∧ Hid (∀ j, j < i → sEq (elAt ts j) s = false) ∧ wr = w) (fun s5 _ => ts.length - (intOf s5).toNat)
  case atStart => exact ⟨0, Nat.zero_le _, rfl, hide (fun j hj => by omega), rfl⟩
  case round =>
    obtain ⟨i, hi, rfl, HN, hwr⟩ := hrel
    subst wr
    by_cases hlt : i < ts.length
    · rcases (unhide HO) with ⟨h0, _⟩ | ⟨bb, off, rfl, _, hc⟩
      · omega
      have m0 : w.cell? ⟨bb, off + i, none⟩ = some (.string (elAt ts i)) := hc i hlt
      have k0 : (0 : Int) ≤ (i : Int) := by omega
      have k1 : (i : Int) < (ts.length : Int) := by omega
      obtain ⟨x, hx⟩ : ∃ x, elAt ts i = x := ⟨_, rfl⟩
      rw [hx] at m0
      have HX := hide hx
      clear hx hc
      cases g : (x.toList == s.toList) with
      | true =>
        have HE : Hid (hasB ts s = true) := hide (hasB_yes hlt (by rw [unhide HX]; exact g))
        go_wp2_with fail
        go_ret
        exact ⟨ret_bool (unhide HE).symm, rfl⟩
      | false =>
        have HG : Hid (sEq (elAt ts i) s = false) := hide (by rw [unhide HX]; exact g)
        go_wp2_with fail
        go_roundw
        case rel => exact ⟨i + 1, by omega, by go_num, hide (fun j hj => by rcases Nat.lt_succ_iff_lt_or_eq.1 hj with h | h; exact unhide HN j h; subst h; exact unhide HG), by first | rfl | trivial⟩
        case measure => simp [intOf]; omega
    · have k1 : ¬ (i : Int) < (ts.length : Int) := by omega
      have HE : Hid (hasB ts s = false) := hide (hasB_no (fun j hj => unhide HN j (by omega)))
      go_wp2_with fail
      go_ret
      exact ⟨ret_bool (unhide HE).symm, rfl⟩

end Go.Proofs.Ytfehfocfoegbdaa
