/-
  Whether texts rise, as the program asks it: the plain answer, at every list; nothing that was there is written.
  What is told and kept behind an update, in plain terms. No program here.
-/
import Derived.Test.YtfehfocfoegbdaaMWrOrd
import Derived.Test.YtfehfocfoegbdaaMStrRow
import Derived.Laws.Cover1
import Derived.Test.YtfehfocfoegbdaaMWrNm

namespace Go.Proofs.Ytfehfocfoegbdaa
open Go.RowKit

set_option maxHeartbeats 1000000 in
theorem ascS_any (ad : Option Addr) (len cap : Nat) (ts : List ByteArray) (w : World) (hr : RowE 1 stC w ad len ts) :
    Calls Try.prog 31 #[.slice ad len cap] w fun e w' => e = .returned (.bool (riseS ts)) ∧ ∃ n, w' = w.drewN n := by
  have hz := hr.len_eq
  have hs := hr.small
  have hopen := hr.open1
  clear hr
  subst hz
  go_enter Try.func31, Try.ntmps31
  go_wp2
  go_loopw [3] (fun i wr => ∃ k n : Nat, i = .int .i64 ((k : Int) + 1) ∧ k ≤ ts.length ∧ Hid (∀ j, j < k → j + 1 < ts.length → sLt (elAt ts j) (elAt ts (j + 1)) = true) ∧ wr = w.drewN n) (fun i _ => ts.length + 1 - (intOf i).toNat)
  case atStart => exact ⟨0, 0, rfl, by omega, hide (fun j hj => by omega), rfl⟩
  case round =>
    obtain ⟨k, n, rfl, hk, hall, rfl⟩ := hrel
    by_cases hlt : k + 1 < ts.length
    · rcases hopen with ⟨h0, _⟩ | ⟨bb, off, rfl, _, hc⟩
      · omega
      have hc1 : w.cell? ⟨bb, off + k, none⟩ = some (.string (elAt ts k)) := hc k (by omega)
      have hc2 : w.cell? ⟨bb, off + (k + 1), none⟩ = some (.string (elAt ts (k + 1))) := hc (k + 1) hlt
      have hi1 : (0 : Int) ≤ (k : Int) := by omega
      have hi2 : (k : Int) < (ts.length : Int) := by omega
      have hi3 : (k : Int) + 1 < (ts.length : Int) := by omega
      have hi4 : ((k : Int) + 1).toNat = k + 1 := by omega
      have HD : Hid (sLt (elAt ts k) (elAt ts (k + 1)) = Op.bytesLess (elAt ts k).toList (elAt ts (k + 1)).toList) := hide rfl
      obtain ⟨x, hx⟩ : ∃ x, elAt ts k = x := ⟨_, rfl⟩
      obtain ⟨y, hy⟩ : ∃ y, elAt ts (k + 1) = y := ⟨_, rfl⟩
      rw [hx] at hc1
      rw [hy] at hc2
      rw [hx, hy] at HD
      have HX := hide hx
      have HY := hide hy
      clear hc hx hy
      have HOR : Hid ((Op.bytesLess y.toList x.toList || y.toList == x.toList) = !Op.bytesLess x.toList y.toList) := hide (sLt_or x y)
      cases hin : Op.bytesLess x.toList y.toList with
      | true =>
        rw [hin] at HD HOR
        have q1 : Op.bytesLess y.toList x.toList = false := by have := unhide HOR; simp at this; exact this.1
        have q2 : (y.toList == x.toList) = false := by have := unhide HOR; simp at this; simpa using this.2
        go_wp2
        go_quiet (fail)
        go_wp2
        go_roundw
        case rel => exact ⟨k + 1, _, by go_num, by omega, hide (fun j hj h2 => by rcases Nat.lt_succ_iff_lt_or_eq.1 hj with h | h; exact unhide hall j h h2; subst h; rw [unhide HX, unhide HY]; exact unhide HD), rfl⟩
        case measure => simp [intOf]; omega
      | false =>
        rw [hin] at HD HOR
        have q1 : (Op.bytesLess y.toList x.toList || y.toList == x.toList) = true := unhide HOR
        rcases Bool.or_eq_true_iff.1 q1 with q2 | q2
        all_goals
          clear q1
          go_wp2
          go_quiet (fail)
          go_wp2
          go_ret
          exact ⟨ret_bool (riseS_false hlt (by rw [unhide HX, unhide HY]; exact unhide HD)).symm, dn2 _ _ _⟩
    · have hi3 : ¬ (k : Int) + 1 < (ts.length : Int) := by omega
      go_wp2
      go_ret
      exact ⟨ret_bool (riseS_true fun j hj => unhide hall j (by omega) hj).symm, n, rfl⟩

end Go.Proofs.Ytfehfocfoegbdaa

namespace Go.Proofs.Ytfehfocfoegbdaa
open Go

/-- Of the first k taken ones those that are active. -/
def tkK (act tk : List ByteArray) : Nat → List ByteArray
  | 0 => []
  | k + 1 => if hasB act (elAt tk k) = true then tkK act tk k ++ [elAt tk k] else tkK act tk k
/-- Whether a rule is told, at a rank. -/
def tdB (rs : List Wr) (act lat tkn : List ByteArray) (ph rank : Int) (k : Nat) : Bool :=
  decide ((elAt rs k).r = rank) && (hasB act (elAt rs k).n || hasB lat (elAt rs k).n) && !hasB tkn (elAt rs k).n && !qtB (elAt rs k).q ph && (sEq (elAt rs k).d ⟨#[]⟩ || !hasB act (elAt rs k).d)
def tdIn (rs : List Wr) (act lat tkn : List ByteArray) (ph rank : Int) (acc : List ByteArray) : Nat → List ByteArray
  | 0 => acc
  | k + 1 => if tdB rs act lat tkn ph rank k = true then tdIn rs act lat tkn ph rank acc k ++ [(elAt rs k).n] else tdIn rs act lat tkn ph rank acc k
/-- Behind the ranks 3 .. 4 - m. -/
def tdR (rs : List Wr) (act lat tkn : List ByteArray) (ph : Int) : Nat → List ByteArray
  | 0 => []
  | m + 1 => tdIn rs act lat tkn ph (3 - (m : Int)) (tdR rs act lat tkn ph m) rs.length
/-- What is latched then. -/
def ltK (rs : List Wr) (act lat told : List ByteArray) : Nat → List ByteArray
  | 0 => []
  | k + 1 => if (hasB lat (elAt rs k).n || ((elAt rs k).l && hasB act (elAt rs k).n && hasB told (elAt rs k).n)) = true then ltK rs act lat told k ++ [(elAt rs k).n] else ltK rs act lat told k
theorem tkK_len (act tk : List ByteArray) : ∀ k, (tkK act tk k).length ≤ k
  | 0 => Nat.le_refl _
  | k + 1 => by
    have := tkK_len act tk k
    unfold tkK
    split
    · simp; omega
    · omega
theorem ltK_len (rs : List Wr) (act lat told : List ByteArray) : ∀ k, (ltK rs act lat told k).length ≤ k
  | 0 => Nat.le_refl _
  | k + 1 => by
    have := ltK_len rs act lat told k
    unfold ltK
    split
    · simp; omega
    · omega
theorem tdIn_len (rs : List Wr) (act lat tkn : List ByteArray) (ph rank : Int) (acc : List ByteArray) : ∀ k, (tdIn rs act lat tkn ph rank acc k).length ≤ acc.length + k
  | 0 => Nat.le_refl _
  | k + 1 => by
    have := tdIn_len rs act lat tkn ph rank acc k
    unfold tdIn
    split
    · simp; omega
    · omega
theorem tdR_len (rs : List Wr) (act lat tkn : List ByteArray) (ph : Int) : ∀ m, (tdR rs act lat tkn ph m).length ≤ m * rs.length
  | 0 => by simp [tdR]
  | m + 1 => by
    have := tdR_len rs act lat tkn ph m
    have k := tdIn_len rs act lat tkn ph (3 - (m : Int)) (tdR rs act lat tkn ph m) rs.length
    show (tdIn rs act lat tkn ph (3 - (m : Int)) (tdR rs act lat tkn ph m) rs.length).length ≤ _
    rw [Nat.add_mul]
    omega
def upB (rs : List Wr) (z1 z2 z3 act : List ByteArray) (ph : Int) : Bool := wrB rs && pnlB rs z1 z2 z3 && nmB rs act && inB ph 0 9

end Go.Proofs.Ytfehfocfoegbdaa
