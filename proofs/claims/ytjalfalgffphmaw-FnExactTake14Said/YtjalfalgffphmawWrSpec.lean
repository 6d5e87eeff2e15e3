/-
  What the model of chapter 14 answers of names and rules.
-/
import Derived.Test.YtjalfalgffphmawNames1
import Derived.Test.YtjalfalgffphmawWrRow
namespace Go.Proofs.Ytjalfalgffphmaw
open Go.RowKit

set_option maxRecDepth 20000 in
set_option maxHeartbeats 1000000 in
theorem l14Find_any (ad : Option Addr) (len cap : Nat) (rs : List Wr) (s : ByteArray) (w : World) (hr : RowW w ad len rs) (hl : len ≤ 1048576) :
    Calls Try.prog 45 #[.slice ad len cap, .string s] w fun e w' => e = .returned (.int .i64 (wfI rs s)) ∧ w' = w := by
  have hz := hr.len_eq
  have HO := hide hr.open_
  clear hr
  subst hz
  go_enter Try.func45, Try.ntmps45
  go_wp2_with fail
  go_loopw [5] (fun s5 wr => ∃ i : Nat, i ≤ rs.length ∧ s5 = .int .i64 (i : Int) ∧ Hid (∀ j, j < i → sEq (elAt rs j).n s = false) ∧ wr = w) (fun s5 _ => rs.length - (intOf s5).toNat)
  case atStart => exact ⟨0, Nat.zero_le _, rfl, hide (fun j hj => by omega), rfl⟩
  case round =>
    obtain ⟨i, hi, rfl, HN, hwr⟩ := hrel
    subst wr
    by_cases hlt : i < rs.length
    · rcases (unhide HO) with ⟨h0, _⟩ | ⟨bb, off, rfl, _, hc⟩
      · omega
      obtain ⟨qa, ql, qc, hat, _, _, _⟩ := hc i hlt
      have m0 := hat.c0
      have k0 : (0 : Int) ≤ (i : Int) := by omega
      have k1 : (i : Int) < (rs.length : Int) := by omega
      clear hc hat
      obtain ⟨x, hx⟩ : ∃ x, (elAt rs i).n = x := ⟨_, rfl⟩
      rw [hx] at m0
      have HX := hide hx
      clear hx
      cases g : (x.toList == s.toList) with
      | true =>
        have HE : Hid (wfI rs s = (i : Int)) := hide (by unfold wfI; rw [wfK_here hlt (by rw [unhide HX]; exact g) (unhide HN), if_pos hlt])
        go_wp2_with fail
        go_ret
        exact ⟨ret_int (unhide HE).symm, rfl⟩
      | false =>
        have HG : Hid (sEq (elAt rs i).n s = false) := hide (by rw [unhide HX]; exact g)
        go_wp2_with fail
        go_roundw
        case rel => exact ⟨i + 1, by omega, by go_num, hide (fun j hj => by rcases Nat.lt_succ_iff_lt_or_eq.1 hj with h | h; exact unhide HN j h; subst h; exact unhide HG), by first | rfl | trivial⟩
        case measure => simp [intOf]; omega
    · have k1 : ¬ (i : Int) < (rs.length : Int) := by omega
      have HE : Hid (wfI rs s = -1) := hide (by unfold wfI; rw [wfK_none (fun j hj => unhide HN j (by omega)), if_neg (by omega)])
      go_wp2_with fail
      go_ret
      exact ⟨ret_int (unhide HE).symm, rfl⟩
set_option maxRecDepth 20000 in
set_option maxHeartbeats 1000000 in
theorem l14Quiet_any (qa : Option Addr) (ql qc : Nat) (p : Wr) (ph : Int) (w : World) (hr : Row w qa ql p.q) (hl : ql ≤ 1048576) :
    Calls Try.prog 41 #[.agg #[.string p.n, .int .i64 p.r, .slice qa ql qc, .bool p.l, .string p.d], .int .i64 ph] w fun e w' => e = .returned (.bool (qtB p.q ph)) ∧ Below w.heap.size w w' := by
  have hz := hr.len_eq
  have HO := hide ((hr.alloc (Obj.cells #[.string p.n, .int .i64 p.r, .slice qa ql qc, .bool p.l, .string p.d] 56)).open_)
  clear hr
  subst hz
  go_enter Try.func41, Try.ntmps41
  go_wp2_with fail
  go_loopw [5] (fun s5 wr => ∃ i : Nat, i ≤ p.q.length ∧ s5 = .int .i64 (i : Int) ∧ Hid (∀ j, j < i → ¬ nth p.q j = ph) ∧ wr = w.alloc (Obj.cells #[.string p.n, .int .i64 p.r, .slice qa p.q.length qc, .bool p.l, .string p.d] 56)) (fun s5 _ => p.q.length - (intOf s5).toNat)
  case atStart => exact ⟨0, Nat.zero_le _, rfl, hide (fun j hj => by omega), rfl⟩
  case round =>
    obtain ⟨i, hi, rfl, HN, hwr⟩ := hrel
    subst wr
    by_cases hlt : i < p.q.length
    · rcases (unhide HO) with ⟨h0, _⟩ | ⟨bb, off, rfl, _, hc⟩
      · omega
      have m0 := hc i hlt
      have k0 : (0 : Int) ≤ (i : Int) := by omega
      have k1 : (i : Int) < (p.q.length : Int) := by omega
      obtain ⟨x, hx⟩ : ∃ x, nth p.q i = x := ⟨_, rfl⟩
      rw [hx] at m0
      have HX := hide hx
      clear hx hc
      by_cases g : x = ph
      · have HE := hide (qtB_yes (ph := ph) hlt ((unhide HX).trans g))
        have HG := hide g
        have g2 : (x == ph) = true := by simp [g]
        clear g
        go_wp2_with fail
        go_ret
        exact ⟨ret_bool (unhide HE).symm, bel1 _⟩
      · have HG := hide g
        have g2 : (x == ph) = false := by simp [g]
        go_wp2_with fail
        go_roundw
        case rel => exact ⟨i + 1, by omega, by go_num, hide (fun j hj => by rcases Nat.lt_succ_iff_lt_or_eq.1 hj with h | h; exact unhide HN j h; subst h; rw [unhide HX]; exact unhide HG), by first | rfl | trivial⟩
        case measure => simp [intOf]; omega
    · have k1 : ¬ (i : Int) < (p.q.length : Int) := by omega
      have HE := hide (qtB_no (q := p.q) (ph := ph) (fun j hj => unhide HN j (by omega)))
      go_wp2_with fail
      go_ret
      exact ⟨ret_bool (unhide HE).symm, bel1 _⟩

end Go.Proofs.Ytjalfalgffphmaw
