/-
  What heights can be had, in the program: the plain answer, at every list and slopes; the list owns its memory; nothing that was there is written.
-/
import Derived.Test.YtbaocifpifbldaePwAl
namespace Go.Proofs.Ytbaocifpifbldae
open Go.RowKit

set_option maxRecDepth 20000 in
set_option maxHeartbeats 1000000 in
theorem implReach_bad (ad : Option Addr) (len cap : Nat) (ps : List Po) (up down : Int) (w : World) (hr : RowE 3 poC w ad len ps) (hv : (poB ps && slB up down) = false) :
    Calls Try.prog 19 #[.slice ad len cap, .int .i64 up, .int .i64 down] w fun e w' => ∃ a1 c1, e = .returned (.tuple #[.slice a1 (rchL ps up down).length c1, .int .i64 (rchK ps up down), .bool (rchB ps up down)]) ∧ OwnE 3 poC w' w.heap.size 53 (.slice a1 (rchL ps up down).length c1) (rchL ps up down) ∧ Below w.heap.size w w' := by
  have e1 : rchL ps up down = [] := by simp [rchL, hv]
  have e2 : rchK ps up down = -1 := by simp [rchK, hv]
  have e3 : rchB ps up down = false := hv
  rw [e1, e2, e3]
  clear e1 e2 e3
  have HW := hide (walked_bad ad len cap ps up down w hr hv)
  clear hr hv
  go_enter Try.func19, Try.ntmps19
  go_wp2_with (go_at_call 55; refine (unhide HW).mono ?_; rintro e w1 ⟨rfl, b1⟩; have B1 := hide b1; clear b1)
  go_ret3
  exact ⟨some ⟨w1.heap.size + 1, 0, none⟩, 0, rfl, ownPo_noneAt (by have := (unhide B1).size; simp; omega) (by simp), ((unhide B1).alloc (unhide B1).size _).alloc (by have := (unhide B1).size; simp; omega) _⟩

set_option maxRecDepth 20000 in
set_option maxHeartbeats 1000000 in
theorem implReach_on (ad : Option Addr) (len cap : Nat) (ps : List Po) (up down : Int) (w : World) (hr : RowE 3 poC w ad len ps) (q1 : poB ps = true) (q2 : slB up down = true) :
    Calls Try.prog 19 #[.slice ad len cap, .int .i64 up, .int .i64 down] w fun e w' => ∃ a1 c1, e = .returned (.tuple #[.slice a1 (rchL ps up down).length c1, .int .i64 (rchK ps up down), .bool (rchB ps up down)]) ∧ OwnE 3 poC w' w.heap.size 53 (.slice a1 (rchL ps up down).length c1) (rchL ps up down) ∧ Below w.heap.size w w' := by
  have hz := hr.len_eq
  subst hz
  have HW := hide (walked_on ad ps.length cap ps up down w hr q1 q2)
  have EL : Hid (rchL ps up down = rcL ps up down (rcK ps up down)) := hide (by simp [rchL, q1, q2])
  have EB : Hid (rchB ps up down = true) := hide (by simp [rchB, q1, q2])
  have EK : Hid (rchK ps up down = if rcK ps up down < ps.length then (rcK ps up down : Int) else -1) := hide (by simp [rchK, q1, q2])
  clear hr
  obtain ⟨KK, hKK⟩ : ∃ K, rcK ps up down = K := ⟨_, rfl⟩
  rw [hKK] at HW EL EK
  clear hKK
  by_cases hlt : KK < ps.length
  · have hl : (KK : Int) < (ps.length : Int) := by omega
    have EK2 : Hid (rchK ps up down = (KK : Int)) := hide (by rw [unhide EK, if_pos hlt])
    clear EK hlt
    go_enter Try.func19, Try.ntmps19
    go_wp2_with (go_at_call 55; refine (unhide HW).mono ?_; rintro e w1 ⟨P, g, cp, h, c2, rfl, k1⟩; have K1 := hide k1; clear k1)
    go_ret3
    have ko := (unhide K1).had.below (bel1 (Obj.cells #[.int .i64 up, .int .i64 down, .slice ad ps.length cap, .slice (some ⟨g, 0, none⟩) KK cp, .slice (some ⟨h, 0, none⟩) ps.length c2] 111))
    have kb := (unhide K1).bel
    refine ⟨some ⟨g, 0, none⟩, cp, ?_, ?_, kb.alloc kb.size _⟩
    · rw [unhide EL, unhide EK2, unhide EB, rcL_len]; try rfl
    · rw [unhide EL, rcL_len]; exact ko
  · have hl : ¬ (KK : Int) < (ps.length : Int) := by omega
    have EK2 : Hid (rchK ps up down = -1) := hide (by rw [unhide EK, if_neg hlt])
    clear EK hlt
    go_enter Try.func19, Try.ntmps19
    go_wp2_with (go_at_call 55; refine (unhide HW).mono ?_; rintro e w1 ⟨P, g, cp, h, c2, rfl, k1⟩; have K1 := hide k1; clear k1)
    go_ret3
    have ko := (unhide K1).had.below (bel1 (Obj.cells #[.int .i64 up, .int .i64 down, .slice ad ps.length cap, .slice (some ⟨g, 0, none⟩) KK cp, .slice (some ⟨h, 0, none⟩) ps.length c2] 111))
    have kb := (unhide K1).bel
    refine ⟨some ⟨g, 0, none⟩, cp, ?_, ?_, kb.alloc kb.size _⟩
    · rw [unhide EL, unhide EK2, unhide EB, rcL_len]; try rfl
    · rw [unhide EL, rcL_len]; exact ko

theorem implReach_any (ad : Option Addr) (len cap : Nat) (ps : List Po) (up down : Int) (w : World) (hr : RowE 3 poC w ad len ps) :
    Calls Try.prog 19 #[.slice ad len cap, .int .i64 up, .int .i64 down] w fun e w' => ∃ a1 c1, e = .returned (.tuple #[.slice a1 (rchL ps up down).length c1, .int .i64 (rchK ps up down), .bool (rchB ps up down)]) ∧ OwnE 3 poC w' w.heap.size 53 (.slice a1 (rchL ps up down).length c1) (rchL ps up down) ∧ Below w.heap.size w w' := by
  cases hv : (poB ps && slB up down) with
  | false => exact implReach_bad ad len cap ps up down w hr hv
  | true =>
    simp only [Bool.and_eq_true] at hv
    exact implReach_on ad len cap ps up down w hr hv.1 hv.2

end Go.Proofs.Ytbaocifpifbldae
