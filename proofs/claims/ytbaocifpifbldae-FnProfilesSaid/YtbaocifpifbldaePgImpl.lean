/-
  The way from a first height that leads through all, in the program.
-/
import Derived.Test.YtbaocifpifbldaePgWay
namespace Go.Proofs.Ytbaocifpifbldae
open Go.RowKit

set_option maxRecDepth 20000 in
set_option maxHeartbeats 1000000 in
theorem leading_bad1 (ad : Option Addr) (len cap : Nat) (ps : List Po) (up down : Int) (w : World) (hr : RowE 3 poC w ad len ps) (hv : (poB ps && slB up down) = false) : Calls Try.prog 57 #[.slice ad len cap, .agg #[.int .i64 up, .int .i64 down]] w fun e w' => ∃ a1 c1, e = .returned (.tuple #[.slice a1 0 c1, .bool false]) ∧ Below w.heap.size w w' := by
  have HW := hide (walked_bad ad len cap ps up down (w.alloc (Obj.cells #[.int .i64 up, .int .i64 down] 109)) (hr.alloc _) hv)
  clear hr hv
  go_enter Try.func57, Try.ntmps57
  go_wp2_with (go_at_call 55; refine (unhide HW).mono ?_; rintro e w1 ⟨rfl, b1⟩; have B1 := hide (((bel1 _).trans (b1.mono (by simp))) : Below w.heap.size w w1); clear b1)
  go_ret2
  have b := unhide B1
  exact ⟨_, _, rfl, by repeat (first | exact b | refine Below.alloc ?_ (by have := b.size; first | omega | (simp <;> omega)) _)⟩
set_option maxRecDepth 20000 in
set_option maxHeartbeats 1000000 in
theorem leading_bad2 (ad : Option Addr) (len cap : Nat) (ps : List Po) (up down : Int) (w : World) (hr : RowE 3 poC w ad len ps) (q1 : poB ps = true) (q2 : slB up down = true) (hk : rcK ps up down < ps.length) : Calls Try.prog 57 #[.slice ad len cap, .agg #[.int .i64 up, .int .i64 down]] w fun e w' => ∃ a1 c1, e = .returned (.tuple #[.slice a1 0 c1, .bool false]) ∧ Below w.heap.size w w' := by
  have hz := hr.len_eq
  subst hz
  have HW := hide (walked_on ad ps.length cap ps up down (w.alloc (Obj.cells #[.int .i64 up, .int .i64 down] 109)) (hr.alloc _) q1 q2)
  clear hr
  obtain ⟨KK, hKK⟩ : ∃ K, rcK ps up down = K := ⟨_, rfl⟩
  rw [hKK] at HW hk
  clear hKK
  have hl : (KK : Int) < (ps.length : Int) := by omega
  clear hk
  go_enter Try.func57, Try.ntmps57
  go_wp2_with (go_at_call 55; refine (unhide HW).mono ?_; rintro e w1 ⟨P, g, cp, h, c2, rfl, k1⟩; have B1 := hide (((bel1 _).trans (k1.bel.mono (by simp))) : Below w.heap.size w w1); clear k1)
  go_ret2
  have b := unhide B1
  exact ⟨_, _, rfl, by repeat (first | exact b | refine Below.alloc ?_ (by have := b.size; first | omega | (simp <;> omega)) _)⟩
set_option maxRecDepth 20000 in
set_option maxHeartbeats 1000000 in
theorem leading_on (ad : Option Addr) (len cap : Nat) (ps : List Po) (up down : Int) (w : World) (hr : RowE 3 poC w ad len ps) (q1 : poB ps = true) (q2 : slB up down = true) (hk : rcK ps up down = ps.length) : Calls Try.prog 57 #[.slice ad len cap, .agg #[.int .i64 up, .int .i64 down]] w fun e w' => ∃ h c2, e = .returned (.tuple #[.slice (some ⟨h, 0, none⟩) ps.length c2, .bool true]) ∧ OwnE 3 poC w' w.heap.size 53 (.slice (some ⟨h, 0, none⟩) ps.length c2) (ldL ps up down) ∧ Below w.heap.size w w' := by
  have hz := hr.len_eq
  subst hz
  have HW := hide (walked_on ad ps.length cap ps up down (w.alloc (Obj.cells #[.int .i64 up, .int .i64 down] 109)) (hr.alloc _) q1 q2)
  clear hr
  have EL : Hid (lvL ps up down (rcK ps up down) 0 = ldL ps up down) := hide (by unfold ldL; rw [hk])
  obtain ⟨KK, hKK⟩ : ∃ K, rcK ps up down = K := ⟨_, rfl⟩
  rw [hKK] at HW hk EL
  clear hKK
  have hl : ¬ (KK : Int) < (ps.length : Int) := by omega
  clear hk
  go_enter Try.func57, Try.ntmps57
  go_wp2_with (go_at_call 55; refine (unhide HW).mono ?_; rintro e w1 ⟨P, g, cp, h, c2, rfl, k1⟩; have O1 := hide (k1.led.mono (base' := w.heap.size) (by simp)); have B1 := hide (((bel1 _).trans (k1.bel.mono (by simp))) : Below w.heap.size w w1); clear k1)
  go_ret2
  have b := unhide B1
  have o := unhide O1
  rw [unhide EL] at o
  exact ⟨h, c2, rfl, by repeat (first | exact o | refine OwnE.below ?_ (bel1 _)), by repeat (first | exact b | refine Below.alloc ?_ (by have := b.size; first | omega | (simp <;> omega)) _)⟩

set_option maxRecDepth 20000 in
set_option maxHeartbeats 1000000 in
theorem implProfile_bad (ad : Option Addr) (len cap : Nat) (ps : List Po) (up down first : Int) (w : World) (hr : RowE 3 poC w ad len ps) (hv : (poB ps && slB up down) = false ∨ (poB ps = true ∧ slB up down = true ∧ rcK ps up down < ps.length)) (hb : pfB ps up down first = false) : Calls Try.prog 22 #[.slice ad len cap, .int .i64 up, .int .i64 down, .int .i64 first] w fun e w' => ∃ a1 c1, e = .returned (.tuple #[.slice a1 (pfL ps up down first).length c1, .bool (pfB ps up down first)]) ∧ OwnI w' w.heap.size (.slice a1 (pfL ps up down first).length c1) (pfL ps up down first) ∧ Below w.heap.size w w' := by
  have e1 : pfL ps up down first = [] := by simp [pfL, hb]
  rw [e1, hb]
  clear e1 hb
  have HW : Hid (Calls Try.prog 57 #[.slice ad len cap, .agg #[.int .i64 up, .int .i64 down]] w fun e w' => ∃ a1 c1, e = .returned (.tuple #[.slice a1 0 c1, .bool false]) ∧ Below w.heap.size w w') := hide (by
    rcases hv with hv | ⟨q1, q2, q3⟩
    · exact leading_bad1 ad len cap ps up down w hr hv
    · exact leading_bad2 ad len cap ps up down w hr q1 q2 q3)
  clear hr hv
  go_enter Try.func22, Try.ntmps22
  go_wp2_with (go_at_call 57; refine (unhide HW).mono ?_; rintro e w1 ⟨a1, c1, rfl, b1⟩; have B1 := hide b1; clear b1)
  go_quiet (fail)
  obtain ⟨w2, hw2⟩ : ∃ W, W = w1.drewN nq := ⟨_, rfl⟩
  have B2 : Hid (Below w.heap.size w w2) := hide (by rw [hw2]; exact (unhide B1).trans (bel0d' nq))
  rw [← hw2]
  clear hw2
  go_wp2_with fail
  go_ret2
  exact ⟨some ⟨w2.heap.size, 0, none⟩, 0, rfl, ownI_none (unhide B2).size, (unhide B2).alloc (unhide B2).size _⟩
set_option maxRecDepth 20000 in
set_option maxHeartbeats 1000000 in
theorem implProfile_no (ad : Option Addr) (len cap : Nat) (ps : List Po) (up down first : Int) (w : World) (hr : RowE 3 poC w ad len ps) (q1 : poB ps = true) (q2 : slB up down = true) (hk : rcK ps up down = ps.length) (q4 : inB first (bkI ps up down 0).a1 (bkI ps up down 0).a2 = false) (hb : pfB ps up down first = false) : Calls Try.prog 22 #[.slice ad len cap, .int .i64 up, .int .i64 down, .int .i64 first] w fun e w' => ∃ a1 c1, e = .returned (.tuple #[.slice a1 (pfL ps up down first).length c1, .bool (pfB ps up down first)]) ∧ OwnI w' w.heap.size (.slice a1 (pfL ps up down first).length c1) (pfL ps up down first) ∧ Below w.heap.size w w' := by
  have e1 : pfL ps up down first = [] := by simp [pfL, hb]
  rw [e1, hb]
  clear e1 hb
  have hz := hr.len_eq
  subst hz
  have lf := ld_first q1 q2
  have pf := poB_facts q1
  have i0 : (0 : Int) < (ps.length : Int) := by omega
  have q5 : inB first (elAt (ldL ps up down) 0).a1 (elAt (ldL ps up down) 0).a2 = false := by rw [ldL_at (by omega), lf.1, lf.2]; exact q4
  have HW := hide (leading_on ad ps.length cap ps up down w hr q1 q2 hk)
  clear hr hk lf pf q4
  go_enter Try.func22, Try.ntmps22
  go_wp2_with (go_at_call 57; refine (unhide HW).mono ?_; rintro e w1 ⟨h, c2, rfl, o1, b1⟩; have O1 := hide o1; have B1 := hide b1; have y1 : w1.cell? ⟨h, 1, none⟩ = some (.int .i64 (elAt (ldL ps up down) 0).a1) := (o1.here (ldL_len _ _ _) 0 (by omega) 1 (by omega)).1; have y2 : w1.cell? ⟨h, 2, none⟩ = some (.int .i64 (elAt (ldL ps up down) 0).a2) := (o1.here (ldL_len _ _ _) 0 (by omega) 2 (by omega)).1; clear o1 b1)
  go_quiet ((go_at_call 51; exact Calls.quiet_of_same (within_is _ _ _ _ q5)))
  obtain ⟨w2, hw2⟩ : ∃ W, W = w1.drewN nq := ⟨_, rfl⟩
  have B2 : Hid (Below w.heap.size w w2) := hide (by rw [hw2]; exact (unhide B1).trans (bel0d' nq))
  rw [← hw2]
  clear hw2 y1 y2
  go_wp2_with fail
  go_ret2
  exact ⟨some ⟨w2.heap.size, 0, none⟩, 0, rfl, ownI_none (unhide B2).size, (unhide B2).alloc (unhide B2).size _⟩
set_option maxRecDepth 20000 in
set_option maxHeartbeats 1000000 in
theorem implProfile_on (ad : Option Addr) (len cap : Nat) (ps : List Po) (up down first : Int) (w : World) (hr : RowE 3 poC w ad len ps) (q1 : poB ps = true) (q2 : slB up down = true) (hk : rcK ps up down = ps.length) (q4 : inB first (bkI ps up down 0).a1 (bkI ps up down 0).a2 = true) (hb : pfB ps up down first = true) : Calls Try.prog 22 #[.slice ad len cap, .int .i64 up, .int .i64 down, .int .i64 first] w fun e w' => ∃ a1 c1, e = .returned (.tuple #[.slice a1 (pfL ps up down first).length c1, .bool (pfB ps up down first)]) ∧ OwnI w' w.heap.size (.slice a1 (pfL ps up down first).length c1) (pfL ps up down first) ∧ Below w.heap.size w w' := by
  have hz := hr.len_eq
  subst hz
  have lf := ld_first q1 q2
  have pf := poB_facts q1
  have i0 : (0 : Int) < (ps.length : Int) := by omega
  have hb30 := pf.2.2
  have q3 : bkB ps up down = true := by rw [bkB_is q1 q2]; exact decide_eq_true hk
  have q5 : inB first (elAt (ldL ps up down) 0).a1 (elAt (ldL ps up down) 0).a2 = true := by rw [ldL_at (by omega), lf.1, lf.2]; exact q4
  have EW := hide (wyL_is q1 q2 q3 q4)
  have HBD := hide (ldL_bd q1 q2)
  have HW := hide (leading_on ad ps.length cap ps up down w hr q1 q2 hk)
  rw [hb]
  clear hr hk lf pf q4 hb
  go_enter Try.func22, Try.ntmps22
  go_wp2_with (go_at_call 57; refine (unhide HW).mono ?_; rintro e w1 ⟨h, c2, rfl, o1, b1⟩; have O1 := hide o1; have B1 := hide b1; have y1 : w1.cell? ⟨h, 1, none⟩ = some (.int .i64 (elAt (ldL ps up down) 0).a1) := (o1.here (ldL_len _ _ _) 0 (by omega) 1 (by omega)).1; have y2 : w1.cell? ⟨h, 2, none⟩ = some (.int .i64 (elAt (ldL ps up down) 0).a2) := (o1.here (ldL_len _ _ _) 0 (by omega) 2 (by omega)).1; clear o1 b1)
  go_quiet ((go_at_call 51; exact Calls.quiet_of_same (within_is _ _ _ _ q5)))
  obtain ⟨w2, hw2⟩ : ∃ W, W = w1.drewN nq := ⟨_, rfl⟩
  have B2 : Hid (Below w.heap.size w w2) := hide (by rw [hw2]; exact (unhide B1).trans (bel0d' nq))
  have O2 : Hid (OwnE 3 poC w2 w.heap.size 53 (.slice (some ⟨h, 0, none⟩) ps.length c2) (ldL ps up down)) := hide (by rw [hw2]; exact (unhide O1).drewN nq)
  rw [← hw2]
  clear hw2 y1 y2
  go_wp2_with (go_at_call 59; refine (wayFrom_any _ _ _ _ (ldL ps up down) _ (unhide O2).row (by omega) (unhide HBD)).mono ?_; rintro e w3 ⟨a3, c3, rfl, o3, b3⟩; have O3 := hide (o3.mono (unhide B2).size); have B3 := hide ((unhide B2).trans (b3.mono (unhide B2).size)); clear o3 b3)
  go_ret2
  have o := unhide O3
  rw [unhide EW] at o
  have hl : (pfL ps up down first).length = ps.length := by rw [← unhide EW, wyL_len]
  exact ⟨a3, c3, (by rw [hl]; try rfl), (by rw [hl]; exact o), unhide B3⟩
theorem implProfile_any (ad : Option Addr) (len cap : Nat) (ps : List Po) (up down first : Int) (w : World) (hr : RowE 3 poC w ad len ps) : Calls Try.prog 22 #[.slice ad len cap, .int .i64 up, .int .i64 down, .int .i64 first] w fun e w' => ∃ a1 c1, e = .returned (.tuple #[.slice a1 (pfL ps up down first).length c1, .bool (pfB ps up down first)]) ∧ OwnI w' w.heap.size (.slice a1 (pfL ps up down first).length c1) (pfL ps up down first) ∧ Below w.heap.size w w' := by
  cases q1 : poB ps with
  | false => exact implProfile_bad ad len cap ps up down first w hr (.inl (by rw [q1]; rfl)) (by simp [pfB, q1])
  | true =>
    cases q2 : slB up down with
    | false => exact implProfile_bad ad len cap ps up down first w hr (.inl (by rw [q2, Bool.and_false])) (by simp [pfB, q2])
    | true =>
      by_cases q3 : rcK ps up down = ps.length
      · have qb : bkB ps up down = true := by rw [bkB_is q1 q2]; exact decide_eq_true q3
        cases q4 : inB first (bkI ps up down 0).a1 (bkI ps up down 0).a2 with
        | false => exact implProfile_no ad len cap ps up down first w hr q1 q2 q3 q4 (by simp [pfB, q4])
        | true => exact implProfile_on ad len cap ps up down first w hr q1 q2 q3 q4 (by simp [pfB, q1, q2, qb, q4])
      · have qb : bkB ps up down = false := by rw [bkB_is q1 q2]; exact decide_eq_false q3
        have := rcK_le ps up down
        exact implProfile_bad ad len cap ps up down first w hr (.inr ⟨q1, q2, by omega⟩) (by simp [pfB, qb])

end Go.Proofs.Ytbaocifpifbldae
