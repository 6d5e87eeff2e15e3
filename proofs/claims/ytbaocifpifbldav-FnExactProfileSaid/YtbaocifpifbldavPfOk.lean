/-
  Whether points are so, in the model: the plain answer, at every list; nothing that was there is written.
-/
import Derived.Test.YtbaocifpifbldavPfSpec
namespace Go.Proofs.Ytbaocifpifbldav
open Go.RowKit

set_option maxRecDepth 20000 in
set_option maxHeartbeats 1000000 in
theorem specPointsOk_any (ad : Option Addr) (len cap : Nat) (ps : List Po) (w : World) (hr : RowE 3 poC w ad len ps) :
    Calls Try.prog 10 #[.slice ad len cap] w fun e w' => e = .returned (.bool (poB ps)) ∧ Below w.heap.size w w' := by
  have hz := hr.len_eq
  have hsm := hr.small
  have HOP := hide hr.open_
  clear hr
  subst hz
  go_enter Try.func10, Try.ntmps10
  go_wp2_with fail
  go_loopw [3] (fun s3 wr => ∃ i : Nat, i ≤ ps.length ∧ s3 = .int .i64 (i : Int) ∧ Hid (∀ j, j < i → poAt ps j = true) ∧ Hid (Below w.heap.size w wr)) (fun s3 _ => ps.length - (intOf s3).toNat)
  case atStart => exact ⟨0, Nat.zero_le _, rfl, hide (fun j hj => by omega), hide (Below.refl _ _)⟩
  case round =>
    obtain ⟨i, hi, rfl, HN, HW⟩ := hrel
    have bw := unhide HW
    by_cases hlt : i < ps.length
    · rcases (unhide HOP) with ⟨h0, _⟩ | ⟨bb, off, rfl, _, hcs⟩
      · omega
      have n1 : (0 : Int) ≤ (i : Int) := by omega
      have n2 : (i : Int) < (ps.length : Int) := by omega
      have p0' : wr.cell? ⟨bb, off + i * 3, none⟩ = some (.int .i64 (elAt ps i).a0) := (bw.cell (block_lt_of_cell (hcs i hlt 0 (by omega)))).trans (hcs i hlt 0 (by omega))
      have p1' : wr.cell? ⟨bb, off + i * 3 + 1, none⟩ = some (.int .i64 (elAt ps i).a1) := (bw.cell (block_lt_of_cell (hcs i hlt 1 (by omega)))).trans (hcs i hlt 1 (by omega))
      have p2' : wr.cell? ⟨bb, off + i * 3 + 2, none⟩ = some (.int .i64 (elAt ps i).a2) := (bw.cell (block_lt_of_cell (hcs i hlt 2 (by omega)))).trans (hcs i hlt 2 (by omega))
      have BE := hide (fun n => (bw.alloc bw.size (Obj.cells #[.int .i64 (elAt ps i).a0, .int .i64 (elAt ps i).a1, .int .i64 (elAt ps i).a2] 51)).trans (bel0d' n) : ∀ n, Below w.heap.size w ((wr.alloc (Obj.cells #[.int .i64 (elAt ps i).a0, .int .i64 (elAt ps i).a1, .int .i64 (elAt ps i).a2] 51)).drewN n))
      cases q1 : inB (elAt ps i).a0 0 100000 with
      | false =>
        have HE := hide (poB_not hlt (show poAt ps i = false by simp [poAt, q1]))
        clear hcs bw
        go_wp2_with fail
        go_quiet ((go_at_call 32; exact Calls.quiet_of_same (l1In_is _ _ _ _ (by first | exact q1 | exact q2))))
        go_wp2
        go_ret
        exact ⟨ret_bool (unhide HE).symm, unhide BE _⟩
      | true =>
        cases q2 : inB (elAt ps i).a1 0 (elAt ps i).a2 with
        | false =>
          have HE := hide (poB_not hlt (show poAt ps i = false by simp [poAt, q2]))
          clear hcs bw
          go_wp2_with fail
          go_quiet ((go_at_call 32; exact Calls.quiet_of_same (l1In_is _ _ _ _ (by first | exact q1 | exact q2))))
          go_wp2
          go_ret
          exact ⟨ret_bool (unhide HE).symm, unhide BE _⟩
        | true =>
          by_cases q3 : (100000 : Int) < (elAt ps i).a2
          · have HE := hide (poB_not hlt (show poAt ps i = false by have : ¬ (elAt ps i).a2 ≤ 100000 := by omega
                                                                    simp [poAt, this]))
            clear hcs bw
            go_wp2_with fail
            go_quiet ((go_at_call 32; exact Calls.quiet_of_same (l1In_is _ _ _ _ (by first | exact q1 | exact q2))))
            go_wp2
            go_ret
            exact ⟨ret_bool (unhide HE).symm, unhide BE _⟩
          · have q3' : decide ((100000 : Int) < (elAt ps i).a2) = false := decide_eq_false q3
            have q4 : (elAt ps i).a2 ≤ 100000 := by omega
            by_cases hi0 : i = 0
            · have HA : Hid (poAt ps i = true) := hide (by subst hi0; simp [poAt, q1, q2, q4])
              have hz0 : decide ((0 : Int) < (i : Int)) = false := decide_eq_false (by omega)
              have hz1 : ¬ (0 : Int) < (i : Int) := by omega
              have hz2 : decide (0 < i) = false := decide_eq_false (by omega)
              have HI := hide hi0
              clear hcs bw hi0 q3
              go_wp2_with fail
              go_quiet ((go_at_call 32; exact Calls.quiet_of_same (l1In_is _ _ _ _ (by first | exact q1 | exact q2))))
              go_wp2
              go_roundw
              case rel => exact ⟨i + 1, by omega, by go_num, hide (fun j hj => by rcases Nat.lt_succ_iff_lt_or_eq.1 hj with h | h; exact unhide HN j h; subst h; exact unhide HA), hide (unhide BE _)⟩
              case measure => simp [intOf]; omega
            · obtain ⟨j, hj⟩ : ∃ j, i = j + 1 := ⟨i - 1, by omega⟩
              have hsub : (i : Int) - 1 = (j : Int) := by omega
              have hwr : IntKind.i64.wrap (j : Int) = (j : Int) := by rw [IntKind.wrap_i64]; omega
              have hj0 : (0 : Int) ≤ (j : Int) := by omega
              have hj1 : (j : Int) < (ps.length : Int) := by omega
              have hz0 : decide ((0 : Int) < (i : Int)) = true := decide_eq_true (by omega)
              have hz2 : decide (0 < i) = true := decide_eq_true (by omega)
              have e0 := hcs j (by omega) 0 (by omega)
              have pj : (wr.alloc (Obj.cells #[.int .i64 (elAt ps i).a0, .int .i64 (elAt ps i).a1, .int .i64 (elAt ps i).a2] 51)).cell? ⟨bb, off + j * 3, none⟩ = some (.int .i64 (elAt ps j).a0) := ((bw.alloc bw.size _).cell (block_lt_of_cell e0)).trans e0
              have hpr : elAt ps (i - 1) = elAt ps j := by rw [hj]; rfl
              by_cases hlt2 : (elAt ps j).a0 < (elAt ps i).a0
              · have HA : Hid (poAt ps i = true) := hide (by unfold poAt; rw [q1, q2, hpr]; simp [q4, hlt2])
                have hge : ¬ (elAt ps i).a0 ≤ (elAt ps j).a0 := by omega
                have HI := hide hj
                clear hcs bw hi0 q3 hj hpr e0
                go_wp2_with fail
                go_quiet ((go_at_call 32; exact Calls.quiet_of_same (l1In_is _ _ _ _ (by first | exact q1 | exact q2))))
                go_wp2
                go_roundw
                case rel => exact ⟨i + 1, by omega, by go_num, hide (fun j hj => by rcases Nat.lt_succ_iff_lt_or_eq.1 hj with h | h; exact unhide HN j h; subst h; exact unhide HA), hide (unhide BE _)⟩
                case measure => simp [intOf]; omega
              · have HE := hide (poB_not hlt (show poAt ps i = false by unfold poAt; rw [hpr]; simp [hlt2, hi0]))
                have hge : (elAt ps i).a0 ≤ (elAt ps j).a0 := by omega
                have HI := hide hj
                clear hcs bw hi0 q3 hj hpr e0
                go_wp2_with fail
                go_quiet ((go_at_call 32; exact Calls.quiet_of_same (l1In_is _ _ _ _ (by first | exact q1 | exact q2))))
                go_wp2
                go_ret
                exact ⟨ret_bool (unhide HE).symm, unhide BE _⟩
    · have HE := hide (poB_all (ps := ps) (fun j hj => unhide HN j (by omega)))
      have n2 : ¬ (i : Int) < (ps.length : Int) := by omega
      obtain ⟨b, hb⟩ : ∃ b, inB (ps.length : Int) 1 30 = b := ⟨_, rfl⟩
      have HB := hide hb
      clear hb
      go_wp2_with (go_at_call 32; refine (l1In_is _ _ _ _ (unhide HB)).mono ?_; rintro e w' ⟨rfl, hw⟩; subst w')
      go_ret
      exact ⟨ret_bool ((unhide HE).trans (unhide HB)).symm, bw⟩

end Go.Proofs.Ytbaocifpifbldav
