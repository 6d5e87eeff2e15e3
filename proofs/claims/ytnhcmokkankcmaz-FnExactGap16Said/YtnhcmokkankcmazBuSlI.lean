/-
  What the program's Slot16 answers: the plain answer, at every argument; nothing that was there is written.
-/
import Derived.Test.YtnhcmokkankcmazBuImpl
import Derived.Test.YtnhcmokkankcmazBuSlot
namespace Go.Proofs.Ytnhcmokkankcmaz
open Go.RowKit

set_option maxRecDepth 20000 in
set_option maxHeartbeats 1000000 in
theorem implSlot16_is {n : Int} {b : Bool} (ad : Option Addr) (len cap : Nat) (gs : List Int) (t : Int) (w : World) (hr : Row w ad len gs) (hn : slR16 gs t = n) (hb : slB16 gs t = b) :
    Calls Try.prog 7 #[.slice ad len cap, .int .i64 t] w fun e w' => e = .returned (.tuple #[.int .i64 n, .bool b]) ∧ Below w.heap.size w w' := by
  have hz := hr.len_eq
  have hs := hr.small
  have HR := hide hr
  clear hr
  subst hz
  obtain ⟨ι, fW, _, hb, hall⟩ := belClass w
  have HB := hide hb
  have HA := hide hall
  clear hb hall
  obtain ⟨x0, h0⟩ := (unhide HA) w (Below.refl _ _)
  rcases two (plB gs) (inB t 0 100000000) with ⟨q1, hv⟩ | ⟨q1, q2, hv⟩ | ⟨q1, q2, hv⟩
  · have HN := hide ((sl_no (show slB16 gs t = _ from hv)).symm.trans hn)
    have HV := hide ((show slB16 gs t = _ from hv).symm.trans hb)
    clear hv hn hb
    go_enter Try.func7, Try.ntmps7
    rw [h0]
    have H0 := hide h0
    clear h0
    go_wp2_with (first | (go_at_call 13; refine (belQ (unhide HB) (unhide HA) (planOk_is _ _ _ gs _ ((unhide HR).below (unhide HB _)) (by exact q1))).mono ?_; rintro e _ ⟨rfl, y, rfl⟩))
    repeat (refine wp_region_bel (fun w' h => (unhide HA) w' ((unhide HB _).trans (h.mono (unhide HB _).size))) (by kernel_rfl) (by kernel_rfl) ?_; (repeat (go_big_quiet_step (first | (go_at_call 13; exact belQ (unhide HB) (unhide HA) (planOk_is _ _ _ gs _ ((unhide HR).below (unhide HB _)) (by exact q1)))))); refine wpQuiet_nil ?_; rintro _ ⟨y, rfl⟩; (first | go_wp2_with (first | (go_at_call 13; refine (belQ (unhide HB) (unhide HA) (planOk_is _ _ _ gs _ ((unhide HR).below (unhide HB _)) (by exact q1))).mono ?_; rintro e _ ⟨rfl, y, rfl⟩)) | go_wp2))
    go_ret2
    exact ⟨ret_ib (unhide HN) (unhide HV), (by first | (rw [← unhide H0]; exact unhide HB _) | (rw [← unhide H0]; exact Below.refl _ _))⟩
  · have HN := hide ((sl_no (show slB16 gs t = _ from hv)).symm.trans hn)
    have HV := hide ((show slB16 gs t = _ from hv).symm.trans hb)
    clear hv hn hb
    go_enter Try.func7, Try.ntmps7
    rw [h0]
    have H0 := hide h0
    clear h0
    go_wp2_with (first | (go_at_call 13; refine (belQ (unhide HB) (unhide HA) (planOk_is _ _ _ gs _ ((unhide HR).below (unhide HB _)) (by exact q1))).mono ?_; rintro e _ ⟨rfl, y, rfl⟩) | (go_at_call 14; refine (belS (within_is _ _ _ _ (by exact q2))).mono ?_; rintro e _ ⟨rfl, y, rfl⟩))
    repeat (refine wp_region_bel (fun w' h => (unhide HA) w' ((unhide HB _).trans (h.mono (unhide HB _).size))) (by kernel_rfl) (by kernel_rfl) ?_; (repeat (go_big_quiet_step (first | (go_at_call 13; exact belQ (unhide HB) (unhide HA) (planOk_is _ _ _ gs _ ((unhide HR).below (unhide HB _)) (by exact q1))) | (go_at_call 14; exact belS (within_is _ _ _ _ (by exact q2)))))); refine wpQuiet_nil ?_; rintro _ ⟨y, rfl⟩; (first | go_wp2_with (first | (go_at_call 13; refine (belQ (unhide HB) (unhide HA) (planOk_is _ _ _ gs _ ((unhide HR).below (unhide HB _)) (by exact q1))).mono ?_; rintro e _ ⟨rfl, y, rfl⟩) | (go_at_call 14; refine (belS (within_is _ _ _ _ (by exact q2))).mono ?_; rintro e _ ⟨rfl, y, rfl⟩)) | go_wp2))
    go_ret2
    exact ⟨ret_ib (unhide HN) (unhide HV), (by first | (rw [← unhide H0]; exact unhide HB _) | (rw [← unhide H0]; exact Below.refl _ _))⟩
  · have HN := hide ((sl_yes (show slB16 gs t = _ from hv)).symm.trans hn)
    have HV := hide ((show slB16 gs t = _ from hv).symm.trans hb)
    clear hv hn hb
    have g1 := plB_facts q1
    have g2 := in_facts q2
    have hm0 : 0 ≤ t % (gs.length : Int) := Int.emod_nonneg _ (by omega)
    have hm1 : t % (gs.length : Int) < (gs.length : Int) := Int.emod_lt_of_pos _ (by omega)
    obtain ⟨j, hj⟩ : ∃ j : Nat, t % (gs.length : Int) = (j : Int) := ⟨(t % (gs.length : Int)).toNat, by omega⟩
    rw [hj] at hm0 hm1
    have ej : (t % (gs.length : Int)).toNat = j := by omega
    have HN : Hid (nth gs j = n) := hide (by rw [← ej]; exact unhide HN)
    have hlt : j < gs.length := by omega
    rcases (unhide HR).open_ with ⟨q0, _⟩ | ⟨bb, off, rfl, _, hc⟩
    · omega
    have m0 : ∀ x, (fW x).cell? ⟨bb, off + j, none⟩ = some (.int .i64 (nth gs j)) := fun x => ((unhide HB x).cell (block_lt_of_cell (hc j hlt))).trans (hc j hlt)
    have hz0 : ¬ (gs.length : Int) = 0 := by omega
    have ht : t.tmod (gs.length : Int) = (j : Int) := by rw [Int.tmod_eq_emod_of_nonneg g2.1]; exact hj
    clear hc ej
    go_enter Try.func7, Try.ntmps7
    rw [h0]
    have H0 := hide h0
    clear h0
    go_wp2_with (first | (go_at_call 13; refine (belQ (unhide HB) (unhide HA) (planOk_is _ _ _ gs _ ((unhide HR).below (unhide HB _)) (by exact q1))).mono ?_; rintro e _ ⟨rfl, y, rfl⟩) | (go_at_call 14; refine (belS (within_is _ _ _ _ (by exact q2))).mono ?_; rintro e _ ⟨rfl, y, rfl⟩))
    repeat (refine wp_region_bel (fun w' h => (unhide HA) w' ((unhide HB _).trans (h.mono (unhide HB _).size))) (by kernel_rfl) (by kernel_rfl) ?_; (repeat (go_big_quiet_step (first | (go_at_call 13; exact belQ (unhide HB) (unhide HA) (planOk_is _ _ _ gs _ ((unhide HR).below (unhide HB _)) (by exact q1))) | (go_at_call 14; exact belS (within_is _ _ _ _ (by exact q2)))))); refine wpQuiet_nil ?_; rintro _ ⟨y, rfl⟩; (first | go_wp2_with (first | (go_at_call 13; refine (belQ (unhide HB) (unhide HA) (planOk_is _ _ _ gs _ ((unhide HR).below (unhide HB _)) (by exact q1))).mono ?_; rintro e _ ⟨rfl, y, rfl⟩) | (go_at_call 14; refine (belS (within_is _ _ _ _ (by exact q2))).mono ?_; rintro e _ ⟨rfl, y, rfl⟩)) | go_wp2))
    go_ret2
    exact ⟨ret_ib (unhide HN) (unhide HV), (by first | (rw [← unhide H0]; exact unhide HB _) | (rw [← unhide H0]; exact Below.refl _ _))⟩

end Go.Proofs.Ytnhcmokkankcmaz
