/-
  What the model's small functions of chapter 16 answer: plain answers, at every argument; nothing that was there is written.
-/
import Derived.Test.YtnhcmokkankcmazBuPure
import Derived.Test.YtnhcmokkankcmazTaAlert
namespace Go.Proofs.Ytnhcmokkankcmaz
open Go.RowKit



set_option maxRecDepth 20000 in
set_option maxHeartbeats 1000000 in
theorem l16Plan_is {r : Bool} (ad : Option Addr) (len cap : Nat) (gs : List Int) (w : World) (hr : Row w ad len gs) (hc : plB gs = r) :
    Calls Try.prog 11 #[.slice ad len cap] w fun e w' => e = .returned (.bool r) ∧ Below w.heap.size w w' := by
  have hz := hr.len_eq
  have hs := hr.small
  have HR := hide hr
  clear hr
  subst hz
  obtain ⟨ι, fW, _, hb, hall⟩ := belClass w
  have HB := hide hb
  have HA := hide hall
  clear hb hall
  obtain ⟨x0, h0⟩ := (unhide HA) w (Below.refl _ _)
  rcases two (inB gs.length 1 40) (allB gs 0 255) with ⟨q1, hv⟩ | ⟨q1, q2, hv⟩ | ⟨q1, q2, hv⟩
  all_goals
    have HV := hide (hv.symm.trans hc)
    clear hv hc
    go_enter Try.func11, Try.ntmps11
    rw [h0]
    have H0 := hide h0
    clear h0
    go_wp2_with (first | (go_at_call 18; refine (belN (unhide HB) (unhide HA) (l1All_is _ _ _ gs _ _ _ ((unhide HR).below (unhide HB _)) (by exact q2))).mono ?_; rintro e _ ⟨rfl, y, rfl⟩) | (go_at_call 17; refine (belS (l1In_is _ _ _ _ (by exact q1))).mono ?_; rintro e _ ⟨rfl, y, rfl⟩))
    repeat (refine wp_region_bel (fun w' h => (unhide HA) w' ((unhide HB _).trans (h.mono (unhide HB _).size))) (by kernel_rfl) (by kernel_rfl) ?_; (repeat (go_big_quiet_step (first | (go_at_call 18; exact belN (unhide HB) (unhide HA) (l1All_is _ _ _ gs _ _ _ ((unhide HR).below (unhide HB _)) (by exact q2))) | (go_at_call 17; exact belS (l1In_is _ _ _ _ (by exact q1)))))); refine wpQuiet_nil ?_; rintro _ ⟨y, rfl⟩; (first | go_wp2_with (first | (go_at_call 18; refine (belN (unhide HB) (unhide HA) (l1All_is _ _ _ gs _ _ _ ((unhide HR).below (unhide HB _)) (by exact q2))).mono ?_; rintro e _ ⟨rfl, y, rfl⟩) | (go_at_call 17; refine (belS (l1In_is _ _ _ _ (by exact q1))).mono ?_; rintro e _ ⟨rfl, y, rfl⟩)) | go_wp2))
    go_ret
    exact ⟨ret_bool (unhide HV), (by first | (rw [← unhide H0]; exact unhide HB _) | (rw [← unhide H0]; exact Below.refl _ _))⟩

end Go.Proofs.Ytnhcmokkankcmaz
