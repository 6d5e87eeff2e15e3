/-
  What the model's Gap16 answers: the plain answer, at every argument; nothing that was there is written.
-/
import Derived.Test.YtnhcmokkankcmazBuSlot
namespace Go.Proofs.Ytnhcmokkankcmaz
open Go.RowKit

set_option maxHeartbeats 400000 in
theorem l1Max_at {c : Int} (x y : Int) (w : World) (hc : max x y = c) : Calls Try.prog 15 #[.int .i64 x, .int .i64 y] w fun e w' => e = .returned (.int .i64 c) ∧ w' = w := by
  subst hc
  by_cases h : x > y
  all_goals
    go_enter Try.func15, Try.ntmps15
    go_wp2
    go_ret
    exact ⟨ret_int (by omega), rfl⟩
theorem gp_no {gs : List Int} {link : Int} (h : (plB gs && !(link == 0)) = false) : gpR gs link = 0 ∧ gpB gs link = false := by simp only [gpR, gpB, h, Bool.false_and]; simp
theorem gp_yes {gs : List Int} {link : Int} (h : (plB gs && !(link == 0)) = true) : gpR gs link = gpK gs link gs.length ∧ gpB gs link = decide (0 < gpK gs link gs.length) := by simp only [gpR, gpB, h, Bool.true_and, if_true, and_self]
theorem gpK_yes {gs : List Int} {link : Int} {k : Nat} (h : nth gs k = link) : gpK gs link (k + 1) = max (gpK gs link k) (gpD gs link k) := by rw [gpK, if_pos h]
theorem gpK_not {gs : List Int} {link : Int} {k : Nat} (h : ¬ nth gs k = link) : gpK gs link (k + 1) = gpK gs link k := by rw [gpK, if_neg h]

set_option maxRecDepth 20000 in
set_option maxHeartbeats 2000000 in
theorem specGap16_is {n : Int} {b : Bool} (ad : Option Addr) (len cap : Nat) (gs : List Int) (link : Int) (w : World) (hr : Row w ad len gs) (hn : gpR gs link = n) (hb : gpB gs link = b) :
    Calls Try.prog 9 #[.slice ad len cap, .int .i64 link] w fun e w' => e = .returned (.tuple #[.int .i64 n, .bool b]) ∧ Below w.heap.size w w' := by
  have hz := hr.len_eq
  have hs := hr.small
  have HR := hide hr
  clear hr
  subst hz
  obtain ⟨ι, fW, _, hb, hall⟩ := belClass w
  have HB := hide hb
  have HA := hide hall
  clear hb hall
  obtain ⟨x0, h0⟩ := (unhide HA) w (Below.refl _ _)
  rcases two (plB gs) (!(link == 0)) with ⟨q1, hv⟩ | ⟨q1, q2, hv⟩ | ⟨q1, q2, hv⟩
  · have HN := hide ((gp_no hv).1.symm.trans hn)
    have HV := hide ((gp_no hv).2.symm.trans hb)
    clear hv hn hb
    go_enter Try.func9, Try.ntmps9
    rw [h0]
    have H0 := hide h0
    clear h0
    go_wp2_with (first | (go_at_call 11; refine (belQ (unhide HB) (unhide HA) (l16Plan_is _ _ _ gs _ ((unhide HR).below (unhide HB _)) (by exact q1))).mono ?_; rintro e _ ⟨rfl, y, rfl⟩))
    repeat (refine wp_region_bel (fun w' h => (unhide HA) w' ((unhide HB _).trans (h.mono (unhide HB _).size))) (by kernel_rfl) (by kernel_rfl) ?_; (repeat (go_big_quiet_step (first | (go_at_call 11; exact belQ (unhide HB) (unhide HA) (l16Plan_is _ _ _ gs _ ((unhide HR).below (unhide HB _)) (by exact q1)))))); refine wpQuiet_nil ?_; rintro _ ⟨y, rfl⟩; (first | go_wp2_with (first | (go_at_call 11; refine (belQ (unhide HB) (unhide HA) (l16Plan_is _ _ _ gs _ ((unhide HR).below (unhide HB _)) (by exact q1))).mono ?_; rintro e _ ⟨rfl, y, rfl⟩)) | go_wp2))
    go_ret2
    exact ⟨ret_ib (unhide HN) (unhide HV), (by first | (rw [← unhide H0]; exact unhide HB _) | (rw [← unhide H0]; exact Below.refl _ _))⟩
  · have HN := hide ((gp_no hv).1.symm.trans hn)
    have HV := hide ((gp_no hv).2.symm.trans hb)
    clear hv hn hb
    have e0 : link = 0 := by simpa using q2
    subst e0
    clear q2
    go_enter Try.func9, Try.ntmps9
    rw [h0]
    have H0 := hide h0
    clear h0
    go_wp2_with (first | (go_at_call 11; refine (belQ (unhide HB) (unhide HA) (l16Plan_is _ _ _ gs _ ((unhide HR).below (unhide HB _)) (by exact q1))).mono ?_; rintro e _ ⟨rfl, y, rfl⟩))
    repeat (refine wp_region_bel (fun w' h => (unhide HA) w' ((unhide HB _).trans (h.mono (unhide HB _).size))) (by kernel_rfl) (by kernel_rfl) ?_; (repeat (go_big_quiet_step (first | (go_at_call 11; exact belQ (unhide HB) (unhide HA) (l16Plan_is _ _ _ gs _ ((unhide HR).below (unhide HB _)) (by exact q1)))))); refine wpQuiet_nil ?_; rintro _ ⟨y, rfl⟩; (first | go_wp2_with (first | (go_at_call 11; refine (belQ (unhide HB) (unhide HA) (l16Plan_is _ _ _ gs _ ((unhide HR).below (unhide HB _)) (by exact q1))).mono ?_; rintro e _ ⟨rfl, y, rfl⟩)) | go_wp2))
    go_ret2
    exact ⟨ret_ib (unhide HN) (unhide HV), (by first | (rw [← unhide H0]; exact unhide HB _) | (rw [← unhide H0]; exact Below.refl _ _))⟩
  · have HNN := hide ((gp_yes hv).1.symm.trans hn)
    have HBB := hide ((gp_yes hv).2.symm.trans hb)
    clear hv hn hb
    have g1 := (plB_facts q1).1
    have HAL := hide (plB_facts q1).2
    have e0 : ¬ link = 0 := by simpa using q2
    have e1 : (link == 0) = false := by simpa using q2
    clear q2
    go_enter Try.func9, Try.ntmps9
    rw [h0]
    have H0 := hide h0
    clear h0
    go_wp2_with (first | (go_at_call 11; refine (belQ (unhide HB) (unhide HA) (l16Plan_is _ _ _ gs _ ((unhide HR).below (unhide HB _)) (by exact q1))).mono ?_; rintro e _ ⟨rfl, y, rfl⟩))
    repeat (refine wp_region_bel (fun w' h => (unhide HA) w' ((unhide HB _).trans (h.mono (unhide HB _).size))) (by kernel_rfl) (by kernel_rfl) ?_; (repeat (go_big_quiet_step (first | (go_at_call 11; exact belQ (unhide HB) (unhide HA) (l16Plan_is _ _ _ gs _ ((unhide HR).below (unhide HB _)) (by exact q1)))))); refine wpQuiet_nil ?_; rintro _ ⟨y, rfl⟩; (first | go_wp2_with (first | (go_at_call 11; refine (belQ (unhide HB) (unhide HA) (l16Plan_is _ _ _ gs _ ((unhide HR).below (unhide HB _)) (by exact q1))).mono ?_; rintro e _ ⟨rfl, y, rfl⟩)) | go_wp2))
    go_loopw [6, 7] (fun s6 s7 wr => ∃ (k : Nat) (B : Int) (x : ι), k ≤ gs.length ∧ s6 = .int .i64 B ∧ s7 = .int .i64 k ∧ (0 ≤ B ∧ B ≤ 40) ∧ Hid (gpK gs link k = B) ∧ wr = fW x) (fun _ s7 _ => gs.length - (intOf s7).toNat)
    case atStart => exact ⟨0, 0, _, Nat.zero_le _, rfl, rfl, by omega, hide rfl, rfl⟩
    case round =>
      obtain ⟨k, B, x, hk, rfl, rfl, hB, HK, rfl⟩ := hrel
      by_cases hlt : k < gs.length
      · rcases (unhide HR).open_ with ⟨q0, _⟩ | ⟨bb, off, rfl, _, hc⟩
        · omega
        have HCC := hide hc
        have m0 : ∀ x, (fW x).cell? ⟨bb, off + k, none⟩ = some (.int .i64 (nth gs k)) := fun x => ((unhide HB x).cell (block_lt_of_cell (hc k hlt))).trans (hc k hlt)
        clear hc
        have k0 : (0 : Int) ≤ (k : Int) := by omega
        have k1 : (k : Int) < (gs.length : Int) := by omega
        by_cases hq : nth gs k = link
        · have HQ := hide hq
          rw [hq] at m0
          clear hq
          have q5 : (link != link) = false := by simp
          go_wp2_with fail
          go_loopw [8] (fun s8 wr => ∃ (j : Nat) (x : ι), j < gs.length ∧ s8 = .int .i64 ((j : Int) + 1) ∧ Hid (∀ i, i < j → ¬ nth gs ((k + (i + 1)) % gs.length) = link) ∧ wr = fW x) (fun s8 _ => gs.length + 1 - (intOf s8).toNat)
          case atStart => exact ⟨0, _, by omega, rfl, hide (fun i hi => by omega), rfl⟩
          case round =>
            obtain ⟨j, x, hj, rfl, HJ, rfl⟩ := hrel
            obtain ⟨p, hp⟩ : ∃ p, (k + (j + 1)) % gs.length = p := ⟨_, rfl⟩
            have hpl : p < gs.length := by rw [← hp]; exact Nat.mod_lt _ (by omega)
            have n0 : ∀ x, (fW x).cell? ⟨bb, off + p, none⟩ = some (.int .i64 (nth gs p)) := fun x => ((unhide HB x).cell (block_lt_of_cell (unhide HCC p hpl))).trans (unhide HCC p hpl)
            have hpi : ((k : Int) + ((j : Int) + 1)) % (gs.length : Int) = (p : Int) := by rw [← hp]; simp
            have hpt : ((k : Int) + ((j : Int) + 1)).tmod (gs.length : Int) = (p : Int) := by rw [Int.tmod_eq_emod_of_nonneg (by omega)]; exact hpi
            have p0 : (0 : Int) ≤ (p : Int) := by omega
            have p1 : (p : Int) < (gs.length : Int) := by omega
            have hz0 : ¬ (gs.length : Int) = 0 := by omega
            by_cases hr2 : nth gs p = link
            · have HD := hide (gpD_is hj (by rw [hp]; exact hr2) (unhide HJ))
              rw [hr2] at n0
              have HP := hide hp
              clear hp hr2
              go_wp2_with (first | (go_at_call 15; refine (belS (l1Max_at _ _ _ rfl)).mono ?_; rintro e _ ⟨rfl, y, rfl⟩))
              go_roundw
              case rel => exact ⟨k + 1, max B ((j : Int) + 1), _, by omega, rfl, by go_num, by omega, hide (by rw [gpK_yes (unhide HQ), unhide HD, unhide HK]; simp), rfl⟩
              case measure => simp [intOf]; omega
            · have hj2 : j + 1 < gs.length := by
                rcases Nat.lt_or_ge (j + 1) gs.length with h | h
                · exact h
                · have e : j + 1 = gs.length := by omega
                  exfalso
                  apply hr2
                  rw [← hp, e, Nat.add_mod_right, Nat.mod_eq_of_lt hlt]
                  exact unhide HQ
              have HR2 : Hid (¬ nth gs ((k + (j + 1)) % gs.length) = link) := hide (by rw [hp]; exact hr2)
              have q6 : (nth gs p != link) = true := by simpa using hr2
              have HP := hide hp
              clear hp
              go_wp2_with fail
              go_roundw
              case rel => exact ⟨j + 1, _, hj2, by go_num, hide (fun i hi => by rcases Nat.lt_succ_iff_lt_or_eq.1 hi with h | h; exact unhide HJ i h; subst h; exact unhide HR2), rfl⟩
              case measure => simp [intOf]; omega
        · have HQ := hide hq
          have q5 : (nth gs k != link) = true := by simpa using hq
          go_wp2_with fail
          go_roundw
          case rel => exact ⟨k + 1, B, _, by omega, rfl, by go_num, hB, hide (by rw [gpK_not (unhide HQ)]; exact unhide HK), rfl⟩
          case measure => simp [intOf]; omega
      · have hkl : k = gs.length := by omega
        have HE1 : Hid (gpK gs link gs.length = B) := hide (by rw [← hkl]; exact unhide HK)
        have k1 : ¬ (k : Int) < (gs.length : Int) := by omega
        clear hkl
        go_wp2_with fail
        go_ret2
        exact ⟨ret_ib ((unhide HE1).symm.trans (unhide HNN)) (by rw [← unhide HBB, unhide HE1]), (by first | (rw [← unhide H0]; exact unhide HB _) | (rw [← unhide H0]; exact Below.refl _ _))⟩

end Go.Proofs.Ytnhcmokkankcmaz
