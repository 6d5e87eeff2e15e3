/-
  What RecordOk answers, in the model and in the program, and wideOf: as the plain test. At every list of rows; nothing that was there is written.
-/
import Derived.Test.YtfnnfldfnjnlfahMRrOwn
import Derived.Test.YtfnnfldfnjnlfahMSmall
import Derived.Test.YtfnnfldfnjnlfahMMarkText
namespace Go.Proofs.Ytfnnfldfnjnlfah
open Go.RowKit

theorem rcAll_s {r : Bool} (ad : Option Addr) (len cap : Nat) (zs : List Int) (a b : Int) (w : World) (hr : Row w ad len zs) (hc : allB zs a b = r) :
    Calls Try.prog 40 #[.slice ad len cap, .int .i64 a, .int .i64 b] w fun e w' => e = .returned (.bool r) ∧ ∃ n, w' = w.drewN n := by rw [← hc]; exact l1All_any ad len cap zs a b w hr
theorem rcAll_i {r : Bool} (ad : Option Addr) (len cap : Nat) (zs : List Int) (a b : Int) (w : World) (hr : Row w ad len zs) (hc : allB zs a b = r) :
    Calls Try.prog 43 #[.slice ad len cap, .int .i64 a, .int .i64 b] w fun e w' => e = .returned (.bool r) ∧ ∃ n, w' = w.drewN n := by rw [← hc]; exact allWithin_any ad len cap zs a b w hr
set_option maxHeartbeats 400000 in
theorem wideOf_any (ad : Option Addr) (len cap : Nat) (zss : List (List Int)) (w : World) (hr : RowS w ad len zss) :
    Calls Try.prog 58 #[.slice ad len cap] w fun e w' => e = .returned (.int .i64 (wdN zss)) ∧ w' = w := by
  have hz := hr.len_eq
  have hs := hr.small
  have ho := hr.open_
  clear hr
  subst hz
  rcases ho with ⟨h0, _⟩ | ⟨bb, off, rfl, h0, hc⟩
  · have HE := hide (wdN_nil h0)
    have h1 : ((zss.length : Int) == 0) = true := by rw [h0]; rfl
    rw [unhide HE]
    go_enter Try.func58, Try.ntmps58
    go_wp2
    go_ret
    exact ⟨rfl, rfl⟩
  · obtain ⟨ai, li, ci, c0, r0, _⟩ := hc 0 h0
    have HE : Hid (wdN zss = li) := hide r0.len_eq
    have h1 : ((zss.length : Int) == 0) = false := by rw [beq_eq_false_iff_ne]; omega
    have h2 : (0 : Int) < (zss.length : Int) := by omega
    rw [unhide HE]
    clear hc r0
    rw [Nat.add_zero] at c0
    go_enter Try.func58, Try.ntmps58
    go_wp2
    go_ret
    exact ⟨rfl, rfl⟩
theorem wideOf_is {n : Nat} (ad : Option Addr) (len cap : Nat) (zss : List (List Int)) (w : World) (hr : RowS w ad len zss) (hn : wdN zss = n) :
    Calls Try.prog 58 #[.slice ad len cap] w fun e w' => e = .returned (.int .i64 (n : Int)) ∧ w' = w := by
  subst hn; exact wideOf_any ad len cap zss w hr
set_option maxRecDepth 20000 in
set_option maxHeartbeats 2000000 in
theorem implRecordOk_any (ad : Option Addr) (len cap : Nat) (zss : List (List Int)) (w : World) (hr : RowS w ad len zss) :
    Calls Try.prog 27 #[.slice ad len cap] w fun e w' => e = .returned (.bool (rcB zss)) ∧ Below w.heap.size w w' := by
  have hz := hr.len_eq
  have hs := hr.small
  have HR := hide hr
  clear hr
  subst hz
  by_cases hbig : (200 : Int) < (zss.length : Int)
  · have HE : Hid (rcB zss = false) := hide (rcB_long (by omega))
    rw [unhide HE]
    go_enter Try.func27, Try.ntmps27
    go_wp2_with fail
    go_ret
    exact ⟨rfl, Below.refl _ _⟩
  have hbig2 : zss.length ≤ 200 := by omega
  go_enter Try.func27, Try.ntmps27
  go_wp2_with fail
  go_loopw [10] (fun i wr => ∃ k : Nat, k ≤ zss.length ∧ i = .int .i64 k ∧ Hid (∀ j, j < k → rwB zss j = true) ∧ Below w.heap.size w wr) (fun i _ => zss.length - (intOf i).toNat)
  case atStart => exact ⟨0, Nat.zero_le _, rfl, (fun j hj => by omega), Below.refl _ _⟩
  case round =>
    obtain ⟨k, hk, rfl, hall, hbel⟩ := hrel
    have BW := hide hbel
    have HRr := hide ((unhide HR).below hbel)
    clear hbel
    by_cases hlt : k < zss.length
    · obtain ⟨ι, fW, _, hcb, hcl⟩ := belClass wr
      have HB := hide hcb
      have HA := hide hcl
      rcases (unhide HRr).open_ with ⟨h0, _⟩ | ⟨bb, off, rfl, _, hc⟩
      · omega
      obtain ⟨ai, li, ci, ck, rk, _⟩ := hc k hlt
      obtain ⟨a0, l0, c0, cz, r0, _⟩ := hc 0 (by omega)
      rw [Nat.add_zero] at cz
      have x1 : ∀ x, (fW x).cell? ⟨bb, off + k, none⟩ = some (.slice ai li ci) := fun x => ((hcb x).cell (block_lt_of_cell ck)).trans ck
      have x0 : ∀ x, (fW x).cell? ⟨bb, off, none⟩ = some (.slice a0 l0 c0) := fun x => ((hcb x).cell (block_lt_of_cell cz)).trans cz
      have HK : Hid (∀ x, Row (fW x) ai li (nthS zss k)) := hide (fun x => rk.below (hcb x))
      have HW : Hid (∀ x, RowS (fW x) (some ⟨bb, off, none⟩) zss.length zss) := hide (fun x => (unhide HRr).below (hcb x))
      have HWD : Hid (wdN zss = l0) := hide r0.len_eq
      have hE : rwB zss k = (((li : Int) == (l0 : Int)) && inB li 1 8 && allB (nthS zss k) (-30000) 30000) := by unfold rwB; rw [rk.len_eq, r0.len_eq]
      have hi0 : (0 : Int) ≤ (k : Int) := by omega
      have hi1 : (k : Int) < (zss.length : Int) := by omega
      have hi2 : (0 : Int) < (zss.length : Int) := by omega
      obtain ⟨y0, h0⟩ := hcl wr (Below.refl _ _)
      rw [h0]
      clear hc rk r0 ck cz hcb hcl h0
      rcases three ((li : Int) == (l0 : Int)) (inB li 1 8) (allB (nthS zss k) (-30000) 30000) with ⟨q1, hv⟩ | ⟨q1, q2, hv⟩ | ⟨q1, q2, q3, hv⟩ | ⟨q1, q2, q3, hv⟩
      · have HV := hide (hE.trans hv)
        have n1 : ((li : Int) != (l0 : Int)) = true := by rw [bne, q1]; rfl
        clear hE hv q1
        go_wp2_with (first | (go_at_call 59; refine (belS (within_is _ _ _ _ (by assumption))).mono ?_; rintro e _ ⟨rfl, y, rfl⟩) | (go_at_call 43; refine (belN (unhide HB) (unhide HA) (rcAll_i _ _ _ (nthS zss k) _ _ _ ((unhide HK) _) (by assumption))).mono ?_; rintro e _ ⟨rfl, y, rfl⟩) | (go_at_call 58; refine (belS (wideOf_is _ _ _ zss _ ((unhide HW) _) (unhide HWD))).mono ?_; rintro e _ ⟨rfl, y, rfl⟩))
        repeat (refine wp_region_bel (fun w' h => (unhide HA) w' ((unhide HB _).trans (h.mono (unhide HB _).size))) (by kernel_rfl) (by kernel_rfl) ?_; (repeat (go_big_quiet_step (first | (go_at_call 59; exact belS (within_is _ _ _ _ (by assumption))) | (go_at_call 43; exact belN (unhide HB) (unhide HA) (rcAll_i _ _ _ (nthS zss k) _ _ _ ((unhide HK) _) (by assumption))) | (go_at_call 58; exact belS (wideOf_is _ _ _ zss _ ((unhide HW) _) (unhide HWD)))))); refine wpQuiet_nil ?_; rintro _ ⟨y, rfl⟩; (first | go_wp2_with (first | (go_at_call 59; refine (belS (within_is _ _ _ _ (by assumption))).mono ?_; rintro e _ ⟨rfl, y, rfl⟩) | (go_at_call 43; refine (belN (unhide HB) (unhide HA) (rcAll_i _ _ _ (nthS zss k) _ _ _ ((unhide HK) _) (by assumption))).mono ?_; rintro e _ ⟨rfl, y, rfl⟩) | (go_at_call 58; refine (belS (wideOf_is _ _ _ zss _ ((unhide HW) _) (unhide HWD))).mono ?_; rintro e _ ⟨rfl, y, rfl⟩)) | go_wp2))
        go_ret
        exact ⟨ret_bool (rcB_no hlt (unhide HV)).symm, (unhide BW).trans ((unhide HB _).mono (unhide BW).size)⟩
      · have HV := hide (hE.trans hv)
        have n1 : ((li : Int) != (l0 : Int)) = false := by rw [bne, q1]; rfl
        clear hE hv q1
        go_wp2_with (first | (go_at_call 59; refine (belS (within_is _ _ _ _ (by assumption))).mono ?_; rintro e _ ⟨rfl, y, rfl⟩) | (go_at_call 43; refine (belN (unhide HB) (unhide HA) (rcAll_i _ _ _ (nthS zss k) _ _ _ ((unhide HK) _) (by assumption))).mono ?_; rintro e _ ⟨rfl, y, rfl⟩) | (go_at_call 58; refine (belS (wideOf_is _ _ _ zss _ ((unhide HW) _) (unhide HWD))).mono ?_; rintro e _ ⟨rfl, y, rfl⟩))
        repeat (refine wp_region_bel (fun w' h => (unhide HA) w' ((unhide HB _).trans (h.mono (unhide HB _).size))) (by kernel_rfl) (by kernel_rfl) ?_; (repeat (go_big_quiet_step (first | (go_at_call 59; exact belS (within_is _ _ _ _ (by assumption))) | (go_at_call 43; exact belN (unhide HB) (unhide HA) (rcAll_i _ _ _ (nthS zss k) _ _ _ ((unhide HK) _) (by assumption))) | (go_at_call 58; exact belS (wideOf_is _ _ _ zss _ ((unhide HW) _) (unhide HWD)))))); refine wpQuiet_nil ?_; rintro _ ⟨y, rfl⟩; (first | go_wp2_with (first | (go_at_call 59; refine (belS (within_is _ _ _ _ (by assumption))).mono ?_; rintro e _ ⟨rfl, y, rfl⟩) | (go_at_call 43; refine (belN (unhide HB) (unhide HA) (rcAll_i _ _ _ (nthS zss k) _ _ _ ((unhide HK) _) (by assumption))).mono ?_; rintro e _ ⟨rfl, y, rfl⟩) | (go_at_call 58; refine (belS (wideOf_is _ _ _ zss _ ((unhide HW) _) (unhide HWD))).mono ?_; rintro e _ ⟨rfl, y, rfl⟩)) | go_wp2))
        go_ret
        exact ⟨ret_bool (rcB_no hlt (unhide HV)).symm, (unhide BW).trans ((unhide HB _).mono (unhide BW).size)⟩
      · have HV := hide (hE.trans hv)
        have n1 : ((li : Int) != (l0 : Int)) = false := by rw [bne, q1]; rfl
        clear hE hv q1
        go_wp2_with (first | (go_at_call 59; refine (belS (within_is _ _ _ _ (by assumption))).mono ?_; rintro e _ ⟨rfl, y, rfl⟩) | (go_at_call 43; refine (belN (unhide HB) (unhide HA) (rcAll_i _ _ _ (nthS zss k) _ _ _ ((unhide HK) _) (by assumption))).mono ?_; rintro e _ ⟨rfl, y, rfl⟩) | (go_at_call 58; refine (belS (wideOf_is _ _ _ zss _ ((unhide HW) _) (unhide HWD))).mono ?_; rintro e _ ⟨rfl, y, rfl⟩))
        repeat (refine wp_region_bel (fun w' h => (unhide HA) w' ((unhide HB _).trans (h.mono (unhide HB _).size))) (by kernel_rfl) (by kernel_rfl) ?_; (repeat (go_big_quiet_step (first | (go_at_call 59; exact belS (within_is _ _ _ _ (by assumption))) | (go_at_call 43; exact belN (unhide HB) (unhide HA) (rcAll_i _ _ _ (nthS zss k) _ _ _ ((unhide HK) _) (by assumption))) | (go_at_call 58; exact belS (wideOf_is _ _ _ zss _ ((unhide HW) _) (unhide HWD)))))); refine wpQuiet_nil ?_; rintro _ ⟨y, rfl⟩; (first | go_wp2_with (first | (go_at_call 59; refine (belS (within_is _ _ _ _ (by assumption))).mono ?_; rintro e _ ⟨rfl, y, rfl⟩) | (go_at_call 43; refine (belN (unhide HB) (unhide HA) (rcAll_i _ _ _ (nthS zss k) _ _ _ ((unhide HK) _) (by assumption))).mono ?_; rintro e _ ⟨rfl, y, rfl⟩) | (go_at_call 58; refine (belS (wideOf_is _ _ _ zss _ ((unhide HW) _) (unhide HWD))).mono ?_; rintro e _ ⟨rfl, y, rfl⟩)) | go_wp2))
        go_ret
        exact ⟨ret_bool (rcB_no hlt (unhide HV)).symm, (unhide BW).trans ((unhide HB _).mono (unhide BW).size)⟩
      · have HV := hide (hE.trans hv)
        have n1 : ((li : Int) != (l0 : Int)) = false := by rw [bne, q1]; rfl
        clear hE hv q1
        go_wp2_with (first | (go_at_call 59; refine (belS (within_is _ _ _ _ (by assumption))).mono ?_; rintro e _ ⟨rfl, y, rfl⟩) | (go_at_call 43; refine (belN (unhide HB) (unhide HA) (rcAll_i _ _ _ (nthS zss k) _ _ _ ((unhide HK) _) (by assumption))).mono ?_; rintro e _ ⟨rfl, y, rfl⟩) | (go_at_call 58; refine (belS (wideOf_is _ _ _ zss _ ((unhide HW) _) (unhide HWD))).mono ?_; rintro e _ ⟨rfl, y, rfl⟩))
        repeat (refine wp_region_bel (fun w' h => (unhide HA) w' ((unhide HB _).trans (h.mono (unhide HB _).size))) (by kernel_rfl) (by kernel_rfl) ?_; (repeat (go_big_quiet_step (first | (go_at_call 59; exact belS (within_is _ _ _ _ (by assumption))) | (go_at_call 43; exact belN (unhide HB) (unhide HA) (rcAll_i _ _ _ (nthS zss k) _ _ _ ((unhide HK) _) (by assumption))) | (go_at_call 58; exact belS (wideOf_is _ _ _ zss _ ((unhide HW) _) (unhide HWD)))))); refine wpQuiet_nil ?_; rintro _ ⟨y, rfl⟩; (first | go_wp2_with (first | (go_at_call 59; refine (belS (within_is _ _ _ _ (by assumption))).mono ?_; rintro e _ ⟨rfl, y, rfl⟩) | (go_at_call 43; refine (belN (unhide HB) (unhide HA) (rcAll_i _ _ _ (nthS zss k) _ _ _ ((unhide HK) _) (by assumption))).mono ?_; rintro e _ ⟨rfl, y, rfl⟩) | (go_at_call 58; refine (belS (wideOf_is _ _ _ zss _ ((unhide HW) _) (unhide HWD))).mono ?_; rintro e _ ⟨rfl, y, rfl⟩)) | go_wp2))
        go_roundw
        case rel => exact ⟨k + 1, by omega, by go_num, (fun j hj => by rcases Nat.lt_succ_iff_lt_or_eq.1 hj with h | h; exact hall.out j h; subst h; exact unhide HV), (unhide BW).trans ((unhide HB _).mono (unhide BW).size)⟩
        case measure => simp [intOf]; omega
    · have hi1 : ¬ (k : Int) < (zss.length : Int) := by omega
      have HY : Hid (rcB zss = true) := hide (rcB_yes (fun j hj => hall.out j (by omega)) hbig2)
      go_wp2_with fail
      go_ret
      exact ⟨ret_bool (unhide HY).symm, unhide BW⟩

theorem implRecordOk_is {c : Bool} (ad : Option Addr) (len cap : Nat) (zss : List (List Int)) (w : World) (hr : RowS w ad len zss) (hc : rcB zss = c) :
    Calls Try.prog 27 #[.slice ad len cap] w fun e w' => e = .returned (.bool c) ∧ Below w.heap.size w w' := by
  subst hc; exact implRecordOk_any ad len cap zss w hr

end Go.Proofs.Ytfnnfldfnjnlfah
