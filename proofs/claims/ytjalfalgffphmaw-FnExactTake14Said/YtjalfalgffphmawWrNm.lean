/-
  Whether names are among names, ascending names of rules, a panel so, in the model.
-/
import Derived.Test.YtjalfalgffphmawWrOk
import Derived.Test.YtjalfalgffphmawPnTo
namespace Go.Proofs.Ytjalfalgffphmaw
open Go.RowKit

set_option maxRecDepth 20000 in
set_option maxHeartbeats 1000000 in
theorem l14Has_any (ad : Option Addr) (len cap : Nat) (ts : List ByteArray) (s : ByteArray) (w : World) (hr : RowE 1 stC w ad len ts) (hl : len ≤ 1048576) :
    Calls Try.prog 30 #[.slice ad len cap, .string s] w fun e w' => e = .returned (.bool (hasB ts s)) ∧ w' = w := by
  have hz := hr.len_eq
  have HO := hide hr.open1
  clear hr
  subst hz
  go_enter Try.func30, Try.ntmps30
  go_wp2_with fail
  go_loopw [5] (fun s5 wr => ∃ i : Nat, i ≤ ts.length ∧ s5 = .int .i64 (i : Int) ∧ Hid (∀ j, j < i → sEq (elAt ts j) s = false) ∧ wr = w) (fun s5 _ => ts.length - (intOf s5).toNat)
  case atStart => exact ⟨0, Nat.zero_le _, rfl, hide (fun j hj => by omega), rfl⟩
  case round =>
    obtain ⟨i, hi, rfl, HN, hwr⟩ := hrel
    subst wr
    by_cases hlt : i < ts.length
    · rcases (unhide HO) with ⟨h0, _⟩ | ⟨bb, off, rfl, _, hc⟩
      · omega
      have m0 : w.cell? ⟨bb, off + i, none⟩ = some (.string (elAt ts i)) := hc i hlt
      have k0 : (0 : Int) ≤ (i : Int) := by omega
      have k1 : (i : Int) < (ts.length : Int) := by omega
      obtain ⟨x, hx⟩ : ∃ x, elAt ts i = x := ⟨_, rfl⟩
      rw [hx] at m0
      have HX := hide hx
      clear hx hc
      cases g : (x.toList == s.toList) with
      | true =>
        have HE : Hid (hasB ts s = true) := hide (hasB_yes hlt (by rw [unhide HX]; exact g))
        go_wp2_with fail
        go_ret
        exact ⟨ret_bool (unhide HE).symm, rfl⟩
      | false =>
        have HG : Hid (sEq (elAt ts i) s = false) := hide (by rw [unhide HX]; exact g)
        go_wp2_with fail
        go_roundw
        case rel => exact ⟨i + 1, by omega, by go_num, hide (fun j hj => by rcases Nat.lt_succ_iff_lt_or_eq.1 hj with h | h; exact unhide HN j h; subst h; exact unhide HG), by first | rfl | trivial⟩
        case measure => simp [intOf]; omega
    · have k1 : ¬ (i : Int) < (ts.length : Int) := by omega
      have HE : Hid (hasB ts s = false) := hide (hasB_no (fun j hj => unhide HN j (by omega)))
      go_wp2_with fail
      go_ret
      exact ⟨ret_bool (unhide HE).symm, rfl⟩

set_option maxRecDepth 20000 in
set_option maxHeartbeats 1000000 in
theorem l14Names_any (ad : Option Addr) (len cap : Nat) (rs : List Wr) (bd : Option Addr) (len2 cap2 : Nat) (ts : List ByteArray) (w : World) (hr : RowW w ad len rs) (hl : len ≤ 1048576) (hr2 : RowE 1 stC w bd len2 ts) (hl2 : len2 ≤ 1048576) :
    Calls Try.prog 51 #[.slice ad len cap, .slice bd len2 cap2] w fun e w' => e = .returned (.bool (nmB rs ts)) ∧ Below w.heap.size w w' := by
  have hz := hr.len_eq
  have hz2 := hr2.len_eq
  subst hz
  subst hz2
  have HR := hide hr
  have HO2 := hide hr2.open1
  clear hr hr2
  go_enter Try.func51, Try.ntmps51
  go_wp2_with fail
  go_loopw [5] (fun s5 wr => ∃ i : Nat, i ≤ ts.length ∧ s5 = .int .i64 (i : Int) ∧ Hid (∀ j, j < i → nmAt rs ts j = true) ∧ Hid (Below w.heap.size w wr)) (fun s5 _ => ts.length - (intOf s5).toNat)
  case atStart => exact ⟨0, Nat.zero_le _, rfl, hide (fun j hj => by omega), hide (Below.refl _ _)⟩
  case round =>
    obtain ⟨i, hi, rfl, HN, HB⟩ := hrel
    by_cases hlt : i < ts.length
    · rcases (unhide HO2) with ⟨h0, _⟩ | ⟨bb, off, rfl, _, hc⟩
      · omega
      obtain ⟨ι, f, _, hbf, hall⟩ := belClass wr
      have HF := hide hbf
      have HAL := hide hall
      have HBF : Hid (∀ y, Below w.heap.size w (f y)) := hide (fun y => (unhide HB).trans ((hbf y).mono (unhide HB).size))
      have m0 : ∀ y, (f y).cell? ⟨bb, off + i, none⟩ = some (.string (elAt ts i)) := fun y => ((unhide HBF y).cell (block_lt_of_cell (hc i hlt))).trans (hc i hlt)
      clear hbf hall
      have k0 : (0 : Int) ≤ (i : Int) := by omega
      have k1 : (i : Int) < (ts.length : Int) := by omega
      obtain ⟨d, hd⟩ : ∃ d, elAt ts i = d := ⟨_, rfl⟩
      simp only [hd] at m0
      have HFN : Hid (∀ y, Calls Try.prog 45 #[.slice ad rs.length cap, .string d] (f y) fun e w' => e = .returned (.int .i64 (wfI rs d)) ∧ w' = f y) := hide (fun y => l14Find_any _ _ cap rs d (f y) ((unhide HR).below (unhide HBF y)) hl)
      have HI0 : Hid (wfI rs d = if wfK rs d < rs.length then (wfK rs d : Int) else -1) := hide rfl
      have HV : Hid (nmAt rs ts i = (decide (wfK rs d < rs.length) && (decide (i = 0) || sLt (elAt ts (i - 1)) d))) := hide (by unfold nmAt; rw [hd])
      obtain ⟨K, hK⟩ : ∃ K, wfK rs d = K := ⟨_, rfl⟩
      rw [hK] at HI0 HV
      clear hK hd
      by_cases hk : K < rs.length
      · rw [if_pos hk] at HI0
        rw [unhide HI0] at HFN
        have hk0 : decide ((K : Int) < 0) = false := decide_eq_false (by omega)
        by_cases hi0 : i = 0
        · have HA : Hid (nmAt rs ts i = true) := hide (by rw [unhide HV]; simp [hk, hi0])
          have hz1 : ¬ (0 : Int) < (i : Int) := by omega
          have hz2 : ¬ 0 < i := by omega
          have HI := hide hi0
          clear hc hi0
          go_wp2_with fail
          refine wp_region_bel (unhide HAL) (by kernel_rfl) (by kernel_rfl) ?_
          repeat (go_big_quiet_step ((go_at_call 45; exact belS (unhide HFN _))))
          refine wpQuiet_nil ?_
          rintro _ ⟨y, rfl⟩
          go_wp2_with fail
          go_roundw
          case rel => exact ⟨i + 1, by omega, by go_num, hide (fun j hj => by rcases Nat.lt_succ_iff_lt_or_eq.1 hj with h | h; exact unhide HN j h; subst h; exact unhide HA), hide (unhide HBF y)⟩
          case measure => simp [intOf]; omega
        · obtain ⟨j, hj⟩ : ∃ j, i = j + 1 := ⟨i - 1, by omega⟩
          have n0 : ∀ y, (f y).cell? ⟨bb, off + j, none⟩ = some (.string (elAt ts j)) := fun y => ((unhide HBF y).cell (block_lt_of_cell (hc j (by omega)))).trans (hc j (by omega))
          obtain ⟨z, hz⟩ : ∃ z, elAt ts j = z := ⟨_, rfl⟩
          simp only [hz] at n0
          have HV2 : Hid (nmAt rs ts i = Op.bytesLess z.toList d.toList) := hide (by rw [unhide HV, hj, Nat.add_sub_cancel, hz]; simp [hk, sLt])
          have hsub : (i : Int) - 1 = (j : Int) := by omega
          have hwr : IntKind.i64.wrap (j : Int) = (j : Int) := by rw [IntKind.wrap_i64]; omega
          have hj0 : (0 : Int) ≤ (j : Int) := by omega
          have hj1 : (j : Int) < (ts.length : Int) := by omega
          have hz1 : (0 : Int) < (i : Int) := by omega
          have hz2 : 0 < i := by omega
          have HJ := hide hj
          clear hc hi0 hj hz
          cases g : Op.bytesLess z.toList d.toList with
          | true =>
            rw [g] at HV2
            go_wp2_with fail
            refine wp_region_bel (unhide HAL) (by kernel_rfl) (by kernel_rfl) ?_
            repeat (go_big_quiet_step ((go_at_call 45; exact belS (unhide HFN _))))
            refine wpQuiet_nil ?_
            rintro _ ⟨y, rfl⟩
            go_wp2_with fail
            go_roundw
            case rel => exact ⟨i + 1, by omega, by go_num, hide (fun j hj => by rcases Nat.lt_succ_iff_lt_or_eq.1 hj with h | h; exact unhide HN j h; subst h; exact unhide HV2), hide (unhide HBF y)⟩
            case measure => simp [intOf]; omega
          | false =>
            rw [g] at HV2
            have HE := hide (nmB_not hlt (unhide HV2))
            go_wp2_with fail
            refine wp_region_bel (unhide HAL) (by kernel_rfl) (by kernel_rfl) ?_
            repeat (go_big_quiet_step ((go_at_call 45; exact belS (unhide HFN _))))
            refine wpQuiet_nil ?_
            rintro _ ⟨y, rfl⟩
            go_wp2_with fail
            go_ret
            exact ⟨ret_bool (unhide HE).symm, unhide HBF y⟩
      · rw [if_neg hk] at HI0
        rw [unhide HI0] at HFN
        have HE := hide (nmB_not hlt (by rw [unhide HV]; simp [hk]))
        clear hc
        go_wp2_with fail
        refine wp_region_bel (unhide HAL) (by kernel_rfl) (by kernel_rfl) ?_
        repeat (go_big_quiet_step ((go_at_call 45; exact belS (unhide HFN _))))
        refine wpQuiet_nil ?_
        rintro _ ⟨y, rfl⟩
        go_wp2_with fail
        go_ret
        exact ⟨ret_bool (unhide HE).symm, unhide HBF y⟩
    · have k1 : ¬ (i : Int) < (ts.length : Int) := by omega
      have HE : Hid (nmB rs ts = true) := hide (nmB_all (fun j hj => unhide HN j (by omega)))
      go_wp2_with fail
      go_ret
      exact ⟨ret_bool (unhide HE).symm, unhide HB⟩

end Go.Proofs.Ytjalfalgffphmaw
