/-
  What the tests of phases and of peaks, and the height at a tick, answer in the program and in the model: as the plain functions. Nothing that was there is written.
-/
import Derived.Test.YtkebjipmbgjilabPhasePure
import Derived.Test.YtkebjipmbgjilabSmall
namespace Go.Proofs.Ytkebjipmbgjilab
open Go.RowKit

theorem two_ph (a b : Int) : (inB a (-100) 100 = false ∧ phase1 a b = false) ∨ (inB a (-100) 100 = true ∧ inB b 1 1000 = false ∧ phase1 a b = false) ∨ (inB a (-100) 100 = true ∧ inB b 1 1000 = true ∧ phase1 a b = true) := two _ _
theorem two_pk (a b : Int) : (inB a 0 12000 = false ∧ peak1 a b = false) ∨ (inB a 0 12000 = true ∧ inB b 0 1000000 = false ∧ peak1 a b = false) ∨ (inB a 0 12000 = true ∧ inB b 0 1000000 = true ∧ peak1 a b = true) := two _ _

set_option maxHeartbeats 1000000 in
theorem phasesOk_any (start : Int) (ad : Option Addr) (len cap : Nat) (ps : List (Int × Int)) (w : World) (hr : Row2 w ad len ps) :
    Calls Try.prog 31 #[.int .i64 start, .slice ad len cap] w fun e w' => e = .returned (.bool (phaseB start ps)) ∧ w' = w := by
  have hz := hr.len_eq
  have hs := hr.small
  have HO := hide hr.open_
  clear hr
  subst hz
  cases hst : inB start 0 100000
  · have HE := hide (phase_start (ps := ps) hst)
    go_enter Try.func31, Try.ntmps31
    go_wp2_with (go_at_call 20; refine (within_is _ _ _ _ hst).mono ?_; rintro e w' ⟨rfl, hw⟩; subst w')
    go_ret
    exact ⟨ret_bool (unhide HE).symm, rfl⟩
  have HST := hide hst
  by_cases hm : ps.length ≤ 12
  · have hm1 : ¬ (12 : Int) < (ps.length : Int) := by omega
    go_enter Try.func31, Try.ntmps31
    go_wp2_with (go_at_call 20; refine (within_is _ _ _ _ hst).mono ?_; rintro e w' ⟨rfl, hw⟩; subst w')
    go_loopw [16] (fun i wr => ∃ k : Nat, k ≤ ps.length ∧ i = .int .i64 k ∧ Hid (∀ j, j < k → phase1 (fstAt ps j) (sndAt ps j) = true) ∧ wr = w) (fun i _ => ps.length - (intOf i).toNat)
    case atStart => exact ⟨0, Nat.zero_le _, rfl, (fun j hj => by omega), rfl⟩
    case round =>
      obtain ⟨k, hk, rfl, hall, hwr⟩ := hrel
      subst wr
      by_cases hlt : k < ps.length
      · rcases (unhide HO) with ⟨h0, _⟩ | ⟨bb, off, rfl, _, hc⟩
        · omega
        obtain ⟨ca, cb⟩ := hc k hlt
        have hi1 : (k : Int) < (ps.length : Int) := by omega
        clear hc
        rcases two_ph (fstAt ps k) (sndAt ps k) with ⟨h, hv⟩ | ⟨h, h', hv⟩ | ⟨h, h', hv⟩
        iterate 2
          have HE := hide (phase_bad (start := start) hlt hv)
          clear hv
          go_wp2_with (go_at_call 20; refine (within_any _ _ _ _).mono ?_; rintro e w' ⟨rfl, hw⟩; subst w')
          go_ret
          exact ⟨ret_bool (unhide HE).symm, rfl⟩
        have HV := hide hv
        clear hv
        go_wp2_with (go_at_call 20; refine (within_any _ _ _ _).mono ?_; rintro e w' ⟨rfl, hw⟩; subst w')
        go_roundw
        case rel => exact ⟨k + 1, by omega, by go_num, (fun j hj => by rcases Nat.lt_succ_iff_lt_or_eq.1 hj with h | h; exact hall.out j h; subst h; exact unhide HV), by first | rfl | trivial⟩
        case measure => simp [intOf]; omega
      · have HE := hide (phase_good (unhide HST) hm fun j hj => hall.out j (by omega))
        go_wp2
        go_ret
        exact ⟨ret_bool (unhide HE).symm, rfl⟩
  · have hm1 : (12 : Int) < (ps.length : Int) := by omega
    have HE := hide (phase_many (start := start) hm)
    go_enter Try.func31, Try.ntmps31
    go_wp2_with (go_at_call 20; refine (within_is _ _ _ _ hst).mono ?_; rintro e w' ⟨rfl, hw⟩; subst w')
    go_ret
    exact ⟨ret_bool (unhide HE).symm, rfl⟩

set_option maxHeartbeats 1000000 in
theorem l3Phases_any (start : Int) (ad : Option Addr) (len cap : Nat) (ps : List (Int × Int)) (w : World) (hr : Row2 w ad len ps) :
    Calls Try.prog 34 #[.int .i64 start, .slice ad len cap] w fun e w' => e = .returned (.bool (phaseB start ps)) ∧ w' = w := by
  have hz := hr.len_eq
  have hs := hr.small
  have HO := hide hr.open_
  clear hr
  subst hz
  go_enter Try.func34, Try.ntmps34
  go_wp2
  go_loopw [5] (fun i wr => ∃ k : Nat, k ≤ ps.length ∧ i = .int .i64 k ∧ Hid (∀ j, j < k → phase1 (fstAt ps j) (sndAt ps j) = true) ∧ wr = w) (fun i _ => ps.length - (intOf i).toNat)
  case atStart => exact ⟨0, Nat.zero_le _, rfl, (fun j hj => by omega), rfl⟩
  case round =>
    obtain ⟨k, hk, rfl, hall, hwr⟩ := hrel
    subst wr
    by_cases hlt : k < ps.length
    · rcases (unhide HO) with ⟨h0, _⟩ | ⟨bb, off, rfl, _, hc⟩
      · omega
      obtain ⟨ca, cb⟩ := hc k hlt
      have hi1 : (k : Int) < (ps.length : Int) := by omega
      clear hc
      rcases two_ph (fstAt ps k) (sndAt ps k) with ⟨h, hv⟩ | ⟨h, h', hv⟩ | ⟨h, h', hv⟩
      iterate 2
        have HE := hide (phase_bad (start := start) hlt hv)
        clear hv
        go_wp2_with (go_at_call 23; refine (l1In_any _ _ _ _).mono ?_; rintro e w' ⟨rfl, hw⟩; subst w')
        go_ret
        exact ⟨ret_bool (unhide HE).symm, rfl⟩
      have HV := hide hv
      clear hv
      go_wp2_with (go_at_call 23; refine (l1In_any _ _ _ _).mono ?_; rintro e w' ⟨rfl, hw⟩; subst w')
      go_roundw
      case rel => exact ⟨k + 1, by omega, by go_num, (fun j hj => by rcases Nat.lt_succ_iff_lt_or_eq.1 hj with h | h; exact hall.out j h; subst h; exact unhide HV), by first | rfl | trivial⟩
      case measure => simp [intOf]; omega
    · have HA := hide fun j (hj : j < ps.length) => hall.out j (by omega)
      cases hst : inB start 0 100000
      · have HE := hide (phase_start (ps := ps) hst)
        go_wp2_with (go_at_call 23; refine (l1In_is _ _ _ _ hst).mono ?_; rintro e w' ⟨rfl, hw⟩; subst w')
        go_ret
        exact ⟨ret_bool (unhide HE).symm, rfl⟩
      by_cases hm : ps.length ≤ 12
      · have hm1 : (ps.length : Int) ≤ 12 := by omega
        have HE := hide (phase_good hst hm (unhide HA))
        go_wp2_with (go_at_call 23; refine (l1In_is _ _ _ _ hst).mono ?_; rintro e w' ⟨rfl, hw⟩; subst w')
        go_ret
        exact ⟨ret_bool (unhide HE).symm, rfl⟩
      · have hm1 : ¬ (ps.length : Int) ≤ 12 := by omega
        have HE := hide (phase_many (start := start) hm)
        go_wp2_with (go_at_call 23; refine (l1In_is _ _ _ _ hst).mono ?_; rintro e w' ⟨rfl, hw⟩; subst w')
        go_ret
        exact ⟨ret_bool (by rw [unhide HE]; simpa using hm1), rfl⟩

set_option maxHeartbeats 1000000 in
theorem heightAt_any (start tick : Int) (ad : Option Addr) (len cap : Nat) (ps : List (Int × Int)) (w : World) (hr : Row2 w ad len ps) (hst : -200000 ≤ start ∧ start ≤ 200000) (ht : 0 ≤ tick ∧ tick ≤ 12000) (hl : LooseP ps) :
    Calls Try.prog 33 #[.int .i64 start, .slice ad len cap, .int .i64 tick] w fun e w' => e = .returned (.int .i64 (highT start ps tick ps.length)) ∧ w' = w := by
  have hz := hr.len_eq
  have hs := hr.small
  have HO := hide hr.open_
  have HL := hide hl
  have h20 := hl.1
  clear hr hl
  subst hz
  go_enter Try.func33, Try.ntmps33
  go_wp2
  go_loopw [2, 7, 13] (fun ti he i wr => ∃ k : Nat, k ≤ ps.length ∧ ti = .int .i64 (leftT ps tick k) ∧ he = .int .i64 (highT start ps tick k) ∧ i = .int .i64 k ∧ wr = w) (fun _ _ i _ => ps.length - (intOf i).toNat)
  case atStart => exact ⟨0, Nat.zero_le _, rfl, rfl, rfl, rfl⟩
  case round =>
    obtain ⟨k, hk, rfl, rfl, rfl, hwr⟩ := hrel
    subst wr
    by_cases hlt : k < ps.length
    · rcases (unhide HO) with ⟨h0, _⟩ | ⟨bb, off, rfl, _, hc⟩
      · omega
      obtain ⟨ca, cb⟩ := hc k hlt
      have hi1 : (k : Int) < (ps.length : Int) := by omega
      have b1 := leftT_bd ht (unhide HL) k hk
      have b2 := highT_bd hst ht (unhide HL) k hk
      have b3 := step_bd ht (unhide HL) k hlt
      have b4 := least_in ht (unhide HL) k hlt
      have b5 := (unhide HL).2 k hlt
      have E1 := hide (leftT_succ ps tick k)
      have E2 := hide (highT_succ start ps tick k)
      clear hc
      by_cases h : leftT ps tick k < sndAt ps k
      · have e := least_yes h
        rw [e] at b3 b4 E1 E2
        clear e
        generalize leftT ps tick k = L at *
        generalize highT start ps tick k = H at *
        go_wp2
        go_roundw
        case rel => exact ⟨k + 1, by omega, by rw [unhide E1, Int.sub_self], by rw [unhide E2], by go_num, by first | rfl | trivial⟩
        case measure => simp [intOf]; omega
      · have e := least_no h
        rw [e] at b3 b4 E1 E2
        clear e
        generalize leftT ps tick k = L at *
        generalize highT start ps tick k = H at *
        go_wp2
        go_roundw
        case rel => exact ⟨k + 1, by omega, by rw [unhide E1], by rw [unhide E2], by go_num, by first | rfl | trivial⟩
        case measure => simp [intOf]; omega
    · have hkk : k = ps.length := by omega
      subst hkk
      go_wp2
      go_ret
      exact ⟨rfl, rfl⟩

set_option maxHeartbeats 400000 in
theorem l1Min_yes (a b : Int) (w : World) (h : a < b) : Calls Try.prog 38 #[.int .i64 a, .int .i64 b] w fun x w' => x = .returned (.int .i64 a) ∧ w' = w := by
  go_enter Try.func38, Try.ntmps38
  go_wp2
  go_ret
  exact ⟨rfl, rfl⟩
set_option maxHeartbeats 400000 in
theorem l1Min_no (a b : Int) (w : World) (h : ¬ a < b) : Calls Try.prog 38 #[.int .i64 a, .int .i64 b] w fun x w' => x = .returned (.int .i64 b) ∧ w' = w := by
  go_enter Try.func38, Try.ntmps38
  go_wp2
  go_ret
  exact ⟨rfl, rfl⟩

set_option maxHeartbeats 1000000 in
theorem l3High_any (start tick : Int) (ad : Option Addr) (len cap : Nat) (ps : List (Int × Int)) (w : World) (hr : Row2 w ad len ps) (hst : -200000 ≤ start ∧ start ≤ 200000) (ht : 0 ≤ tick ∧ tick ≤ 12000) (hl : LooseP ps) :
    Calls Try.prog 28 #[.int .i64 start, .slice ad len cap, .int .i64 tick] w fun e w' => e = .returned (.int .i64 (highT start ps tick ps.length)) ∧ w' = w := by
  have hz := hr.len_eq
  have hs := hr.small
  have HO := hide hr.open_
  have HL := hide hl
  have h20 := hl.1
  clear hr hl
  subst hz
  go_enter Try.func28, Try.ntmps28
  go_wp2
  go_loopw [0, 2, 7] (fun he ti i wr => ∃ k : Nat, k ≤ ps.length ∧ ti = .int .i64 (leftT ps tick k) ∧ he = .int .i64 (highT start ps tick k) ∧ i = .int .i64 k ∧ wr = w) (fun _ _ i _ => ps.length - (intOf i).toNat)
  case atStart => exact ⟨0, Nat.zero_le _, rfl, rfl, rfl, rfl⟩
  case round =>
    obtain ⟨k, hk, rfl, rfl, rfl, hwr⟩ := hrel
    subst wr
    by_cases hlt : k < ps.length
    · rcases (unhide HO) with ⟨h0, _⟩ | ⟨bb, off, rfl, _, hc⟩
      · omega
      obtain ⟨ca, cb⟩ := hc k hlt
      have hi1 : (k : Int) < (ps.length : Int) := by omega
      have b1 := leftT_bd ht (unhide HL) k hk
      have b2 := highT_bd hst ht (unhide HL) k hk
      have b3 := step_bd ht (unhide HL) k hlt
      have b4 := least_in ht (unhide HL) k hlt
      have b5 := (unhide HL).2 k hlt
      have E1 := hide (leftT_succ ps tick k)
      have E2 := hide (highT_succ start ps tick k)
      clear hc
      by_cases h : leftT ps tick k < sndAt ps k
      · have e := least_yes h
        rw [e] at b3 b4 E1 E2
        clear e
        generalize leftT ps tick k = L at *
        generalize highT start ps tick k = H at *
        go_wp2_with (go_at_call 38; refine (l1Min_yes _ _ _ (by omega)).mono ?_; rintro e w' ⟨rfl, hw⟩; subst w')
        go_roundw
        case rel => exact ⟨k + 1, by omega, by rw [unhide E1, Int.sub_self], by rw [unhide E2], by go_num, by first | rfl | trivial⟩
        case measure => simp [intOf]; omega
      · have e := least_no h
        rw [e] at b3 b4 E1 E2
        clear e
        generalize leftT ps tick k = L at *
        generalize highT start ps tick k = H at *
        go_wp2_with (go_at_call 38; refine (l1Min_no _ _ _ (by omega)).mono ?_; rintro e w' ⟨rfl, hw⟩; subst w')
        go_roundw
        case rel => exact ⟨k + 1, by omega, by rw [unhide E1], by rw [unhide E2], by go_num, by first | rfl | trivial⟩
        case measure => simp [intOf]; omega
    · have hkk : k = ps.length := by omega
      subst hkk
      go_wp2
      go_ret
      exact ⟨rfl, rfl⟩

set_option maxHeartbeats 1000000 in
theorem peaksOk_any (ad : Option Addr) (len cap : Nat) (qs : List (Int × Int)) (w : World) (hr : Row2 w ad len qs) :
    Calls Try.prog 32 #[.slice ad len cap] w fun e w' => e = .returned (.bool (peakB qs)) ∧ Below w.heap.size w w' := by
  have hz := hr.len_eq
  have hs := hr.small
  have HO := hide hr.open_
  clear hr
  subst hz
  by_cases hm : qs.length ≤ 20
  · have hm1 : ¬ (20 : Int) < (qs.length : Int) := by omega
    go_enter Try.func32, Try.ntmps32
    go_wp2
    go_loopw [10] (fun i wr => ∃ k : Nat, k ≤ qs.length ∧ i = .int .i64 k ∧ Hid (∀ j, j < k → peak1 (fstAt qs j) (sndAt qs j) = true) ∧ Below w.heap.size w wr) (fun i _ => qs.length - (intOf i).toNat)
    case atStart => exact ⟨0, Nat.zero_le _, rfl, (fun j hj => by omega), Below.refl _ _⟩
    case round =>
      obtain ⟨k, hk, rfl, hall, hbel⟩ := hrel
      have HB := hide hbel
      by_cases hlt : k < qs.length
      · rcases (unhide HO) with ⟨h0, _⟩ | ⟨bb, off, rfl, _, hc⟩
        · omega
        obtain ⟨ca, cb⟩ := hc k hlt
        have ca := (hbel.cell (block_lt_of_cell ca)).trans ca
        have cb := (hbel.cell (block_lt_of_cell cb)).trans cb
        have lb := block_lt_of_cell ca
        have hi1 : (k : Int) < (qs.length : Int) := by omega
        have HB2 := hide (hbel.alloc hbel.size (Obj.cells #[.int .i64 (fstAt qs k), .int .i64 (sndAt qs k)] 53))
        clear hc hbel
        rcases two_pk (fstAt qs k) (sndAt qs k) with ⟨h, hv⟩ | ⟨h, h', hv⟩ | ⟨h, h', hv⟩
        iterate 2
          have HE := hide (peak_bad hlt hv)
          clear hv
          go_wp2_with (go_at_call 20; refine (within_any _ _ _ _).mono ?_; rintro e w' ⟨rfl, hw⟩; subst w')
          go_ret
          exact ⟨ret_bool (unhide HE).symm, unhide HB2⟩
        have HV := hide hv
        clear hv
        go_wp2_with (go_at_call 20; refine (within_any _ _ _ _).mono ?_; rintro e w' ⟨rfl, hw⟩; subst w')
        go_roundw
        case rel => exact ⟨k + 1, by omega, by go_num, (fun j hj => by rcases Nat.lt_succ_iff_lt_or_eq.1 hj with h | h; exact hall.out j h; subst h; exact unhide HV), unhide HB2⟩
        case measure => simp [intOf]; omega
      · have HE := hide (peak_good hm fun j hj => hall.out j (by omega))
        clear hbel
        go_wp2
        go_ret
        exact ⟨ret_bool (unhide HE).symm, unhide HB⟩
  · have hm1 : (20 : Int) < (qs.length : Int) := by omega
    have HE := hide (peak_many hm)
    go_enter Try.func32, Try.ntmps32
    go_wp2
    go_ret
    exact ⟨ret_bool (unhide HE).symm, Below.refl _ _⟩

end Go.Proofs.Ytkebjipmbgjilab
