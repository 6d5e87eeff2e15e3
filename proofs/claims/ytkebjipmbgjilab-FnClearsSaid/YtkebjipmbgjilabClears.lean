/-
  What Clears answers in the program and in the model: the first peak that is not cleared. At every argument; nothing that was there is written.
-/
import Derived.Test.YtkebjipmbgjilabPhaseOk
import Derived.Test.YtkebjipmbgjilabRunCell
namespace Go.Proofs.Ytkebjipmbgjilab
open Go.RowKit

theorem phasesOk_is {c : Bool} (start : Int) (ad : Option Addr) (len cap : Nat) (ps : List (Int × Int)) (w : World) (hr : Row2 w ad len ps) (h : phaseB start ps = c) :
    Calls Try.prog 31 #[.int .i64 start, .slice ad len cap] w fun e w' => e = .returned (.bool c) ∧ w' = w := by
  subst h; exact phasesOk_any start ad len cap ps w hr
theorem l3Phases_is {c : Bool} (start : Int) (ad : Option Addr) (len cap : Nat) (ps : List (Int × Int)) (w : World) (hr : Row2 w ad len ps) (h : phaseB start ps = c) :
    Calls Try.prog 34 #[.int .i64 start, .slice ad len cap] w fun e w' => e = .returned (.bool c) ∧ w' = w := by
  subst h; exact l3Phases_any start ad len cap ps w hr
theorem peaksOk_is {c : Bool} (ad : Option Addr) (len cap : Nat) (qs : List (Int × Int)) (w : World) (hr : Row2 w ad len qs) (h : peakB qs = c) :
    Calls Try.prog 32 #[.slice ad len cap] w fun e w' => e = .returned (.bool c) ∧ Below w.heap.size w w' := by
  subst h; exact peaksOk_any ad len cap qs w hr

set_option maxHeartbeats 2000000 in
theorem implClears_any (start m : Int) (ad : Option Addr) (len cap : Nat) (bd : Option Addr) (len2 cap2 : Nat) (ps qs : List (Int × Int)) (w : World) (hr : Row2 w ad len ps) (hr2 : Row2 w bd len2 qs) :
    Calls Try.prog 13 #[.int .i64 start, .slice ad len cap, .slice bd len2 cap2, .int .i64 m] w fun e w' => e = .returned (.tuple #[.int .i64 (clearR start ps qs m).1, .bool (clearR start ps qs m).2]) ∧ Below w.heap.size w w' := by
  have HR := hide hr
  have HR2 := hide hr2
  have hz := hr2.len_eq
  have hs := hr2.small
  have HO := hide hr2.open_
  clear hr hr2
  subst hz
  rcases three (phaseB start ps) (peakB qs) (inB m 0 1000) with ⟨h, hv⟩ | ⟨h, h', hv⟩ | ⟨h, h', h'', hv⟩ | ⟨h, h', h'', hv⟩
  · have HE := hide (clearR_no (start := start) (ps := ps) (qs := qs) (m := m) hv)
    clear hv
    go_enter Try.func13, Try.ntmps13
    go_wp2_with fail
    refine (phasesOk_is _ _ _ _ ps _ (unhide HR) h).mono ?_
    rintro e w' ⟨rfl, hw⟩
    subst w'
    go_wp2_with fail
    go_ret2
    exact ⟨ret_two (unhide HE).symm, Below.refl _ _⟩
  · have HE := hide (clearR_no (start := start) (ps := ps) (qs := qs) (m := m) hv)
    clear hv
    go_enter Try.func13, Try.ntmps13
    go_wp2_with fail
    refine (phasesOk_is _ _ _ _ ps _ (unhide HR) h).mono ?_
    rintro e w' ⟨rfl, hw⟩
    subst w'
    go_wp2_with fail
    refine (peaksOk_is _ _ _ qs _ (unhide HR2) h').mono ?_
    rintro e w1 ⟨rfl, b1⟩
    have B1 := hide b1
    clear b1
    go_wp2_with fail
    go_ret2
    exact ⟨ret_two (unhide HE).symm, unhide B1⟩
  · have HE := hide (clearR_no (start := start) (ps := ps) (qs := qs) (m := m) hv)
    clear hv
    go_enter Try.func13, Try.ntmps13
    go_wp2_with fail
    refine (phasesOk_is _ _ _ _ ps _ (unhide HR) h).mono ?_
    rintro e w' ⟨rfl, hw⟩
    subst w'
    go_wp2_with fail
    refine (peaksOk_is _ _ _ qs _ (unhide HR2) h').mono ?_
    rintro e w1 ⟨rfl, b1⟩
    have B1 := hide b1
    clear b1
    go_wp2_with fail
    refine (within_is _ _ _ _ h'').mono ?_
    rintro e w' ⟨rfl, hw⟩
    subst w'
    go_wp2_with fail
    go_ret2
    exact ⟨ret_two (unhide HE).symm, unhide B1⟩
  have HE := hide (clearR_yes (start := start) (ps := ps) (qs := qs) (m := m) hv)
  clear hv
  have LO := hide (phase_loose h)
  have hst := (phase_facts h).1
  have hpk := peak_facts h'
  have HP := hide hpk.2
  have hmm : 0 ≤ m ∧ m ≤ 1000 := by simpa [inB] using h''
  have h20 := (phase_loose h).1
  clear hpk
  go_enter Try.func13, Try.ntmps13
  go_wp2_with fail
  refine (phasesOk_is _ _ _ _ ps _ (unhide HR) h).mono ?_
  rintro e w' ⟨rfl, hw⟩
  subst w'
  go_wp2_with fail
  refine (peaksOk_is _ _ _ qs _ (unhide HR2) h').mono ?_
  rintro e w1 ⟨rfl, b1⟩
  have B1 := hide b1
  clear b1
  go_wp2_with fail
  refine (within_is _ _ _ _ h'').mono ?_
  rintro e w' ⟨rfl, hw⟩
  subst w'
  clear h h' h''
  go_wp2_with fail
  go_loopw [28] (fun i wr => ∃ k : Nat, k ≤ qs.length ∧ i = .int .i64 k ∧ Hid (∀ j, j < k → lowPk start ps qs m j = false) ∧ Below w.heap.size w wr) (fun i _ => qs.length - (intOf i).toNat)
  case atStart => exact ⟨0, Nat.zero_le _, rfl, (fun j hj => by omega), unhide B1⟩
  case round =>
    clear B1
    obtain ⟨k, hk, rfl, hall, hbel⟩ := hrel
    have HB := hide hbel
    by_cases hlt : k < qs.length
    · rcases (unhide HO) with ⟨h0, _⟩ | ⟨bb, off, rfl, _, hc⟩
      · omega
      obtain ⟨ca, cb⟩ := hc k hlt
      have ca := (hbel.cell (block_lt_of_cell ca)).trans ca
      have cb := (hbel.cell (block_lt_of_cell cb)).trans cb
      have hi1 : (k : Int) < (qs.length : Int) := by omega
      obtain ⟨V, hV⟩ : ∃ V, V = wr.alloc (Obj.cells #[.int .i64 (fstAt qs k), .int .i64 (sndAt qs k)] 53) := ⟨_, rfl⟩
      have bV : Below wr.heap.size wr V := by rw [hV]; exact bel1 _
      have p0 : V.cell? ⟨wr.heap.size, 0, none⟩ = some (.int .i64 (fstAt qs k)) := by rw [hV]; simp [go_sem]
      have p1 : V.cell? ⟨wr.heap.size, 1, none⟩ = some (.int .i64 (sndAt qs k)) := by rw [hV]; simp [go_sem]
      have BV := hide (hbel.trans (bV.mono hbel.size))
      have RV := hide ((unhide HR).below (unhide BV))
      have HV := hide hV
      have hq := unhide HP k hlt
      have hh := highT_bd (start := start) (tick := fstAt qs k) (by omega) hq.1 (unhide LO) ps.length (Nat.le_refl _)
      have HT : Hid (∀ W, Row2 W ad len ps → Calls Try.prog 33 #[.int .i64 start, .slice ad len cap, .int .i64 (fstAt qs k)] W fun e w' => e = .returned (.int .i64 (highT start ps (fstAt qs k) ps.length)) ∧ w' = W) := hide fun W hW => heightAt_any start (fstAt qs k) ad len cap ps W hW (by omega) hq.1 (unhide LO)
      have HLP : Hid (lowPk start ps qs m k = decide (highT start ps (fstAt qs k) ps.length - sndAt qs k < m)) := hide rfl
      generalize highT start ps (fstAt qs k) ps.length = H at *
      clear hc hbel hV bV
      go_wp2_with fail
      rw [← unhide HV]
      clear HV
      by_cases hlow : H - sndAt qs k < m
      · have HZ := hide ((unhide HLP).trans (show _ = true by simpa using hlow))
        have HC := hide (clear_at hlt (unhide HZ) hall.out)
        go_quiet ((go_at_call 33; exact Calls.quiet_of_same (unhide HT _ ((unhide RV).drewN _))))
        go_wp2
        go_ret2
        exact ⟨ret_two (by rw [unhide HE, unhide HC]), (unhide BV).trans (bel0d' _)⟩
      · have HZ := hide ((unhide HLP).trans (show _ = false by simpa using hlow))
        go_quiet ((go_at_call 33; exact Calls.quiet_of_same (unhide HT _ ((unhide RV).drewN _))))
        go_wp2
        go_roundw
        case rel => exact ⟨k + 1, by omega, by go_num, (fun j hj => by rcases Nat.lt_succ_iff_lt_or_eq.1 hj with h | h; exact hall.out j h; subst h; exact unhide HZ), (unhide BV).trans (bel0d' _)⟩
        case measure => simp [intOf]; omega
    · have HC := hide (clear_none (start := start) (ps := ps) (qs := qs) (m := m) fun j hj => hall.out j (by omega))
      clear hbel
      go_wp2
      go_ret2
      exact ⟨ret_two (by rw [unhide HE, unhide HC]), unhide HB⟩

set_option maxHeartbeats 2000000 in
theorem specClears_any (start m : Int) (ad : Option Addr) (len cap : Nat) (bd : Option Addr) (len2 cap2 : Nat) (ps qs : List (Int × Int)) (w : World) (hr : Row2 w ad len ps) (hr2 : Row2 w bd len2 qs) :
    Calls Try.prog 14 #[.int .i64 start, .slice ad len cap, .slice bd len2 cap2, .int .i64 m] w fun e w' => e = .returned (.tuple #[.int .i64 (clearR start ps qs m).1, .bool (clearR start ps qs m).2]) ∧ Below w.heap.size w w' := by
  have HR := hide hr
  have hz := hr2.len_eq
  have hs := hr2.small
  have HO := hide hr2.open_
  clear hr hr2
  subst hz
  cases h : phaseB start ps
  · have HE := hide (clearR_no (start := start) (ps := ps) (qs := qs) (m := m) (by simp [clearOk, h]))
    go_enter Try.func14, Try.ntmps14
    go_wp2_with fail
    refine (l3Phases_is _ _ _ _ ps _ (unhide HR) h).mono ?_
    rintro e w' ⟨rfl, hw⟩
    subst w'
    go_wp2_with fail
    go_ret2
    exact ⟨ret_two (unhide HE).symm, Below.refl _ _⟩
  by_cases hm : qs.length ≤ 20
  · have hm1 : ¬ (20 : Int) < (qs.length : Int) := by omega
    cases h'' : inB m 0 1000
    · have HE := hide (clearR_no (start := start) (ps := ps) (qs := qs) (m := m) (by simp [clearOk, h'']))
      go_enter Try.func14, Try.ntmps14
      go_wp2_with fail
      refine (l3Phases_is _ _ _ _ ps _ (unhide HR) h).mono ?_
      rintro e w' ⟨rfl, hw⟩
      subst w'
      go_wp2_with fail
      refine (l1In_is _ _ _ _ h'').mono ?_
      rintro e w' ⟨rfl, hw⟩
      subst w'
      go_wp2_with fail
      go_ret2
      exact ⟨ret_two (unhide HE).symm, Below.refl _ _⟩
    have H1 := hide h
    have H3 := hide h''
    have LO := hide (phase_loose h)
    have hst := (phase_facts h).1
    have hmm : 0 ≤ m ∧ m ≤ 1000 := by simpa [inB] using h''
    have h20 := (phase_loose h).1
    go_enter Try.func14, Try.ntmps14
    go_wp2_with fail
    refine (l3Phases_is _ _ _ _ ps _ (unhide HR) h).mono ?_
    rintro e w' ⟨rfl, hw⟩
    subst w'
    go_wp2_with fail
    refine (l1In_is _ _ _ _ h'').mono ?_
    rintro e w' ⟨rfl, hw⟩
    subst w'
    clear h h''
    go_wp2_with fail
    go_loopw [10] (fun i wr => ∃ k : Nat, k ≤ qs.length ∧ i = .int .i64 k ∧ Hid (∀ j, j < k → peak1 (fstAt qs j) (sndAt qs j) = true) ∧ wr = w) (fun i _ => qs.length - (intOf i).toNat)
    case atStart => exact ⟨0, Nat.zero_le _, rfl, (fun j hj => by omega), rfl⟩
    case round =>
      obtain ⟨k, hk, rfl, hall, hwr⟩ := hrel
      subst wr
      by_cases hlt : k < qs.length
      · rcases (unhide HO) with ⟨h0, _⟩ | ⟨bb, off, rfl, _, hc⟩
        · omega
        obtain ⟨ca, cb⟩ := hc k hlt
        have hi1 : (k : Int) < (qs.length : Int) := by omega
        clear hc
        rcases two_pk (fstAt qs k) (sndAt qs k) with ⟨h, hv⟩ | ⟨h, h', hv⟩ | ⟨h, h', hv⟩
        iterate 2
          have HE := hide (clearR_no (start := start) (ps := ps) (qs := qs) (m := m) (by simp [clearOk, peak_bad hlt hv]))
          clear hv
          go_wp2_with (go_at_call 23; refine (l1In_any _ _ _ _).mono ?_; rintro e w' ⟨rfl, hw⟩; subst w')
          go_ret2
          exact ⟨ret_two (unhide HE).symm, Below.refl _ _⟩
        have HV := hide hv
        clear hv
        go_wp2_with (go_at_call 23; refine (l1In_any _ _ _ _).mono ?_; rintro e w' ⟨rfl, hw⟩; subst w')
        go_roundw
        case rel => exact ⟨k + 1, by omega, by go_num, (fun j hj => by rcases Nat.lt_succ_iff_lt_or_eq.1 hj with h | h; exact hall.out j h; subst h; exact unhide HV), by first | rfl | trivial⟩
        case measure => simp [intOf]; omega
      · have HPB := hide (peak_good hm fun j hj => hall.out j (by omega))
        have HP := hide (peak_facts (unhide HPB)).2
        have HE := hide (clearR_yes (start := start) (ps := ps) (qs := qs) (m := m) (by simp [clearOk, unhide H1, unhide H3, unhide HPB]))
        go_wp2_with fail
        go_loopw [11] (fun i wr => ∃ k n : Nat, k ≤ qs.length ∧ i = .int .i64 k ∧ Hid (∀ j, j < k → lowPk start ps qs m j = false) ∧ wr = w.drewN n) (fun i _ => qs.length - (intOf i).toNat)
        case atStart => exact ⟨0, 0, Nat.zero_le _, rfl, (fun j hj => by omega), rfl⟩
        case round =>
          clear hall hlt hk
          obtain ⟨k, n, hk, rfl, hall, rfl⟩ := hrel
          by_cases hlt : k < qs.length
          · rcases (unhide HO) with ⟨h0, _⟩ | ⟨bb, off, rfl, _, hc⟩
            · omega
            obtain ⟨ca, cb⟩ := hc k hlt
            have hi1 : (k : Int) < (qs.length : Int) := by omega
            have hi0 : (0 : Int) ≤ (k : Int) := by omega
            have hq := unhide HP k hlt
            have hh := highT_bd (start := start) (tick := fstAt qs k) (by omega) hq.1 (unhide LO) ps.length (Nat.le_refl _)
            have HT : Hid (∀ W, Row2 W ad len ps → Calls Try.prog 28 #[.int .i64 start, .slice ad len cap, .int .i64 (fstAt qs k)] W fun e w' => e = .returned (.int .i64 (highT start ps (fstAt qs k) ps.length)) ∧ w' = W) := hide fun W hW => l3High_any start (fstAt qs k) ad len cap ps W hW (by omega) hq.1 (unhide LO)
            have HLP : Hid (lowPk start ps qs m k = decide (highT start ps (fstAt qs k) ps.length - sndAt qs k < m)) := hide rfl
            generalize highT start ps (fstAt qs k) ps.length = H at *
            clear hc
            go_wp2_with fail
            by_cases hlow : H - sndAt qs k < m
            · have HZ := hide ((unhide HLP).trans (show _ = true by simpa using hlow))
              have HC := hide (clear_at hlt (unhide HZ) hall.out)
              go_quiet ((go_at_call 28; exact quietSame (unhide HT _ ((unhide HR).drewN _))))
              go_wp2
              go_ret2
              exact ⟨ret_two (by rw [unhide HE, unhide HC]), (bel0d' _).trans (bel0d' _)⟩
            · have HZ := hide ((unhide HLP).trans (show _ = false by simpa using hlow))
              go_quiet ((go_at_call 28; exact quietSame (unhide HT _ ((unhide HR).drewN _))))
              go_wp2
              go_roundw
              case rel => exact ⟨k + 1, _, by omega, by go_num, (fun j hj => by rcases Nat.lt_succ_iff_lt_or_eq.1 hj with h | h; exact hall.out j h; subst h; exact unhide HZ), rfl⟩
              case measure => simp [intOf]; omega
          · have HC := hide (clear_none (start := start) (ps := ps) (qs := qs) (m := m) fun j hj => hall.out j (by omega))
            go_wp2
            go_ret2
            exact ⟨ret_two (by rw [unhide HE, unhide HC]), bel0d' _⟩
  · have hm1 : (20 : Int) < (qs.length : Int) := by omega
    have HE := hide (clearR_no (start := start) (ps := ps) (qs := qs) (m := m) (by simp [clearOk, peak_many hm]))
    go_enter Try.func14, Try.ntmps14
    go_wp2_with fail
    refine (l3Phases_is _ _ _ _ ps _ (unhide HR) h).mono ?_
    rintro e w' ⟨rfl, hw⟩
    subst w'
    go_wp2_with fail
    go_ret2
    exact ⟨ret_two (unhide HE).symm, Below.refl _ _⟩

end Go.Proofs.Ytkebjipmbgjilab
