/-
  The library's IndexFunc at tasks and at defects, with the program's own questions: the place of the first of which it is so; nothing that was there is written.
  What the model's l19Carry and l19Many answer: plain answers; nothing that was there is written.
  What is due next, in plain lists. No program here.
  What is plain of a fleet that is so: each task can be asked; what Release lets fly has no task due and each defect on the list; the next one due. No program here.
-/
import Derived.Test.YticdccdkjepifaaGreatMWrOrd
import Derived.Test.YticdccdkjepifaaGreatMBlk
import Derived.Test.YticdccdkjepifaaGreatMFlIn

namespace Go.Proofs.YticdccdkjepifaaGreat
open Go Go.RowKit

set_option maxRecDepth 20000 in
set_option maxHeartbeats 2000000 in
theorem ixDue (P : Ts → Bool) (v : Value) (ad : Option Addr) (len cap : Nat) (ps : List Ts) (w : World) (hr : RowE 7 tsC w ad len ps)
    (hso : ∀ (i : Nat) (V : World), i < ps.length → Below w.heap.size w V → Calls Tryz.prog 110 #[v, .agg #[.string (elAt ps i).nm, .int .i64 (elAt ps i).h, .int .i64 (elAt ps i).c, .int .i64 (elAt ps i).d, .int .i64 (elAt ps i).dh, .int .i64 (elAt ps i).dc, .int .i64 (elAt ps i).dd]] V fun e w' => e = .returned (.bool (P (elAt ps i))) ∧ Below V.heap.size V w') :
    Calls Tryz.prog 83 #[.slice ad len cap, .func (.func 110) #[v] #[]] w fun e w' => e = .returned (.int .i64 (ixE P ps)) ∧ Below w.heap.size w w' := by
  have hz := hr.len_eq
  have hsm := hr.small
  have HR := hide hr
  have HSO := hide hso
  clear hr hso
  subst hz
  go_enter Tryz.func83, Tryz.ntmps83
  go_wp2_with fail
  go_loopw [8] (fun i wr => ∃ k : Nat, i = .int .i64 k ∧ k ≤ ps.length ∧ Hid (Below w.heap.size w wr) ∧ Hid (∀ j, j < k → P (elAt ps j) = false)) (fun i _ => ps.length - (intOf i).toNat)
  case atStart => exact ⟨0, rfl, Nat.zero_le _, hide (Below.refl _ _), hide (fun j hj => by omega)⟩
  case round =>
    obtain ⟨k, rfl, hk, BW, AL⟩ := hrel
    by_cases hlt : k < ps.length
    · obtain ⟨bb, off, rfl, hc⟩ := (unhide HR).at_ k hlt
      have s0 : w.cell? ⟨bb, off + k * 7, none⟩ = some (.string (elAt ps k).nm) := hc 0 (by omega)
      have s0 := ((unhide BW).cell (block_lt_of_cell s0)).trans s0
      have s1 : w.cell? ⟨bb, off + k * 7 + 1, none⟩ = some (.int .i64 (elAt ps k).h) := hc 1 (by omega)
      have s1 := ((unhide BW).cell (block_lt_of_cell s1)).trans s1
      have s2 : w.cell? ⟨bb, off + k * 7 + 2, none⟩ = some (.int .i64 (elAt ps k).c) := hc 2 (by omega)
      have s2 := ((unhide BW).cell (block_lt_of_cell s2)).trans s2
      have s3 : w.cell? ⟨bb, off + k * 7 + 3, none⟩ = some (.int .i64 (elAt ps k).d) := hc 3 (by omega)
      have s3 := ((unhide BW).cell (block_lt_of_cell s3)).trans s3
      have s4 : w.cell? ⟨bb, off + k * 7 + 4, none⟩ = some (.int .i64 (elAt ps k).dh) := hc 4 (by omega)
      have s4 := ((unhide BW).cell (block_lt_of_cell s4)).trans s4
      have s5 : w.cell? ⟨bb, off + k * 7 + 5, none⟩ = some (.int .i64 (elAt ps k).dc) := hc 5 (by omega)
      have s5 := ((unhide BW).cell (block_lt_of_cell s5)).trans s5
      have s6 : w.cell? ⟨bb, off + k * 7 + 6, none⟩ = some (.int .i64 (elAt ps k).dd) := hc 6 (by omega)
      have s6 := ((unhide BW).cell (block_lt_of_cell s6)).trans s6
      have CF := hide (unhide HSO k wr hlt (unhide BW))
      have hi1 : (k : Int) < (ps.length : Int) := by omega
      have hi0 : (0 : Int) ≤ (k : Int) := by omega
      obtain ⟨x, hx⟩ : ∃ x, elAt ps k = x := ⟨_, rfl⟩
      rw [hx] at s0 s1 s2 s3 s4 s5 s6 CF
      have HX := hide hx
      clear hc hx
      cases q1 : P x with
      | true =>
        have HE : Hid (ixE P ps = (k : Int)) := hide (ixE_at hlt (by rw [unhide HX]; exact q1) (unhide AL))
        rw [q1] at CF
        clear q1 AL
        go_wp2_with (go_at_call 110; refine (unhide CF).mono ?_; rintro e w2 ⟨rfl, b2⟩; have B2 := hide ((unhide BW).trans (b2.mono (unhide BW).size)); clear b2)
        go_ret
        exact ⟨ret_int (unhide HE).symm, unhide B2⟩
      | false =>
        have NX : Hid (∀ j, j < k + 1 → P (elAt ps j) = false) := hide (fun j hj => by
          by_cases e3 : j = k
          · rw [e3, unhide HX]; exact q1
          · exact (unhide AL) j (by omega))
        rw [q1] at CF
        clear q1 AL
        go_wp2_with (go_at_call 110; refine (unhide CF).mono ?_; rintro e w2 ⟨rfl, b2⟩; have B2 := hide ((unhide BW).trans (b2.mono (unhide BW).size)); clear b2)
        go_roundw
        case rel => exact ⟨k + 1, by go_num, by omega, B2, NX⟩
        case measure => simp [intOf]; omega
    · have hi1 : ¬ (k : Int) < (ps.length : Int) := by omega
      have HE : Hid (ixE P ps = -1) := hide (ixE_none (fun j hj => (unhide AL) j (by omega)))
      go_wp2_with fail
      go_ret
      exact ⟨ret_int (unhide HE).symm, unhide BW⟩
set_option maxRecDepth 20000 in
set_option maxHeartbeats 2000000 in
theorem ixUn (P : Df → Bool) (v : Value) (ad : Option Addr) (len cap : Nat) (ps : List Df) (w : World) (hr : RowE 3 dfC w ad len ps)
    (hso : ∀ (i : Nat) (V : World), i < ps.length → Below w.heap.size w V → Calls Tryz.prog 112 #[v, .agg #[.string (elAt ps i).n, .int .i64 (elAt ps i).i, .int .i64 (elAt ps i).s]] V fun e w' => e = .returned (.bool (P (elAt ps i))) ∧ Below V.heap.size V w') :
    Calls Tryz.prog 111 #[.slice ad len cap, .func (.func 112) #[v] #[]] w fun e w' => e = .returned (.int .i64 (ixE P ps)) ∧ Below w.heap.size w w' := by
  have hz := hr.len_eq
  have hsm := hr.small
  have HR := hide hr
  have HSO := hide hso
  clear hr hso
  subst hz
  go_enter Tryz.func111, Tryz.ntmps111
  go_wp2_with fail
  go_loopw [8] (fun i wr => ∃ k : Nat, i = .int .i64 k ∧ k ≤ ps.length ∧ Hid (Below w.heap.size w wr) ∧ Hid (∀ j, j < k → P (elAt ps j) = false)) (fun i _ => ps.length - (intOf i).toNat)
  case atStart => exact ⟨0, rfl, Nat.zero_le _, hide (Below.refl _ _), hide (fun j hj => by omega)⟩
  case round =>
    obtain ⟨k, rfl, hk, BW, AL⟩ := hrel
    by_cases hlt : k < ps.length
    · obtain ⟨bb, off, rfl, hc⟩ := (unhide HR).at_ k hlt
      have s0 : w.cell? ⟨bb, off + k * 3, none⟩ = some (.string (elAt ps k).n) := hc 0 (by omega)
      have s0 := ((unhide BW).cell (block_lt_of_cell s0)).trans s0
      have s1 : w.cell? ⟨bb, off + k * 3 + 1, none⟩ = some (.int .i64 (elAt ps k).i) := hc 1 (by omega)
      have s1 := ((unhide BW).cell (block_lt_of_cell s1)).trans s1
      have s2 : w.cell? ⟨bb, off + k * 3 + 2, none⟩ = some (.int .i64 (elAt ps k).s) := hc 2 (by omega)
      have s2 := ((unhide BW).cell (block_lt_of_cell s2)).trans s2
      have CF := hide (unhide HSO k wr hlt (unhide BW))
      have hi1 : (k : Int) < (ps.length : Int) := by omega
      have hi0 : (0 : Int) ≤ (k : Int) := by omega
      obtain ⟨x, hx⟩ : ∃ x, elAt ps k = x := ⟨_, rfl⟩
      rw [hx] at s0 s1 s2 CF
      have HX := hide hx
      clear hc hx
      cases q1 : P x with
      | true =>
        have HE : Hid (ixE P ps = (k : Int)) := hide (ixE_at hlt (by rw [unhide HX]; exact q1) (unhide AL))
        rw [q1] at CF
        clear q1 AL
        go_wp2_with (go_at_call 112; refine (unhide CF).mono ?_; rintro e w2 ⟨rfl, b2⟩; have B2 := hide ((unhide BW).trans (b2.mono (unhide BW).size)); clear b2)
        go_ret
        exact ⟨ret_int (unhide HE).symm, unhide B2⟩
      | false =>
        have NX : Hid (∀ j, j < k + 1 → P (elAt ps j) = false) := hide (fun j hj => by
          by_cases e3 : j = k
          · rw [e3, unhide HX]; exact q1
          · exact (unhide AL) j (by omega))
        rw [q1] at CF
        clear q1 AL
        go_wp2_with (go_at_call 112; refine (unhide CF).mono ?_; rintro e w2 ⟨rfl, b2⟩; have B2 := hide ((unhide BW).trans (b2.mono (unhide BW).size)); clear b2)
        go_roundw
        case rel => exact ⟨k + 1, by go_num, by omega, B2, NX⟩
        case measure => simp [intOf]; omega
    · have hi1 : ¬ (k : Int) < (ps.length : Int) := by omega
      have HE : Hid (ixE P ps = -1) := hide (ixE_none (fun j hj => (unhide AL) j (by omega)))
      go_wp2_with fail
      go_ret
      exact ⟨ret_int (unhide HE).symm, unhide BW⟩
set_option maxRecDepth 20000 in
set_option maxHeartbeats 2000000 in
theorem ixMany (P : Df → Bool) (v : Value) (ad : Option Addr) (len cap : Nat) (ps : List Df) (w : World) (hr : RowE 3 dfC w ad len ps)
    (hso : ∀ (i : Nat) (V : World), i < ps.length → Below w.heap.size w V → Calls Tryz.prog 113 #[v, .agg #[.string (elAt ps i).n, .int .i64 (elAt ps i).i, .int .i64 (elAt ps i).s]] V fun e w' => e = .returned (.bool (P (elAt ps i))) ∧ Below V.heap.size V w') :
    Calls Tryz.prog 111 #[.slice ad len cap, .func (.func 113) #[v] #[]] w fun e w' => e = .returned (.int .i64 (ixE P ps)) ∧ Below w.heap.size w w' := by
  have hz := hr.len_eq
  have hsm := hr.small
  have HR := hide hr
  have HSO := hide hso
  clear hr hso
  subst hz
  go_enter Tryz.func111, Tryz.ntmps111
  go_wp2_with fail
  go_loopw [8] (fun i wr => ∃ k : Nat, i = .int .i64 k ∧ k ≤ ps.length ∧ Hid (Below w.heap.size w wr) ∧ Hid (∀ j, j < k → P (elAt ps j) = false)) (fun i _ => ps.length - (intOf i).toNat)
  case atStart => exact ⟨0, rfl, Nat.zero_le _, hide (Below.refl _ _), hide (fun j hj => by omega)⟩
  case round =>
    obtain ⟨k, rfl, hk, BW, AL⟩ := hrel
    by_cases hlt : k < ps.length
    · obtain ⟨bb, off, rfl, hc⟩ := (unhide HR).at_ k hlt
      have s0 : w.cell? ⟨bb, off + k * 3, none⟩ = some (.string (elAt ps k).n) := hc 0 (by omega)
      have s0 := ((unhide BW).cell (block_lt_of_cell s0)).trans s0
      have s1 : w.cell? ⟨bb, off + k * 3 + 1, none⟩ = some (.int .i64 (elAt ps k).i) := hc 1 (by omega)
      have s1 := ((unhide BW).cell (block_lt_of_cell s1)).trans s1
      have s2 : w.cell? ⟨bb, off + k * 3 + 2, none⟩ = some (.int .i64 (elAt ps k).s) := hc 2 (by omega)
      have s2 := ((unhide BW).cell (block_lt_of_cell s2)).trans s2
      have CF := hide (unhide HSO k wr hlt (unhide BW))
      have hi1 : (k : Int) < (ps.length : Int) := by omega
      have hi0 : (0 : Int) ≤ (k : Int) := by omega
      obtain ⟨x, hx⟩ : ∃ x, elAt ps k = x := ⟨_, rfl⟩
      rw [hx] at s0 s1 s2 CF
      have HX := hide hx
      clear hc hx
      cases q1 : P x with
      | true =>
        have HE : Hid (ixE P ps = (k : Int)) := hide (ixE_at hlt (by rw [unhide HX]; exact q1) (unhide AL))
        rw [q1] at CF
        clear q1 AL
        go_wp2_with (go_at_call 113; refine (unhide CF).mono ?_; rintro e w2 ⟨rfl, b2⟩; have B2 := hide ((unhide BW).trans (b2.mono (unhide BW).size)); clear b2)
        go_ret
        exact ⟨ret_int (unhide HE).symm, unhide B2⟩
      | false =>
        have NX : Hid (∀ j, j < k + 1 → P (elAt ps j) = false) := hide (fun j hj => by
          by_cases e3 : j = k
          · rw [e3, unhide HX]; exact q1
          · exact (unhide AL) j (by omega))
        rw [q1] at CF
        clear q1 AL
        go_wp2_with (go_at_call 113; refine (unhide CF).mono ?_; rintro e w2 ⟨rfl, b2⟩; have B2 := hide ((unhide BW).trans (b2.mono (unhide BW).size)); clear b2)
        go_roundw
        case rel => exact ⟨k + 1, by go_num, by omega, B2, NX⟩
        case measure => simp [intOf]; omega
    · have hi1 : ¬ (k : Int) < (ps.length : Int) := by omega
      have HE : Hid (ixE P ps = -1) := hide (ixE_none (fun j hj => (unhide AL) j (by omega)))
      go_wp2_with fail
      go_ret
      exact ⟨ret_int (unhide HE).symm, unhide BW⟩
set_option maxRecDepth 20000 in
set_option maxHeartbeats 2000000 in
theorem ixOld (P : Df → Bool) (v : Value) (ad : Option Addr) (len cap : Nat) (ps : List Df) (w : World) (hr : RowE 3 dfC w ad len ps)
    (hso : ∀ (i : Nat) (V : World), i < ps.length → Below w.heap.size w V → Calls Tryz.prog 114 #[v, .agg #[.string (elAt ps i).n, .int .i64 (elAt ps i).i, .int .i64 (elAt ps i).s]] V fun e w' => e = .returned (.bool (P (elAt ps i))) ∧ Below V.heap.size V w') :
    Calls Tryz.prog 111 #[.slice ad len cap, .func (.func 114) #[v] #[]] w fun e w' => e = .returned (.int .i64 (ixE P ps)) ∧ Below w.heap.size w w' := by
  have hz := hr.len_eq
  have hsm := hr.small
  have HR := hide hr
  have HSO := hide hso
  clear hr hso
  subst hz
  go_enter Tryz.func111, Tryz.ntmps111
  go_wp2_with fail
  go_loopw [8] (fun i wr => ∃ k : Nat, i = .int .i64 k ∧ k ≤ ps.length ∧ Hid (Below w.heap.size w wr) ∧ Hid (∀ j, j < k → P (elAt ps j) = false)) (fun i _ => ps.length - (intOf i).toNat)
  case atStart => exact ⟨0, rfl, Nat.zero_le _, hide (Below.refl _ _), hide (fun j hj => by omega)⟩
  case round =>
    obtain ⟨k, rfl, hk, BW, AL⟩ := hrel
    by_cases hlt : k < ps.length
    · obtain ⟨bb, off, rfl, hc⟩ := (unhide HR).at_ k hlt
      have s0 : w.cell? ⟨bb, off + k * 3, none⟩ = some (.string (elAt ps k).n) := hc 0 (by omega)
      have s0 := ((unhide BW).cell (block_lt_of_cell s0)).trans s0
      have s1 : w.cell? ⟨bb, off + k * 3 + 1, none⟩ = some (.int .i64 (elAt ps k).i) := hc 1 (by omega)
      have s1 := ((unhide BW).cell (block_lt_of_cell s1)).trans s1
      have s2 : w.cell? ⟨bb, off + k * 3 + 2, none⟩ = some (.int .i64 (elAt ps k).s) := hc 2 (by omega)
      have s2 := ((unhide BW).cell (block_lt_of_cell s2)).trans s2
      have CF := hide (unhide HSO k wr hlt (unhide BW))
      have hi1 : (k : Int) < (ps.length : Int) := by omega
      have hi0 : (0 : Int) ≤ (k : Int) := by omega
      obtain ⟨x, hx⟩ : ∃ x, elAt ps k = x := ⟨_, rfl⟩
      rw [hx] at s0 s1 s2 CF
      have HX := hide hx
      clear hc hx
      cases q1 : P x with
      | true =>
        have HE : Hid (ixE P ps = (k : Int)) := hide (ixE_at hlt (by rw [unhide HX]; exact q1) (unhide AL))
        rw [q1] at CF
        clear q1 AL
        go_wp2_with (go_at_call 114; refine (unhide CF).mono ?_; rintro e w2 ⟨rfl, b2⟩; have B2 := hide ((unhide BW).trans (b2.mono (unhide BW).size)); clear b2)
        go_ret
        exact ⟨ret_int (unhide HE).symm, unhide B2⟩
      | false =>
        have NX : Hid (∀ j, j < k + 1 → P (elAt ps j) = false) := hide (fun j hj => by
          by_cases e3 : j = k
          · rw [e3, unhide HX]; exact q1
          · exact (unhide AL) j (by omega))
        rw [q1] at CF
        clear q1 AL
        go_wp2_with (go_at_call 114; refine (unhide CF).mono ?_; rintro e w2 ⟨rfl, b2⟩; have B2 := hide ((unhide BW).trans (b2.mono (unhide BW).size)); clear b2)
        go_roundw
        case rel => exact ⟨k + 1, by go_num, by omega, B2, NX⟩
        case measure => simp [intOf]; omega
    · have hi1 : ¬ (k : Int) < (ps.length : Int) := by omega
      have HE : Hid (ixE P ps = -1) := hide (ixE_none (fun j hj => (unhide AL) j (by omega)))
      go_wp2_with fail
      go_ret
      exact ⟨ret_int (unhide HE).symm, unhide BW⟩
set_option maxRecDepth 20000 in
set_option maxHeartbeats 2000000 in
theorem ixTask (P : Ts → Bool) (v : Value) (ad : Option Addr) (len cap : Nat) (ps : List Ts) (w : World) (hr : RowE 7 tsC w ad len ps)
    (hso : ∀ (i : Nat) (V : World), i < ps.length → Below w.heap.size w V → Calls Tryz.prog 84 #[.agg #[.string (elAt ps i).nm, .int .i64 (elAt ps i).h, .int .i64 (elAt ps i).c, .int .i64 (elAt ps i).d, .int .i64 (elAt ps i).dh, .int .i64 (elAt ps i).dc, .int .i64 (elAt ps i).dd], v] V fun e w' => e = .returned (.bool (P (elAt ps i))) ∧ Below V.heap.size V w') :
    Calls Tryz.prog 83 #[.slice ad len cap, .func (.func 84) #[] #[v]] w fun e w' => e = .returned (.int .i64 (ixE P ps)) ∧ Below w.heap.size w w' := by
  have hz := hr.len_eq
  have hsm := hr.small
  have HR := hide hr
  have HSO := hide hso
  clear hr hso
  subst hz
  go_enter Tryz.func83, Tryz.ntmps83
  go_wp2_with fail
  go_loopw [8] (fun i wr => ∃ k : Nat, i = .int .i64 k ∧ k ≤ ps.length ∧ Hid (Below w.heap.size w wr) ∧ Hid (∀ j, j < k → P (elAt ps j) = false)) (fun i _ => ps.length - (intOf i).toNat)
  case atStart => exact ⟨0, rfl, Nat.zero_le _, hide (Below.refl _ _), hide (fun j hj => by omega)⟩
  case round =>
    obtain ⟨k, rfl, hk, BW, AL⟩ := hrel
    by_cases hlt : k < ps.length
    · obtain ⟨bb, off, rfl, hc⟩ := (unhide HR).at_ k hlt
      have s0 : w.cell? ⟨bb, off + k * 7, none⟩ = some (.string (elAt ps k).nm) := hc 0 (by omega)
      have s0 := ((unhide BW).cell (block_lt_of_cell s0)).trans s0
      have s1 : w.cell? ⟨bb, off + k * 7 + 1, none⟩ = some (.int .i64 (elAt ps k).h) := hc 1 (by omega)
      have s1 := ((unhide BW).cell (block_lt_of_cell s1)).trans s1
      have s2 : w.cell? ⟨bb, off + k * 7 + 2, none⟩ = some (.int .i64 (elAt ps k).c) := hc 2 (by omega)
      have s2 := ((unhide BW).cell (block_lt_of_cell s2)).trans s2
      have s3 : w.cell? ⟨bb, off + k * 7 + 3, none⟩ = some (.int .i64 (elAt ps k).d) := hc 3 (by omega)
      have s3 := ((unhide BW).cell (block_lt_of_cell s3)).trans s3
      have s4 : w.cell? ⟨bb, off + k * 7 + 4, none⟩ = some (.int .i64 (elAt ps k).dh) := hc 4 (by omega)
      have s4 := ((unhide BW).cell (block_lt_of_cell s4)).trans s4
      have s5 : w.cell? ⟨bb, off + k * 7 + 5, none⟩ = some (.int .i64 (elAt ps k).dc) := hc 5 (by omega)
      have s5 := ((unhide BW).cell (block_lt_of_cell s5)).trans s5
      have s6 : w.cell? ⟨bb, off + k * 7 + 6, none⟩ = some (.int .i64 (elAt ps k).dd) := hc 6 (by omega)
      have s6 := ((unhide BW).cell (block_lt_of_cell s6)).trans s6
      have CF := hide (unhide HSO k wr hlt (unhide BW))
      have hi1 : (k : Int) < (ps.length : Int) := by omega
      have hi0 : (0 : Int) ≤ (k : Int) := by omega
      obtain ⟨x, hx⟩ : ∃ x, elAt ps k = x := ⟨_, rfl⟩
      rw [hx] at s0 s1 s2 s3 s4 s5 s6 CF
      have HX := hide hx
      clear hc hx
      cases q1 : P x with
      | true =>
        have HE : Hid (ixE P ps = (k : Int)) := hide (ixE_at hlt (by rw [unhide HX]; exact q1) (unhide AL))
        rw [q1] at CF
        clear q1 AL
        go_wp2_with (go_at_call 84; refine (unhide CF).mono ?_; rintro e w2 ⟨rfl, b2⟩; have B2 := hide ((unhide BW).trans (b2.mono (unhide BW).size)); clear b2)
        go_ret
        exact ⟨ret_int (unhide HE).symm, unhide B2⟩
      | false =>
        have NX : Hid (∀ j, j < k + 1 → P (elAt ps j) = false) := hide (fun j hj => by
          by_cases e3 : j = k
          · rw [e3, unhide HX]; exact q1
          · exact (unhide AL) j (by omega))
        rw [q1] at CF
        clear q1 AL
        go_wp2_with (go_at_call 84; refine (unhide CF).mono ?_; rintro e w2 ⟨rfl, b2⟩; have B2 := hide ((unhide BW).trans (b2.mono (unhide BW).size)); clear b2)
        go_roundw
        case rel => exact ⟨k + 1, by go_num, by omega, B2, NX⟩
        case measure => simp [intOf]; omega
    · have hi1 : ¬ (k : Int) < (ps.length : Int) := by omega
      have HE : Hid (ixE P ps = -1) := hide (ixE_none (fun j hj => (unhide AL) j (by omega)))
      go_wp2_with fail
      go_ret
      exact ⟨ret_int (unhide HE).symm, unhide BW⟩

end Go.Proofs.YticdccdkjepifaaGreat

namespace Go.Proofs.YticdccdkjepifaaGreat
open Go Go.RowKit

set_option maxRecDepth 20000 in
set_option maxHeartbeats 2000000 in
theorem l19Carry_any (nh nc nd : Int) (a1 a2 a3 : Option Addr) (l1 c1 l2 c2 l3 c3 : Nat) (cs : List Cr) (nm : ByteArray) (w : World) (hr : RowE 3 crC w a2 l2 cs) :
    Calls Tryz.prog 90 #[.agg #[.slice a1 l1 c1, .slice a2 l2 c2, .slice a3 l3 c3, .int .i64 nh, .int .i64 nc, .int .i64 nd], .string nm] w fun e w' => e = .returned (.int .i64 (ixE (qCr nm) cs)) ∧ Below w.heap.size w w' := by
  have hz := hr.len_eq
  have hsm := hr.small
  have HR := hide hr
  clear hr
  subst hz
  obtain ⟨W, hW⟩ : ∃ W, W = w.alloc (Obj.cells #[.slice a1 l1 c1, .slice a2 cs.length c2, .slice a3 l3 c3, .int .i64 nh, .int .i64 nc, .int .i64 nd] 37) := ⟨_, rfl⟩
  have g0 : W.cell? ⟨w.heap.size, 1, none⟩ = some (.slice a2 cs.length c2) := by rw [hW]; exact (Blk.new (w := w) [.slice a1 l1 c1, .slice a2 cs.length c2, .slice a3 l3 c3, .int .i64 nh, .int .i64 nc, .int .i64 nd] 37).c 1 (by simp)
  have B0 : Hid (Below w.heap.size w W) := hide (by rw [hW]; exact bel1 _)
  have HW := hide hW
  clear hW
  go_enter Tryz.func90, Tryz.ntmps90
  go_wp2_with fail
  rw [← unhide HW]
  clear HW
  go_loopw [5] (fun i wr => ∃ k : Nat, i = .int .i64 k ∧ k ≤ cs.length ∧ wr = W ∧ Hid (∀ j, j < k → qCr nm (elAt cs j) = false)) (fun i _ => cs.length - (intOf i).toNat)
  case atStart => exact ⟨0, rfl, Nat.zero_le _, rfl, hide (fun j hj => by omega)⟩
  case round =>
    obtain ⟨k, rfl, hk, hwr, AL⟩ := hrel
    subst hwr
    by_cases hlt : k < cs.length
    · obtain ⟨bb, off, rfl, hc⟩ := (unhide HR).at_ k hlt
      have s0 : w.cell? ⟨bb, off + k * 3, none⟩ = some (.string (elAt cs k).n) := hc 0 (by omega)
      have s0 := ((unhide B0).cell (block_lt_of_cell s0)).trans s0
      have hi1 : (k : Int) < (cs.length : Int) := by omega
      have hi0 : (0 : Int) ≤ (k : Int) := by omega
      obtain ⟨x, hx⟩ : ∃ x, (elAt cs k).n = x := ⟨_, rfl⟩
      rw [hx] at s0
      have HX := hide hx
      clear hc hx
      by_cases e : x = nm
      · have HE : Hid (ixE (qCr nm) cs = (k : Int)) := hide (ixE_at hlt (decide_eq_true (by rw [unhide HX]; exact e)) (unhide AL))
        have d : (x.toList == nm.toList) = true := by rw [e]; simp
        clear e AL
        go_wp2_with fail
        go_ret
        exact ⟨ret_int (unhide HE).symm, unhide B0⟩
      · have d := txl_no e
        have NX : Hid (∀ j, j < k + 1 → qCr nm (elAt cs j) = false) := hide (fun j hj => by
          by_cases e3 : j = k
          · rw [e3]; exact decide_eq_false (by rw [unhide HX]; exact e)
          · exact (unhide AL) j (by omega))
        clear e AL
        go_wp2_with fail
        go_roundw
        case rel => exact ⟨k + 1, by go_num, by omega, by first | rfl | trivial, NX⟩
        case measure => simp [intOf]; omega
    · have hi1 : ¬ (k : Int) < (cs.length : Int) := by omega
      have HE : Hid (ixE (qCr nm) cs = -1) := hide (ixE_none (fun j hj => (unhide AL) j (by omega)))
      go_wp2_with fail
      go_ret
      exact ⟨ret_int (unhide HE).symm, unhide B0⟩
set_option maxRecDepth 20000 in
set_option maxHeartbeats 2000000 in
theorem l19Many_any (nh nc nd : Int) (a1 a2 a3 : Option Addr) (l1 c1 l2 c2 l3 c3 : Nat) (ds : List Df) (nm : ByteArray) (w : World) (hr : RowE 3 dfC w a3 l3 ds) (hl : l3 ≤ 100) :
    Calls Tryz.prog 91 #[.agg #[.slice a1 l1 c1, .slice a2 l2 c2, .slice a3 l3 c3, .int .i64 nh, .int .i64 nc, .int .i64 nd], .string nm] w fun e w' => e = .returned (.int .i64 (mnF ds nm)) ∧ Below w.heap.size w w' := by
  have hz := hr.len_eq
  have hsm := hr.small
  have HR := hide hr
  clear hr
  subst hz
  obtain ⟨W, hW⟩ : ∃ W, W = w.alloc (Obj.cells #[.slice a1 l1 c1, .slice a2 l2 c2, .slice a3 ds.length c3, .int .i64 nh, .int .i64 nc, .int .i64 nd] 37) := ⟨_, rfl⟩
  have g0 : W.cell? ⟨w.heap.size, 2, none⟩ = some (.slice a3 ds.length c3) := by rw [hW]; exact (Blk.new (w := w) [.slice a1 l1 c1, .slice a2 l2 c2, .slice a3 ds.length c3, .int .i64 nh, .int .i64 nc, .int .i64 nd] 37).c 2 (by simp)
  have B0 : Hid (Below w.heap.size w W) := hide (by rw [hW]; exact bel1 _)
  have HW := hide hW
  clear hW
  go_enter Tryz.func91, Tryz.ntmps91
  go_wp2_with fail
  rw [← unhide HW]
  clear HW
  go_loopw [5, 6] (fun m i wr => ∃ k : Nat, m = .int .i64 (mnK ds nm k) ∧ i = .int .i64 k ∧ k ≤ ds.length ∧ wr = W) (fun _ i _ => ds.length - (intOf i).toNat)
  case atStart => exact ⟨0, rfl, rfl, Nat.zero_le _, rfl⟩
  case round =>
    obtain ⟨k, rfl, rfl, hk, hwr⟩ := hrel
    subst hwr
    by_cases hlt : k < ds.length
    · obtain ⟨bb, off, rfl, hc⟩ := (unhide HR).at_ k hlt
      have s0 : w.cell? ⟨bb, off + k * 3, none⟩ = some (.string (elAt ds k).n) := hc 0 (by omega)
      have s0 := ((unhide B0).cell (block_lt_of_cell s0)).trans s0
      have hi1 : (k : Int) < (ds.length : Int) := by omega
      have hi0 : (0 : Int) ≤ (k : Int) := by omega
      have hm := mnK_bd ds nm k
      have HS : Hid (mnK ds nm (k + 1) = mnK ds nm k + if (elAt ds k).n = nm then 1 else 0) := hide rfl
      obtain ⟨M, hM⟩ : ∃ m, mnK ds nm k = m := ⟨_, rfl⟩
      rw [hM] at HS hm ⊢
      obtain ⟨x, hx⟩ : ∃ x, (elAt ds k).n = x := ⟨_, rfl⟩
      rw [hx] at s0 HS
      clear hc hx hM
      by_cases e : x = nm
      · have d : (x.toList == nm.toList) = true := by rw [e]; simp
        have HS2 : Hid (mnK ds nm (k + 1) = M + 1) := hide (by rw [unhide HS, if_pos e])
        clear e HS
        go_wp2_with fail
        go_roundw
        case rel => exact ⟨k + 1, by rw [unhide HS2], by go_num, by omega, by first | rfl | trivial⟩
        case measure => simp [intOf]; omega
      · have d := txl_no e
        have HS2 : Hid (mnK ds nm (k + 1) = M) := hide (by rw [unhide HS, if_neg e]; omega)
        clear e HS
        go_wp2_with fail
        go_roundw
        case rel => exact ⟨k + 1, by rw [unhide HS2], by go_num, by omega, by first | rfl | trivial⟩
        case measure => simp [intOf]; omega
    · have hi1 : ¬ (k : Int) < (ds.length : Int) := by omega
      have HK : Hid (mnK ds nm k = mnF ds nm) := hide (by rw [mnF, show k = ds.length by omega])
      rw [unhide HK]
      go_wp2_with fail
      go_ret
      exact ⟨rfl, unhide B0⟩

end Go.Proofs.YticdccdkjepifaaGreat

namespace Go.Proofs.YticdccdkjepifaaGreat
open Go Go.RowKit

theorem nx_no {f : Fl} (h : flB f = false) : nxR f = (⟨#[]⟩, 0, false) := by simp [nxR, h]
theorem nx_yes {f : Fl} (h : flB f = true) : nxR f = nxK f f.ts.length := by simp [nxR, h]
theorem nx_take {f : Fl} {k : Nat} (h : d9D (elAt f.ts k) f.nh f.nc f.nd = false) (h2 : 0 < (elAt f.ts k).c) (h3 : (nxK f k).2.2 = false ∨ d9C (elAt f.ts k) f.nh f.nc f.nd < (nxK f k).2.1) : nxK f (k + 1) = ((elAt f.ts k).nm, d9C (elAt f.ts k) f.nh f.nc f.nd, true) := by rw [nxK, if_pos ⟨h, h2, h3⟩]
theorem nx_keep {f : Fl} {k : Nat} (h : d9D (elAt f.ts k) f.nh f.nc f.nd = true ∨ ¬ 0 < (elAt f.ts k).c ∨ ((nxK f k).2.2 = true ∧ ¬ d9C (elAt f.ts k) f.nh f.nc f.nd < (nxK f k).2.1)) : nxK f (k + 1) = nxK f k := by
  rw [nxK, if_neg]
  rintro ⟨a, b, c⟩
  rcases h with h | h | ⟨h1, h2⟩
  · rw [h] at a; cases a
  · exact h b
  · rcases c with c | c
    · rw [h1] at c; cases c
    · exact h2 c
theorem ret_nx {x : ByteArray × Int × Bool} {a : ByteArray} {b : Int} {c : Bool} (h : x = (a, b, c)) : Ending.returned (.tuple #[.string a, .int .i64 b, .bool c]) = .returned (.tuple #[.string x.1, .int .i64 x.2.1, .bool x.2.2]) := by rw [h]

end Go.Proofs.YticdccdkjepifaaGreat

namespace Go.Proofs.YticdccdkjepifaaGreat
open Go Go.RowKit

theorem ixE_neg {α : Type} [Inhabited α] {P : α → Bool} {xs : List α} (h : ¬ 0 ≤ ixE P xs) {j : Nat} (hj : j < xs.length) : P (elAt xs j) = false := by
  rcases ixE_cases P xs with ⟨_, a⟩ | ⟨k, _, a, _⟩
  · exact a j hj
  · rw [a] at h; omega
theorem ixE_pos {α : Type} [Inhabited α] {P : α → Bool} {xs : List α} (h : 0 ≤ ixE P xs) : ∃ k, k < xs.length ∧ ixE P xs = (k : Int) ∧ P (elAt xs k) = true := by
  rcases ixE_cases P xs with ⟨a, _⟩ | ⟨k, a, b, c, _⟩
  · rw [a] at h; omega
  · exact ⟨k, a, b, c⟩
theorem fl_task {f : Fl} (hf : flB f = true) {i : Nat} (hi : i < f.ts.length) : d9B (elAt f.ts i) f.nh f.nc f.nd = true ∧ nameB (elAt f.ts i).nm = true := by
  obtain ⟨h1, _, h3, _⟩ := flB_facts hf
  have k := (listS_facts h3).2.1 i hi
  simp only [tkB, Bool.and_eq_true] at k
  refine ⟨?_, (tsB_facts k.1).1⟩
  rw [d9B, k.1, h1, k.2]; rfl
theorem fl_once {f : Fl} (hf : flB f = true) {i j : Nat} (hi : i < f.ts.length) (hj : j < f.ts.length) (e : (elAt f.ts i).nm = (elAt f.ts j).nm) : i = j := by
  obtain ⟨_, _, h3, _⟩ := flB_facts hf
  refine riseS_ne (listS_facts h3).2.2 (by simpa using hi) (by simpa using hj) ?_
  rw [map_at hi, map_at hj]; exact e
theorem name_ne {x : ByteArray} (h : nameB x = true) : x ≠ ⟨#[]⟩ := by
  intro e
  rw [e] at h
  simp only [nameB, inB, Bool.and_eq_true, decide_eq_true_eq] at h
  exact absurd h.1.1 (by decide)
theorem rl_free {f : Fl} (h : (rlR f).1 = 0) : flB f = true ∧ (∀ i, i < f.ts.length → duT f (elAt f.ts i) = false) ∧ ∀ i, i < f.ds.length → unB f (elAt f.ds i) = false ∧ olB f (elAt f.ds i) = false := by
  rw [rlR] at h
  split at h
  · simp at h
  split at h
  · simp at h
  split at h
  · simp at h
  split at h
  · simp at h
  split at h
  · simp at h
  · rename_i q1 q2 q3 _ q5
    exact ⟨by simpa using q1, fun i hi => ixE_neg q2 hi, fun i hi => ⟨ixE_neg q3 hi, ixE_neg q5 hi⟩⟩
/-- Whether a defect is found on the list, of its first k. -/
def onK (f : Fl) (d : Df) : Nat → Bool
  | 0 => false
  | k + 1 => onK f d k || (decide ((elAt f.cs k).n = d.n) && decide (f.nd - d.s ≤ (elAt f.cs k).d))
theorem onK_at {f : Fl} {d : Df} {k : Nat} (h1 : (elAt f.cs k).n = d.n) (h2 : f.nd - d.s ≤ (elAt f.cs k).d) : ∀ n, k < n → onK f d n = true
  | 0, hn => by omega
  | n + 1, hn => by
    rw [onK]
    by_cases e : k = n
    · subst e; simp [h1, h2]
    · rw [onK_at h1 h2 n (by omega)]; rfl
theorem on_yes {f : Fl} (h : (rlR f).1 = 0) {i : Nat} (hi : i < f.ds.length) : onK f (elAt f.ds i) f.cs.length = true := by
  obtain ⟨_, _, h3⟩ := rl_free h
  obtain ⟨a, b⟩ := h3 i hi
  have a : ¬ caF f (elAt f.ds i).n < 0 := of_decide_eq_false a
  obtain ⟨k, hk, e, hq⟩ := ixE_pos (P := qCr (elAt f.ds i).n) (xs := f.cs) (by show 0 ≤ caF f (elAt f.ds i).n; omega)
  have ec : caF f (elAt f.ds i).n = (k : Int) := e
  have hq : (elAt f.cs k).n = (elAt f.ds i).n := of_decide_eq_true hq
  refine onK_at hq ?_ _ hk
  have c : ¬ (elAt f.cs k).d < f.nd - (elAt f.ds i).s := by
    simp only [olB, ec, Bool.and_eq_false_iff, Bool.not_eq_eq_eq_not, Bool.not_false, decide_eq_true_eq, decide_eq_false_iff_not] at b
    rcases b with b | b
    · omega
    · simpa using b
  omega
/-- What NextDue has found of the first k. -/
theorem nxK_is (f : Fl) : ∀ k, k ≤ f.ts.length →
    ((nxK f k = (⟨#[]⟩, 0, false) ∧ ∀ j, j < k → d9D (elAt f.ts j) f.nh f.nc f.nd = false → ¬ 0 < (elAt f.ts j).c) ∨
     ∃ i, i < k ∧ nxK f k = ((elAt f.ts i).nm, d9C (elAt f.ts i) f.nh f.nc f.nd, true) ∧ d9D (elAt f.ts i) f.nh f.nc f.nd = false ∧ ∀ j, j < k → d9D (elAt f.ts j) f.nh f.nc f.nd = false → 0 < (elAt f.ts j).c → d9C (elAt f.ts i) f.nh f.nc f.nd ≤ d9C (elAt f.ts j) f.nh f.nc f.nd)
  | 0, _ => .inl ⟨rfl, fun j hj => by omega⟩
  | k + 1, hk => by
    have ih := nxK_is f k (by omega)
    by_cases c : d9D (elAt f.ts k) f.nh f.nc f.nd = false ∧ 0 < (elAt f.ts k).c ∧ ((nxK f k).2.2 = false ∨ d9C (elAt f.ts k) f.nh f.nc f.nd < (nxK f k).2.1)
    · right
      refine ⟨k, by omega, by rw [nxK, if_pos c], c.1, fun j hj q1 q2 => ?_⟩
      rcases Nat.lt_or_ge j k with l | l
      · rcases ih with ⟨e, a⟩ | ⟨i, hi, e, q, a⟩
        · exact absurd q2 (a j l q1)
        · have := a j l q1 q2
          rcases c.2.2 with z | z
          · rw [e] at z; cases z
          · rw [e] at z; simp only at z; omega
      · rw [show j = k by omega]; exact Int.le_refl _
    · rw [nxK, if_neg c]
      rcases ih with ⟨e, a⟩ | ⟨i, hi, e, q, a⟩
      · refine .inl ⟨e, fun j hj q1 q2 => ?_⟩
        rcases Nat.lt_or_ge j k with l | l
        · exact a j l q1 q2
        · rw [show j = k by omega] at q1 q2
          exact c ⟨q1, q2, .inl (by rw [e])⟩
      · refine .inr ⟨i, by omega, e, q, fun j hj q1 q2 => ?_⟩
        rcases Nat.lt_or_ge j k with l | l
        · exact a j l q1 q2
        · rw [show j = k by omega] at q1 q2 ⊢
          rcases Int.lt_or_le (d9C (elAt f.ts k) f.nh f.nc f.nd) (d9C (elAt f.ts i) f.nh f.nc f.nd) with z | z
          · exact absurd ⟨q1, q2, .inr (by rw [e]; exact z)⟩ c
          · exact z
/-- What the law FnCarried asks of the next one due. -/
theorem nx_law {f : Fl} (hf : flB f = true) : ((nxR f).2.2 = true ↔ (nxR f).1 ≠ ⟨#[]⟩) ∧
    (∀ i, i < f.ts.length → (elAt f.ts i).nm = (nxR f).1 → (nxR f).2.2 = true ∧ d9D (elAt f.ts i) f.nh f.nc f.nd = false ∧ d9C (elAt f.ts i) f.nh f.nc f.nd = (nxR f).2.1) ∧
    (∀ i, i < f.ts.length → (nxR f).2.2 = true → d9D (elAt f.ts i) f.nh f.nc f.nd = false → 0 < (elAt f.ts i).c → (nxR f).2.1 ≤ d9C (elAt f.ts i) f.nh f.nc f.nd) := by
  rw [nx_yes hf]
  rcases nxK_is f f.ts.length (Nat.le_refl _) with ⟨e, _⟩ | ⟨k, hk, e, q, a⟩
  · rw [e]
    refine ⟨by simp, fun i hi h => ?_, fun i hi h => by cases h⟩
    exact absurd h (name_ne (fl_task hf hi).2)
  · rw [e]
    refine ⟨by simp only [ne_eq, true_iff]; exact name_ne (fl_task hf hk).2, fun i hi h => ?_, fun i hi _ q1 q2 => a i hi q1 q2⟩
    have := fl_once hf hi hk h
    subst this
    exact ⟨rfl, q, rfl⟩

end Go.Proofs.YticdccdkjepifaaGreat
