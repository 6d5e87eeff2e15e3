/-
  The library's IndexFunc at tasks and at defects, with the program's own questions: the place of the first of which it is so; nothing that was there is written.
-/
import Derived.Test.YtfnnfldfnjnlfagMWrOrd
import Derived.Test.YtfnnfldfnjnlfagMSmall
namespace Go.Proofs.Ytfnnfldfnjnlfag
open Go Go.RowKit

set_option maxRecDepth 20000 in
set_option maxHeartbeats 2000000 in
theorem ixDue (P : Ts → Bool) (v : Value) (ad : Option Addr) (len cap : Nat) (ps : List Ts) (w : World) (hr : RowE 7 tsC w ad len ps)
    (hso : ∀ (i : Nat) (V : World), i < ps.length → Below w.heap.size w V → Calls Try.prog 45 #[v, .agg #[.string (elAt ps i).nm, .int .i64 (elAt ps i).h, .int .i64 (elAt ps i).c, .int .i64 (elAt ps i).d, .int .i64 (elAt ps i).dh, .int .i64 (elAt ps i).dc, .int .i64 (elAt ps i).dd]] V fun e w' => e = .returned (.bool (P (elAt ps i))) ∧ Below V.heap.size V w') :
    Calls Try.prog 44 #[.slice ad len cap, .func (.func 45) #[v] #[]] w fun e w' => e = .returned (.int .i64 (ixE P ps)) ∧ Below w.heap.size w w' := by
  have hz := hr.len_eq
  have hsm := hr.small
  have HR := hide hr
  have HSO := hide hso
  clear hr hso
  subst hz
  go_enter Try.func44, Try.ntmps44
  go_wp2_with fail
  go_loopw [8] (fun i wr => ∃ k : Nat, i = .int .i64 k ∧ k ≤ ps.length ∧ Hid (Below w.heap.size w wr) ∧ Hid (∀ j, j < k → P (elAt ps j) = false)) (fun i _ => ps.length - (intOf i).toNat)
  case atStart => exact ⟨0, rfl, Nat.zero_le _, hide (Below.refl _ _), hide (fun j hj => by omega)⟩
  case round =>
    obtain ⟨k, rfl, hk, BW, AL⟩ := hrel
    by_cases hlt : k < ps.length
    · obtain ⟨bb, off, rfl, hc⟩ := (unhide HR).at_ k hlt
      have s0 : w.cell? ⟨bb, off + k * 7, none⟩ = some (.string (elAt ps k).nm) := hc 0 (by omega)
      have s0 := ((unhide BW).cell (block_lt_of_cell s0)).trans s0
      have s1 : w.cell? ⟨bb, off + k * 7 + 1, none⟩ = some (.int .i64 (elAt ps k).h) := hc 1 (by omega)
      have s1 := ((unhide BW).cell (block_lt_of_cell s1)).trans s1
      have s2 : w.cell? ⟨bb, off + k * 7 + 2, none⟩ = some (.int .i64 (elAt ps k).c) := hc 2 (by omega)
      have s2 := ((unhide BW).cell (block_lt_of_cell s2)).trans s2
      have s3 : w.cell? ⟨bb, off + k * 7 + 3, none⟩ = some (.int .i64 (elAt ps k).d) := hc 3 (by omega)
      have s3 := ((unhide BW).cell (block_lt_of_cell s3)).trans s3
      have s4 : w.cell? ⟨bb, off + k * 7 + 4, none⟩ = some (.int .i64 (elAt ps k).dh) := hc 4 (by omega)
      have s4 := ((unhide BW).cell (block_lt_of_cell s4)).trans s4
      have s5 : w.cell? ⟨bb, off + k * 7 + 5, none⟩ = some (.int .i64 (elAt ps k).dc) := hc 5 (by omega)
      have s5 := ((unhide BW).cell (block_lt_of_cell s5)).trans s5
      have s6 : w.cell? ⟨bb, off + k * 7 + 6, none⟩ = some (.int .i64 (elAt ps k).dd) := hc 6 (by omega)
      have s6 := ((unhide BW).cell (block_lt_of_cell s6)).trans s6
      have CF := hide (unhide HSO k wr hlt (unhide BW))
      have hi1 : (k : Int) < (ps.length : Int) := by omega
      have hi0 : (0 : Int) ≤ (k : Int) := by omega
      obtain ⟨x, hx⟩ : ∃ x, elAt ps k = x := ⟨_, rfl⟩
      rw [hx] at s0 s1 s2 s3 s4 s5 s6 CF
      have HX := hide hx
      clear hc hx
      cases q1 : P x with
      | true =>
        have HE : Hid (ixE P ps = (k : Int)) := hide (ixE_at hlt (by rw [unhide HX]; exact q1) (unhide AL))
        rw [q1] at CF
        clear q1 AL
        go_wp2_with (go_at_call 45; refine (unhide CF).mono ?_; rintro e w2 ⟨rfl, b2⟩; have B2 := hide ((unhide BW).trans (b2.mono (unhide BW).size)); clear b2)
        go_ret
        exact ⟨ret_int (unhide HE).symm, unhide B2⟩
      | false =>
        have NX : Hid (∀ j, j < k + 1 → P (elAt ps j) = false) := hide (fun j hj => by
          by_cases e3 : j = k
          · rw [e3, unhide HX]; exact q1
          · exact (unhide AL) j (by omega))
        rw [q1] at CF
        clear q1 AL
        go_wp2_with (go_at_call 45; refine (unhide CF).mono ?_; rintro e w2 ⟨rfl, b2⟩; have B2 := hide ((unhide BW).trans (b2.mono (unhide BW).size)); clear b2)
        go_roundw
        case rel => exact ⟨k + 1, by go_num, by omega, B2, NX⟩
        case measure => simp [intOf]; omega
    · have hi1 : ¬ (k : Int) < (ps.length : Int) := by omega
      have HE : Hid (ixE P ps = -1) := hide (ixE_none (fun j hj => (unhide AL) j (by omega)))
      go_wp2_with fail
      go_ret
      exact ⟨ret_int (unhide HE).symm, unhide BW⟩
set_option maxRecDepth 20000 in
set_option maxHeartbeats 2000000 in
theorem ixUn (P : Df → Bool) (v : Value) (ad : Option Addr) (len cap : Nat) (ps : List Df) (w : World) (hr : RowE 3 dfC w ad len ps)
    (hso : ∀ (i : Nat) (V : World), i < ps.length → Below w.heap.size w V → Calls Try.prog 47 #[v, .agg #[.string (elAt ps i).n, .int .i64 (elAt ps i).i, .int .i64 (elAt ps i).s]] V fun e w' => e = .returned (.bool (P (elAt ps i))) ∧ Below V.heap.size V w') :
    Calls Try.prog 46 #[.slice ad len cap, .func (.func 47) #[v] #[]] w fun e w' => e = .returned (.int .i64 (ixE P ps)) ∧ Below w.heap.size w w' := by
  have hz := hr.len_eq
  have hsm := hr.small
  have HR := hide hr
  have HSO := hide hso
  clear hr hso
  subst hz
  go_enter Try.func46, Try.ntmps46
  go_wp2_with fail
  go_loopw [8] (fun i wr => ∃ k : Nat, i = .int .i64 k ∧ k ≤ ps.length ∧ Hid (Below w.heap.size w wr) ∧ Hid (∀ j, j < k → P (elAt ps j) = false)) (fun i _ => ps.length - (intOf i).toNat)
  case atStart => exact ⟨0, rfl, Nat.zero_le _, hide (Below.refl _ _), hide (fun j hj => by omega)⟩
  case round =>
    obtain ⟨k, rfl, hk, BW, AL⟩ := hrel
    by_cases hlt : k < ps.length
    · obtain ⟨bb, off, rfl, hc⟩ := (unhide HR).at_ k hlt
      have s0 : w.cell? ⟨bb, off + k * 3, none⟩ = some (.string (elAt ps k).n) := hc 0 (by omega)
      have s0 := ((unhide BW).cell (block_lt_of_cell s0)).trans s0
      have s1 : w.cell? ⟨bb, off + k * 3 + 1, none⟩ = some (.int .i64 (elAt ps k).i) := hc 1 (by omega)
      have s1 := ((unhide BW).cell (block_lt_of_cell s1)).trans s1
      have s2 : w.cell? ⟨bb, off + k * 3 + 2, none⟩ = some (.int .i64 (elAt ps k).s) := hc 2 (by omega)
      have s2 := ((unhide BW).cell (block_lt_of_cell s2)).trans s2
      have CF := hide (unhide HSO k wr hlt (unhide BW))
      have hi1 : (k : Int) < (ps.length : Int) := by omega
      have hi0 : (0 : Int) ≤ (k : Int) := by omega
      obtain ⟨x, hx⟩ : ∃ x, elAt ps k = x := ⟨_, rfl⟩
      rw [hx] at s0 s1 s2 CF
      have HX := hide hx
      clear hc hx
      cases q1 : P x with
      | true =>
        have HE : Hid (ixE P ps = (k : Int)) := hide (ixE_at hlt (by rw [unhide HX]; exact q1) (unhide AL))
        rw [q1] at CF
        clear q1 AL
        go_wp2_with (go_at_call 47; refine (unhide CF).mono ?_; rintro e w2 ⟨rfl, b2⟩; have B2 := hide ((unhide BW).trans (b2.mono (unhide BW).size)); clear b2)
        go_ret
        exact ⟨ret_int (unhide HE).symm, unhide B2⟩
      | false =>
        have NX : Hid (∀ j, j < k + 1 → P (elAt ps j) = false) := hide (fun j hj => by
          by_cases e3 : j = k
          · rw [e3, unhide HX]; exact q1
          · exact (unhide AL) j (by omega))
        rw [q1] at CF
        clear q1 AL
        go_wp2_with (go_at_call 47; refine (unhide CF).mono ?_; rintro e w2 ⟨rfl, b2⟩; have B2 := hide ((unhide BW).trans (b2.mono (unhide BW).size)); clear b2)
        go_roundw
        case rel => exact ⟨k + 1, by go_num, by omega, B2, NX⟩
        case measure => simp [intOf]; omega
    · have hi1 : ¬ (k : Int) < (ps.length : Int) := by omega
      have HE : Hid (ixE P ps = -1) := hide (ixE_none (fun j hj => (unhide AL) j (by omega)))
      go_wp2_with fail
      go_ret
      exact ⟨ret_int (unhide HE).symm, unhide BW⟩
set_option maxRecDepth 20000 in
set_option maxHeartbeats 2000000 in
theorem ixMany (P : Df → Bool) (v : Value) (ad : Option Addr) (len cap : Nat) (ps : List Df) (w : World) (hr : RowE 3 dfC w ad len ps)
    (hso : ∀ (i : Nat) (V : World), i < ps.length → Below w.heap.size w V → Calls Try.prog 48 #[v, .agg #[.string (elAt ps i).n, .int .i64 (elAt ps i).i, .int .i64 (elAt ps i).s]] V fun e w' => e = .returned (.bool (P (elAt ps i))) ∧ Below V.heap.size V w') :
    Calls Try.prog 46 #[.slice ad len cap, .func (.func 48) #[v] #[]] w fun e w' => e = .returned (.int .i64 (ixE P ps)) ∧ Below w.heap.size w w' := by
  have hz := hr.len_eq
  have hsm := hr.small
  have HR := hide hr
  have HSO := hide hso
  clear hr hso
  subst hz
  go_enter Try.func46, Try.ntmps46
  go_wp2_with fail
  go_loopw [8] (fun i wr => ∃ k : Nat, i = .int .i64 k ∧ k ≤ ps.length ∧ Hid (Below w.heap.size w wr) ∧ Hid (∀ j, j < k → P (elAt ps j) = false)) (fun i _ => ps.length - (intOf i).toNat)
  case atStart => exact ⟨0, rfl, Nat.zero_le _, hide (Below.refl _ _), hide (fun j hj => by omega)⟩
  case round =>
    obtain ⟨k, rfl, hk, BW, AL⟩ := hrel
    by_cases hlt : k < ps.length
    · obtain ⟨bb, off, rfl, hc⟩ := (unhide HR).at_ k hlt
      have s0 : w.cell? ⟨bb, off + k * 3, none⟩ = some (.string (elAt ps k).n) := hc 0 (by omega)
      have s0 := ((unhide BW).cell (block_lt_of_cell s0)).trans s0
      have s1 : w.cell? ⟨bb, off + k * 3 + 1, none⟩ = some (.int .i64 (elAt ps k).i) := hc 1 (by omega)
      have s1 := ((unhide BW).cell (block_lt_of_cell s1)).trans s1
      have s2 : w.cell? ⟨bb, off + k * 3 + 2, none⟩ = some (.int .i64 (elAt ps k).s) := hc 2 (by omega)
      have s2 := ((unhide BW).cell (block_lt_of_cell s2)).trans s2
      have CF := hide (unhide HSO k wr hlt (unhide BW))
      have hi1 : (k : Int) < (ps.length : Int) := by omega
      have hi0 : (0 : Int) ≤ (k : Int) := by omega
      obtain ⟨x, hx⟩ : ∃ x, elAt ps k = x := ⟨_, rfl⟩
      rw [hx] at s0 s1 s2 CF
      have HX := hide hx
      clear hc hx
      cases q1 : P x with
      | true =>
        have HE : Hid (ixE P ps = (k : Int)) := hide (ixE_at hlt (by rw [unhide HX]; exact q1) (unhide AL))
        rw [q1] at CF
        clear q1 AL
        go_wp2_with (go_at_call 48; refine (unhide CF).mono ?_; rintro e w2 ⟨rfl, b2⟩; have B2 := hide ((unhide BW).trans (b2.mono (unhide BW).size)); clear b2)
        go_ret
        exact ⟨ret_int (unhide HE).symm, unhide B2⟩
      | false =>
        have NX : Hid (∀ j, j < k + 1 → P (elAt ps j) = false) := hide (fun j hj => by
          by_cases e3 : j = k
          · rw [e3, unhide HX]; exact q1
          · exact (unhide AL) j (by omega))
        rw [q1] at CF
        clear q1 AL
        go_wp2_with (go_at_call 48; refine (unhide CF).mono ?_; rintro e w2 ⟨rfl, b2⟩; have B2 := hide ((unhide BW).trans (b2.mono (unhide BW).size)); clear b2)
        go_roundw
        case rel => exact ⟨k + 1, by go_num, by omega, B2, NX⟩
        case measure => simp [intOf]; omega
    · have hi1 : ¬ (k : Int) < (ps.length : Int) := by omega
      have HE : Hid (ixE P ps = -1) := hide (ixE_none (fun j hj => (unhide AL) j (by omega)))
      go_wp2_with fail
      go_ret
      exact ⟨ret_int (unhide HE).symm, unhide BW⟩
set_option maxRecDepth 20000 in
set_option maxHeartbeats 2000000 in
theorem ixOld (P : Df → Bool) (v : Value) (ad : Option Addr) (len cap : Nat) (ps : List Df) (w : World) (hr : RowE 3 dfC w ad len ps)
    (hso : ∀ (i : Nat) (V : World), i < ps.length → Below w.heap.size w V → Calls Try.prog 49 #[v, .agg #[.string (elAt ps i).n, .int .i64 (elAt ps i).i, .int .i64 (elAt ps i).s]] V fun e w' => e = .returned (.bool (P (elAt ps i))) ∧ Below V.heap.size V w') :
    Calls Try.prog 46 #[.slice ad len cap, .func (.func 49) #[v] #[]] w fun e w' => e = .returned (.int .i64 (ixE P ps)) ∧ Below w.heap.size w w' := by
  have hz := hr.len_eq
  have hsm := hr.small
  have HR := hide hr
  have HSO := hide hso
  clear hr hso
  subst hz
  go_enter Try.func46, Try.ntmps46
  go_wp2_with fail
  go_loopw [8] (fun i wr => ∃ k : Nat, i = .int .i64 k ∧ k ≤ ps.length ∧ Hid (Below w.heap.size w wr) ∧ Hid (∀ j, j < k → P (elAt ps j) = false)) (fun i _ => ps.length - (intOf i).toNat)
  case atStart => exact ⟨0, rfl, Nat.zero_le _, hide (Below.refl _ _), hide (fun j hj => by omega)⟩
  case round =>
    obtain ⟨k, rfl, hk, BW, AL⟩ := hrel
    by_cases hlt : k < ps.length
    · obtain ⟨bb, off, rfl, hc⟩ := (unhide HR).at_ k hlt
      have s0 : w.cell? ⟨bb, off + k * 3, none⟩ = some (.string (elAt ps k).n) := hc 0 (by omega)
      have s0 := ((unhide BW).cell (block_lt_of_cell s0)).trans s0
      have s1 : w.cell? ⟨bb, off + k * 3 + 1, none⟩ = some (.int .i64 (elAt ps k).i) := hc 1 (by omega)
      have s1 := ((unhide BW).cell (block_lt_of_cell s1)).trans s1
      have s2 : w.cell? ⟨bb, off + k * 3 + 2, none⟩ = some (.int .i64 (elAt ps k).s) := hc 2 (by omega)
      have s2 := ((unhide BW).cell (block_lt_of_cell s2)).trans s2
      have CF := hide (unhide HSO k wr hlt (unhide BW))
      have hi1 : (k : Int) < (ps.length : Int) := by omega
      have hi0 : (0 : Int) ≤ (k : Int) := by omega
      obtain ⟨x, hx⟩ : ∃ x, elAt ps k = x := ⟨_, rfl⟩
      rw [hx] at s0 s1 s2 CF
      have HX := hide hx
      clear hc hx
      cases q1 : P x with
      | true =>
        have HE : Hid (ixE P ps = (k : Int)) := hide (ixE_at hlt (by rw [unhide HX]; exact q1) (unhide AL))
        rw [q1] at CF
        clear q1 AL
        go_wp2_with (go_at_call 49; refine (unhide CF).mono ?_; rintro e w2 ⟨rfl, b2⟩; have B2 := hide ((unhide BW).trans (b2.mono (unhide BW).size)); clear b2)
        go_ret
        exact ⟨ret_int (unhide HE).symm, unhide B2⟩
      | false =>
        have NX : Hid (∀ j, j < k + 1 → P (elAt ps j) = false) := hide (fun j hj => by
          by_cases e3 : j = k
          · rw [e3, unhide HX]; exact q1
          · exact (unhide AL) j (by omega))
        rw [q1] at CF
        clear q1 AL
        go_wp2_with (go_at_call 49; refine (unhide CF).mono ?_; rintro e w2 ⟨rfl, b2⟩; have B2 := hide ((unhide BW).trans (b2.mono (unhide BW).size)); clear b2)
        go_roundw
        case rel => exact ⟨k + 1, by go_num, by omega, B2, NX⟩
        case measure => simp [intOf]; omega
    · have hi1 : ¬ (k : Int) < (ps.length : Int) := by omega
      have HE : Hid (ixE P ps = -1) := hide (ixE_none (fun j hj => (unhide AL) j (by omega)))
      go_wp2_with fail
      go_ret
      exact ⟨ret_int (unhide HE).symm, unhide BW⟩
set_option maxRecDepth 20000 in
set_option maxHeartbeats 2000000 in
theorem ixTask (P : Ts → Bool) (v : Value) (ad : Option Addr) (len cap : Nat) (ps : List Ts) (w : World) (hr : RowE 7 tsC w ad len ps)
    (hso : ∀ (i : Nat) (V : World), i < ps.length → Below w.heap.size w V → Calls Try.prog 111 #[.agg #[.string (elAt ps i).nm, .int .i64 (elAt ps i).h, .int .i64 (elAt ps i).c, .int .i64 (elAt ps i).d, .int .i64 (elAt ps i).dh, .int .i64 (elAt ps i).dc, .int .i64 (elAt ps i).dd], v] V fun e w' => e = .returned (.bool (P (elAt ps i))) ∧ Below V.heap.size V w') :
    Calls Try.prog 44 #[.slice ad len cap, .func (.func 111) #[] #[v]] w fun e w' => e = .returned (.int .i64 (ixE P ps)) ∧ Below w.heap.size w w' := by
  have hz := hr.len_eq
  have hsm := hr.small
  have HR := hide hr
  have HSO := hide hso
  clear hr hso
  subst hz
  go_enter Try.func44, Try.ntmps44
  go_wp2_with fail
  go_loopw [8] (fun i wr => ∃ k : Nat, i = .int .i64 k ∧ k ≤ ps.length ∧ Hid (Below w.heap.size w wr) ∧ Hid (∀ j, j < k → P (elAt ps j) = false)) (fun i _ => ps.length - (intOf i).toNat)
  case atStart => exact ⟨0, rfl, Nat.zero_le _, hide (Below.refl _ _), hide (fun j hj => by omega)⟩
  case round =>
    obtain ⟨k, rfl, hk, BW, AL⟩ := hrel
    by_cases hlt : k < ps.length
    · obtain ⟨bb, off, rfl, hc⟩ := (unhide HR).at_ k hlt
      have s0 : w.cell? ⟨bb, off + k * 7, none⟩ = some (.string (elAt ps k).nm) := hc 0 (by omega)
      have s0 := ((unhide BW).cell (block_lt_of_cell s0)).trans s0
      have s1 : w.cell? ⟨bb, off + k * 7 + 1, none⟩ = some (.int .i64 (elAt ps k).h) := hc 1 (by omega)
      have s1 := ((unhide BW).cell (block_lt_of_cell s1)).trans s1
      have s2 : w.cell? ⟨bb, off + k * 7 + 2, none⟩ = some (.int .i64 (elAt ps k).c) := hc 2 (by omega)
      have s2 := ((unhide BW).cell (block_lt_of_cell s2)).trans s2
      have s3 : w.cell? ⟨bb, off + k * 7 + 3, none⟩ = some (.int .i64 (elAt ps k).d) := hc 3 (by omega)
      have s3 := ((unhide BW).cell (block_lt_of_cell s3)).trans s3
      have s4 : w.cell? ⟨bb, off + k * 7 + 4, none⟩ = some (.int .i64 (elAt ps k).dh) := hc 4 (by omega)
      have s4 := ((unhide BW).cell (block_lt_of_cell s4)).trans s4
      have s5 : w.cell? ⟨bb, off + k * 7 + 5, none⟩ = some (.int .i64 (elAt ps k).dc) := hc 5 (by omega)
      have s5 := ((unhide BW).cell (block_lt_of_cell s5)).trans s5
      have s6 : w.cell? ⟨bb, off + k * 7 + 6, none⟩ = some (.int .i64 (elAt ps k).dd) := hc 6 (by omega)
      have s6 := ((unhide BW).cell (block_lt_of_cell s6)).trans s6
      have CF := hide (unhide HSO k wr hlt (unhide BW))
      have hi1 : (k : Int) < (ps.length : Int) := by omega
      have hi0 : (0 : Int) ≤ (k : Int) := by omega
      obtain ⟨x, hx⟩ : ∃ x, elAt ps k = x := ⟨_, rfl⟩
      rw [hx] at s0 s1 s2 s3 s4 s5 s6 CF
      have HX := hide hx
      clear hc hx
      cases q1 : P x with
      | true =>
        have HE : Hid (ixE P ps = (k : Int)) := hide (ixE_at hlt (by rw [unhide HX]; exact q1) (unhide AL))
        rw [q1] at CF
        clear q1 AL
        go_wp2_with (go_at_call 111; refine (unhide CF).mono ?_; rintro e w2 ⟨rfl, b2⟩; have B2 := hide ((unhide BW).trans (b2.mono (unhide BW).size)); clear b2)
        go_ret
        exact ⟨ret_int (unhide HE).symm, unhide B2⟩
      | false =>
        have NX : Hid (∀ j, j < k + 1 → P (elAt ps j) = false) := hide (fun j hj => by
          by_cases e3 : j = k
          · rw [e3, unhide HX]; exact q1
          · exact (unhide AL) j (by omega))
        rw [q1] at CF
        clear q1 AL
        go_wp2_with (go_at_call 111; refine (unhide CF).mono ?_; rintro e w2 ⟨rfl, b2⟩; have B2 := hide ((unhide BW).trans (b2.mono (unhide BW).size)); clear b2)
        go_roundw
        case rel => exact ⟨k + 1, by go_num, by omega, B2, NX⟩
        case measure => simp [intOf]; omega
    · have hi1 : ¬ (k : Int) < (ps.length : Int) := by omega
      have HE : Hid (ixE P ps = -1) := hide (ixE_none (fun j hj => (unhide AL) j (by omega)))
      go_wp2_with fail
      go_ret
      exact ⟨ret_int (unhide HE).symm, unhide BW⟩

end Go.Proofs.Ytfnnfldfnjnlfag
