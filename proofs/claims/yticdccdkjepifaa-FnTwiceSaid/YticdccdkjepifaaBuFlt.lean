/-
  What the program's frameFault tells: the code of a frame, at every list of bytes. Nothing that was there is written.
-/
import Derived.Test.YticdccdkjepifaaMBuImpl
import Derived.Test.YticdccdkjepifaaMBuSumI
import Derived.Test.YticdccdkjepifaaBuGet
import Derived.Laws.Cover3
namespace Go.Proofs.Yticdccdkjepifaa
open Go.RowKit

set_option maxRecDepth 20000 in
set_option maxHeartbeats 1000000 in
theorem fault_short {c : Int} (ad : Option Addr) (len cap : Nat) (zs : List Int) (w : World) (hr : RowE 1 byC w ad len zs) (h : len < 4) (hc : gtC zs = c) :
    Calls Try.prog 55 #[.slice ad len cap] w fun e w' => e = .returned (.int .i64 c) ∧ Below w.heap.size w w' := by
  have hlen := hr.len_eq
  have hs := hr.small
  have HR := hide hr
  clear hr
  subst hlen
  obtain ⟨ι, fW, _, hb, hall⟩ := belClass w
  have HB := hide hb
  have HA := hide hall
  clear hb hall
  obtain ⟨x0, h0'⟩ := (unhide HA) w (Below.refl _ _)
  have HC := hide ((show gtC zs = _ from by unfold gtC; rw [if_pos h]).symm.trans hc)
  clear hc
  have h1 : (zs.length : Int) < 4 := by omega
  go_enter Try.func55, Try.ntmps55
  rw [h0']
  have H0 := hide h0'
  clear h0'
  go_wp2_with (fail)
  go_ret
  exact ⟨ret_int (unhide HC), (by first | (rw [← unhide H0]; exact unhide HB _) | (rw [← unhide H0]; exact Below.refl _ _))⟩

set_option maxRecDepth 20000 in
set_option maxHeartbeats 1000000 in
theorem fault_long {c : Int} (ad : Option Addr) (len cap : Nat) (zs : List Int) (w : World) (hr : RowE 1 byC w ad len zs) (hz : ∀ i, i < len → 0 ≤ elAt zs i ∧ elAt zs i ≤ 255) (h0 : ¬ len < 4) (h : 32 < elAt zs 2) (hc : gtC zs = c) :
    Calls Try.prog 55 #[.slice ad len cap] w fun e w' => e = .returned (.int .i64 c) ∧ Below w.heap.size w w' := by
  have hlen := hr.len_eq
  have hs := hr.small
  have HR := hide hr
  clear hr
  subst hlen
  obtain ⟨ι, fW, _, hb, hall⟩ := belClass w
  have HB := hide hb
  have HA := hide hall
  clear hb hall
  obtain ⟨x0, h0'⟩ := (unhide HA) w (Below.refl _ _)
  have HC := hide ((show gtC zs = _ from by unfold gtC; rw [if_neg h0, if_pos h]).symm.trans hc)
  clear hc
  have h1 : ¬ (zs.length : Int) < 4 := by omega
  have b0 := hz 0 (by omega)
  have b2 := hz 2 (by omega)
  rcases (unhide HR).open1 with ⟨q0, _⟩ | ⟨bb, off, rfl, _, hcs⟩
  · omega
  have hat : ∀ W, (Instr.arrayAt 172 (.slice (some ⟨bb, off, none⟩) zs.length cap)).run Try.prog W = .ok (.pointer (some ⟨bb, off, none⟩)) W := fun W => run_arrayAt W 172 _ 4 _ zs.length cap Try.underlying172 (by omega)
  have m0 : ∀ x, (fW x).cell? ⟨bb, off, none⟩ = some (.int .u8 (elAt zs 0)) := fun x => ((unhide HB x).cell (block_lt_of_cell (hcs 0 (by omega)))).trans (hcs 0 (by omega))
  have m2 : ∀ x, (fW x).cell? ⟨bb, off + 2, none⟩ = some (.int .u8 (elAt zs 2)) := fun x => ((unhide HB x).cell (block_lt_of_cell (hcs 2 (by omega)))).trans (hcs 2 (by omega))
  clear hcs
  go_enter Try.func55, Try.ntmps55
  rw [h0']
  have H0 := hide h0'
  clear h0'
  go_wp2_with (fail)
  go_ret
  exact ⟨ret_int (unhide HC), (by first | (rw [← unhide H0]; exact unhide HB _) | (rw [← unhide H0]; exact Below.refl _ _))⟩

set_option maxRecDepth 20000 in
set_option maxHeartbeats 1000000 in
theorem fault_few {c : Int} (ad : Option Addr) (len cap : Nat) (zs : List Int) (w : World) (hr : RowE 1 byC w ad len zs) (hz : ∀ i, i < len → 0 ≤ elAt zs i ∧ elAt zs i ≤ 255) (h0 : ¬ len < 4) (h2 : ¬ 32 < elAt zs 2) (h : (len : Int) < elAt zs 2 + 4) (hc : gtC zs = c) :
    Calls Try.prog 55 #[.slice ad len cap] w fun e w' => e = .returned (.int .i64 c) ∧ Below w.heap.size w w' := by
  have hlen := hr.len_eq
  have hs := hr.small
  have HR := hide hr
  clear hr
  subst hlen
  obtain ⟨ι, fW, _, hb, hall⟩ := belClass w
  have HB := hide hb
  have HA := hide hall
  clear hb hall
  obtain ⟨x0, h0'⟩ := (unhide HA) w (Below.refl _ _)
  have HC := hide ((show gtC zs = _ from by unfold gtC; rw [if_neg h0, if_neg h2, if_pos h]).symm.trans hc)
  clear hc
  have h1 : ¬ (zs.length : Int) < 4 := by omega
  have b0 := hz 0 (by omega)
  have b2 := hz 2 (by omega)
  rcases (unhide HR).open1 with ⟨q0, _⟩ | ⟨bb, off, rfl, _, hcs⟩
  · omega
  have hat : ∀ W, (Instr.arrayAt 172 (.slice (some ⟨bb, off, none⟩) zs.length cap)).run Try.prog W = .ok (.pointer (some ⟨bb, off, none⟩)) W := fun W => run_arrayAt W 172 _ 4 _ zs.length cap Try.underlying172 (by omega)
  have m0 : ∀ x, (fW x).cell? ⟨bb, off, none⟩ = some (.int .u8 (elAt zs 0)) := fun x => ((unhide HB x).cell (block_lt_of_cell (hcs 0 (by omega)))).trans (hcs 0 (by omega))
  have m2 : ∀ x, (fW x).cell? ⟨bb, off + 2, none⟩ = some (.int .u8 (elAt zs 2)) := fun x => ((unhide HB x).cell (block_lt_of_cell (hcs 2 (by omega)))).trans (hcs 2 (by omega))
  have h' : (zs.length : Int) < 4 + elAt zs 2 := by omega
  clear hcs
  go_enter Try.func55, Try.ntmps55
  rw [h0']
  have H0 := hide h0'
  clear h0'
  go_wp2_with (fail)
  go_ret
  exact ⟨ret_int (unhide HC), (by first | (rw [← unhide H0]; exact unhide HB _) | (rw [← unhide H0]; exact Below.refl _ _))⟩

set_option maxRecDepth 20000 in
set_option maxHeartbeats 1000000 in
theorem fault_many {c : Int} (ad : Option Addr) (len cap : Nat) (zs : List Int) (w : World) (hr : RowE 1 byC w ad len zs) (hz : ∀ i, i < len → 0 ≤ elAt zs i ∧ elAt zs i ≤ 255) (h0 : ¬ len < 4) (h2 : ¬ 32 < elAt zs 2) (h3 : ¬ (len : Int) < elAt zs 2 + 4) (h : elAt zs 2 + 4 < (len : Int)) (hc : gtC zs = c) :
    Calls Try.prog 55 #[.slice ad len cap] w fun e w' => e = .returned (.int .i64 c) ∧ Below w.heap.size w w' := by
  have hlen := hr.len_eq
  have hs := hr.small
  have HR := hide hr
  clear hr
  subst hlen
  obtain ⟨ι, fW, _, hb, hall⟩ := belClass w
  have HB := hide hb
  have HA := hide hall
  clear hb hall
  obtain ⟨x0, h0'⟩ := (unhide HA) w (Below.refl _ _)
  have HC := hide ((show gtC zs = _ from by unfold gtC; rw [if_neg h0, if_neg h2, if_neg h3, if_pos h]).symm.trans hc)
  clear hc
  have h1 : ¬ (zs.length : Int) < 4 := by omega
  have b0 := hz 0 (by omega)
  have b2 := hz 2 (by omega)
  rcases (unhide HR).open1 with ⟨q0, _⟩ | ⟨bb, off, rfl, _, hcs⟩
  · omega
  have hat : ∀ W, (Instr.arrayAt 172 (.slice (some ⟨bb, off, none⟩) zs.length cap)).run Try.prog W = .ok (.pointer (some ⟨bb, off, none⟩)) W := fun W => run_arrayAt W 172 _ 4 _ zs.length cap Try.underlying172 (by omega)
  have m0 : ∀ x, (fW x).cell? ⟨bb, off, none⟩ = some (.int .u8 (elAt zs 0)) := fun x => ((unhide HB x).cell (block_lt_of_cell (hcs 0 (by omega)))).trans (hcs 0 (by omega))
  have m2 : ∀ x, (fW x).cell? ⟨bb, off + 2, none⟩ = some (.int .u8 (elAt zs 2)) := fun x => ((unhide HB x).cell (block_lt_of_cell (hcs 2 (by omega)))).trans (hcs 2 (by omega))
  have h3' : ¬ (zs.length : Int) < 4 + elAt zs 2 := by omega
  have h' : 4 + elAt zs 2 < (zs.length : Int) := by omega
  clear hcs
  go_enter Try.func55, Try.ntmps55
  rw [h0']
  have H0 := hide h0'
  clear h0'
  go_wp2_with (fail)
  go_ret
  exact ⟨ret_int (unhide HC), (by first | (rw [← unhide H0]; exact unhide HB _) | (rw [← unhide H0]; exact Below.refl _ _))⟩

set_option maxRecDepth 20000 in
set_option maxHeartbeats 1000000 in
theorem fault_link {c : Int} (ad : Option Addr) (len cap : Nat) (zs : List Int) (w : World) (hr : RowE 1 byC w ad len zs) (hz : ∀ i, i < len → 0 ≤ elAt zs i ∧ elAt zs i ≤ 255) (h0 : ¬ len < 4) (h2 : ¬ 32 < elAt zs 2) (h3 : ¬ (len : Int) < elAt zs 2 + 4) (h4 : ¬ elAt zs 2 + 4 < (len : Int)) (h : elAt zs 0 = 0) (hc : gtC zs = c) :
    Calls Try.prog 55 #[.slice ad len cap] w fun e w' => e = .returned (.int .i64 c) ∧ Below w.heap.size w w' := by
  have hlen := hr.len_eq
  have hs := hr.small
  have HR := hide hr
  clear hr
  subst hlen
  obtain ⟨ι, fW, _, hb, hall⟩ := belClass w
  have HB := hide hb
  have HA := hide hall
  clear hb hall
  obtain ⟨x0, h0'⟩ := (unhide HA) w (Below.refl _ _)
  have HC := hide ((show gtC zs = _ from by unfold gtC; rw [if_neg h0, if_neg h2, if_neg h3, if_neg h4, if_pos h]).symm.trans hc)
  clear hc
  have h1 : ¬ (zs.length : Int) < 4 := by omega
  have b0 := hz 0 (by omega)
  have b2 := hz 2 (by omega)
  rcases (unhide HR).open1 with ⟨q0, _⟩ | ⟨bb, off, rfl, _, hcs⟩
  · omega
  have hat : ∀ W, (Instr.arrayAt 172 (.slice (some ⟨bb, off, none⟩) zs.length cap)).run Try.prog W = .ok (.pointer (some ⟨bb, off, none⟩)) W := fun W => run_arrayAt W 172 _ 4 _ zs.length cap Try.underlying172 (by omega)
  have m0 : ∀ x, (fW x).cell? ⟨bb, off, none⟩ = some (.int .u8 (elAt zs 0)) := fun x => ((unhide HB x).cell (block_lt_of_cell (hcs 0 (by omega)))).trans (hcs 0 (by omega))
  have m2 : ∀ x, (fW x).cell? ⟨bb, off + 2, none⟩ = some (.int .u8 (elAt zs 2)) := fun x => ((unhide HB x).cell (block_lt_of_cell (hcs 2 (by omega)))).trans (hcs 2 (by omega))
  have h3' : ¬ (zs.length : Int) < 4 + elAt zs 2 := by omega
  have h4' : ¬ 4 + elAt zs 2 < (zs.length : Int) := by omega
  rw [h] at m0
  have HH := hide h
  clear h hcs
  go_enter Try.func55, Try.ntmps55
  rw [h0']
  have H0 := hide h0'
  clear h0'
  go_wp2_with (fail)
  go_ret
  exact ⟨ret_int (unhide HC), (by first | (rw [← unhide H0]; exact unhide HB _) | (rw [← unhide H0]; exact Below.refl _ _))⟩

set_option maxRecDepth 20000 in
set_option maxHeartbeats 1000000 in
theorem fault_sum {c : Int} (ad : Option Addr) (len cap : Nat) (zs : List Int) (w : World) (hr : RowE 1 byC w ad len zs) (hz : ∀ i, i < len → 0 ≤ elAt zs i ∧ elAt zs i ≤ 255) (hcap : len ≤ cap) (h0 : ¬ len < 4) (h2 : ¬ 32 < elAt zs 2) (h3 : ¬ (len : Int) < elAt zs 2 + 4) (h4 : ¬ elAt zs 2 + 4 < (len : Int)) (h5 : ¬ elAt zs 0 = 0) (h : ¬ elAt zs (len - 1) = smB (zs.take (len - 1))) (hc : gtC zs = c) :
    Calls Try.prog 55 #[.slice ad len cap] w fun e w' => e = .returned (.int .i64 c) ∧ Below w.heap.size w w' := by
  have hlen := hr.len_eq
  have hs := hr.small
  have HR := hide hr
  clear hr
  subst hlen
  obtain ⟨ι, fW, _, hb, hall⟩ := belClass w
  have HB := hide hb
  have HA := hide hall
  clear hb hall
  obtain ⟨x0, h0'⟩ := (unhide HA) w (Below.refl _ _)
  have HC := hide ((show gtC zs = _ from by unfold gtC; rw [if_neg h0, if_neg h2, if_neg h3, if_neg h4, if_neg h5, if_pos h]).symm.trans hc)
  clear hc
  have h1 : ¬ (zs.length : Int) < 4 := by omega
  have b0 := hz 0 (by omega)
  have b2 := hz 2 (by omega)
  rcases (unhide HR).open1 with ⟨q0, _⟩ | ⟨bb, off, rfl, _, hcs⟩
  · omega
  have hat : ∀ W, (Instr.arrayAt 172 (.slice (some ⟨bb, off, none⟩) zs.length cap)).run Try.prog W = .ok (.pointer (some ⟨bb, off, none⟩)) W := fun W => run_arrayAt W 172 _ 4 _ zs.length cap Try.underlying172 (by omega)
  have m0 : ∀ x, (fW x).cell? ⟨bb, off, none⟩ = some (.int .u8 (elAt zs 0)) := fun x => ((unhide HB x).cell (block_lt_of_cell (hcs 0 (by omega)))).trans (hcs 0 (by omega))
  have m2 : ∀ x, (fW x).cell? ⟨bb, off + 2, none⟩ = some (.int .u8 (elAt zs 2)) := fun x => ((unhide HB x).cell (block_lt_of_cell (hcs 2 (by omega)))).trans (hcs 2 (by omega))
  have h3' : ¬ (zs.length : Int) < 4 + elAt zs 2 := by omega
  have h4' : ¬ 4 + elAt zs 2 < (zs.length : Int) := by omega
  obtain ⟨N, hNN⟩ : ∃ N, zs.length - 1 = N := ⟨_, rfl⟩
  rw [hNN] at h
  have hN0 : (0 : Int) ≤ (N : Int) := by omega
  have hN1 : (N : Int) < (zs.length : Int) := by omega
  have hsub : (zs.length : Int) - 1 = (N : Int) := by omega
  have hNc : (N : Int) ≤ (cap : Int) := by omega
  have bN := hz N (by omega)
  obtain ⟨sm, hsm⟩ : ∃ z, smB (zs.take N) = z := ⟨_, rfl⟩
  rw [hsm] at h
  have HSM := hide hsm
  have HNN := hide hNN
  have HRT := hide (rowE_takeB (unhide HR) N (by omega))
  clear hsm hNN
  have m3 : ∀ x, (fW x).cell? ⟨bb, off + N, none⟩ = some (.int .u8 (elAt zs N)) := fun x => ((unhide HB x).cell (block_lt_of_cell (hcs N (by omega)))).trans (hcs N (by omega))
  clear hcs
  have h6 : (elAt zs 0 == 0) = false := by simpa using h5
  have h7 : (sm != elAt zs N) = true := by simpa using fun e => h e.symm
  clear h
  go_enter Try.func55, Try.ntmps55
  rw [h0']
  have H0 := hide h0'
  clear h0'
  go_wp2_with (first | (go_at_call 37; refine (belN (unhide HB) (unhide HA) (frameSum_is _ _ _ (zs.take N) _ ((unhide HRT).below (unhide HB _)) (unhide HSM))).mono ?_; rintro e _ ⟨rfl, y, rfl⟩))
  repeat (refine wp_region_bel (fun w' h => (unhide HA) w' ((unhide HB _).trans (h.mono (unhide HB _).size))) (by kernel_rfl) (by kernel_rfl) ?_; (repeat (go_big_quiet_step (first | (go_at_call 37; exact belN (unhide HB) (unhide HA) (frameSum_is _ _ _ (zs.take N) _ ((unhide HRT).below (unhide HB _)) (unhide HSM)))))); refine wpQuiet_nil ?_; rintro _ ⟨y, rfl⟩; (first | go_wp2_with (first | (go_at_call 37; refine (belN (unhide HB) (unhide HA) (frameSum_is _ _ _ (zs.take N) _ ((unhide HRT).below (unhide HB _)) (unhide HSM))).mono ?_; rintro e _ ⟨rfl, y, rfl⟩)) | go_wp2))
  go_ret
  exact ⟨ret_int (unhide HC), (by first | (rw [← unhide H0]; exact unhide HB _) | (rw [← unhide H0]; exact Below.refl _ _))⟩

set_option maxRecDepth 20000 in
set_option maxHeartbeats 1000000 in
theorem fault_well {c : Int} (ad : Option Addr) (len cap : Nat) (zs : List Int) (w : World) (hr : RowE 1 byC w ad len zs) (hz : ∀ i, i < len → 0 ≤ elAt zs i ∧ elAt zs i ≤ 255) (hcap : len ≤ cap) (h0 : ¬ len < 4) (h2 : ¬ 32 < elAt zs 2) (h3 : ¬ (len : Int) < elAt zs 2 + 4) (h4 : ¬ elAt zs 2 + 4 < (len : Int)) (h5 : ¬ elAt zs 0 = 0) (h : elAt zs (len - 1) = smB (zs.take (len - 1))) (hc : gtC zs = c) :
    Calls Try.prog 55 #[.slice ad len cap] w fun e w' => e = .returned (.int .i64 c) ∧ Below w.heap.size w w' := by
  have hlen := hr.len_eq
  have hs := hr.small
  have HR := hide hr
  clear hr
  subst hlen
  obtain ⟨ι, fW, _, hb, hall⟩ := belClass w
  have HB := hide hb
  have HA := hide hall
  clear hb hall
  obtain ⟨x0, h0'⟩ := (unhide HA) w (Below.refl _ _)
  have HC := hide ((show gtC zs = _ from by unfold gtC; rw [if_neg h0, if_neg h2, if_neg h3, if_neg h4, if_neg h5, if_neg (fun k => k h)]).symm.trans hc)
  clear hc
  have h1 : ¬ (zs.length : Int) < 4 := by omega
  have b0 := hz 0 (by omega)
  have b2 := hz 2 (by omega)
  rcases (unhide HR).open1 with ⟨q0, _⟩ | ⟨bb, off, rfl, _, hcs⟩
  · omega
  have hat : ∀ W, (Instr.arrayAt 172 (.slice (some ⟨bb, off, none⟩) zs.length cap)).run Try.prog W = .ok (.pointer (some ⟨bb, off, none⟩)) W := fun W => run_arrayAt W 172 _ 4 _ zs.length cap Try.underlying172 (by omega)
  have m0 : ∀ x, (fW x).cell? ⟨bb, off, none⟩ = some (.int .u8 (elAt zs 0)) := fun x => ((unhide HB x).cell (block_lt_of_cell (hcs 0 (by omega)))).trans (hcs 0 (by omega))
  have m2 : ∀ x, (fW x).cell? ⟨bb, off + 2, none⟩ = some (.int .u8 (elAt zs 2)) := fun x => ((unhide HB x).cell (block_lt_of_cell (hcs 2 (by omega)))).trans (hcs 2 (by omega))
  have h3' : ¬ (zs.length : Int) < 4 + elAt zs 2 := by omega
  have h4' : ¬ 4 + elAt zs 2 < (zs.length : Int) := by omega
  obtain ⟨N, hNN⟩ : ∃ N, zs.length - 1 = N := ⟨_, rfl⟩
  rw [hNN] at h
  have hN0 : (0 : Int) ≤ (N : Int) := by omega
  have hN1 : (N : Int) < (zs.length : Int) := by omega
  have hsub : (zs.length : Int) - 1 = (N : Int) := by omega
  have hNc : (N : Int) ≤ (cap : Int) := by omega
  have bN := hz N (by omega)
  obtain ⟨sm, hsm⟩ : ∃ z, smB (zs.take N) = z := ⟨_, rfl⟩
  rw [hsm] at h
  have HSM := hide hsm
  have HNN := hide hNN
  have HRT := hide (rowE_takeB (unhide HR) N (by omega))
  clear hsm hNN
  have m3 : ∀ x, (fW x).cell? ⟨bb, off + N, none⟩ = some (.int .u8 (elAt zs N)) := fun x => ((unhide HB x).cell (block_lt_of_cell (hcs N (by omega)))).trans (hcs N (by omega))
  clear hcs
  have h6 : (elAt zs 0 == 0) = false := by simpa using h5
  rw [h] at m3
  have h7 : (sm != sm) = false := by simp
  clear h
  go_enter Try.func55, Try.ntmps55
  rw [h0']
  have H0 := hide h0'
  clear h0'
  go_wp2_with (first | (go_at_call 37; refine (belN (unhide HB) (unhide HA) (frameSum_is _ _ _ (zs.take N) _ ((unhide HRT).below (unhide HB _)) (unhide HSM))).mono ?_; rintro e _ ⟨rfl, y, rfl⟩))
  repeat (refine wp_region_bel (fun w' h => (unhide HA) w' ((unhide HB _).trans (h.mono (unhide HB _).size))) (by kernel_rfl) (by kernel_rfl) ?_; (repeat (go_big_quiet_step (first | (go_at_call 37; exact belN (unhide HB) (unhide HA) (frameSum_is _ _ _ (zs.take N) _ ((unhide HRT).below (unhide HB _)) (unhide HSM)))))); refine wpQuiet_nil ?_; rintro _ ⟨y, rfl⟩; (first | go_wp2_with (first | (go_at_call 37; refine (belN (unhide HB) (unhide HA) (frameSum_is _ _ _ (zs.take N) _ ((unhide HRT).below (unhide HB _)) (unhide HSM))).mono ?_; rintro e _ ⟨rfl, y, rfl⟩)) | go_wp2))
  go_ret
  exact ⟨ret_int (unhide HC), (by first | (rw [← unhide H0]; exact unhide HB _) | (rw [← unhide H0]; exact Below.refl _ _))⟩

theorem frameFault_is {c : Int} (ad : Option Addr) (len cap : Nat) (zs : List Int) (w : World) (hr : RowE 1 byC w ad len zs) (hz : ∀ i, i < len → 0 ≤ elAt zs i ∧ elAt zs i ≤ 255) (hcap : len ≤ cap) (hc : gtC zs = c) : Calls Try.prog 55 #[.slice ad len cap] w fun e w' => e = .returned (.int .i64 c) ∧ Below w.heap.size w w' := by
  by_cases h0 : len < 4
  · exact fault_short ad len cap zs w hr h0 hc
  by_cases h2 : 32 < elAt zs 2
  · exact fault_long ad len cap zs w hr hz h0 h2 hc
  by_cases h3 : (len : Int) < elAt zs 2 + 4
  · exact fault_few ad len cap zs w hr hz h0 h2 h3 hc
  by_cases h4 : elAt zs 2 + 4 < (len : Int)
  · exact fault_many ad len cap zs w hr hz h0 h2 h3 h4 hc
  by_cases h5 : elAt zs 0 = 0
  · exact fault_link ad len cap zs w hr hz h0 h2 h3 h4 h5 hc
  by_cases h6 : elAt zs (len - 1) = smB (zs.take (len - 1))
  · exact fault_well ad len cap zs w hr hz hcap h0 h2 h3 h4 h5 h6 hc
  · exact fault_sum ad len cap zs w hr hz hcap h0 h2 h3 h4 h5 h6 hc

end Go.Proofs.Yticdccdkjepifaa
