/-
  The next change that the program's reader tells: its value, in how many bytes it stands, a code. Nothing is written.
-/
import Derived.Test.YthdnokilfmbgobdUnSz
import Derived.Test.YthdnokilfmbgobdPkPut
namespace Go.Proofs.Ythdnokilfmbgobd
open Go Go.RowKit

set_option maxRecDepth 20000 in
set_option maxHeartbeats 4000000 in
theorem nextChange_short (U bb bo n bc t : Nat) (bs : List Int) (w : World) (h : Un w U bb bo n bc t bs) (ht : t = n) :
    Calls Try.prog 41 #[.pointer (some ⟨U, 0, none⟩)] w fun e w' => e = .returned (.tuple #[.int .i64 0, .int .i64 0, .int .i64 1]) ∧ Below w.heap.size w w' := by
  obtain ⟨ι, fW, _, hcb, hcl⟩ := belClass w
  have HB := hide hcb
  have HA := hide hcl
  have c0 : ∀ x, (fW x).cell? ⟨U, 0, none⟩ = some (.slice (some ⟨bb, bo, none⟩) n bc) := fun x => (h.k.below (hcb x)).c 0 (by simp)
  have c1 : ∀ x, (fW x).cell? ⟨U, 1, none⟩ = some (.int .i64 (t : Int)) := fun x => (h.k.below (hcb x)).c 1 (by simp)
  have f1 : ∀ x, (fW x).frozen? ⟨U, 1, none⟩ = false := fun x => (h.k.below (hcb x)).f 1 (by simp)
  have HUN : Hid (∀ x, Un (fW x) U bb bo n bc t bs) := hide (fun x => h.below (hcb x))
  have hsm := h.sm
  have hcap := h.cap
  have hle := h.le
  have HH := hide h
  obtain ⟨y0, hy0⟩ := hcl w (Below.refl _ _)
  have HY0 := hide hy0
  have i0 : (0 : Int) ≤ (t : Int) := by omega
  have i1 : (t : Int) ≤ (n : Int) := by omega
  have i2 : (n : Int) ≤ (bc : Int) := by omega
  have m0 : n - t = 0 := by omega
  clear h hcb hcl hy0 ht
  by_cases hbt : bc = t
  · go_enter Try.func41, Try.ntmps41
    go_wp2_with fail
    rw [unhide HY0]
    repeat (refine wp_region_bel (fun w' h => (unhide HA) w' ((unhide HB _).trans (h.mono (unhide HB _).size))) (by kernel_rfl) (by kernel_rfl) ?_; (repeat (go_big_quiet_step (fail))); refine wpQuiet_nil ?_; rintro _ ⟨y, rfl⟩; (first | go_wp2_with fail | go_wp2))
    refine bodyPost_ret (v := .tuple #[.int .i64 0, .int .i64 0, .int .i64 1]) (by simp [results, Try.results41, go_sem]) rfl ?_
    exact ⟨rfl, unhide HB _⟩
  · go_enter Try.func41, Try.ntmps41
    go_wp2_with fail
    rw [unhide HY0]
    repeat (refine wp_region_bel (fun w' h => (unhide HA) w' ((unhide HB _).trans (h.mono (unhide HB _).size))) (by kernel_rfl) (by kernel_rfl) ?_; (repeat (go_big_quiet_step (fail))); refine wpQuiet_nil ?_; rintro _ ⟨y, rfl⟩; (first | go_wp2_with fail | go_wp2))
    refine bodyPost_ret (v := .tuple #[.int .i64 0, .int .i64 0, .int .i64 1]) (by simp [results, Try.results41, go_sem]) rfl ?_
    exact ⟨rfl, unhide HB _⟩
set_option maxRecDepth 20000 in
set_option maxHeartbeats 4000000 in
theorem nextChange_small (U bb bo n bc t : Nat) (bs : List Int) (w : World) (h : Un w U bb bo n bc t bs) (ht : t < n) (hs : sbB bs t = true) :
    Calls Try.prog 41 #[.pointer (some ⟨U, 0, none⟩)] w fun e w' => e = .returned (.tuple #[.int .i64 (elAt bs t - 100), .int .i64 1, .int .i64 0]) ∧ Below w.heap.size w w' := by
  obtain ⟨ι, fW, _, hcb, hcl⟩ := belClass w
  have HB := hide hcb
  have HA := hide hcl
  have c0 : ∀ x, (fW x).cell? ⟨U, 0, none⟩ = some (.slice (some ⟨bb, bo, none⟩) n bc) := fun x => (h.k.below (hcb x)).c 0 (by simp)
  have c1 : ∀ x, (fW x).cell? ⟨U, 1, none⟩ = some (.int .i64 (t : Int)) := fun x => (h.k.below (hcb x)).c 1 (by simp)
  have f1 : ∀ x, (fW x).frozen? ⟨U, 1, none⟩ = false := fun x => (h.k.below (hcb x)).f 1 (by simp)
  have HUN : Hid (∀ x, Un (fW x) U bb bo n bc t bs) := hide (fun x => h.below (hcb x))
  have hsm := h.sm
  have hcap := h.cap
  have hle := h.le
  have HH := hide h
  obtain ⟨y0, hy0⟩ := hcl w (Below.refl _ _)
  have HY0 := hide hy0
  obtain ⟨m, hm⟩ : ∃ m, n - t = m := ⟨_, rfl⟩
  have hbt : ¬ bc = t := by omega
  have hm1 : ¬ (m : Int) < 1 := by omega
  have hm2 : (0 : Int) < (m : Int) := by omega
  have i0 : (0 : Int) ≤ (t : Int) := by omega
  have i1 : (t : Int) ≤ (n : Int) := by omega
  have i2 : (n : Int) ≤ (bc : Int) := by omega
  have hb0 : ∀ x, (fW x).cell? ⟨bb, bo + t, none⟩ = some (.int .u8 (elAt bs t)) := fun x => ((unhide HUN) x).cell ht
  have hby0 := h.byt t ht
  obtain ⟨v, hv⟩ : ∃ v, v = elAt bs t := ⟨_, rfl⟩
  have HSB : Hid (sbB bs t = inB (v - 100) (-100) 100) := hide (by rw [hv]; rfl)
  rw [← hv] at hb0 hby0
  have hs2 := (unhide HSB).symm.trans hs
  clear hs
  have HV := hide hv
  clear h hcb hcl hy0 hv
  go_enter Try.func41, Try.ntmps41
  go_wp2_with fail
  rw [unhide HY0]
  repeat (refine wp_region_bel (fun w' h => (unhide HA) w' ((unhide HB _).trans (h.mono (unhide HB _).size))) (by kernel_rfl) (by kernel_rfl) ?_; (repeat (go_big_quiet_step (fail))); refine wpQuiet_nil ?_; rintro _ ⟨y, rfl⟩; (first | go_wp2_with fail | go_wp2))
  refine (isSmall_is _ _ hs2).mono ?_
  rintro e w9 ⟨rfl, hw9⟩
  subst w9
  go_wp2_with fail
  refine bodyPost_ret (v := .tuple #[.int .i64 (v - 100), .int .i64 1, .int .i64 0]) (by simp [results, Try.results41, go_sem]) rfl ?_
  exact ⟨by rw [← unhide HV], unhide HB _⟩
set_option maxRecDepth 20000 in
set_option maxHeartbeats 4000000 in
theorem nextChange_byte (U bb bo n bc t : Nat) (bs : List Int) (w : World) (h : Un w U bb bo n bc t bs) (ht : t < n) (hs : sbB bs t = false) (hb : elAt bs t ≠ 255) :
    Calls Try.prog 41 #[.pointer (some ⟨U, 0, none⟩)] w fun e w' => e = .returned (.tuple #[.int .i64 0, .int .i64 0, .int .i64 2]) ∧ Below w.heap.size w w' := by
  obtain ⟨ι, fW, _, hcb, hcl⟩ := belClass w
  have HB := hide hcb
  have HA := hide hcl
  have c0 : ∀ x, (fW x).cell? ⟨U, 0, none⟩ = some (.slice (some ⟨bb, bo, none⟩) n bc) := fun x => (h.k.below (hcb x)).c 0 (by simp)
  have c1 : ∀ x, (fW x).cell? ⟨U, 1, none⟩ = some (.int .i64 (t : Int)) := fun x => (h.k.below (hcb x)).c 1 (by simp)
  have f1 : ∀ x, (fW x).frozen? ⟨U, 1, none⟩ = false := fun x => (h.k.below (hcb x)).f 1 (by simp)
  have HUN : Hid (∀ x, Un (fW x) U bb bo n bc t bs) := hide (fun x => h.below (hcb x))
  have hsm := h.sm
  have hcap := h.cap
  have hle := h.le
  have HH := hide h
  obtain ⟨y0, hy0⟩ := hcl w (Below.refl _ _)
  have HY0 := hide hy0
  obtain ⟨m, hm⟩ : ∃ m, n - t = m := ⟨_, rfl⟩
  have hbt : ¬ bc = t := by omega
  have hm1 : ¬ (m : Int) < 1 := by omega
  have hm2 : (0 : Int) < (m : Int) := by omega
  have i0 : (0 : Int) ≤ (t : Int) := by omega
  have i1 : (t : Int) ≤ (n : Int) := by omega
  have i2 : (n : Int) ≤ (bc : Int) := by omega
  have hb0 : ∀ x, (fW x).cell? ⟨bb, bo + t, none⟩ = some (.int .u8 (elAt bs t)) := fun x => ((unhide HUN) x).cell ht
  have hby0 := h.byt t ht
  obtain ⟨v, hv⟩ : ∃ v, v = elAt bs t := ⟨_, rfl⟩
  have HSB : Hid (sbB bs t = inB (v - 100) (-100) 100) := hide (by rw [hv]; rfl)
  rw [← hv] at hb0 hby0 hb
  have d255 : (v != 255) = true := by simpa using hb
  clear hb
  have hs2 := (unhide HSB).symm.trans hs
  clear hs
  have HV := hide hv
  clear h hcb hcl hy0 hv
  go_enter Try.func41, Try.ntmps41
  go_wp2_with fail
  rw [unhide HY0]
  repeat (refine wp_region_bel (fun w' h => (unhide HA) w' ((unhide HB _).trans (h.mono (unhide HB _).size))) (by kernel_rfl) (by kernel_rfl) ?_; (repeat (go_big_quiet_step (fail))); refine wpQuiet_nil ?_; rintro _ ⟨y, rfl⟩; (first | go_wp2_with fail | go_wp2))
  refine (isSmall_is _ _ hs2).mono ?_
  rintro e w9 ⟨rfl, hw9⟩
  subst w9
  go_wp2_with fail
  refine bodyPost_ret (v := .tuple #[.int .i64 0, .int .i64 0, .int .i64 2]) (by simp [results, Try.results41, go_sem]) rfl ?_
  exact ⟨rfl, unhide HB _⟩
set_option maxRecDepth 20000 in
set_option maxHeartbeats 4000000 in
theorem nextChange_short4 (U bb bo n bc t : Nat) (bs : List Int) (w : World) (h : Un w U bb bo n bc t bs) (ht : t < n) (hs : sbB bs t = false) (hb : elAt bs t = 255) (h4n : n < t + 4) :
    Calls Try.prog 41 #[.pointer (some ⟨U, 0, none⟩)] w fun e w' => e = .returned (.tuple #[.int .i64 0, .int .i64 0, .int .i64 1]) ∧ Below w.heap.size w w' := by
  obtain ⟨ι, fW, _, hcb, hcl⟩ := belClass w
  have HB := hide hcb
  have HA := hide hcl
  have c0 : ∀ x, (fW x).cell? ⟨U, 0, none⟩ = some (.slice (some ⟨bb, bo, none⟩) n bc) := fun x => (h.k.below (hcb x)).c 0 (by simp)
  have c1 : ∀ x, (fW x).cell? ⟨U, 1, none⟩ = some (.int .i64 (t : Int)) := fun x => (h.k.below (hcb x)).c 1 (by simp)
  have f1 : ∀ x, (fW x).frozen? ⟨U, 1, none⟩ = false := fun x => (h.k.below (hcb x)).f 1 (by simp)
  have HUN : Hid (∀ x, Un (fW x) U bb bo n bc t bs) := hide (fun x => h.below (hcb x))
  have hsm := h.sm
  have hcap := h.cap
  have hle := h.le
  have HH := hide h
  obtain ⟨y0, hy0⟩ := hcl w (Below.refl _ _)
  have HY0 := hide hy0
  obtain ⟨m, hm⟩ : ∃ m, n - t = m := ⟨_, rfl⟩
  have hbt : ¬ bc = t := by omega
  have hm1 : ¬ (m : Int) < 1 := by omega
  have hm2 : (0 : Int) < (m : Int) := by omega
  have i0 : (0 : Int) ≤ (t : Int) := by omega
  have i1 : (t : Int) ≤ (n : Int) := by omega
  have i2 : (n : Int) ≤ (bc : Int) := by omega
  have hb0 : ∀ x, (fW x).cell? ⟨bb, bo + t, none⟩ = some (.int .u8 (elAt bs t)) := fun x => ((unhide HUN) x).cell ht
  have hby0 := h.byt t ht
  obtain ⟨v, hv⟩ : ∃ v, v = elAt bs t := ⟨_, rfl⟩
  have HSB : Hid (sbB bs t = inB (v - 100) (-100) 100) := hide (by rw [hv]; rfl)
  rw [← hv] at hb0 hby0 hb
  have d255 : (v != 255) = false := by rw [hb]; rfl
  have HB255 := hide hb
  clear hb
  have h4 : (m : Int) < 4 := by omega
  have hs2 := (unhide HSB).symm.trans hs
  clear hs
  have HV := hide hv
  clear h hcb hcl hy0 hv
  go_enter Try.func41, Try.ntmps41
  go_wp2_with fail
  rw [unhide HY0]
  repeat (refine wp_region_bel (fun w' h => (unhide HA) w' ((unhide HB _).trans (h.mono (unhide HB _).size))) (by kernel_rfl) (by kernel_rfl) ?_; (repeat (go_big_quiet_step (fail))); refine wpQuiet_nil ?_; rintro _ ⟨y, rfl⟩; (first | go_wp2_with fail | go_wp2))
  refine (isSmall_is _ _ hs2).mono ?_
  rintro e w9 ⟨rfl, hw9⟩
  subst w9
  go_wp2_with fail
  refine bodyPost_ret (v := .tuple #[.int .i64 0, .int .i64 0, .int .i64 1]) (by simp [results, Try.results41, go_sem]) rfl ?_
  exact ⟨rfl, unhide HB _⟩
set_option maxRecDepth 20000 in
set_option maxHeartbeats 4000000 in
theorem nextChange_bad (U bb bo n bc t : Nat) (bs : List Int) (w : World) (h : Un w U bb bo n bc t bs) (ht : t < n) (hs : sbB bs t = false) (hb : elAt bs t = 255) (h4n : t + 4 ≤ n) (hl : ch4B bs t = false) :
    Calls Try.prog 41 #[.pointer (some ⟨U, 0, none⟩)] w fun e w' => e = .returned (.tuple #[.int .i64 0, .int .i64 0, .int .i64 2]) ∧ Below w.heap.size w w' := by
  obtain ⟨ι, fW, _, hcb, hcl⟩ := belClass w
  have HB := hide hcb
  have HA := hide hcl
  have c0 : ∀ x, (fW x).cell? ⟨U, 0, none⟩ = some (.slice (some ⟨bb, bo, none⟩) n bc) := fun x => (h.k.below (hcb x)).c 0 (by simp)
  have c1 : ∀ x, (fW x).cell? ⟨U, 1, none⟩ = some (.int .i64 (t : Int)) := fun x => (h.k.below (hcb x)).c 1 (by simp)
  have f1 : ∀ x, (fW x).frozen? ⟨U, 1, none⟩ = false := fun x => (h.k.below (hcb x)).f 1 (by simp)
  have HUN : Hid (∀ x, Un (fW x) U bb bo n bc t bs) := hide (fun x => h.below (hcb x))
  have hsm := h.sm
  have hcap := h.cap
  have hle := h.le
  have HH := hide h
  obtain ⟨y0, hy0⟩ := hcl w (Below.refl _ _)
  have HY0 := hide hy0
  obtain ⟨m, hm⟩ : ∃ m, n - t = m := ⟨_, rfl⟩
  have hbt : ¬ bc = t := by omega
  have hm1 : ¬ (m : Int) < 1 := by omega
  have hm2 : (0 : Int) < (m : Int) := by omega
  have i0 : (0 : Int) ≤ (t : Int) := by omega
  have i1 : (t : Int) ≤ (n : Int) := by omega
  have i2 : (n : Int) ≤ (bc : Int) := by omega
  have hb0 : ∀ x, (fW x).cell? ⟨bb, bo + t, none⟩ = some (.int .u8 (elAt bs t)) := fun x => ((unhide HUN) x).cell ht
  have hby0 := h.byt t ht
  obtain ⟨v, hv⟩ : ∃ v, v = elAt bs t := ⟨_, rfl⟩
  have HSB : Hid (sbB bs t = inB (v - 100) (-100) 100) := hide (by rw [hv]; rfl)
  rw [← hv] at hb0 hby0 hb
  have d255 : (v != 255) = false := by rw [hb]; rfl
  have HB255 := hide hb
  clear hb
  have h4 : ¬ (m : Int) < 4 := by omega
  have h41 : (1 : Int) < (m : Int) := by omega
  have h42 : (2 : Int) < (m : Int) := by omega
  have h43 : (3 : Int) < (m : Int) := by omega
  have hb1 : ∀ x, (fW x).cell? ⟨bb, bo + t + 1, none⟩ = some (.int .u8 (elAt bs (t + 1))) := fun x => by have := ((unhide HUN) x).cell (i := t + 1) (by omega); rw [← Nat.add_assoc] at this; exact this
  have hby1 := h.byt (t + 1) (by omega)
  obtain ⟨v1, hv1⟩ : ∃ v1, v1 = elAt bs (t + 1) := ⟨_, rfl⟩
  rw [← hv1] at hb1 hby1
  have hb2 : ∀ x, (fW x).cell? ⟨bb, bo + t + 2, none⟩ = some (.int .u8 (elAt bs (t + 2))) := fun x => by have := ((unhide HUN) x).cell (i := t + 2) (by omega); rw [← Nat.add_assoc] at this; exact this
  have hby2 := h.byt (t + 2) (by omega)
  obtain ⟨v2, hv2⟩ : ∃ v2, v2 = elAt bs (t + 2) := ⟨_, rfl⟩
  rw [← hv2] at hb2 hby2
  have hb3 : ∀ x, (fW x).cell? ⟨bb, bo + t + 3, none⟩ = some (.int .u8 (elAt bs (t + 3))) := fun x => by have := ((unhide HUN) x).cell (i := t + 3) (by omega); rw [← Nat.add_assoc] at this; exact this
  have hby3 := h.byt (t + 3) (by omega)
  obtain ⟨v3, hv3⟩ : ∃ v3, v3 = elAt bs (t + 3) := ⟨_, rfl⟩
  rw [← hv3] at hb3 hby3
  have HLG : Hid (lgV bs t = v1 * 65536 + v2 * 256 + v3 - 60000) := hide (by rw [hv1, hv2, hv3]; rfl)
  have HB4 : Hid (ch4B bs t = (!inB (v1 * 65536 + v2 * 256 + v3 - 60000) (-100) 100 && inB (v1 * 65536 + v2 * 256 + v3 - 60000) (-60000) 60000)) := hide (by unfold ch4B; rw [unhide HLG])
  clear hv1 hv2 hv3
  have hs2 := (unhide HSB).symm.trans hs
  clear hs
  have HV := hide hv
  clear h hcb hcl hy0 hv
  obtain ⟨lg, hlg⟩ : ∃ lg, lg = v1 * 65536 + v2 * 256 + v3 - 60000 := ⟨_, rfl⟩
  rw [← hlg] at HLG HB4
  have HLGE := hide hlg
  clear hlg
  go_enter Try.func41, Try.ntmps41
  go_wp2_with fail
  rw [unhide HY0]
  repeat (refine wp_region_bel (fun w' h => (unhide HA) w' ((unhide HB _).trans (h.mono (unhide HB _).size))) (by kernel_rfl) (by kernel_rfl) ?_; (repeat (go_big_quiet_step (fail))); refine wpQuiet_nil ?_; rintro _ ⟨y, rfl⟩; (first | go_wp2_with fail | go_wp2))
  refine (isSmall_is _ _ hs2).mono ?_
  rintro e w9 ⟨rfl, hw9⟩
  subst w9
  go_wp2_with fail
  repeat (refine wp_region_bel (fun w' h => (unhide HA) w' ((unhide HB _).trans (h.mono (unhide HB _).size))) (by kernel_rfl) (by kernel_rfl) ?_; (repeat (go_big_quiet_step (fail))); refine wpQuiet_nil ?_; rintro _ ⟨y, rfl⟩; (first | go_wp2_with fail | go_wp2))
  rw [show v1 * 65536 + v2 * 256 + v3 - 60000 = lg from (unhide HLGE).symm]
  cases g1 : inB lg (-100) 100
  · have g2 : inB lg (-60000) 60000 = false := by have := (unhide HB4).symm.trans hl; rw [g1] at this; simpa using this
    refine (isSmall_is _ _ g1).mono ?_
    rintro e w9 ⟨rfl, hw9⟩
    subst w9
    go_wp2_with fail
    refine (within_is _ _ _ _ g2).mono ?_
    rintro e w9 ⟨rfl, hw9⟩
    subst w9
    go_wp2_with fail
    refine bodyPost_ret (v := .tuple #[.int .i64 0, .int .i64 0, .int .i64 2]) (by simp [results, Try.results41, go_sem]) rfl ?_
    exact ⟨rfl, unhide HB _⟩
  · refine (isSmall_is _ _ g1).mono ?_
    rintro e w9 ⟨rfl, hw9⟩
    subst w9
    go_wp2_with fail
    refine bodyPost_ret (v := .tuple #[.int .i64 0, .int .i64 0, .int .i64 2]) (by simp [results, Try.results41, go_sem]) rfl ?_
    exact ⟨rfl, unhide HB _⟩
set_option maxRecDepth 20000 in
set_option maxHeartbeats 4000000 in
theorem nextChange_long (U bb bo n bc t : Nat) (bs : List Int) (w : World) (h : Un w U bb bo n bc t bs) (ht : t < n) (hs : sbB bs t = false) (hb : elAt bs t = 255) (h4n : t + 4 ≤ n) (hl : ch4B bs t = true) :
    Calls Try.prog 41 #[.pointer (some ⟨U, 0, none⟩)] w fun e w' => e = .returned (.tuple #[.int .i64 (lgV bs t), .int .i64 4, .int .i64 0]) ∧ Below w.heap.size w w' := by
  obtain ⟨ι, fW, _, hcb, hcl⟩ := belClass w
  have HB := hide hcb
  have HA := hide hcl
  have c0 : ∀ x, (fW x).cell? ⟨U, 0, none⟩ = some (.slice (some ⟨bb, bo, none⟩) n bc) := fun x => (h.k.below (hcb x)).c 0 (by simp)
  have c1 : ∀ x, (fW x).cell? ⟨U, 1, none⟩ = some (.int .i64 (t : Int)) := fun x => (h.k.below (hcb x)).c 1 (by simp)
  have f1 : ∀ x, (fW x).frozen? ⟨U, 1, none⟩ = false := fun x => (h.k.below (hcb x)).f 1 (by simp)
  have HUN : Hid (∀ x, Un (fW x) U bb bo n bc t bs) := hide (fun x => h.below (hcb x))
  have hsm := h.sm
  have hcap := h.cap
  have hle := h.le
  have HH := hide h
  obtain ⟨y0, hy0⟩ := hcl w (Below.refl _ _)
  have HY0 := hide hy0
  obtain ⟨m, hm⟩ : ∃ m, n - t = m := ⟨_, rfl⟩
  have hbt : ¬ bc = t := by omega
  have hm1 : ¬ (m : Int) < 1 := by omega
  have hm2 : (0 : Int) < (m : Int) := by omega
  have i0 : (0 : Int) ≤ (t : Int) := by omega
  have i1 : (t : Int) ≤ (n : Int) := by omega
  have i2 : (n : Int) ≤ (bc : Int) := by omega
  have hb0 : ∀ x, (fW x).cell? ⟨bb, bo + t, none⟩ = some (.int .u8 (elAt bs t)) := fun x => ((unhide HUN) x).cell ht
  have hby0 := h.byt t ht
  obtain ⟨v, hv⟩ : ∃ v, v = elAt bs t := ⟨_, rfl⟩
  have HSB : Hid (sbB bs t = inB (v - 100) (-100) 100) := hide (by rw [hv]; rfl)
  rw [← hv] at hb0 hby0 hb
  have d255 : (v != 255) = false := by rw [hb]; rfl
  have HB255 := hide hb
  clear hb
  have h4 : ¬ (m : Int) < 4 := by omega
  have h41 : (1 : Int) < (m : Int) := by omega
  have h42 : (2 : Int) < (m : Int) := by omega
  have h43 : (3 : Int) < (m : Int) := by omega
  have hb1 : ∀ x, (fW x).cell? ⟨bb, bo + t + 1, none⟩ = some (.int .u8 (elAt bs (t + 1))) := fun x => by have := ((unhide HUN) x).cell (i := t + 1) (by omega); rw [← Nat.add_assoc] at this; exact this
  have hby1 := h.byt (t + 1) (by omega)
  obtain ⟨v1, hv1⟩ : ∃ v1, v1 = elAt bs (t + 1) := ⟨_, rfl⟩
  rw [← hv1] at hb1 hby1
  have hb2 : ∀ x, (fW x).cell? ⟨bb, bo + t + 2, none⟩ = some (.int .u8 (elAt bs (t + 2))) := fun x => by have := ((unhide HUN) x).cell (i := t + 2) (by omega); rw [← Nat.add_assoc] at this; exact this
  have hby2 := h.byt (t + 2) (by omega)
  obtain ⟨v2, hv2⟩ : ∃ v2, v2 = elAt bs (t + 2) := ⟨_, rfl⟩
  rw [← hv2] at hb2 hby2
  have hb3 : ∀ x, (fW x).cell? ⟨bb, bo + t + 3, none⟩ = some (.int .u8 (elAt bs (t + 3))) := fun x => by have := ((unhide HUN) x).cell (i := t + 3) (by omega); rw [← Nat.add_assoc] at this; exact this
  have hby3 := h.byt (t + 3) (by omega)
  obtain ⟨v3, hv3⟩ : ∃ v3, v3 = elAt bs (t + 3) := ⟨_, rfl⟩
  rw [← hv3] at hb3 hby3
  have HLG : Hid (lgV bs t = v1 * 65536 + v2 * 256 + v3 - 60000) := hide (by rw [hv1, hv2, hv3]; rfl)
  have HB4 : Hid (ch4B bs t = (!inB (v1 * 65536 + v2 * 256 + v3 - 60000) (-100) 100 && inB (v1 * 65536 + v2 * 256 + v3 - 60000) (-60000) 60000)) := hide (by unfold ch4B; rw [unhide HLG])
  clear hv1 hv2 hv3
  have hs2 := (unhide HSB).symm.trans hs
  clear hs
  have HV := hide hv
  clear h hcb hcl hy0 hv
  obtain ⟨lg, hlg⟩ : ∃ lg, lg = v1 * 65536 + v2 * 256 + v3 - 60000 := ⟨_, rfl⟩
  rw [← hlg] at HLG HB4
  have HLGE := hide hlg
  clear hlg
  go_enter Try.func41, Try.ntmps41
  go_wp2_with fail
  rw [unhide HY0]
  repeat (refine wp_region_bel (fun w' h => (unhide HA) w' ((unhide HB _).trans (h.mono (unhide HB _).size))) (by kernel_rfl) (by kernel_rfl) ?_; (repeat (go_big_quiet_step (fail))); refine wpQuiet_nil ?_; rintro _ ⟨y, rfl⟩; (first | go_wp2_with fail | go_wp2))
  refine (isSmall_is _ _ hs2).mono ?_
  rintro e w9 ⟨rfl, hw9⟩
  subst w9
  go_wp2_with fail
  repeat (refine wp_region_bel (fun w' h => (unhide HA) w' ((unhide HB _).trans (h.mono (unhide HB _).size))) (by kernel_rfl) (by kernel_rfl) ?_; (repeat (go_big_quiet_step (fail))); refine wpQuiet_nil ?_; rintro _ ⟨y, rfl⟩; (first | go_wp2_with fail | go_wp2))
  rw [show v1 * 65536 + v2 * 256 + v3 - 60000 = lg from (unhide HLGE).symm]
  have g0 := (unhide HB4).symm.trans hl
  rw [Bool.and_eq_true] at g0
  have g1 : inB lg (-100) 100 = false := by simpa using g0.1
  have g2 := g0.2
  clear g0
  refine (isSmall_is _ _ g1).mono ?_
  rintro e w9 ⟨rfl, hw9⟩
  subst w9
  go_wp2_with fail
  refine (within_is _ _ _ _ g2).mono ?_
  rintro e w9 ⟨rfl, hw9⟩
  subst w9
  go_wp2_with fail
  refine bodyPost_ret (v := .tuple #[.int .i64 lg, .int .i64 4, .int .i64 0]) (by simp [results, Try.results41, go_sem]) rfl ?_
  exact ⟨by rw [unhide HLG], unhide HB _⟩
/-- All of them: what the plain functions say. -/
theorem nextChange_any (U bb bo n bc t : Nat) (bs : List Int) (w : World) (h : Un w U bb bo n bc t bs) :
    Calls Try.prog 41 #[.pointer (some ⟨U, 0, none⟩)] w fun e w' => e = .returned (.tuple #[.int .i64 (if nxC bs t = 0 then nxV bs t else 0), .int .i64 ((if nxC bs t = 0 then nxS bs t else 0 : Nat) : Int), .int .i64 (nxC bs t : Int)]) ∧ Below w.heap.size w w' := by
  have hl := h.r.len_eq
  have hle := h.le
  by_cases ht : t = n
  · rw [nx_short (by omega)]; exact nextChange_short U bb bo n bc t bs w h ht
  · cases hs : sbB bs t
    · by_cases hb : elAt bs t = 255
      · by_cases h4 : t + 4 ≤ n
        · cases hg : ch4B bs t
          · rw [nx_bad hs hb (by omega) hg]; exact nextChange_bad U bb bo n bc t bs w h (by omega) hs hb h4 hg
          · have k := nx_long hs hb (by omega) hg
            rw [k.1, k.2.1, k.2.2]; exact nextChange_long U bb bo n bc t bs w h (by omega) hs hb h4 hg
        · rw [nx_short4 (by omega) hs hb (by omega)]; exact nextChange_short4 U bb bo n bc t bs w h (by omega) hs hb (by omega)
      · rw [nx_byte (by omega) hs hb]; exact nextChange_byte U bb bo n bc t bs w h (by omega) hs hb
    · have k := nx_small (bs := bs) (t := t) (by omega) hs
      rw [k.1, k.2.1, k.2.2]; exact nextChange_small U bb bo n bc t bs w h (by omega) hs

end Go.Proofs.Ythdnokilfmbgobd
