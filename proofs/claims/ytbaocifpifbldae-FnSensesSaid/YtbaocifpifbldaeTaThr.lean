/-
  What threats and advice are in the program: plain answers, at every argument; nothing that was there is written.
-/
import Derived.Test.YtbaocifpifbldaeTaImpl
import Derived.Test.YtbaocifpifbldaeTaBel
namespace Go.Proofs.Ytbaocifpifbldae
open Go.RowKit

set_option maxRecDepth 20000 in
set_option maxHeartbeats 3000000 in
theorem threatenedBy_is {b : Bool} (oi oh oc os ti th tc tf tk ts near wi : Int) (w : World) (hc : thB oi oh oc os ti th tc tf tk ts near wi = b) :
    Calls Try.prog 81 #[.agg #[.int .i64 oi, .int .i64 oh, .int .i64 oc, .int .i64 os, .int .i64 near, .int .i64 wi], .agg #[.int .i64 ti, .int .i64 th, .int .i64 tc, .int .i64 ts, .int .i64 tf, .int .i64 tk]] w fun e w' => e = .returned (.bool b) ∧ Below w.heap.size w w' := by
  obtain ⟨n, hn⟩ : ∃ n, tiN ti th tc tf tk ts = n := ⟨_, rfl⟩
  obtain ⟨tb, hb⟩ : ∃ b, tiB ti th tc tf tk ts = b := ⟨_, rfl⟩
  have nb := tiN_bd ti th tc tf tk ts
  rw [hn] at nb
  rw [thB_four, hn, hb] at hc
  have HV := hide hc.symm
  have HN := hide hn
  have HT := hide hb
  clear hn hb hc
  go_enter Try.func81, Try.ntmps81
  go_wp2_with fail
  obtain ⟨W, hW⟩ : ∃ W, W = ((w.alloc (Obj.cells #[.int .i64 oi, .int .i64 oh, .int .i64 oc, .int .i64 os, .int .i64 near, .int .i64 wi] 145)).alloc (Obj.cells #[.int .i64 ti, .int .i64 th, .int .i64 tc, .int .i64 ts, .int .i64 tf, .int .i64 tk] 149)) := ⟨_, rfl⟩
  rw [← hW]
  have K0 : Hid (Blk W (w.heap.size) [.int .i64 oi, .int .i64 oh, .int .i64 oc, .int .i64 os, .int .i64 near, .int .i64 wi]) := hide (by rw [hW]; exact blkAt2_0)
  have K1 : Hid (Blk W (w.heap.size + 1) [.int .i64 ti, .int .i64 th, .int .i64 tc, .int .i64 ts, .int .i64 tf, .int .i64 tk]) := hide (by rw [hW]; exact blkAt2_1)
  have B0 : Hid (Below w.heap.size w W) := hide (by rw [hW]; exact (by repeat (first | exact Below.refl _ _ | refine Below.alloc ?_ (by simp; try omega) _ | refine Below.setCell ?_ (by simp; try omega) _ | refine taDr ?_ _)))
  clear hW
  refine (ticks_al _ _ _ _ _ _ _ (unhide HN) (unhide HT)).mono ?_
  rintro e w1 ⟨rfl, hw⟩
  have b1 : Below W.heap.size W w1 := by rw [hw]; exact (by repeat (first | exact Below.refl _ _ | refine Below.alloc ?_ (by simp; try omega) _ | refine Below.setCell ?_ (by simp; try omega) _ | refine taDr ?_ _))
  clear hw
  have B0 := hide ((unhide B0).trans (b1.mono (unhide B0).size))
  have K0 := hide ((unhide K0).below b1)
  have K1 := hide ((unhide K1).below b1)
  clear b1
  go_wp2_with fail
  rcases four tb (avB oi oh oc os && inB near 0 10000 && inB wi 1 300) (!(oi == ti)) (decide (n ≤ wi)) with ⟨q1, hv⟩ | ⟨q1, q2, hv⟩ | ⟨q1, q2, q3, hv⟩ | ⟨q1, q2, q3, q4, hv⟩ | ⟨q1, q2, q3, q4, hv⟩
  · have HE := hide ((unhide HV).trans (by rw [hv, Bool.false_and]))
    clear hv
    subst q1
    obtain ⟨ι, fW, _, hb, hall⟩ := belClass w1
    have HB := hide hb
    have HA := hide hall
    have c00 : ∀ x, (fW x).cell? ⟨w.heap.size, 0, none⟩ = some (.int .i64 oi) := fun x => ((unhide K0).below (hb x)).c 0 (by simp)
    have c01 : ∀ x, (fW x).cell? ⟨w.heap.size, 1, none⟩ = some (.int .i64 oh) := fun x => ((unhide K0).below (hb x)).c 1 (by simp)
    have c02 : ∀ x, (fW x).cell? ⟨w.heap.size, 2, none⟩ = some (.int .i64 oc) := fun x => ((unhide K0).below (hb x)).c 2 (by simp)
    have c03 : ∀ x, (fW x).cell? ⟨w.heap.size, 3, none⟩ = some (.int .i64 os) := fun x => ((unhide K0).below (hb x)).c 3 (by simp)
    have c04 : ∀ x, (fW x).cell? ⟨w.heap.size, 4, none⟩ = some (.int .i64 near) := fun x => ((unhide K0).below (hb x)).c 4 (by simp)
    have c05 : ∀ x, (fW x).cell? ⟨w.heap.size, 5, none⟩ = some (.int .i64 wi) := fun x => ((unhide K0).below (hb x)).c 5 (by simp)
    have c10 : ∀ x, (fW x).cell? ⟨w.heap.size + 1, 0, none⟩ = some (.int .i64 ti) := fun x => ((unhide K1).below (hb x)).c 0 (by simp)
    have c11 : ∀ x, (fW x).cell? ⟨w.heap.size + 1, 1, none⟩ = some (.int .i64 th) := fun x => ((unhide K1).below (hb x)).c 1 (by simp)
    have c12 : ∀ x, (fW x).cell? ⟨w.heap.size + 1, 2, none⟩ = some (.int .i64 tc) := fun x => ((unhide K1).below (hb x)).c 2 (by simp)
    have c13 : ∀ x, (fW x).cell? ⟨w.heap.size + 1, 3, none⟩ = some (.int .i64 ts) := fun x => ((unhide K1).below (hb x)).c 3 (by simp)
    have c14 : ∀ x, (fW x).cell? ⟨w.heap.size + 1, 4, none⟩ = some (.int .i64 tf) := fun x => ((unhide K1).below (hb x)).c 4 (by simp)
    have c15 : ∀ x, (fW x).cell? ⟨w.heap.size + 1, 5, none⟩ = some (.int .i64 tk) := fun x => ((unhide K1).below (hb x)).c 5 (by simp)
    clear hb hall
    refine wp_region_bel (unhide HA) (by kernel_rfl) (by kernel_rfl) ?_
    repeat (go_big_quiet_step (first | fail))
    refine wpQuiet_nil ?_
    rintro _ ⟨x, rfl⟩
    clear c00 c01 c02 c03 c04 c05 c10 c11 c12 c13 c14 c15
    have B0 := hide ((unhide B0).trans ((unhide HB x).mono (unhide B0).size))
    go_wp2_with fail
    go_ret
    exact ⟨ret_bool (by rw [unhide HE]), unhide B0⟩
  · have HE := hide ((unhide HV).trans (by rw [hv, Bool.false_and]))
    clear hv
    subst q1
    obtain ⟨ι, fW, _, hb, hall⟩ := belClass w1
    have HB := hide hb
    have HA := hide hall
    have c00 : ∀ x, (fW x).cell? ⟨w.heap.size, 0, none⟩ = some (.int .i64 oi) := fun x => ((unhide K0).below (hb x)).c 0 (by simp)
    have c01 : ∀ x, (fW x).cell? ⟨w.heap.size, 1, none⟩ = some (.int .i64 oh) := fun x => ((unhide K0).below (hb x)).c 1 (by simp)
    have c02 : ∀ x, (fW x).cell? ⟨w.heap.size, 2, none⟩ = some (.int .i64 oc) := fun x => ((unhide K0).below (hb x)).c 2 (by simp)
    have c03 : ∀ x, (fW x).cell? ⟨w.heap.size, 3, none⟩ = some (.int .i64 os) := fun x => ((unhide K0).below (hb x)).c 3 (by simp)
    have c04 : ∀ x, (fW x).cell? ⟨w.heap.size, 4, none⟩ = some (.int .i64 near) := fun x => ((unhide K0).below (hb x)).c 4 (by simp)
    have c05 : ∀ x, (fW x).cell? ⟨w.heap.size, 5, none⟩ = some (.int .i64 wi) := fun x => ((unhide K0).below (hb x)).c 5 (by simp)
    have c10 : ∀ x, (fW x).cell? ⟨w.heap.size + 1, 0, none⟩ = some (.int .i64 ti) := fun x => ((unhide K1).below (hb x)).c 0 (by simp)
    have c11 : ∀ x, (fW x).cell? ⟨w.heap.size + 1, 1, none⟩ = some (.int .i64 th) := fun x => ((unhide K1).below (hb x)).c 1 (by simp)
    have c12 : ∀ x, (fW x).cell? ⟨w.heap.size + 1, 2, none⟩ = some (.int .i64 tc) := fun x => ((unhide K1).below (hb x)).c 2 (by simp)
    have c13 : ∀ x, (fW x).cell? ⟨w.heap.size + 1, 3, none⟩ = some (.int .i64 ts) := fun x => ((unhide K1).below (hb x)).c 3 (by simp)
    have c14 : ∀ x, (fW x).cell? ⟨w.heap.size + 1, 4, none⟩ = some (.int .i64 tf) := fun x => ((unhide K1).below (hb x)).c 4 (by simp)
    have c15 : ∀ x, (fW x).cell? ⟨w.heap.size + 1, 5, none⟩ = some (.int .i64 tk) := fun x => ((unhide K1).below (hb x)).c 5 (by simp)
    clear hb hall
    refine wp_region_bel (unhide HA) (by kernel_rfl) (by kernel_rfl) ?_
    repeat (go_big_quiet_step (first | (go_at_call 76; exact belA2 (unhide HB) (unhide HA) (watcherOk_al _ _ _ _ _ _ _ (by exact q2)))))
    refine wpQuiet_nil ?_
    rintro _ ⟨x, rfl⟩
    clear c00 c01 c02 c03 c04 c05 c10 c11 c12 c13 c14 c15
    have B0 := hide ((unhide B0).trans ((unhide HB x).mono (unhide B0).size))
    go_wp2_with fail
    go_ret
    exact ⟨ret_bool (by rw [unhide HE]), unhide B0⟩
  · have HE := hide ((unhide HV).trans (by rw [hv, Bool.false_and]))
    clear hv
    subst q1
    have e : oi = ti := by simpa using q3
    subst e
    clear q3
    obtain ⟨ι, fW, _, hb, hall⟩ := belClass w1
    have HB := hide hb
    have HA := hide hall
    have c00 : ∀ x, (fW x).cell? ⟨w.heap.size, 0, none⟩ = some (.int .i64 oi) := fun x => ((unhide K0).below (hb x)).c 0 (by simp)
    have c01 : ∀ x, (fW x).cell? ⟨w.heap.size, 1, none⟩ = some (.int .i64 oh) := fun x => ((unhide K0).below (hb x)).c 1 (by simp)
    have c02 : ∀ x, (fW x).cell? ⟨w.heap.size, 2, none⟩ = some (.int .i64 oc) := fun x => ((unhide K0).below (hb x)).c 2 (by simp)
    have c03 : ∀ x, (fW x).cell? ⟨w.heap.size, 3, none⟩ = some (.int .i64 os) := fun x => ((unhide K0).below (hb x)).c 3 (by simp)
    have c04 : ∀ x, (fW x).cell? ⟨w.heap.size, 4, none⟩ = some (.int .i64 near) := fun x => ((unhide K0).below (hb x)).c 4 (by simp)
    have c05 : ∀ x, (fW x).cell? ⟨w.heap.size, 5, none⟩ = some (.int .i64 wi) := fun x => ((unhide K0).below (hb x)).c 5 (by simp)
    have c10 : ∀ x, (fW x).cell? ⟨w.heap.size + 1, 0, none⟩ = some (.int .i64 oi) := fun x => ((unhide K1).below (hb x)).c 0 (by simp)
    have c11 : ∀ x, (fW x).cell? ⟨w.heap.size + 1, 1, none⟩ = some (.int .i64 th) := fun x => ((unhide K1).below (hb x)).c 1 (by simp)
    have c12 : ∀ x, (fW x).cell? ⟨w.heap.size + 1, 2, none⟩ = some (.int .i64 tc) := fun x => ((unhide K1).below (hb x)).c 2 (by simp)
    have c13 : ∀ x, (fW x).cell? ⟨w.heap.size + 1, 3, none⟩ = some (.int .i64 ts) := fun x => ((unhide K1).below (hb x)).c 3 (by simp)
    have c14 : ∀ x, (fW x).cell? ⟨w.heap.size + 1, 4, none⟩ = some (.int .i64 tf) := fun x => ((unhide K1).below (hb x)).c 4 (by simp)
    have c15 : ∀ x, (fW x).cell? ⟨w.heap.size + 1, 5, none⟩ = some (.int .i64 tk) := fun x => ((unhide K1).below (hb x)).c 5 (by simp)
    clear hb hall
    refine wp_region_bel (unhide HA) (by kernel_rfl) (by kernel_rfl) ?_
    repeat (go_big_quiet_step (first | (go_at_call 76; exact belA2 (unhide HB) (unhide HA) (watcherOk_al _ _ _ _ _ _ _ (by exact q2)))))
    refine wpQuiet_nil ?_
    rintro _ ⟨x, rfl⟩
    clear c00 c01 c02 c03 c04 c05 c10 c11 c12 c13 c14 c15
    have B0 := hide ((unhide B0).trans ((unhide HB x).mono (unhide B0).size))
    go_wp2_with fail
    go_ret
    exact ⟨ret_bool (by rw [unhide HE]), unhide B0⟩
  · have HE := hide ((unhide HV).trans (by rw [hv, Bool.false_and]))
    clear hv
    subst q1
    have e : (oi != ti) = true := by simpa using q3
    clear q3
    obtain ⟨ι, fW, _, hb, hall⟩ := belClass w1
    have HB := hide hb
    have HA := hide hall
    have c00 : ∀ x, (fW x).cell? ⟨w.heap.size, 0, none⟩ = some (.int .i64 oi) := fun x => ((unhide K0).below (hb x)).c 0 (by simp)
    have c01 : ∀ x, (fW x).cell? ⟨w.heap.size, 1, none⟩ = some (.int .i64 oh) := fun x => ((unhide K0).below (hb x)).c 1 (by simp)
    have c02 : ∀ x, (fW x).cell? ⟨w.heap.size, 2, none⟩ = some (.int .i64 oc) := fun x => ((unhide K0).below (hb x)).c 2 (by simp)
    have c03 : ∀ x, (fW x).cell? ⟨w.heap.size, 3, none⟩ = some (.int .i64 os) := fun x => ((unhide K0).below (hb x)).c 3 (by simp)
    have c04 : ∀ x, (fW x).cell? ⟨w.heap.size, 4, none⟩ = some (.int .i64 near) := fun x => ((unhide K0).below (hb x)).c 4 (by simp)
    have c05 : ∀ x, (fW x).cell? ⟨w.heap.size, 5, none⟩ = some (.int .i64 wi) := fun x => ((unhide K0).below (hb x)).c 5 (by simp)
    have c10 : ∀ x, (fW x).cell? ⟨w.heap.size + 1, 0, none⟩ = some (.int .i64 ti) := fun x => ((unhide K1).below (hb x)).c 0 (by simp)
    have c11 : ∀ x, (fW x).cell? ⟨w.heap.size + 1, 1, none⟩ = some (.int .i64 th) := fun x => ((unhide K1).below (hb x)).c 1 (by simp)
    have c12 : ∀ x, (fW x).cell? ⟨w.heap.size + 1, 2, none⟩ = some (.int .i64 tc) := fun x => ((unhide K1).below (hb x)).c 2 (by simp)
    have c13 : ∀ x, (fW x).cell? ⟨w.heap.size + 1, 3, none⟩ = some (.int .i64 ts) := fun x => ((unhide K1).below (hb x)).c 3 (by simp)
    have c14 : ∀ x, (fW x).cell? ⟨w.heap.size + 1, 4, none⟩ = some (.int .i64 tf) := fun x => ((unhide K1).below (hb x)).c 4 (by simp)
    have c15 : ∀ x, (fW x).cell? ⟨w.heap.size + 1, 5, none⟩ = some (.int .i64 tk) := fun x => ((unhide K1).below (hb x)).c 5 (by simp)
    clear hb hall
    refine wp_region_bel (unhide HA) (by kernel_rfl) (by kernel_rfl) ?_
    repeat (go_big_quiet_step (first | (go_at_call 76; exact belA2 (unhide HB) (unhide HA) (watcherOk_al _ _ _ _ _ _ _ (by exact q2)))))
    refine wpQuiet_nil ?_
    rintro _ ⟨x, rfl⟩
    clear c00 c01 c02 c03 c04 c05 c10 c11 c12 c13 c14 c15
    have B0 := hide ((unhide B0).trans ((unhide HB x).mono (unhide B0).size))
    go_wp2_with fail
    go_ret
    exact ⟨ret_bool (by rw [unhide HE]), unhide B0⟩
  · have HE := hide ((unhide HV).trans (by rw [hv, Bool.true_and]))
    clear hv
    subst q1
    have e : (oi != ti) = true := by simpa using q3
    clear q3
    have g1 := q2
    simp only [Bool.and_eq_true] at g1
    have g2 := avB_facts g1.1.1
    have g5 := avB_facts (tcB_facts (tiB_facts (unhide HT)).1).1
    have g6 := dfN_bd (N := 1001000) g2.2.2.1 g5.2.2.1 nb
    clear g1
    obtain ⟨ι, fW, _, hb, hall⟩ := belClass w1
    have HB := hide hb
    have HA := hide hall
    have c00 : ∀ x, (fW x).cell? ⟨w.heap.size, 0, none⟩ = some (.int .i64 oi) := fun x => ((unhide K0).below (hb x)).c 0 (by simp)
    have c01 : ∀ x, (fW x).cell? ⟨w.heap.size, 1, none⟩ = some (.int .i64 oh) := fun x => ((unhide K0).below (hb x)).c 1 (by simp)
    have c02 : ∀ x, (fW x).cell? ⟨w.heap.size, 2, none⟩ = some (.int .i64 oc) := fun x => ((unhide K0).below (hb x)).c 2 (by simp)
    have c03 : ∀ x, (fW x).cell? ⟨w.heap.size, 3, none⟩ = some (.int .i64 os) := fun x => ((unhide K0).below (hb x)).c 3 (by simp)
    have c04 : ∀ x, (fW x).cell? ⟨w.heap.size, 4, none⟩ = some (.int .i64 near) := fun x => ((unhide K0).below (hb x)).c 4 (by simp)
    have c05 : ∀ x, (fW x).cell? ⟨w.heap.size, 5, none⟩ = some (.int .i64 wi) := fun x => ((unhide K0).below (hb x)).c 5 (by simp)
    have c10 : ∀ x, (fW x).cell? ⟨w.heap.size + 1, 0, none⟩ = some (.int .i64 ti) := fun x => ((unhide K1).below (hb x)).c 0 (by simp)
    have c11 : ∀ x, (fW x).cell? ⟨w.heap.size + 1, 1, none⟩ = some (.int .i64 th) := fun x => ((unhide K1).below (hb x)).c 1 (by simp)
    have c12 : ∀ x, (fW x).cell? ⟨w.heap.size + 1, 2, none⟩ = some (.int .i64 tc) := fun x => ((unhide K1).below (hb x)).c 2 (by simp)
    have c13 : ∀ x, (fW x).cell? ⟨w.heap.size + 1, 3, none⟩ = some (.int .i64 ts) := fun x => ((unhide K1).below (hb x)).c 3 (by simp)
    have c14 : ∀ x, (fW x).cell? ⟨w.heap.size + 1, 4, none⟩ = some (.int .i64 tf) := fun x => ((unhide K1).below (hb x)).c 4 (by simp)
    have c15 : ∀ x, (fW x).cell? ⟨w.heap.size + 1, 5, none⟩ = some (.int .i64 tk) := fun x => ((unhide K1).below (hb x)).c 5 (by simp)
    clear hb hall
    refine wp_region_bel (unhide HA) (by kernel_rfl) (by kernel_rfl) ?_
    repeat (go_big_quiet_step (first | (go_at_call 76; exact belA2 (unhide HB) (unhide HA) (watcherOk_al _ _ _ _ _ _ _ (by exact q2))) | (go_at_call 111; exact belA1 (unhide HB) (unhide HA) (heightIn_al _ _ _ _ _ _ (by omega) (by omega) (by omega) rfl)) | (go_at_call 98; exact belS (taSize _ _ (by omega) rfl))))
    refine wpQuiet_nil ?_
    rintro _ ⟨x, rfl⟩
    clear c00 c01 c02 c03 c04 c05 c10 c11 c12 c13 c14 c15
    have B0 := hide ((unhide B0).trans ((unhide HB x).mono (unhide B0).size))
    go_wp2_with fail
    go_ret
    exact ⟨ret_bool (by rw [unhide HE, ← dfN_is]), unhide B0⟩

theorem frS_up {oi oh oc ti th tc n : Int} (h : (dfN oh oc th tc n - 100 * n).natAbs < (dfN oh oc th tc n + 100 * n).natAbs) : frS oi oh oc ti th tc n = 1 := by simp [frS, h]
theorem frS_down {oi oh oc ti th tc n : Int} (h : (dfN oh oc th tc n + 100 * n).natAbs < (dfN oh oc th tc n - 100 * n).natAbs) : frS oi oh oc ti th tc n = 2 := by
  have : ¬ (dfN oh oc th tc n - 100 * n).natAbs < (dfN oh oc th tc n + 100 * n).natAbs := by omega
  simp [frS, h, this]
theorem frS_same {oi oh oc ti th tc n : Int} (h : (dfN oh oc th tc n + 100 * n).natAbs = (dfN oh oc th tc n - 100 * n).natAbs) : frS oi oh oc ti th tc n = if th < oh ∨ oh = th ∧ ti < oi then 1 else 2 := by simp [frS, h]
theorem dfN_up (oh oc th tc n : Int) : oh + n * (oc + 100) - (th + n * tc) = dfN oh oc th tc n + 100 * n := by unfold dfN; rw [Int.mul_add]; omega
theorem dfN_dn (oh oc th tc n : Int) : oh + n * (oc + -100) - (th + n * tc) = dfN oh oc th tc n - 100 * n := by unfold dfN; rw [Int.mul_add]; omega

set_option maxRecDepth 20000 in
set_option maxHeartbeats 3000000 in
theorem freeSense_up (oi oh oc os ti th tc tf tk ts near wi n : Int) (w : World) (HN : Hid (tiN ti th tc tf tk ts = n)) (HT : Hid (tiB ti th tc tf tk ts = true)) (nb : 0 ≤ n ∧ n ≤ 1001000) (ho : 0 ≤ oh ∧ oh ≤ 60000) (hoc : -200 ≤ oc ∧ oc ≤ 200) (ht : 0 ≤ th ∧ th ≤ 60000) (htc : -200 ≤ tc ∧ tc ≤ 200) (hd : (oh + n * (oc + -100) - (th + n * tc)).natAbs < (oh + n * (oc + 100) - (th + n * tc)).natAbs) :
    Calls Try.prog 113 #[.agg #[.int .i64 oi, .int .i64 oh, .int .i64 oc, .int .i64 os, .int .i64 near, .int .i64 wi], .agg #[.int .i64 ti, .int .i64 th, .int .i64 tc, .int .i64 ts, .int .i64 tf, .int .i64 tk]] w fun e w' => e = .returned (.int .i64 1) ∧ Below w.heap.size w w' := by
  have i1 : decide ((oh + n * (oc + -100) - (th + n * tc)).natAbs < (oh + n * (oc + 100) - (th + n * tc)).natAbs) = true := by simp only [decide_eq_true_eq]; omega
  have i2 : (((oh + n * (oc + 100) - (th + n * tc)).natAbs : Int) == ((oh + n * (oc + -100) - (th + n * tc)).natAbs : Int)) = false := by simp only [beq_eq_false_iff_ne, ne_eq]; omega
  have i3 : (oh + n * (oc + -100) - (th + n * tc)).natAbs < (oh + n * (oc + 100) - (th + n * tc)).natAbs := by omega
  clear hd
  have g6 := mulBd (s := n) (d := oc + 100) (A := 1001000) (B := 300) (by omega) (by omega) (by omega) (by omega) (by omega) (by omega)
  have g7 := mulBd (s := n) (d := oc + -100) (A := 1001000) (B := 300) (by omega) (by omega) (by omega) (by omega) (by omega) (by omega)
  have g8 := mulBd (s := n) (d := tc) (A := 1001000) (B := 300) (by omega) (by omega) (by omega) (by omega) (by omega) (by omega)
  go_enter Try.func113, Try.ntmps113
  go_wp2_with fail
  obtain ⟨W, hW⟩ : ∃ W, W = ((w.alloc (Obj.cells #[.int .i64 oi, .int .i64 oh, .int .i64 oc, .int .i64 os, .int .i64 near, .int .i64 wi] 145)).alloc (Obj.cells #[.int .i64 ti, .int .i64 th, .int .i64 tc, .int .i64 ts, .int .i64 tf, .int .i64 tk] 149)) := ⟨_, rfl⟩
  rw [← hW]
  have K0 : Hid (Blk W (w.heap.size) [.int .i64 oi, .int .i64 oh, .int .i64 oc, .int .i64 os, .int .i64 near, .int .i64 wi]) := hide (by rw [hW]; exact blkAt2_0)
  have K1 : Hid (Blk W (w.heap.size + 1) [.int .i64 ti, .int .i64 th, .int .i64 tc, .int .i64 ts, .int .i64 tf, .int .i64 tk]) := hide (by rw [hW]; exact blkAt2_1)
  have B0 : Hid (Below w.heap.size w W) := hide (by rw [hW]; exact (by repeat (first | exact Below.refl _ _ | refine Below.alloc ?_ (by simp; try omega) _ | refine Below.setCell ?_ (by simp; try omega) _ | refine taDr ?_ _)))
  clear hW
  obtain ⟨ι, fW, _, hb, hall⟩ := belClass W
  have HB := hide hb
  have HA := hide hall
  have c00 : ∀ x, (fW x).cell? ⟨w.heap.size, 0, none⟩ = some (.int .i64 oi) := fun x => ((unhide K0).below (hb x)).c 0 (by simp)
  have c01 : ∀ x, (fW x).cell? ⟨w.heap.size, 1, none⟩ = some (.int .i64 oh) := fun x => ((unhide K0).below (hb x)).c 1 (by simp)
  have c02 : ∀ x, (fW x).cell? ⟨w.heap.size, 2, none⟩ = some (.int .i64 oc) := fun x => ((unhide K0).below (hb x)).c 2 (by simp)
  have c03 : ∀ x, (fW x).cell? ⟨w.heap.size, 3, none⟩ = some (.int .i64 os) := fun x => ((unhide K0).below (hb x)).c 3 (by simp)
  have c04 : ∀ x, (fW x).cell? ⟨w.heap.size, 4, none⟩ = some (.int .i64 near) := fun x => ((unhide K0).below (hb x)).c 4 (by simp)
  have c05 : ∀ x, (fW x).cell? ⟨w.heap.size, 5, none⟩ = some (.int .i64 wi) := fun x => ((unhide K0).below (hb x)).c 5 (by simp)
  have c10 : ∀ x, (fW x).cell? ⟨w.heap.size + 1, 0, none⟩ = some (.int .i64 ti) := fun x => ((unhide K1).below (hb x)).c 0 (by simp)
  have c11 : ∀ x, (fW x).cell? ⟨w.heap.size + 1, 1, none⟩ = some (.int .i64 th) := fun x => ((unhide K1).below (hb x)).c 1 (by simp)
  have c12 : ∀ x, (fW x).cell? ⟨w.heap.size + 1, 2, none⟩ = some (.int .i64 tc) := fun x => ((unhide K1).below (hb x)).c 2 (by simp)
  have c13 : ∀ x, (fW x).cell? ⟨w.heap.size + 1, 3, none⟩ = some (.int .i64 ts) := fun x => ((unhide K1).below (hb x)).c 3 (by simp)
  have c14 : ∀ x, (fW x).cell? ⟨w.heap.size + 1, 4, none⟩ = some (.int .i64 tf) := fun x => ((unhide K1).below (hb x)).c 4 (by simp)
  have c15 : ∀ x, (fW x).cell? ⟨w.heap.size + 1, 5, none⟩ = some (.int .i64 tk) := fun x => ((unhide K1).below (hb x)).c 5 (by simp)
  clear hb hall
  obtain ⟨x0, h0⟩ := (unhide HA) W (Below.refl _ _)
  rw [h0]
  clear h0
  go_wp2_with (first | (go_at_call 83; refine (belA3 (unhide HB) (unhide HA) (ticks_al _ _ _ _ _ _ _ (unhide HN) (unhide HT))).mono ?_; rintro e _ ⟨rfl, y, rfl⟩) | (go_at_call 111; refine (belA1 (unhide HB) (unhide HA) (heightIn_al _ _ _ _ _ _ (by omega) (by omega) (by omega) rfl)).mono ?_; rintro e _ ⟨rfl, y, rfl⟩) | (go_at_call 145; refine (belA2 (unhide HB) (unhide HA) (pushed_al _ _ _ _ _ _ (by omega) (by omega) rfl)).mono ?_; rintro e _ ⟨rfl, y, rfl⟩) | (go_at_call 98; refine (belS (taSize _ _ (by omega) rfl)).mono ?_; rintro e _ ⟨rfl, y, rfl⟩))
  repeat (refine wp_region_bel (fun w' h => (unhide HA) w' ((unhide HB _).trans (h.mono (unhide HB _).size))) (by kernel_rfl) (by kernel_rfl) ?_; (repeat (go_big_quiet_step (first | (go_at_call 83; exact belA3 (unhide HB) (unhide HA) (ticks_al _ _ _ _ _ _ _ (unhide HN) (unhide HT))) | (go_at_call 111; exact belA1 (unhide HB) (unhide HA) (heightIn_al _ _ _ _ _ _ (by omega) (by omega) (by omega) rfl)) | (go_at_call 145; exact belA2 (unhide HB) (unhide HA) (pushed_al _ _ _ _ _ _ (by omega) (by omega) rfl)) | (go_at_call 98; exact belS (taSize _ _ (by omega) rfl))))); refine wpQuiet_nil ?_; rintro _ ⟨y, rfl⟩; (first | go_wp2_with (first | (go_at_call 83; refine (belA3 (unhide HB) (unhide HA) (ticks_al _ _ _ _ _ _ _ (unhide HN) (unhide HT))).mono ?_; rintro e _ ⟨rfl, y, rfl⟩) | (go_at_call 111; refine (belA1 (unhide HB) (unhide HA) (heightIn_al _ _ _ _ _ _ (by omega) (by omega) (by omega) rfl)).mono ?_; rintro e _ ⟨rfl, y, rfl⟩) | (go_at_call 145; refine (belA2 (unhide HB) (unhide HA) (pushed_al _ _ _ _ _ _ (by omega) (by omega) rfl)).mono ?_; rintro e _ ⟨rfl, y, rfl⟩) | (go_at_call 98; refine (belS (taSize _ _ (by omega) rfl)).mono ?_; rintro e _ ⟨rfl, y, rfl⟩)) | go_wp2))
  go_ret
  exact ⟨rfl, (unhide B0).trans ((unhide HB _).mono (unhide B0).size)⟩

set_option maxRecDepth 20000 in
set_option maxHeartbeats 3000000 in
theorem freeSense_dn (oi oh oc os ti th tc tf tk ts near wi n : Int) (w : World) (HN : Hid (tiN ti th tc tf tk ts = n)) (HT : Hid (tiB ti th tc tf tk ts = true)) (nb : 0 ≤ n ∧ n ≤ 1001000) (ho : 0 ≤ oh ∧ oh ≤ 60000) (hoc : -200 ≤ oc ∧ oc ≤ 200) (ht : 0 ≤ th ∧ th ≤ 60000) (htc : -200 ≤ tc ∧ tc ≤ 200) (hd : (oh + n * (oc + 100) - (th + n * tc)).natAbs < (oh + n * (oc + -100) - (th + n * tc)).natAbs) :
    Calls Try.prog 113 #[.agg #[.int .i64 oi, .int .i64 oh, .int .i64 oc, .int .i64 os, .int .i64 near, .int .i64 wi], .agg #[.int .i64 ti, .int .i64 th, .int .i64 tc, .int .i64 ts, .int .i64 tf, .int .i64 tk]] w fun e w' => e = .returned (.int .i64 2) ∧ Below w.heap.size w w' := by
  have i1 : decide ((oh + n * (oc + -100) - (th + n * tc)).natAbs < (oh + n * (oc + 100) - (th + n * tc)).natAbs) = false := by simp only [decide_eq_false_iff_not]; omega
  have i2 : (((oh + n * (oc + 100) - (th + n * tc)).natAbs : Int) == ((oh + n * (oc + -100) - (th + n * tc)).natAbs : Int)) = false := by simp only [beq_eq_false_iff_ne, ne_eq]; omega
  have i3 : (oh + n * (oc + 100) - (th + n * tc)).natAbs ≤ (oh + n * (oc + -100) - (th + n * tc)).natAbs := by omega
  clear hd
  have g6 := mulBd (s := n) (d := oc + 100) (A := 1001000) (B := 300) (by omega) (by omega) (by omega) (by omega) (by omega) (by omega)
  have g7 := mulBd (s := n) (d := oc + -100) (A := 1001000) (B := 300) (by omega) (by omega) (by omega) (by omega) (by omega) (by omega)
  have g8 := mulBd (s := n) (d := tc) (A := 1001000) (B := 300) (by omega) (by omega) (by omega) (by omega) (by omega) (by omega)
  go_enter Try.func113, Try.ntmps113
  go_wp2_with fail
  obtain ⟨W, hW⟩ : ∃ W, W = ((w.alloc (Obj.cells #[.int .i64 oi, .int .i64 oh, .int .i64 oc, .int .i64 os, .int .i64 near, .int .i64 wi] 145)).alloc (Obj.cells #[.int .i64 ti, .int .i64 th, .int .i64 tc, .int .i64 ts, .int .i64 tf, .int .i64 tk] 149)) := ⟨_, rfl⟩
  rw [← hW]
  have K0 : Hid (Blk W (w.heap.size) [.int .i64 oi, .int .i64 oh, .int .i64 oc, .int .i64 os, .int .i64 near, .int .i64 wi]) := hide (by rw [hW]; exact blkAt2_0)
  have K1 : Hid (Blk W (w.heap.size + 1) [.int .i64 ti, .int .i64 th, .int .i64 tc, .int .i64 ts, .int .i64 tf, .int .i64 tk]) := hide (by rw [hW]; exact blkAt2_1)
  have B0 : Hid (Below w.heap.size w W) := hide (by rw [hW]; exact (by repeat (first | exact Below.refl _ _ | refine Below.alloc ?_ (by simp; try omega) _ | refine Below.setCell ?_ (by simp; try omega) _ | refine taDr ?_ _)))
  clear hW
  obtain ⟨ι, fW, _, hb, hall⟩ := belClass W
  have HB := hide hb
  have HA := hide hall
  have c00 : ∀ x, (fW x).cell? ⟨w.heap.size, 0, none⟩ = some (.int .i64 oi) := fun x => ((unhide K0).below (hb x)).c 0 (by simp)
  have c01 : ∀ x, (fW x).cell? ⟨w.heap.size, 1, none⟩ = some (.int .i64 oh) := fun x => ((unhide K0).below (hb x)).c 1 (by simp)
  have c02 : ∀ x, (fW x).cell? ⟨w.heap.size, 2, none⟩ = some (.int .i64 oc) := fun x => ((unhide K0).below (hb x)).c 2 (by simp)
  have c03 : ∀ x, (fW x).cell? ⟨w.heap.size, 3, none⟩ = some (.int .i64 os) := fun x => ((unhide K0).below (hb x)).c 3 (by simp)
  have c04 : ∀ x, (fW x).cell? ⟨w.heap.size, 4, none⟩ = some (.int .i64 near) := fun x => ((unhide K0).below (hb x)).c 4 (by simp)
  have c05 : ∀ x, (fW x).cell? ⟨w.heap.size, 5, none⟩ = some (.int .i64 wi) := fun x => ((unhide K0).below (hb x)).c 5 (by simp)
  have c10 : ∀ x, (fW x).cell? ⟨w.heap.size + 1, 0, none⟩ = some (.int .i64 ti) := fun x => ((unhide K1).below (hb x)).c 0 (by simp)
  have c11 : ∀ x, (fW x).cell? ⟨w.heap.size + 1, 1, none⟩ = some (.int .i64 th) := fun x => ((unhide K1).below (hb x)).c 1 (by simp)
  have c12 : ∀ x, (fW x).cell? ⟨w.heap.size + 1, 2, none⟩ = some (.int .i64 tc) := fun x => ((unhide K1).below (hb x)).c 2 (by simp)
  have c13 : ∀ x, (fW x).cell? ⟨w.heap.size + 1, 3, none⟩ = some (.int .i64 ts) := fun x => ((unhide K1).below (hb x)).c 3 (by simp)
  have c14 : ∀ x, (fW x).cell? ⟨w.heap.size + 1, 4, none⟩ = some (.int .i64 tf) := fun x => ((unhide K1).below (hb x)).c 4 (by simp)
  have c15 : ∀ x, (fW x).cell? ⟨w.heap.size + 1, 5, none⟩ = some (.int .i64 tk) := fun x => ((unhide K1).below (hb x)).c 5 (by simp)
  clear hb hall
  obtain ⟨x0, h0⟩ := (unhide HA) W (Below.refl _ _)
  rw [h0]
  clear h0
  go_wp2_with (first | (go_at_call 83; refine (belA3 (unhide HB) (unhide HA) (ticks_al _ _ _ _ _ _ _ (unhide HN) (unhide HT))).mono ?_; rintro e _ ⟨rfl, y, rfl⟩) | (go_at_call 111; refine (belA1 (unhide HB) (unhide HA) (heightIn_al _ _ _ _ _ _ (by omega) (by omega) (by omega) rfl)).mono ?_; rintro e _ ⟨rfl, y, rfl⟩) | (go_at_call 145; refine (belA2 (unhide HB) (unhide HA) (pushed_al _ _ _ _ _ _ (by omega) (by omega) rfl)).mono ?_; rintro e _ ⟨rfl, y, rfl⟩) | (go_at_call 98; refine (belS (taSize _ _ (by omega) rfl)).mono ?_; rintro e _ ⟨rfl, y, rfl⟩))
  repeat (refine wp_region_bel (fun w' h => (unhide HA) w' ((unhide HB _).trans (h.mono (unhide HB _).size))) (by kernel_rfl) (by kernel_rfl) ?_; (repeat (go_big_quiet_step (first | (go_at_call 83; exact belA3 (unhide HB) (unhide HA) (ticks_al _ _ _ _ _ _ _ (unhide HN) (unhide HT))) | (go_at_call 111; exact belA1 (unhide HB) (unhide HA) (heightIn_al _ _ _ _ _ _ (by omega) (by omega) (by omega) rfl)) | (go_at_call 145; exact belA2 (unhide HB) (unhide HA) (pushed_al _ _ _ _ _ _ (by omega) (by omega) rfl)) | (go_at_call 98; exact belS (taSize _ _ (by omega) rfl))))); refine wpQuiet_nil ?_; rintro _ ⟨y, rfl⟩; (first | go_wp2_with (first | (go_at_call 83; refine (belA3 (unhide HB) (unhide HA) (ticks_al _ _ _ _ _ _ _ (unhide HN) (unhide HT))).mono ?_; rintro e _ ⟨rfl, y, rfl⟩) | (go_at_call 111; refine (belA1 (unhide HB) (unhide HA) (heightIn_al _ _ _ _ _ _ (by omega) (by omega) (by omega) rfl)).mono ?_; rintro e _ ⟨rfl, y, rfl⟩) | (go_at_call 145; refine (belA2 (unhide HB) (unhide HA) (pushed_al _ _ _ _ _ _ (by omega) (by omega) rfl)).mono ?_; rintro e _ ⟨rfl, y, rfl⟩) | (go_at_call 98; refine (belS (taSize _ _ (by omega) rfl)).mono ?_; rintro e _ ⟨rfl, y, rfl⟩)) | go_wp2))
  go_ret
  exact ⟨rfl, (unhide B0).trans ((unhide HB _).mono (unhide B0).size)⟩

set_option maxRecDepth 20000 in
set_option maxHeartbeats 3000000 in
theorem freeSense_s1 (oi oh oc os ti th tc tf tk ts near wi n : Int) (w : World) (HN : Hid (tiN ti th tc tf tk ts = n)) (HT : Hid (tiB ti th tc tf tk ts = true)) (nb : 0 ≤ n ∧ n ≤ 1001000) (ho : 0 ≤ oh ∧ oh ≤ 60000) (hoc : -200 ≤ oc ∧ oc ≤ 200) (ht : 0 ≤ th ∧ th ≤ 60000) (htc : -200 ≤ tc ∧ tc ≤ 200) (hd : (oh + n * (oc + 100) - (th + n * tc)).natAbs = (oh + n * (oc + -100) - (th + n * tc)).natAbs) (q5 : decide (th < oh ∨ oh = th ∧ ti < oi) = true) :
    Calls Try.prog 113 #[.agg #[.int .i64 oi, .int .i64 oh, .int .i64 oc, .int .i64 os, .int .i64 near, .int .i64 wi], .agg #[.int .i64 ti, .int .i64 th, .int .i64 tc, .int .i64 ts, .int .i64 tf, .int .i64 tk]] w fun e w' => e = .returned (.int .i64 1) ∧ Below w.heap.size w w' := by
  have i1 : decide ((oh + n * (oc + -100) - (th + n * tc)).natAbs < (oh + n * (oc + 100) - (th + n * tc)).natAbs) = false := by simp only [decide_eq_false_iff_not]; omega
  have i2 : (((oh + n * (oc + 100) - (th + n * tc)).natAbs : Int) == ((oh + n * (oc + -100) - (th + n * tc)).natAbs : Int)) = true := by simp only [beq_iff_eq]; omega
  have i3 : (oh + n * (oc + 100) - (th + n * tc)).natAbs ≤ (oh + n * (oc + -100) - (th + n * tc)).natAbs := by omega
  clear hd
  have g6 := mulBd (s := n) (d := oc + 100) (A := 1001000) (B := 300) (by omega) (by omega) (by omega) (by omega) (by omega) (by omega)
  have g7 := mulBd (s := n) (d := oc + -100) (A := 1001000) (B := 300) (by omega) (by omega) (by omega) (by omega) (by omega) (by omega)
  have g8 := mulBd (s := n) (d := tc) (A := 1001000) (B := 300) (by omega) (by omega) (by omega) (by omega) (by omega) (by omega)
  go_enter Try.func113, Try.ntmps113
  go_wp2_with fail
  obtain ⟨W, hW⟩ : ∃ W, W = ((w.alloc (Obj.cells #[.int .i64 oi, .int .i64 oh, .int .i64 oc, .int .i64 os, .int .i64 near, .int .i64 wi] 145)).alloc (Obj.cells #[.int .i64 ti, .int .i64 th, .int .i64 tc, .int .i64 ts, .int .i64 tf, .int .i64 tk] 149)) := ⟨_, rfl⟩
  rw [← hW]
  have K0 : Hid (Blk W (w.heap.size) [.int .i64 oi, .int .i64 oh, .int .i64 oc, .int .i64 os, .int .i64 near, .int .i64 wi]) := hide (by rw [hW]; exact blkAt2_0)
  have K1 : Hid (Blk W (w.heap.size + 1) [.int .i64 ti, .int .i64 th, .int .i64 tc, .int .i64 ts, .int .i64 tf, .int .i64 tk]) := hide (by rw [hW]; exact blkAt2_1)
  have B0 : Hid (Below w.heap.size w W) := hide (by rw [hW]; exact (by repeat (first | exact Below.refl _ _ | refine Below.alloc ?_ (by simp; try omega) _ | refine Below.setCell ?_ (by simp; try omega) _ | refine taDr ?_ _)))
  clear hW
  obtain ⟨ι, fW, _, hb, hall⟩ := belClass W
  have HB := hide hb
  have HA := hide hall
  have c00 : ∀ x, (fW x).cell? ⟨w.heap.size, 0, none⟩ = some (.int .i64 oi) := fun x => ((unhide K0).below (hb x)).c 0 (by simp)
  have c01 : ∀ x, (fW x).cell? ⟨w.heap.size, 1, none⟩ = some (.int .i64 oh) := fun x => ((unhide K0).below (hb x)).c 1 (by simp)
  have c02 : ∀ x, (fW x).cell? ⟨w.heap.size, 2, none⟩ = some (.int .i64 oc) := fun x => ((unhide K0).below (hb x)).c 2 (by simp)
  have c03 : ∀ x, (fW x).cell? ⟨w.heap.size, 3, none⟩ = some (.int .i64 os) := fun x => ((unhide K0).below (hb x)).c 3 (by simp)
  have c04 : ∀ x, (fW x).cell? ⟨w.heap.size, 4, none⟩ = some (.int .i64 near) := fun x => ((unhide K0).below (hb x)).c 4 (by simp)
  have c05 : ∀ x, (fW x).cell? ⟨w.heap.size, 5, none⟩ = some (.int .i64 wi) := fun x => ((unhide K0).below (hb x)).c 5 (by simp)
  have c10 : ∀ x, (fW x).cell? ⟨w.heap.size + 1, 0, none⟩ = some (.int .i64 ti) := fun x => ((unhide K1).below (hb x)).c 0 (by simp)
  have c11 : ∀ x, (fW x).cell? ⟨w.heap.size + 1, 1, none⟩ = some (.int .i64 th) := fun x => ((unhide K1).below (hb x)).c 1 (by simp)
  have c12 : ∀ x, (fW x).cell? ⟨w.heap.size + 1, 2, none⟩ = some (.int .i64 tc) := fun x => ((unhide K1).below (hb x)).c 2 (by simp)
  have c13 : ∀ x, (fW x).cell? ⟨w.heap.size + 1, 3, none⟩ = some (.int .i64 ts) := fun x => ((unhide K1).below (hb x)).c 3 (by simp)
  have c14 : ∀ x, (fW x).cell? ⟨w.heap.size + 1, 4, none⟩ = some (.int .i64 tf) := fun x => ((unhide K1).below (hb x)).c 4 (by simp)
  have c15 : ∀ x, (fW x).cell? ⟨w.heap.size + 1, 5, none⟩ = some (.int .i64 tk) := fun x => ((unhide K1).below (hb x)).c 5 (by simp)
  clear hb hall
  obtain ⟨x0, h0⟩ := (unhide HA) W (Below.refl _ _)
  rw [h0]
  clear h0
  go_wp2_with (first | (go_at_call 83; refine (belA3 (unhide HB) (unhide HA) (ticks_al _ _ _ _ _ _ _ (unhide HN) (unhide HT))).mono ?_; rintro e _ ⟨rfl, y, rfl⟩) | (go_at_call 111; refine (belA1 (unhide HB) (unhide HA) (heightIn_al _ _ _ _ _ _ (by omega) (by omega) (by omega) rfl)).mono ?_; rintro e _ ⟨rfl, y, rfl⟩) | (go_at_call 145; refine (belA2 (unhide HB) (unhide HA) (pushed_al _ _ _ _ _ _ (by omega) (by omega) rfl)).mono ?_; rintro e _ ⟨rfl, y, rfl⟩) | (go_at_call 98; refine (belS (taSize _ _ (by omega) rfl)).mono ?_; rintro e _ ⟨rfl, y, rfl⟩) | (go_at_call 146; refine (belA2 (unhide HB) (unhide HA) (standsOver_al _ _ _ _ _ _ _ _ _ (by exact q5))).mono ?_; rintro e _ ⟨rfl, y, rfl⟩))
  repeat (refine wp_region_bel (fun w' h => (unhide HA) w' ((unhide HB _).trans (h.mono (unhide HB _).size))) (by kernel_rfl) (by kernel_rfl) ?_; (repeat (go_big_quiet_step (first | (go_at_call 83; exact belA3 (unhide HB) (unhide HA) (ticks_al _ _ _ _ _ _ _ (unhide HN) (unhide HT))) | (go_at_call 111; exact belA1 (unhide HB) (unhide HA) (heightIn_al _ _ _ _ _ _ (by omega) (by omega) (by omega) rfl)) | (go_at_call 145; exact belA2 (unhide HB) (unhide HA) (pushed_al _ _ _ _ _ _ (by omega) (by omega) rfl)) | (go_at_call 98; exact belS (taSize _ _ (by omega) rfl)) | (go_at_call 146; exact belA2 (unhide HB) (unhide HA) (standsOver_al _ _ _ _ _ _ _ _ _ (by exact q5)))))); refine wpQuiet_nil ?_; rintro _ ⟨y, rfl⟩; (first | go_wp2_with (first | (go_at_call 83; refine (belA3 (unhide HB) (unhide HA) (ticks_al _ _ _ _ _ _ _ (unhide HN) (unhide HT))).mono ?_; rintro e _ ⟨rfl, y, rfl⟩) | (go_at_call 111; refine (belA1 (unhide HB) (unhide HA) (heightIn_al _ _ _ _ _ _ (by omega) (by omega) (by omega) rfl)).mono ?_; rintro e _ ⟨rfl, y, rfl⟩) | (go_at_call 145; refine (belA2 (unhide HB) (unhide HA) (pushed_al _ _ _ _ _ _ (by omega) (by omega) rfl)).mono ?_; rintro e _ ⟨rfl, y, rfl⟩) | (go_at_call 98; refine (belS (taSize _ _ (by omega) rfl)).mono ?_; rintro e _ ⟨rfl, y, rfl⟩) | (go_at_call 146; refine (belA2 (unhide HB) (unhide HA) (standsOver_al _ _ _ _ _ _ _ _ _ (by exact q5))).mono ?_; rintro e _ ⟨rfl, y, rfl⟩)) | go_wp2))
  go_ret
  exact ⟨rfl, (unhide B0).trans ((unhide HB _).mono (unhide B0).size)⟩

set_option maxRecDepth 20000 in
set_option maxHeartbeats 3000000 in
theorem freeSense_s2 (oi oh oc os ti th tc tf tk ts near wi n : Int) (w : World) (HN : Hid (tiN ti th tc tf tk ts = n)) (HT : Hid (tiB ti th tc tf tk ts = true)) (nb : 0 ≤ n ∧ n ≤ 1001000) (ho : 0 ≤ oh ∧ oh ≤ 60000) (hoc : -200 ≤ oc ∧ oc ≤ 200) (ht : 0 ≤ th ∧ th ≤ 60000) (htc : -200 ≤ tc ∧ tc ≤ 200) (hd : (oh + n * (oc + 100) - (th + n * tc)).natAbs = (oh + n * (oc + -100) - (th + n * tc)).natAbs) (q5 : decide (th < oh ∨ oh = th ∧ ti < oi) = false) :
    Calls Try.prog 113 #[.agg #[.int .i64 oi, .int .i64 oh, .int .i64 oc, .int .i64 os, .int .i64 near, .int .i64 wi], .agg #[.int .i64 ti, .int .i64 th, .int .i64 tc, .int .i64 ts, .int .i64 tf, .int .i64 tk]] w fun e w' => e = .returned (.int .i64 2) ∧ Below w.heap.size w w' := by
  have i1 : decide ((oh + n * (oc + -100) - (th + n * tc)).natAbs < (oh + n * (oc + 100) - (th + n * tc)).natAbs) = false := by simp only [decide_eq_false_iff_not]; omega
  have i2 : (((oh + n * (oc + 100) - (th + n * tc)).natAbs : Int) == ((oh + n * (oc + -100) - (th + n * tc)).natAbs : Int)) = true := by simp only [beq_iff_eq]; omega
  have i3 : (oh + n * (oc + 100) - (th + n * tc)).natAbs ≤ (oh + n * (oc + -100) - (th + n * tc)).natAbs := by omega
  clear hd
  have g6 := mulBd (s := n) (d := oc + 100) (A := 1001000) (B := 300) (by omega) (by omega) (by omega) (by omega) (by omega) (by omega)
  have g7 := mulBd (s := n) (d := oc + -100) (A := 1001000) (B := 300) (by omega) (by omega) (by omega) (by omega) (by omega) (by omega)
  have g8 := mulBd (s := n) (d := tc) (A := 1001000) (B := 300) (by omega) (by omega) (by omega) (by omega) (by omega) (by omega)
  go_enter Try.func113, Try.ntmps113
  go_wp2_with fail
  obtain ⟨W, hW⟩ : ∃ W, W = ((w.alloc (Obj.cells #[.int .i64 oi, .int .i64 oh, .int .i64 oc, .int .i64 os, .int .i64 near, .int .i64 wi] 145)).alloc (Obj.cells #[.int .i64 ti, .int .i64 th, .int .i64 tc, .int .i64 ts, .int .i64 tf, .int .i64 tk] 149)) := ⟨_, rfl⟩
  rw [← hW]
  have K0 : Hid (Blk W (w.heap.size) [.int .i64 oi, .int .i64 oh, .int .i64 oc, .int .i64 os, .int .i64 near, .int .i64 wi]) := hide (by rw [hW]; exact blkAt2_0)
  have K1 : Hid (Blk W (w.heap.size + 1) [.int .i64 ti, .int .i64 th, .int .i64 tc, .int .i64 ts, .int .i64 tf, .int .i64 tk]) := hide (by rw [hW]; exact blkAt2_1)
  have B0 : Hid (Below w.heap.size w W) := hide (by rw [hW]; exact (by repeat (first | exact Below.refl _ _ | refine Below.alloc ?_ (by simp; try omega) _ | refine Below.setCell ?_ (by simp; try omega) _ | refine taDr ?_ _)))
  clear hW
  obtain ⟨ι, fW, _, hb, hall⟩ := belClass W
  have HB := hide hb
  have HA := hide hall
  have c00 : ∀ x, (fW x).cell? ⟨w.heap.size, 0, none⟩ = some (.int .i64 oi) := fun x => ((unhide K0).below (hb x)).c 0 (by simp)
  have c01 : ∀ x, (fW x).cell? ⟨w.heap.size, 1, none⟩ = some (.int .i64 oh) := fun x => ((unhide K0).below (hb x)).c 1 (by simp)
  have c02 : ∀ x, (fW x).cell? ⟨w.heap.size, 2, none⟩ = some (.int .i64 oc) := fun x => ((unhide K0).below (hb x)).c 2 (by simp)
  have c03 : ∀ x, (fW x).cell? ⟨w.heap.size, 3, none⟩ = some (.int .i64 os) := fun x => ((unhide K0).below (hb x)).c 3 (by simp)
  have c04 : ∀ x, (fW x).cell? ⟨w.heap.size, 4, none⟩ = some (.int .i64 near) := fun x => ((unhide K0).below (hb x)).c 4 (by simp)
  have c05 : ∀ x, (fW x).cell? ⟨w.heap.size, 5, none⟩ = some (.int .i64 wi) := fun x => ((unhide K0).below (hb x)).c 5 (by simp)
  have c10 : ∀ x, (fW x).cell? ⟨w.heap.size + 1, 0, none⟩ = some (.int .i64 ti) := fun x => ((unhide K1).below (hb x)).c 0 (by simp)
  have c11 : ∀ x, (fW x).cell? ⟨w.heap.size + 1, 1, none⟩ = some (.int .i64 th) := fun x => ((unhide K1).below (hb x)).c 1 (by simp)
  have c12 : ∀ x, (fW x).cell? ⟨w.heap.size + 1, 2, none⟩ = some (.int .i64 tc) := fun x => ((unhide K1).below (hb x)).c 2 (by simp)
  have c13 : ∀ x, (fW x).cell? ⟨w.heap.size + 1, 3, none⟩ = some (.int .i64 ts) := fun x => ((unhide K1).below (hb x)).c 3 (by simp)
  have c14 : ∀ x, (fW x).cell? ⟨w.heap.size + 1, 4, none⟩ = some (.int .i64 tf) := fun x => ((unhide K1).below (hb x)).c 4 (by simp)
  have c15 : ∀ x, (fW x).cell? ⟨w.heap.size + 1, 5, none⟩ = some (.int .i64 tk) := fun x => ((unhide K1).below (hb x)).c 5 (by simp)
  clear hb hall
  obtain ⟨x0, h0⟩ := (unhide HA) W (Below.refl _ _)
  rw [h0]
  clear h0
  go_wp2_with (first | (go_at_call 83; refine (belA3 (unhide HB) (unhide HA) (ticks_al _ _ _ _ _ _ _ (unhide HN) (unhide HT))).mono ?_; rintro e _ ⟨rfl, y, rfl⟩) | (go_at_call 111; refine (belA1 (unhide HB) (unhide HA) (heightIn_al _ _ _ _ _ _ (by omega) (by omega) (by omega) rfl)).mono ?_; rintro e _ ⟨rfl, y, rfl⟩) | (go_at_call 145; refine (belA2 (unhide HB) (unhide HA) (pushed_al _ _ _ _ _ _ (by omega) (by omega) rfl)).mono ?_; rintro e _ ⟨rfl, y, rfl⟩) | (go_at_call 98; refine (belS (taSize _ _ (by omega) rfl)).mono ?_; rintro e _ ⟨rfl, y, rfl⟩) | (go_at_call 146; refine (belA2 (unhide HB) (unhide HA) (standsOver_al _ _ _ _ _ _ _ _ _ (by exact q5))).mono ?_; rintro e _ ⟨rfl, y, rfl⟩))
  repeat (refine wp_region_bel (fun w' h => (unhide HA) w' ((unhide HB _).trans (h.mono (unhide HB _).size))) (by kernel_rfl) (by kernel_rfl) ?_; (repeat (go_big_quiet_step (first | (go_at_call 83; exact belA3 (unhide HB) (unhide HA) (ticks_al _ _ _ _ _ _ _ (unhide HN) (unhide HT))) | (go_at_call 111; exact belA1 (unhide HB) (unhide HA) (heightIn_al _ _ _ _ _ _ (by omega) (by omega) (by omega) rfl)) | (go_at_call 145; exact belA2 (unhide HB) (unhide HA) (pushed_al _ _ _ _ _ _ (by omega) (by omega) rfl)) | (go_at_call 98; exact belS (taSize _ _ (by omega) rfl)) | (go_at_call 146; exact belA2 (unhide HB) (unhide HA) (standsOver_al _ _ _ _ _ _ _ _ _ (by exact q5)))))); refine wpQuiet_nil ?_; rintro _ ⟨y, rfl⟩; (first | go_wp2_with (first | (go_at_call 83; refine (belA3 (unhide HB) (unhide HA) (ticks_al _ _ _ _ _ _ _ (unhide HN) (unhide HT))).mono ?_; rintro e _ ⟨rfl, y, rfl⟩) | (go_at_call 111; refine (belA1 (unhide HB) (unhide HA) (heightIn_al _ _ _ _ _ _ (by omega) (by omega) (by omega) rfl)).mono ?_; rintro e _ ⟨rfl, y, rfl⟩) | (go_at_call 145; refine (belA2 (unhide HB) (unhide HA) (pushed_al _ _ _ _ _ _ (by omega) (by omega) rfl)).mono ?_; rintro e _ ⟨rfl, y, rfl⟩) | (go_at_call 98; refine (belS (taSize _ _ (by omega) rfl)).mono ?_; rintro e _ ⟨rfl, y, rfl⟩) | (go_at_call 146; refine (belA2 (unhide HB) (unhide HA) (standsOver_al _ _ _ _ _ _ _ _ _ (by exact q5))).mono ?_; rintro e _ ⟨rfl, y, rfl⟩)) | go_wp2))
  go_ret
  exact ⟨rfl, (unhide B0).trans ((unhide HB _).mono (unhide B0).size)⟩

set_option maxRecDepth 20000 in
set_option maxHeartbeats 2000000 in
theorem freeSense_is {r : Int} (oi oh oc os ti th tc tf tk ts near wi : Int) (w : World) (ht : thB oi oh oc os ti th tc tf tk ts near wi = true) (hc : frS oi oh oc ti th tc (tiN ti th tc tf tk ts) = r) :
    Calls Try.prog 113 #[.agg #[.int .i64 oi, .int .i64 oh, .int .i64 oc, .int .i64 os, .int .i64 near, .int .i64 wi], .agg #[.int .i64 ti, .int .i64 th, .int .i64 tc, .int .i64 ts, .int .i64 tf, .int .i64 tk]] w fun e w' => e = .returned (.int .i64 r) ∧ Below w.heap.size w w' := by
  subst hc
  have g1 := thB_facts ht
  have g2 := avB_facts g1.2.1
  have g5 := avB_facts (tcB_facts (tiB_facts g1.1).1).1
  have nb := tiN_bd ti th tc tf tk ts
  obtain ⟨n, hn⟩ : ∃ n, tiN ti th tc tf tk ts = n := ⟨_, rfl⟩
  rw [hn] at nb
  rw [hn]
  rcases Nat.lt_trichotomy (dfN oh oc th tc n + 100 * n).natAbs (dfN oh oc th tc n - 100 * n).natAbs with k | k | k
  · rw [frS_down k]
    rw [← dfN_up, ← dfN_dn] at k
    exact freeSense_dn oi oh oc os ti th tc tf tk ts near wi n w (hide hn) (hide g1.1) nb g2.2.1 g2.2.2.1 g5.2.1 g5.2.2.1 k
  · rw [frS_same k]
    rw [← dfN_up, ← dfN_dn] at k
    by_cases e : th < oh ∨ oh = th ∧ ti < oi
    · rw [if_pos e]
      exact freeSense_s1 oi oh oc os ti th tc tf tk ts near wi n w (hide hn) (hide g1.1) nb g2.2.1 g2.2.2.1 g5.2.1 g5.2.2.1 k (decide_eq_true e)
    · rw [if_neg e]
      exact freeSense_s2 oi oh oc os ti th tc tf tk ts near wi n w (hide hn) (hide g1.1) nb g2.2.1 g2.2.2.1 g5.2.1 g5.2.2.1 k (decide_eq_false e)
  · rw [frS_up k]
    rw [← dfN_up, ← dfN_dn] at k
    exact freeSense_up oi oh oc os ti th tc tf tk ts near wi n w (hide hn) (hide g1.1) nb g2.2.1 g2.2.2.1 g5.2.1 g5.2.2.1 k

end Go.Proofs.Ytbaocifpifbldae
