/-
  What the model's RunJobs answers: the plain answer, in memory of its own; nothing that was there is written.
-/
import Derived.Test.YtndhiecakojjgazRmSt
namespace Go.Proofs.Ytndhiecakojjgaz
open Go.RowKit

theorem jb_no {pa : Int} {x0 x1 x2 : Int} : jbB pa ⟨x0, x1, x2⟩ = (inB x0 0 (pa - 1) && inB x1 1 100000 && inB x2 1 100000) := rfl
theorem rjBe_yes {js : List Jb} {lf cm : List Int} {who N : Int} {k : Nat} (hN : rjBe js lf cm who k = N) (h0 : (elAt js k).a0 = who) (h3 : 0 < nth lf k) (h : N < 0 ∨ nth cm k < nth cm N.toNat) : rjBe js lf cm who (k + 1) = (k : Int) := by
  rw [rjBe, hN, if_pos ⟨h0, h3, h⟩]
theorem rjBe_no {js : List Jb} {lf cm : List Int} {who N : Int} {k : Nat} (hN : rjBe js lf cm who k = N) (h : ¬ ((elAt js k).a0 = who ∧ 0 < nth lf k ∧ (N < 0 ∨ nth cm k < nth cm N.toNat))) : rjBe js lf cm who (k + 1) = N := by
  rw [rjBe, hN, if_neg h]
theorem rjGo_none {js : List Jb} {who t : Int} {s : RjS} (hw : ¬ 0 ≤ who) (e : rjBe js (rjLf js t s.lf js.length) (rjCm js t s.cm js.length) who js.length = -1) : rjGo js who t s = ⟨rjLt js t s.lt s.lf js.length, rjLf js t s.lf js.length, rjCm js t s.cm js.length, s.idl⟩ := by
  unfold rjGo
  rw [e, if_neg (by omega), if_neg hw]
theorem rj_step_no {js : List Jb} {t : Int} {lt lf cm : List Int} {k : Nat} (h : ¬ t % (elAt js k).a1 = 0) : rjLt js t lt lf (k + 1) = rjLt js t lt lf k ∧ rjLf js t lf (k + 1) = rjLf js t lf k ∧ rjCm js t cm (k + 1) = rjCm js t cm k := by
  have e : rjC js t k = false := by rw [rjC]; exact decide_eq_false h
  simp [rjLt, rjLf, rjCm, e]
theorem rj_step_late {js : List Jb} {t : Int} {lt lf cm : List Int} {k : Nat} (h : t % (elAt js k).a1 = 0) (h2 : 0 < nth lf k) : rjLt js t lt lf (k + 1) = (rjLt js t lt lf k).set k (nth lt k + 1) ∧ rjLf js t lf (k + 1) = (rjLf js t lf k).set k (elAt js k).a2 ∧ rjCm js t cm (k + 1) = (rjCm js t cm k).set k t := by
  have e : rjC js t k = true := by rw [rjC]; exact decide_eq_true h
  simp [rjLt, rjLf, rjCm, e, h2]
theorem rj_step_fine {js : List Jb} {t : Int} {lt lf cm : List Int} {k : Nat} (h : t % (elAt js k).a1 = 0) (h2 : ¬ 0 < nth lf k) : rjLt js t lt lf (k + 1) = rjLt js t lt lf k ∧ rjLf js t lf (k + 1) = (rjLf js t lf k).set k (elAt js k).a2 ∧ rjCm js t cm (k + 1) = (rjCm js t cm k).set k t := by
  have e : rjC js t k = true := by rw [rjC]; exact decide_eq_true h
  simp [rjLt, rjLf, rjCm, e, h2]

set_option maxRecDepth 20000 in
set_option maxHeartbeats 8000000 in
theorem specRunJobs_is (fr pa : Int) (da : Option Addr) (dn dc : Nat) (ws : List Wn) (ja : Option Addr) (jn jc : Nat) (js : List Jb) (tk : Int) (w : World) (hr : RowE 3 wnC w da dn ws) (hrj : RowE 3 jbC w ja jn js) :
    Calls Try.prog 25 #[.agg #[.int .i64 fr, .int .i64 pa, .slice da dn dc], .slice ja jn jc, .int .i64 tk] w fun e w' => ∃ (a1 : Option Addr) (c1 : Nat), e = .returned (.tuple #[.slice a1 (rjL fr pa ws js tk).length c1, .int .i64 (rjI fr pa ws js tk), .bool (rjB fr pa ws js tk)]) ∧ OwnI w' w.heap.size (.slice a1 (rjL fr pa ws js tk).length c1) (rjL fr pa ws js tk) ∧ Below w.heap.size w w' := by
  have hz := hr.len_eq
  have hs := hr.small
  have HR := hide hr
  have HRJ := hide hrj
  have hzj := hrj.len_eq
  clear hr hrj
  subst hz
  subst hzj
  rcases three (ppB fr pa ws) (decide (js.length ≤ 20)) (inB tk 0 5000) with ⟨q1, hv⟩ | ⟨q1, q2, hv⟩ | ⟨q1, q2, q3, hv⟩ | ⟨q1, q2, q3, hv⟩
  · have HN : Hid (rjB fr pa ws js tk = false) := hide (by rw [rjB, hv, Bool.false_and])
    have HE := hide (rj_no (unhide HN))
    clear hv
    go_enter Try.func25, Try.ntmps25
    go_wp2_with fail
    obtain ⟨W, hW⟩ : ∃ W, W = (w.alloc (Obj.cells #[.int .i64 fr, .int .i64 pa, .slice da ws.length dc] 35)) := ⟨_, rfl⟩
    rw [← hW]
    have K0 : Hid (Blk W (w.heap.size) [.int .i64 fr, .int .i64 pa, .slice da ws.length dc]) := hide (by rw [hW]; exact Blk.new _ _)
    have B0 : Hid (Below w.heap.size w W) := hide (by rw [hW]; exact (by repeat (first | exact Below.refl _ _ | refine Below.alloc ?_ (by simp; try omega) _ | refine Below.setCell ?_ (by simp; try omega) _ | refine taDr ?_ _)))
    clear hW
    obtain ⟨ι, fW, _, hb, hall⟩ := belClass W
    have HB := hide hb
    have HA := hide hall
    have c00 : ∀ x, (fW x).cell? ⟨w.heap.size, 0, none⟩ = some (.int .i64 fr) := fun x => ((unhide K0).below (hb x)).c 0 (by simp)
    have c01 : ∀ x, (fW x).cell? ⟨w.heap.size, 1, none⟩ = some (.int .i64 pa) := fun x => ((unhide K0).below (hb x)).c 1 (by simp)
    have c02 : ∀ x, (fW x).cell? ⟨w.heap.size, 2, none⟩ = some (.slice da ws.length dc) := fun x => ((unhide K0).below (hb x)).c 2 (by simp)
    clear hb hall
    obtain ⟨x0, h0⟩ := (unhide HA) W (Below.refl _ _)
    rw [h0]
    clear h0
    go_wp2_with (first | (go_at_call 16; refine (belQ (unhide HB) (unhide HA) (specPlanOk_is _ _ _ _ _ ws _ ((unhide HR).below ((unhide B0).trans ((unhide HB _).mono (unhide B0).size))) (by exact q1))).mono ?_; rintro e _ ⟨rfl, y, rfl⟩))
    repeat (refine wp_region_bel (fun w' h => (unhide HA) w' ((unhide HB _).trans (h.mono (unhide HB _).size))) (by kernel_rfl) (by kernel_rfl) ?_; (repeat (go_big_quiet_step (first | (go_at_call 16; exact belQ (unhide HB) (unhide HA) (specPlanOk_is _ _ _ _ _ ws _ ((unhide HR).below ((unhide B0).trans ((unhide HB _).mono (unhide B0).size))) (by exact q1)))))); refine wpQuiet_nil ?_; rintro _ ⟨y, rfl⟩; (first | go_wp2_with (first | (go_at_call 16; refine (belQ (unhide HB) (unhide HA) (specPlanOk_is _ _ _ _ _ ws _ ((unhide HR).below ((unhide B0).trans ((unhide HB _).mono (unhide B0).size))) (by exact q1))).mono ?_; rintro e _ ⟨rfl, y, rfl⟩)) | go_wp2))
    go_ret3
    rw [(unhide HE).1, (unhide HE).2, unhide HN]
    refine ⟨some ⟨(fW y).heap.size, 0, none⟩, 0, rfl, ?_, ?_⟩
    · exact (ownI_none (w := fW y) (Nat.le_refl _)).mono ((unhide B0).trans ((unhide HB _).mono (unhide B0).size)).size
    · exact ((unhide B0).trans ((unhide HB _).mono (unhide B0).size)).alloc ((unhide B0).trans ((unhide HB _).mono (unhide B0).size)).size _
  · have HN : Hid (rjB fr pa ws js tk = false) := hide (by rw [rjB, hv, Bool.false_and])
    have HE := hide (rj_no (unhide HN))
    clear hv
    have l1 : ¬ js.length ≤ 20 := of_decide_eq_false q2
    have l2 : (20 : Int) < (js.length : Int) := by omega
    go_enter Try.func25, Try.ntmps25
    go_wp2_with fail
    obtain ⟨W, hW⟩ : ∃ W, W = (w.alloc (Obj.cells #[.int .i64 fr, .int .i64 pa, .slice da ws.length dc] 35)) := ⟨_, rfl⟩
    rw [← hW]
    have K0 : Hid (Blk W (w.heap.size) [.int .i64 fr, .int .i64 pa, .slice da ws.length dc]) := hide (by rw [hW]; exact Blk.new _ _)
    have B0 : Hid (Below w.heap.size w W) := hide (by rw [hW]; exact (by repeat (first | exact Below.refl _ _ | refine Below.alloc ?_ (by simp; try omega) _ | refine Below.setCell ?_ (by simp; try omega) _ | refine taDr ?_ _)))
    clear hW
    obtain ⟨ι, fW, _, hb, hall⟩ := belClass W
    have HB := hide hb
    have HA := hide hall
    have c00 : ∀ x, (fW x).cell? ⟨w.heap.size, 0, none⟩ = some (.int .i64 fr) := fun x => ((unhide K0).below (hb x)).c 0 (by simp)
    have c01 : ∀ x, (fW x).cell? ⟨w.heap.size, 1, none⟩ = some (.int .i64 pa) := fun x => ((unhide K0).below (hb x)).c 1 (by simp)
    have c02 : ∀ x, (fW x).cell? ⟨w.heap.size, 2, none⟩ = some (.slice da ws.length dc) := fun x => ((unhide K0).below (hb x)).c 2 (by simp)
    clear hb hall
    obtain ⟨x0, h0⟩ := (unhide HA) W (Below.refl _ _)
    rw [h0]
    clear h0
    go_wp2_with (first | (go_at_call 16; refine (belQ (unhide HB) (unhide HA) (specPlanOk_is _ _ _ _ _ ws _ ((unhide HR).below ((unhide B0).trans ((unhide HB _).mono (unhide B0).size))) (by exact q1))).mono ?_; rintro e _ ⟨rfl, y, rfl⟩))
    repeat (refine wp_region_bel (fun w' h => (unhide HA) w' ((unhide HB _).trans (h.mono (unhide HB _).size))) (by kernel_rfl) (by kernel_rfl) ?_; (repeat (go_big_quiet_step (first | (go_at_call 16; exact belQ (unhide HB) (unhide HA) (specPlanOk_is _ _ _ _ _ ws _ ((unhide HR).below ((unhide B0).trans ((unhide HB _).mono (unhide B0).size))) (by exact q1)))))); refine wpQuiet_nil ?_; rintro _ ⟨y, rfl⟩; (first | go_wp2_with (first | (go_at_call 16; refine (belQ (unhide HB) (unhide HA) (specPlanOk_is _ _ _ _ _ ws _ ((unhide HR).below ((unhide B0).trans ((unhide HB _).mono (unhide B0).size))) (by exact q1))).mono ?_; rintro e _ ⟨rfl, y, rfl⟩)) | go_wp2))
    go_ret3
    rw [(unhide HE).1, (unhide HE).2, unhide HN]
    refine ⟨some ⟨(fW y).heap.size, 0, none⟩, 0, rfl, ?_, ?_⟩
    · exact (ownI_none (w := fW y) (Nat.le_refl _)).mono ((unhide B0).trans ((unhide HB _).mono (unhide B0).size)).size
    · exact ((unhide B0).trans ((unhide HB _).mono (unhide B0).size)).alloc ((unhide B0).trans ((unhide HB _).mono (unhide B0).size)).size _
  · have HN : Hid (rjB fr pa ws js tk = false) := hide (by rw [rjB, hv, Bool.false_and])
    have HE := hide (rj_no (unhide HN))
    clear hv
    have l1 : js.length ≤ 20 := of_decide_eq_true q2
    have l2 : ¬ (20 : Int) < (js.length : Int) := by omega
    go_enter Try.func25, Try.ntmps25
    go_wp2_with fail
    obtain ⟨W, hW⟩ : ∃ W, W = (w.alloc (Obj.cells #[.int .i64 fr, .int .i64 pa, .slice da ws.length dc] 35)) := ⟨_, rfl⟩
    rw [← hW]
    have K0 : Hid (Blk W (w.heap.size) [.int .i64 fr, .int .i64 pa, .slice da ws.length dc]) := hide (by rw [hW]; exact Blk.new _ _)
    have B0 : Hid (Below w.heap.size w W) := hide (by rw [hW]; exact (by repeat (first | exact Below.refl _ _ | refine Below.alloc ?_ (by simp; try omega) _ | refine Below.setCell ?_ (by simp; try omega) _ | refine taDr ?_ _)))
    clear hW
    obtain ⟨ι, fW, _, hb, hall⟩ := belClass W
    have HB := hide hb
    have HA := hide hall
    have c00 : ∀ x, (fW x).cell? ⟨w.heap.size, 0, none⟩ = some (.int .i64 fr) := fun x => ((unhide K0).below (hb x)).c 0 (by simp)
    have c01 : ∀ x, (fW x).cell? ⟨w.heap.size, 1, none⟩ = some (.int .i64 pa) := fun x => ((unhide K0).below (hb x)).c 1 (by simp)
    have c02 : ∀ x, (fW x).cell? ⟨w.heap.size, 2, none⟩ = some (.slice da ws.length dc) := fun x => ((unhide K0).below (hb x)).c 2 (by simp)
    clear hb hall
    obtain ⟨x0, h0⟩ := (unhide HA) W (Below.refl _ _)
    rw [h0]
    clear h0
    go_wp2_with (first | (go_at_call 16; refine (belQ (unhide HB) (unhide HA) (specPlanOk_is _ _ _ _ _ ws _ ((unhide HR).below ((unhide B0).trans ((unhide HB _).mono (unhide B0).size))) (by exact q1))).mono ?_; rintro e _ ⟨rfl, y, rfl⟩) | (go_at_call 40; refine (belS (l1In_is _ _ _ _ (by exact q3))).mono ?_; rintro e _ ⟨rfl, y, rfl⟩))
    repeat (refine wp_region_bel (fun w' h => (unhide HA) w' ((unhide HB _).trans (h.mono (unhide HB _).size))) (by kernel_rfl) (by kernel_rfl) ?_; (repeat (go_big_quiet_step (first | (go_at_call 16; exact belQ (unhide HB) (unhide HA) (specPlanOk_is _ _ _ _ _ ws _ ((unhide HR).below ((unhide B0).trans ((unhide HB _).mono (unhide B0).size))) (by exact q1))) | (go_at_call 40; exact belS (l1In_is _ _ _ _ (by exact q3)))))); refine wpQuiet_nil ?_; rintro _ ⟨y, rfl⟩; (first | go_wp2_with (first | (go_at_call 16; refine (belQ (unhide HB) (unhide HA) (specPlanOk_is _ _ _ _ _ ws _ ((unhide HR).below ((unhide B0).trans ((unhide HB _).mono (unhide B0).size))) (by exact q1))).mono ?_; rintro e _ ⟨rfl, y, rfl⟩) | (go_at_call 40; refine (belS (l1In_is _ _ _ _ (by exact q3))).mono ?_; rintro e _ ⟨rfl, y, rfl⟩)) | go_wp2))
    go_ret3
    rw [(unhide HE).1, (unhide HE).2, unhide HN]
    refine ⟨some ⟨(fW y).heap.size, 0, none⟩, 0, rfl, ?_, ?_⟩
    · exact (ownI_none (w := fW y) (Nat.le_refl _)).mono ((unhide B0).trans ((unhide HB _).mono (unhide B0).size)).size
    · exact ((unhide B0).trans ((unhide HB _).mono (unhide B0).size)).alloc ((unhide B0).trans ((unhide HB _).mono (unhide B0).size)).size _
  · have HV := hide (show (ppB fr pa ws && decide (js.length ≤ 20) && inB tk 0 5000) = true from hv)
    have l1 : js.length ≤ 20 := of_decide_eq_true q2
    have l2 : ¬ (20 : Int) < (js.length : Int) := by omega
    have f0 := ppB_facts q1
    have f2 := f0.2.1
    have htk := in_facts q3
    obtain ⟨T, rfl⟩ : ∃ T : Nat, tk = (T : Int) := ⟨tk.toNat, by omega⟩
    have hT : T ≤ 5000 := by omega
    have HPP := hide q1
    clear f0 htk hv
    go_enter Try.func25, Try.ntmps25
    go_wp2_with fail
    obtain ⟨W, hW⟩ : ∃ W, W = (w.alloc (Obj.cells #[.int .i64 fr, .int .i64 pa, .slice da ws.length dc] 35)) := ⟨_, rfl⟩
    rw [← hW]
    have K0 : Hid (Blk W (w.heap.size) [.int .i64 fr, .int .i64 pa, .slice da ws.length dc]) := hide (by rw [hW]; exact Blk.new _ _)
    have B0 : Hid (Below w.heap.size w W) := hide (by rw [hW]; exact (by repeat (first | exact Below.refl _ _ | refine Below.alloc ?_ (by simp; try omega) _ | refine Below.setCell ?_ (by simp; try omega) _ | refine taDr ?_ _)))
    clear hW
    obtain ⟨ι, fW, _, hb, hall⟩ := belClass W
    have HB := hide hb
    have HA := hide hall
    have c00 : ∀ x, (fW x).cell? ⟨w.heap.size, 0, none⟩ = some (.int .i64 fr) := fun x => ((unhide K0).below (hb x)).c 0 (by simp)
    have c01 : ∀ x, (fW x).cell? ⟨w.heap.size, 1, none⟩ = some (.int .i64 pa) := fun x => ((unhide K0).below (hb x)).c 1 (by simp)
    have c02 : ∀ x, (fW x).cell? ⟨w.heap.size, 2, none⟩ = some (.slice da ws.length dc) := fun x => ((unhide K0).below (hb x)).c 2 (by simp)
    clear hb hall
    obtain ⟨x0, h0⟩ := (unhide HA) W (Below.refl _ _)
    rw [h0]
    clear h0
    go_upto_region 3 with (first | (go_at_call 16; refine (belQ (unhide HB) (unhide HA) (specPlanOk_is _ _ _ _ _ ws _ ((unhide HR).below ((unhide B0).trans ((unhide HB _).mono (unhide B0).size))) (by exact q1))).mono ?_; rintro e _ ⟨rfl, y, rfl⟩) | (go_at_call 40; refine (belS (l1In_is _ _ _ _ (by exact q3))).mono ?_; rintro e _ ⟨rfl, y, rfl⟩))
    go_wp2_with fail
    go_loopw [9] (fun s9 wr => ∃ (k : Nat) (x : ι), k ≤ js.length ∧ s9 = .int .i64 (k : Int) ∧ Hid (∀ j, j < k → jbB pa (elAt js j) = true) ∧ wr = fW x) (fun s9 _ => js.length - (intOf s9).toNat)
    case atStart => exact ⟨0, _, Nat.zero_le _, rfl, hide (fun j hj => by omega), rfl⟩
    case round =>
      obtain ⟨k, x, hk, rfl, HJ, rfl⟩ := hrel
      by_cases hlt : k < js.length
      · have k0 : (0 : Int) ≤ (k : Int) := by omega
        have k1 : (k : Int) < (js.length : Int) := by omega
        rcases (((unhide HRJ).below ((unhide B0).trans ((unhide HB x).mono (unhide B0).size))).jb3) with ⟨z0, _⟩ | ⟨bb, off, rfl, _, _⟩
        · omega
        obtain ⟨z0, hz0⟩ : ∃ z, (elAt js k).a0 = z := ⟨_, rfl⟩
        obtain ⟨z1, hz1⟩ : ∃ z, (elAt js k).a1 = z := ⟨_, rfl⟩
        obtain ⟨z2, hz2⟩ : ∃ z, (elAt js k).a2 = z := ⟨_, rfl⟩
        have HXX : Hid (elAt js k = ⟨z0, z1, z2⟩) := hide (by rw [← hz0, ← hz1, ← hz2])
        have HRB := unhide HRJ
        have hc3 : ∀ x, (fW x).cell? ⟨bb, off + k * 3, none⟩ = some (.int .i64 z0) ∧ (fW x).cell? ⟨bb, off + k * 3 + 1, none⟩ = some (.int .i64 z1) ∧ (fW x).cell? ⟨bb, off + k * 3 + 2, none⟩ = some (.int .i64 z2) := fun x => by
          rw [← hz0, ← hz1, ← hz2]
          rcases ((HRB.below ((unhide B0).trans ((unhide HB x).mono (unhide B0).size))).jb3) with ⟨q0, _⟩ | ⟨b2, o2, e2, _, hcs⟩
          · omega
          · simp only [Option.some.injEq, Addr.mk.injEq, and_true] at e2
            obtain ⟨rfl, rfl⟩ := e2
            exact hcs k hlt
        have m0 := fun x => (hc3 x).1
        have m1 := fun x => (hc3 x).2.1
        have m2 := fun x => (hc3 x).2.2
        clear hc3 hz0 hz1 hz2 HRB
        rcases three (inB z0 0 (pa - 1)) (inB z1 1 100000) (inB z2 1 100000) with ⟨q5, hv4⟩ | ⟨q5, q6, hv4⟩ | ⟨q5, q6, q7, hv4⟩ | ⟨q5, q6, q7, hv4⟩
        · have HN : Hid (rjB fr pa ws js (T : Int) = false) := hide (by rw [rjB, jbAll_no hlt (by rw [unhide HXX]; exact hv4), Bool.and_false])
          have HE := hide (rj_no (unhide HN))
          go_wp2_with fail
          (refine wp_region_bel (fun w' h => (unhide HA) w' ((unhide HB _).trans (h.mono (unhide HB _).size))) (by kernel_rfl) (by kernel_rfl) ?_; (repeat (go_big_quiet_step ((go_at_call 40; exact belS (l1In_is _ _ _ _ (by first | exact q5)))))); refine wpQuiet_nil ?_; rintro _ ⟨y9, rfl⟩)
          go_wp2_with fail
          go_ret3
          rw [(unhide HE).1, (unhide HE).2, unhide HN]
          refine ⟨some ⟨(fW y9).heap.size, 0, none⟩, 0, rfl, ?_, ?_⟩
          · exact (ownI_none (w := fW y9) (Nat.le_refl _)).mono ((unhide B0).trans ((unhide HB _).mono (unhide B0).size)).size
          · exact ((unhide B0).trans ((unhide HB _).mono (unhide B0).size)).alloc ((unhide B0).trans ((unhide HB _).mono (unhide B0).size)).size _
        · have HN : Hid (rjB fr pa ws js (T : Int) = false) := hide (by rw [rjB, jbAll_no hlt (by rw [unhide HXX]; exact hv4), Bool.and_false])
          have HE := hide (rj_no (unhide HN))
          go_wp2_with fail
          (refine wp_region_bel (fun w' h => (unhide HA) w' ((unhide HB _).trans (h.mono (unhide HB _).size))) (by kernel_rfl) (by kernel_rfl) ?_; (repeat (go_big_quiet_step ((go_at_call 40; exact belS (l1In_is _ _ _ _ (by first | exact q5 | exact q6)))))); refine wpQuiet_nil ?_; rintro _ ⟨y9, rfl⟩)
          go_wp2_with fail
          go_ret3
          rw [(unhide HE).1, (unhide HE).2, unhide HN]
          refine ⟨some ⟨(fW y9).heap.size, 0, none⟩, 0, rfl, ?_, ?_⟩
          · exact (ownI_none (w := fW y9) (Nat.le_refl _)).mono ((unhide B0).trans ((unhide HB _).mono (unhide B0).size)).size
          · exact ((unhide B0).trans ((unhide HB _).mono (unhide B0).size)).alloc ((unhide B0).trans ((unhide HB _).mono (unhide B0).size)).size _
        · have HN : Hid (rjB fr pa ws js (T : Int) = false) := hide (by rw [rjB, jbAll_no hlt (by rw [unhide HXX]; exact hv4), Bool.and_false])
          have HE := hide (rj_no (unhide HN))
          go_wp2_with fail
          (refine wp_region_bel (fun w' h => (unhide HA) w' ((unhide HB _).trans (h.mono (unhide HB _).size))) (by kernel_rfl) (by kernel_rfl) ?_; (repeat (go_big_quiet_step ((go_at_call 40; exact belS (l1In_is _ _ _ _ (by first | exact q5 | exact q6 | exact q7)))))); refine wpQuiet_nil ?_; rintro _ ⟨y9, rfl⟩)
          go_wp2_with fail
          go_ret3
          rw [(unhide HE).1, (unhide HE).2, unhide HN]
          refine ⟨some ⟨(fW y9).heap.size, 0, none⟩, 0, rfl, ?_, ?_⟩
          · exact (ownI_none (w := fW y9) (Nat.le_refl _)).mono ((unhide B0).trans ((unhide HB _).mono (unhide B0).size)).size
          · exact ((unhide B0).trans ((unhide HB _).mono (unhide B0).size)).alloc ((unhide B0).trans ((unhide HB _).mono (unhide B0).size)).size _
        go_wp2_with fail
        (refine wp_region_bel (fun w' h => (unhide HA) w' ((unhide HB _).trans (h.mono (unhide HB _).size))) (by kernel_rfl) (by kernel_rfl) ?_; (repeat (go_big_quiet_step ((go_at_call 40; exact belS (l1In_is _ _ _ _ (by first | exact q5 | exact q6 | exact q7)))))); refine wpQuiet_nil ?_; rintro _ ⟨y9, rfl⟩)
        go_wp2_with fail
        go_roundw
        case rel => exact ⟨k + 1, _, by omega, by go_num, hide (fun j hj => by rcases Nat.lt_succ_iff_lt_or_eq.1 hj with h | h; exact unhide HJ j h; subst h; rw [unhide HXX]; exact hv4), rfl⟩
        case measure => simp [intOf]; omega
      · have hkl : k = js.length := by omega
        have k1 : ¬ (k : Int) < (js.length : Int) := by omega
        have HJA := hide (jbAll_yes (pa := pa) (js := js) (fun j hj => unhide HJ j (by omega)))
        have HN : Hid (rjB fr pa ws js (T : Int) = true) := hide (by rw [rjB, unhide HV, unhide HJA]; rfl)
        clear hkl
        have mI := fun W => madeI_run (L := js.length) (by omega) W
        go_upto_region 11 with fail
        obtain ⟨G, hG⟩ : ∃ G, (fW x).heap.size = G := ⟨_, rfl⟩
        have BXx := (unhide B0).trans ((unhide HB x).mono (unhide B0).size)
        obtain ⟨V1, hV1⟩ : ∃ V, V = (fW x).alloc (Obj.cells (madeCells #[.int .i64 0] js.length) 3) := ⟨_, rfl⟩
        obtain ⟨V2, hV2⟩ : ∃ V, V = V1.alloc (Obj.cells (madeCells #[.int .i64 0] js.length) 3) := ⟨_, rfl⟩
        obtain ⟨V3, hV3⟩ : ∃ V, V = V2.alloc (Obj.cells (madeCells #[.int .i64 0] js.length) 3) := ⟨_, rfl⟩
        have s1 : V1.heap.size = G + 1 := by rw [hV1, ← hG]; simp
        have s2 : V2.heap.size = G + 1 + 1 := by rw [hV2, ← s1]; simp
        have b1 : Below (fW x).heap.size (fW x) V1 := by rw [hV1]; exact bel1 _
        have b2 : Below V1.heap.size V1 V2 := by rw [hV2]; exact bel1 _
        have b3 : Below V2.heap.size V2 V3 := by rw [hV3]; exact bel1 _
        have KM : Hid (RjM w V3 [.int .i64 fr, .int .i64 pa, .slice da ws.length dc] G (G + 1) (G + 1 + 1) js.length (List.replicate js.length 0) (List.replicate js.length 0) (List.replicate js.length 0)) := hide (by
          have a1 := madeI_own (fW x) (L := js.length) (base := w.heap.size) (by omega) BXx.size
          rw [← hV1, hG] at a1
          have a2 := madeI_own V1 (L := js.length) (base := w.heap.size) (by omega) (Nat.le_trans BXx.size b1.size)
          rw [← hV2, s1] at a2
          have a3 := madeI_own V2 (L := js.length) (base := w.heap.size) (by omega) (Nat.le_trans BXx.size (Nat.le_trans b1.size b2.size))
          rw [← hV3, s2] at a3
          have hP := ((unhide K0).below (unhide HB x)).lt
          refine ⟨(a1.below b2).below b3, a2.below b3, a3, by simp, by simp, by simp, by omega, ((((unhide K0).below (unhide HB x)).below b1).below b2).below b3, ?_⟩
          exact ((BXx.trans (b1.mono BXx.size)).trans (b2.mono (Nat.le_trans BXx.size b1.size))).trans (b3.mono (Nat.le_trans BXx.size (Nat.le_trans b1.size b2.size))))
        rw [hG, ← hV1, ← hV2, ← hV3]
        clear hG hV1 hV2 hV3 s1 s2 b1 b2 b3 BXx mI k1 c00 c01 c02
        have HJF := hide (rjB_facts (unhide HN)).2.2.2
        have HEE := hide (rj_yes (unhide HN))
        go_wp2_with fail
        go_loopw [13, 14] (fun s13 s14 wr => ∃ (t : Nat) (I : Int), t ≤ T ∧ (0 ≤ I ∧ I ≤ 5000) ∧ s13 = .int .i64 I ∧ s14 = .int .i64 (t : Int) ∧ Hid ((rjT fr pa ws js t).idl = I) ∧ Hid (RjM w wr [.int .i64 fr, .int .i64 pa, .slice da ws.length dc] G (G + 1) (G + 1 + 1) js.length (rjT fr pa ws js t).lt (rjT fr pa ws js t).lf (rjT fr pa ws js t).cm)) (fun _ s14 _ => T - (intOf s14).toNat)
        case atStart => exact ⟨0, 0, Nat.zero_le _, by omega, rfl, rfl, hide rfl, KM⟩
        case round =>
          clear KM
          obtain ⟨t, I, htT, hI, rfl, rfl, HI, HM⟩ := hrel
          have HIN := hide (rjT_in (fr := fr) (pa := pa) (ws := ws) (js := js) (fun k hk => (unhide HJF k hk).2.2) t)
          obtain ⟨S, hS⟩ : ∃ S, rjT fr pa ws js t = S := ⟨_, rfl⟩
          rw [hS] at HIN HM HI
          have HS := hide hS
          clear hS
          by_cases hlt : t < T
          · have t0 : (0 : Int) ≤ (t : Int) := by omega
            have t1 : (t : Int) < (T : Int) := by omega
            have hI2 : I ≤ (t : Int) := by rw [← unhide HI]; exact (unhide HIN).i1
            go_wp2_with fail
            go_loopw [15] (fun s15 wv => ∃ (i : Nat), i ≤ js.length ∧ s15 = .int .i64 (i : Int) ∧ Hid (RjM w wv [.int .i64 fr, .int .i64 pa, .slice da ws.length dc] G (G + 1) (G + 1 + 1) js.length (rjLt js (t : Int) S.lt S.lf i) (rjLf js (t : Int) S.lf i) (rjCm js (t : Int) S.cm i))) (fun s15 _ => js.length - (intOf s15).toNat)
            case atStart => exact ⟨0, Nat.zero_le _, rfl, HM⟩
            case round =>
              clear HM
              obtain ⟨i, hi, rfl, HM⟩ := hrel
              by_cases hil : i < js.length
              · have i0 : (0 : Int) ≤ (i : Int) := by omega
                have i1 : (i : Int) < (js.length : Int) := by omega
                rcases ((unhide HRJ).below (unhide HM).bel).jb3 with ⟨q0, _⟩ | ⟨bb, off, rfl, _, hcs⟩
                · omega
                obtain ⟨z1, hz1⟩ : ∃ z, (elAt js i).a1 = z := ⟨_, rfl⟩
                obtain ⟨z2, hz2⟩ : ∃ z, (elAt js i).a2 = z := ⟨_, rfl⟩
                obtain ⟨la, hla⟩ : ∃ z, nth S.lt i = z := ⟨_, rfl⟩
                obtain ⟨lf, hlf⟩ : ∃ z, nth S.lf i = z := ⟨_, rfl⟩
                have jz := unhide HJF i hil
                rw [hz1, hz2] at jz
                have bla := (unhide HIN).lt.2 i hil
                rw [hla] at bla
                have m1 := (hcs i hil).2.1
                rw [hz1] at m1
                have cc := (unhide HM).cells hil
                have e1 := rjLt_rest js (t : Int) S.lt S.lf js.length (unhide HIN).lt.1 i (by omega) i (Nat.le_refl _)
                have e2 := rjLf_rest js (t : Int) S.lf js.length (unhide HIN).lf.1 i (by omega) i (Nat.le_refl _)
                rw [e1, e2, hla, hlf] at cc
                have ca := cc.1.1
                have fa := cc.1.2
                have cb := cc.2.1.1
                have hn0 : ¬ z1 = 0 := by omega
                have htm : (t : Int).tmod z1 = (t : Int) % z1 := Int.tmod_eq_emod_of_nonneg t0
                obtain ⟨r, hr⟩ : ∃ r, (t : Int) % z1 = r := ⟨_, rfl⟩
                rw [hr] at htm
                have HZ1 := hide hz1
                have HZ2 := hide hz2
                have HLA := hide hla
                have HLF := hide hlf
                have HRR := hide hr
                clear hcs cc e1 e2 hz1 hz2 hla hlf hr
                by_cases q : r = 0
                · have qe : (r == 0) = true := by simp [q]
                  have HDU : Hid ((t : Int) % (elAt js i).a1 = 0) := hide (by rw [unhide HZ1, unhide HRR]; exact q)
                  clear q
                  by_cases ql : 0 < lf
                  · have HST := hide (rj_step_late (lt := S.lt) (lf := S.lf) (cm := S.cm) (unhide HDU) (by rw [unhide HLF]; exact ql))
                    rw [unhide HLA, unhide HZ2] at HST
                    go_upto_region 21 with fail
                    have KA := hide ((unhide HM).setA hil (x := la + 1) (by omega))
                    obtain ⟨U1, hU1⟩ : ∃ U, U = wr.setCell ⟨G, i, none⟩ (.int .i64 (la + 1)) := ⟨_, rfl⟩
                    rw [← hU1] at KA
                    rw [← hU1]
                    clear hU1 ca fa cb m1
                    have c1 := (unhide KA).cells hil
                    have fb := c1.2.1.2
                    have cb : ∃ v, U1.cell? ⟨G + 1, i, none⟩ = some (.int .i64 v) := ⟨_, c1.2.1.1⟩
                    obtain ⟨vb, cb⟩ := cb
                    rcases ((unhide HRJ).below (unhide KA).bel).jb3 with ⟨q0, _⟩ | ⟨bb2, off2, e9, _, hcs⟩
                    · omega
                    simp only [Option.some.injEq, Addr.mk.injEq, and_true] at e9
                    obtain ⟨rfl, rfl⟩ := e9
                    have m2 := (hcs i hil).2.2
                    rw [unhide HZ2] at m2
                    clear c1 hcs
                    go_upto_region 22 with fail
                    have KB := hide ((unhide KA).setB hil (x := z2) (by omega))
                    obtain ⟨U2, hU2⟩ : ∃ U, U = U1.setCell ⟨G + 1, i, none⟩ (.int .i64 z2) := ⟨_, rfl⟩
                    rw [← hU2] at KB
                    rw [← hU2]
                    clear hU2 fb cb m2
                    have c2 := (unhide KB).cells hil
                    have fc := c2.2.2.2
                    have cc : ∃ v, U2.cell? ⟨G + 1 + 1, i, none⟩ = some (.int .i64 v) := ⟨_, c2.2.2.1⟩
                    obtain ⟨vc, cc⟩ := cc
                    clear c2
                    have KC := hide ((unhide KB).setC hil (x := (t : Int)) (by omega))
                    go_wp2_with fail
                    go_roundw
                    case rel => exact ⟨i + 1, by omega, by go_num, by rw [(unhide HST).1, (unhide HST).2.1, (unhide HST).2.2]; exact KC⟩
                    case measure => simp [intOf]; omega
                  · have HST := hide (rj_step_fine (lt := S.lt) (lf := S.lf) (cm := S.cm) (unhide HDU) (by rw [unhide HLF]; exact ql))
                    rw [unhide HZ2] at HST
                    go_upto_region 21 with fail
                    have KA := HM
                    obtain ⟨U1, hU1⟩ : ∃ U, wr = U := ⟨_, rfl⟩
                    rw [hU1] at KA
                    rw [hU1]
                    clear hU1 ca fa cb m1
                    have c1 := (unhide KA).cells hil
                    have fb := c1.2.1.2
                    have cb : ∃ v, U1.cell? ⟨G + 1, i, none⟩ = some (.int .i64 v) := ⟨_, c1.2.1.1⟩
                    obtain ⟨vb, cb⟩ := cb
                    rcases ((unhide HRJ).below (unhide KA).bel).jb3 with ⟨q0, _⟩ | ⟨bb2, off2, e9, _, hcs⟩
                    · omega
                    simp only [Option.some.injEq, Addr.mk.injEq, and_true] at e9
                    obtain ⟨rfl, rfl⟩ := e9
                    have m2 := (hcs i hil).2.2
                    rw [unhide HZ2] at m2
                    clear c1 hcs
                    go_upto_region 22 with fail
                    have KB := hide ((unhide KA).setB hil (x := z2) (by omega))
                    obtain ⟨U2, hU2⟩ : ∃ U, U = U1.setCell ⟨G + 1, i, none⟩ (.int .i64 z2) := ⟨_, rfl⟩
                    rw [← hU2] at KB
                    rw [← hU2]
                    clear hU2 fb cb m2
                    have c2 := (unhide KB).cells hil
                    have fc := c2.2.2.2
                    have cc : ∃ v, U2.cell? ⟨G + 1 + 1, i, none⟩ = some (.int .i64 v) := ⟨_, c2.2.2.1⟩
                    obtain ⟨vc, cc⟩ := cc
                    clear c2
                    have KC := hide ((unhide KB).setC hil (x := (t : Int)) (by omega))
                    go_wp2_with fail
                    go_roundw
                    case rel => exact ⟨i + 1, by omega, by go_num, by rw [(unhide HST).1, (unhide HST).2.1, (unhide HST).2.2]; exact KC⟩
                    case measure => simp [intOf]; omega
                · have qe : (r == 0) = false := by simpa using q
                  have HST := hide (rj_step_no (lt := S.lt) (lf := S.lf) (cm := S.cm) (show ¬ (t : Int) % (elAt js i).a1 = 0 from by rw [unhide HZ1, unhide HRR]; exact q))
                  clear q
                  go_wp2_with fail
                  go_roundw
                  case rel => exact ⟨i + 1, by omega, by go_num, by rw [(unhide HST).1, (unhide HST).2.1, (unhide HST).2.2]; exact HM⟩
                  case measure => simp [intOf]; omega
              · have hil2 : i = js.length := by omega
                have i1 : ¬ (i : Int) < (js.length : Int) := by omega
                rw [hil2] at HM
                clear hil2
                obtain ⟨A, hA⟩ : ∃ A, A = rjLt js (t : Int) S.lt S.lf js.length := ⟨_, rfl⟩
                obtain ⟨B, hB⟩ : ∃ B, B = rjLf js (t : Int) S.lf js.length := ⟨_, rfl⟩
                obtain ⟨C, hC⟩ : ∃ C, C = rjCm js (t : Int) S.cm js.length := ⟨_, rfl⟩
                have hBl : inL B js.length 100000 := by rw [hB]; exact rjLf_in (unhide HIN).lf (fun k hk => (unhide HJF k hk).2.2) _ (Nat.le_refl _)
                rw [← hA, ← hB, ← hC] at HM
                have HBL := hide hBl
                have HA1 := hide hA
                have HB1 := hide hB
                have HC1 := hide hC
                obtain ⟨who, hwho⟩ : ∃ who, owR fr pa ws (t : Int) = who := ⟨_, rfl⟩
                have HWHO := hide hwho
                have HOB : Hid (owB fr pa ws (t : Int) = true) := hide (by simp only [owB, unhide HPP, inB, Bool.true_and, decide_eq_true_eq]; omega)
                have p0 : wr.cell? ⟨w.heap.size, 0, none⟩ = some (.int .i64 fr) := (unhide HM).blk.c 0 (by simp)
                have p1 : wr.cell? ⟨w.heap.size, 1, none⟩ = some (.int .i64 pa) := (unhide HM).blk.c 1 (by simp)
                have p2 : wr.cell? ⟨w.heap.size, 2, none⟩ = some (.slice da ws.length dc) := (unhide HM).blk.c 2 (by simp)
                clear hA hB hC hBl hwho
                go_upto_region 24 with (go_at_call 20; refine (specOwner_is _ _ _ _ _ ws _ _ ((unhide HR).below (unhide HM).bel) (unhide HWHO) (unhide HOB)).mono ?_; rintro e w10 ⟨rfl, b10⟩; have M10 := hide ((unhide HM).below b10); clear b10)
                clear p0 p1 p2
                obtain ⟨κ, gW, _, hb2, hall2⟩ := belClass w10
                have HB2 := hide hb2
                have HA2 := hide hall2
                obtain ⟨u0, h0⟩ := hall2 w10 (Below.refl _ _)
                rw [h0]
                clear h0 hb2 hall2
                go_wp2_with fail
                go_loopw [18, 19] (fun s18 s19 wv => ∃ (i : Nat) (N : Int) (x : κ), i ≤ js.length ∧ (-1 ≤ N ∧ N < (i : Int)) ∧ s18 = .int .i64 N ∧ s19 = .int .i64 (i : Int) ∧ Hid (rjBe js B C who i = N) ∧ wv = gW x) (fun _ s19 _ => js.length - (intOf s19).toNat)
                case atStart => exact ⟨0, -1, _, Nat.zero_le _, by omega, rfl, rfl, hide rfl, rfl⟩
                case round =>
                  obtain ⟨i, N, x, hi, hN, rfl, rfl, HBE, rfl⟩ := hrel
                  by_cases hil : i < js.length
                  · have i0 : (0 : Int) ≤ (i : Int) := by omega
                    have i1 : (i : Int) < (js.length : Int) := by omega
                    rcases (((unhide HRJ).below (unhide M10).bel).jb3) with ⟨q0, _⟩ | ⟨bb, off, rfl, _, hcs⟩
                    · omega
                    obtain ⟨z0, hz0⟩ : ∃ z, (elAt js i).a0 = z := ⟨_, rfl⟩
                    obtain ⟨lf, hlf⟩ : ∃ z, nth B i = z := ⟨_, rfl⟩
                    obtain ⟨cm, hcm⟩ : ∃ z, nth C i = z := ⟨_, rfl⟩
                    have n0 : ∀ x, (gW x).cell? ⟨bb, off + i * 3, none⟩ = some (.int .i64 z0) := fun x => by rw [← hz0]; exact ((unhide HB2 x).cell (block_lt_of_cell (hcs i hil).1)).trans (hcs i hil).1
                    have n1 : ∀ x, (gW x).cell? ⟨G + 1, i, none⟩ = some (.int .i64 lf) := fun x => by rw [← hlf]; exact (((unhide M10).below (unhide HB2 x)).cells hil).2.1.1
                    have n2 : ∀ x, (gW x).cell? ⟨G + 1 + 1, i, none⟩ = some (.int .i64 cm) := fun x => by rw [← hcm]; exact (((unhide M10).below (unhide HB2 x)).cells hil).2.2.1
                    have HZ0 := hide hz0
                    have HLF := hide hlf
                    have HCM := hide hcm
                    clear hcs hz0 hlf hcm
                    by_cases qz : z0 = who
                    · have e0 : (z0 == who) = true := by simpa using qz
                      by_cases q3 : 0 < lf
                      · have e3 : decide (0 < lf) = true := decide_eq_true q3
                        by_cases qn : N < 0
                        · have en : decide (N < 0) = true := decide_eq_true qn
                          go_wp2_with fail
                          (refine wp_region_bel (fun w' h => (unhide HA2) w' ((unhide HB2 _).trans (h.mono (unhide HB2 _).size))) (by kernel_rfl) (by kernel_rfl) ?_; (repeat (go_big_quiet_step (fail))); refine wpQuiet_nil ?_; rintro _ ⟨y, rfl⟩)
                          go_wp2_with fail
                          go_roundw
                          case rel => exact ⟨i + 1, (i : Int), _, by omega, by omega, rfl, by go_num, hide (rjBe_yes (unhide HBE) (by rw [unhide HZ0]; exact qz) (by rw [unhide HLF]; exact q3) (.inl qn)), rfl⟩
                          case measure => simp [intOf]; omega
                        · have en : decide (N < 0) = false := decide_eq_false qn
                          obtain ⟨b, rfl⟩ : ∃ b : Nat, N = (b : Int) := ⟨N.toNat, by omega⟩
                          have hbn : b < js.length := by omega
                          have b0 : (0 : Int) ≤ (b : Int) := by omega
                          have b1 : (b : Int) < (js.length : Int) := by omega
                          obtain ⟨z4, hz4⟩ : ∃ z, nth C b = z := ⟨_, rfl⟩
                          have zz : ∀ x, (gW x).cell? ⟨G + 1 + 1, b, none⟩ = some (.int .i64 z4) := fun x => by rw [← hz4]; exact (((unhide M10).below (unhide HB2 x)).cells hbn).2.2.1
                          have HZ4 := hide hz4
                          clear hz4
                          by_cases q4 : cm < z4
                          · have e4 : decide (cm < z4) = true := decide_eq_true q4
                            go_wp2_with fail
                            (refine wp_region_bel (fun w' h => (unhide HA2) w' ((unhide HB2 _).trans (h.mono (unhide HB2 _).size))) (by kernel_rfl) (by kernel_rfl) ?_; (repeat (go_big_quiet_step (fail))); refine wpQuiet_nil ?_; rintro _ ⟨y, rfl⟩)
                            go_wp2_with fail
                            go_roundw
                            case rel => exact ⟨i + 1, (i : Int), _, by omega, by omega, rfl, by go_num, hide (rjBe_yes (unhide HBE) (by rw [unhide HZ0]; exact qz) (by rw [unhide HLF]; exact q3) (.inr (by rw [Int.toNat_natCast, unhide HZ4, unhide HCM]; exact q4))), rfl⟩
                            case measure => simp [intOf]; omega
                          · have e4 : decide (cm < z4) = false := decide_eq_false q4
                            go_wp2_with fail
                            (refine wp_region_bel (fun w' h => (unhide HA2) w' ((unhide HB2 _).trans (h.mono (unhide HB2 _).size))) (by kernel_rfl) (by kernel_rfl) ?_; (repeat (go_big_quiet_step (fail))); refine wpQuiet_nil ?_; rintro _ ⟨y, rfl⟩)
                            go_wp2_with fail
                            go_roundw
                            case rel => exact ⟨i + 1, (b : Int), _, by omega, by omega, rfl, by go_num, hide (rjBe_no (unhide HBE) (fun h => by rcases h.2.2 with h | h; omega; rw [Int.toNat_natCast, unhide HZ4, unhide HCM] at h; omega)), rfl⟩
                            case measure => simp [intOf]; omega
                      · have e3 : decide (0 < lf) = false := decide_eq_false q3
                        go_wp2_with fail
                        (refine wp_region_bel (fun w' h => (unhide HA2) w' ((unhide HB2 _).trans (h.mono (unhide HB2 _).size))) (by kernel_rfl) (by kernel_rfl) ?_; (repeat (go_big_quiet_step (fail))); refine wpQuiet_nil ?_; rintro _ ⟨y, rfl⟩)
                        go_wp2_with fail
                        go_roundw
                        case rel => exact ⟨i + 1, N, _, by omega, by omega, rfl, by go_num, hide (rjBe_no (unhide HBE) (fun h => by have h2 := h.2.1; rw [unhide HLF] at h2; omega)), rfl⟩
                        case measure => simp [intOf]; omega
                    · have e0 : (z0 == who) = false := by simpa using qz
                      go_wp2_with fail
                      (refine wp_region_bel (fun w' h => (unhide HA2) w' ((unhide HB2 _).trans (h.mono (unhide HB2 _).size))) (by kernel_rfl) (by kernel_rfl) ?_; (repeat (go_big_quiet_step (fail))); refine wpQuiet_nil ?_; rintro _ ⟨y, rfl⟩)
                      go_wp2_with fail
                      go_roundw
                      case rel => exact ⟨i + 1, N, _, by omega, by omega, rfl, by go_num, hide (rjBe_no (unhide HBE) (fun h => by have h2 := h.1; rw [unhide HZ0] at h2; exact qz h2)), rfl⟩
                      case measure => simp [intOf]; omega
                  · have hil2 : i = js.length := by omega
                    have i1 : ¬ (i : Int) < (js.length : Int) := by omega
                    rw [hil2] at HBE hN
                    clear hil2
                    have hrb := unhide HBE
                    rw [unhide HB1, unhide HC1] at hrb
                    have hn1 : rjT fr pa ws js (t + 1) = rjGo js (owR fr pa ws (t : Int)) (t : Int) (rjT fr pa ws js t) := rfl
                    rw [unhide HWHO, unhide HS] at hn1
                    have MX := hide ((unhide M10).below (unhide HB2 x))
                    by_cases qn : 0 ≤ N
                    · obtain ⟨b, rfl⟩ : ∃ b : Nat, N = (b : Int) := ⟨N.toNat, by omega⟩
                      have HGO := hide (hn1.trans (rjGo_work hrb))
                      rw [← unhide HA1, ← unhide HB1, ← unhide HC1] at HGO
                      have hbn : b < js.length := by omega
                      have b0 : (0 : Int) ≤ (b : Int) := by omega
                      have b1 : (b : Int) < (js.length : Int) := by omega
                      have bl := (unhide HBL).2 b hbn
                      have cc := (unhide MX).cells hbn
                      have cb := cc.2.1.1
                      have fb := cc.2.1.2
                      obtain ⟨lf, hlf⟩ : ∃ z, nth B b = z := ⟨_, rfl⟩
                      rw [hlf] at cb bl
                      have MY := hide ((unhide MX).setB hbn (x := nth B b - 1) (by rw [hlf]; omega))
                      rw [hlf] at HGO MY
                      clear hn1 hrb cc hlf
                      go_wp2_with fail
                      go_roundw
                      case rel => exact ⟨t + 1, I, by omega, by omega, rfl, by go_num, hide (by rw [unhide HGO]; exact unhide HI), by rw [unhide HGO]; exact MY⟩
                      case measure => simp [intOf]; omega
                    · have hN1 : N = -1 := by omega
                      subst hN1
                      by_cases qw : 0 ≤ who
                      · have HGO := hide (hn1.trans (rjGo_idle qw hrb))
                        rw [← unhide HA1, ← unhide HB1, ← unhide HC1] at HGO
                        clear hn1 hrb
                        go_wp2_with fail
                        go_roundw
                        case rel => exact ⟨t + 1, I + 1, by omega, by omega, rfl, by go_num, hide (by rw [unhide HGO]; show S.idl + 1 = _; rw [unhide HI]), by rw [unhide HGO]; exact MX⟩
                        case measure => simp [intOf]; omega
                      · have HGO := hide (hn1.trans (rjGo_none qw hrb))
                        rw [← unhide HA1, ← unhide HB1, ← unhide HC1] at HGO
                        clear hn1 hrb
                        go_wp2_with fail
                        go_roundw
                        case rel => exact ⟨t + 1, I, by omega, by omega, rfl, by go_num, hide (by rw [unhide HGO]; exact unhide HI), by rw [unhide HGO]; exact MX⟩
                        case measure => simp [intOf]; omega
          · have hkl : t = T := by omega
            have t1 : ¬ (t : Int) < (T : Int) := by omega
            have HL2 : Hid (S.lt = rjL fr pa ws js (T : Int) ∧ I = rjI fr pa ws js (T : Int)) := hide (by
              rw [(unhide HEE).1, (unhide HEE).2, Int.toNat_natCast, ← hkl, unhide HS]
              exact ⟨rfl, (unhide HI).symm⟩)
            have HLL : Hid (js.length = (rjL fr pa ws js (T : Int)).length) := hide (by rw [← (unhide HL2).1]; exact (unhide HIN).lt.1.symm)
            clear hkl
            go_wp2_with fail
            go_ret3
            refine ⟨some ⟨G, 0, none⟩, js.length, ret_rj (by rw [← unhide HLL]; rfl) (unhide HL2).2 (unhide HN).symm, ?_, (unhide HM).bel⟩
            rw [← unhide HLL, ← (unhide HL2).1]
            exact (unhide HM).a

end Go.Proofs.Ytndhiecakojjgaz
