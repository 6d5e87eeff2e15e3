/-
  What the model's CarryOk answers: the plain answer, at every list; nothing that was there is written.
  What the model's small functions of maintenance answer: plain answers, at every argument; nothing that was there is written.
  The model's lesser and greater of two numbers; no memory is written. No condition.
  What the model's l19Behind and l19Left answer. No condition beyond sizes of numbers.
  What the model's FleetOk answers: the plain answer, at every fleet; nothing that was there is written.
-/
import Derived.Test.YtilahgifaglekbcMaPure
import Derived.Test.YtilahgifaglekbcNameIs
import Derived.Test.YtilahgifaglekbcBel1
import Derived.Laws.Cover1
import Derived.Test.YtilahgifaglekbcCkPure
import Derived.Test.YtilahgifaglekbcSmall
import Derived.Test.YtilahgifaglekbcFlIn

namespace Go.Proofs.Ytilahgifaglekbc
open Go Go.RowKit

set_option maxRecDepth 20000 in
set_option maxHeartbeats 4000000 in
theorem specCarryOk_any (a1 : Option Addr) (l1 c1 : Nat) (cs : List Cr) (w : World) (hr : RowE 3 crC w a1 l1 cs) (hf : ∀ i, fitT (elAt cs i).n) :
    Calls Try.prog 39 #[.slice a1 l1 c1] w fun e w' => e = .returned (.bool (caB cs)) ∧ Below w.heap.size w w' := by
  have hz := hr.len_eq
  have hsm := hr.small
  have HRcs := hide hr
  have HFcs := hide hf
  clear hr hf
  subst hz
  go_enter Try.func39, Try.ntmps39
  go_wp2_with fail
  go_loopw [3] (fun i wr => ∃ k : Nat, i = .int .i64 k ∧ k ≤ cs.length ∧ Hid (Below w.heap.size w wr) ∧ Hid (∀ j, j < k → crB (elAt cs j) = true) ∧ Hid (∀ j, j + 1 < k → sLt (elAt cs j).n (elAt cs (j + 1)).n = true)) (fun i _ => cs.length - (intOf i).toNat)
  case atStart => exact ⟨0, rfl, Nat.zero_le _, hide (Below.refl _ _), hide (fun j hj => by omega), hide (fun j hj => by omega)⟩
  case round =>
    obtain ⟨k, rfl, hk, BW, A1, A2⟩ := hrel
    by_cases hlt : k < cs.length
    · obtain ⟨bb, off, rfl, hc⟩ := ((unhide HRcs).below (unhide BW)).at_ k hlt
      have s0 : wr.cell? ⟨bb, off + k * 3, none⟩ = some (.string (elAt cs k).n) := hc 0 (by omega)
      have s1 : wr.cell? ⟨bb, off + k * 3 + 1, none⟩ = some (.int .i64 (elAt cs k).m) := hc 1 (by omega)
      have s2 : wr.cell? ⟨bb, off + k * 3 + 2, none⟩ = some (.int .i64 (elAt cs k).d) := hc 2 (by omega)
      have hi1 : (k : Int) < (cs.length : Int) := by omega
      have hi0 : (0 : Int) ≤ (k : Int) := by omega
      have HFX := hide (unhide HFcs k)
      obtain ⟨x, hx⟩ : ∃ x, elAt cs k = x := ⟨_, rfl⟩
      rw [hx] at s0 s1 s2 HFX
      have HX := hide hx
      clear hc hx
      go_wp2_with fail
      obtain ⟨V, hV⟩ : ∃ V, V = wr.alloc (Obj.cells #[.string x.n, .int .i64 x.m, .int .i64 x.d] 55) := ⟨_, rfl⟩
      have KV : Hid (Blk V wr.heap.size [.string x.n, .int .i64 x.m, .int .i64 x.d]) := hide (by rw [hV]; exact Blk.new _ _)
      have bV : Below wr.heap.size wr V := by rw [hV]; exact bel1 _
      rw [← hV]
      have BV := hide ((unhide BW).trans (bV.mono (unhide BW).size))
      clear hV bV s0 s1 s2
      obtain ⟨ι, f, _, hbf, hall⟩ := belClass V
      have HF := hide hbf
      have HAL := hide hall
      have HBF : Hid (∀ y, Below w.heap.size w (f y)) := hide (fun y => (unhide BV).trans ((hbf y).mono (unhide BV).size))
      have v0 : ∀ y, (f y).cell? ⟨wr.heap.size, 0, none⟩ = some (.string x.n) := fun y => ((unhide KV).below (hbf y)).c 0 (by simp)
      have v1 : ∀ y, (f y).cell? ⟨wr.heap.size, 1, none⟩ = some (.int .i64 x.m) := fun y => ((unhide KV).below (hbf y)).c 1 (by simp)
      have v2 : ∀ y, (f y).cell? ⟨wr.heap.size, 2, none⟩ = some (.int .i64 x.d) := fun y => ((unhide KV).below (hbf y)).c 2 (by simp)
      clear hbf hall
      obtain ⟨x0, hx0⟩ := (unhide HAL) V (Below.refl _ _)
      rw [hx0]
      clear hx0
      by_cases k0 : k = 0
      · have K00 := hide k0
        clear k0
        have dk : decide ((0 : Int) < (k : Int)) = false := by have := unhide K00; simp only [decide_eq_false_iff_not]; omega
        have dkn : decide (0 < k) = false := by have := unhide K00; simp only [decide_eq_false_iff_not]; omega
        rcases three (nameB x.n) (inB x.m 0 10) (inB x.d 0 120) with ⟨q1, hv⟩ | ⟨q1, q2, hv⟩ | ⟨q1, q2, q3, hv⟩ | ⟨q1, q2, q3, hv⟩
        · clear hv
          have HE : Hid (caB cs = false) := hide (listS_el hlt (by rw [unhide HX, crB, q1]; simp))
          have CN : Hid (∀ W, Calls Try.prog 42 #[.string x.n] W fun e w' => e = .returned (.bool false) ∧ w' = W) := hide (fun W => by have := l1Name_any x.n W (unhide HFX); rw [q1] at this; exact this)
          refine wp_region_bel (fun w' h => (unhide HAL) w' ((unhide HF _).trans (h.mono (unhide HF _).size))) (by kernel_rfl) (by kernel_rfl) ?_
          (repeat (go_big_quiet_step (first | (go_at_call 42; exact belS (unhide CN _)))))
          refine wpQuiet_nil ?_
          rintro _ ⟨y, rfl⟩
          go_wp2_with fail
          go_ret
          exact ⟨ret_bool (unhide HE).symm, unhide HBF y⟩
        · clear hv
          have HE : Hid (caB cs = false) := hide (listS_el hlt (by rw [unhide HX, crB, q2]; simp))
          have CN : Hid (∀ W, Calls Try.prog 42 #[.string x.n] W fun e w' => e = .returned (.bool true) ∧ w' = W) := hide (fun W => by have := l1Name_any x.n W (unhide HFX); rw [q1] at this; exact this)
          refine wp_region_bel (fun w' h => (unhide HAL) w' ((unhide HF _).trans (h.mono (unhide HF _).size))) (by kernel_rfl) (by kernel_rfl) ?_
          (repeat (go_big_quiet_step (first | (go_at_call 42; exact belS (unhide CN _)) | (go_at_call 43; exact belS (l1In_is _ _ _ _ (by exact q2))))))
          refine wpQuiet_nil ?_
          rintro _ ⟨y, rfl⟩
          go_wp2_with fail
          go_ret
          exact ⟨ret_bool (unhide HE).symm, unhide HBF y⟩
        · clear hv
          have HE : Hid (caB cs = false) := hide (listS_el hlt (by rw [unhide HX, crB, q3]; simp))
          have CN : Hid (∀ W, Calls Try.prog 42 #[.string x.n] W fun e w' => e = .returned (.bool true) ∧ w' = W) := hide (fun W => by have := l1Name_any x.n W (unhide HFX); rw [q1] at this; exact this)
          refine wp_region_bel (fun w' h => (unhide HAL) w' ((unhide HF _).trans (h.mono (unhide HF _).size))) (by kernel_rfl) (by kernel_rfl) ?_
          (repeat (go_big_quiet_step (first | (go_at_call 42; exact belS (unhide CN _)) | (go_at_call 43; exact belS (l1In_is _ _ _ _ (by exact q2))) | (go_at_call 43; exact belS (l1In_is _ _ _ _ (by exact q3))))))
          refine wpQuiet_nil ?_
          rintro _ ⟨y, rfl⟩
          go_wp2_with fail
          go_ret
          exact ⟨ret_bool (unhide HE).symm, unhide HBF y⟩
        · clear hv
          have N1 : Hid (∀ j, j < k + 1 → crB (elAt cs j) = true) := hide (fun j hj => by
            by_cases e3 : j = k
            · rw [e3, unhide HX, crB, q1, q2, q3]; rfl
            · exact (unhide A1) j (by omega))
          have N2 : Hid (∀ j, j + 1 < k + 1 → sLt (elAt cs j).n (elAt cs (j + 1)).n = true) := hide (fun j hj => by have := unhide K00; omega)
          clear A1 A2
          have CN : Hid (∀ W, Calls Try.prog 42 #[.string x.n] W fun e w' => e = .returned (.bool true) ∧ w' = W) := hide (fun W => by have := l1Name_any x.n W (unhide HFX); rw [q1] at this; exact this)
          refine wp_region_bel (fun w' h => (unhide HAL) w' ((unhide HF _).trans (h.mono (unhide HF _).size))) (by kernel_rfl) (by kernel_rfl) ?_
          (repeat (go_big_quiet_step (first | (go_at_call 42; exact belS (unhide CN _)) | (go_at_call 43; exact belS (l1In_is _ _ _ _ (by exact q2))) | (go_at_call 43; exact belS (l1In_is _ _ _ _ (by exact q3))))))
          refine wpQuiet_nil ?_
          rintro _ ⟨y, rfl⟩
          go_wp2_with fail
          have BY := hide (unhide HBF y)
          go_roundw
          case rel => exact ⟨k + 1, by go_num, by omega, BY, N1, N2⟩
          case measure => simp [intOf]; omega
      · obtain ⟨m, hm⟩ : ∃ m, m + 1 = k := ⟨k - 1, by omega⟩
        have dk : decide ((0 : Int) < (k : Int)) = true := by simp only [decide_eq_true_eq]; omega
        have dkn : decide (0 < k) = true := by simp only [decide_eq_true_eq]; omega
        have hsub : (k : Int) - 1 = (m : Int) := by omega
        have hwr : IntKind.i64.wrap (m : Int) = (m : Int) := by rw [IntKind.wrap_i64]; omega
        have hm1 : (m : Int) < (cs.length : Int) := by omega
        have hm0 : (0 : Int) ≤ (m : Int) := by omega
        obtain ⟨Z, hZ⟩ : ∃ z, (elAt cs m).n = z := ⟨_, rfl⟩
        have m1 : ∀ y, (f y).cell? ⟨bb, off + m * 3, none⟩ = some (.string Z) := fun y => by
          obtain ⟨bb2, off2, ee, hc2⟩ := ((unhide HRcs).below ((unhide HBF) y)).at_ m (by omega)
          simp only [Option.some.injEq, Addr.mk.injEq, and_true] at ee
          obtain ⟨rfl, rfl⟩ := ee
          rw [← hZ]
          exact hc2 0 (by omega)
        have HZ := hide hZ
        have HM := hide hm
        clear hZ hm k0
        rcases four (nameB x.n) (Op.bytesLess Z.toList x.n.toList) (inB x.m 0 10) (inB x.d 0 120) with ⟨q1, hv⟩ | ⟨q1, q2, hv⟩ | ⟨q1, q2, q3, hv⟩ | ⟨q1, q2, q3, q4, hv⟩ | ⟨q1, q2, q3, q4, hv⟩
        · clear hv
          have HE : Hid (caB cs = false) := hide (listS_el hlt (by rw [unhide HX, crB, q1]; simp))
          have CN : Hid (∀ W, Calls Try.prog 42 #[.string x.n] W fun e w' => e = .returned (.bool false) ∧ w' = W) := hide (fun W => by have := l1Name_any x.n W (unhide HFX); rw [q1] at this; exact this)
          refine wp_region_bel (fun w' h => (unhide HAL) w' ((unhide HF _).trans (h.mono (unhide HF _).size))) (by kernel_rfl) (by kernel_rfl) ?_
          (repeat (go_big_quiet_step (first | (go_at_call 42; exact belS (unhide CN _)))))
          refine wpQuiet_nil ?_
          rintro _ ⟨y, rfl⟩
          go_wp2_with fail
          go_ret
          exact ⟨ret_bool (unhide HE).symm, unhide HBF y⟩
        · clear hv
          have HE : Hid (caB cs = false) := hide (listS_fall (i := m) (by have := unhide HM; omega) (by rw [unhide HZ, unhide HM, unhide HX]; exact q2))
          have CN : Hid (∀ W, Calls Try.prog 42 #[.string x.n] W fun e w' => e = .returned (.bool true) ∧ w' = W) := hide (fun W => by have := l1Name_any x.n W (unhide HFX); rw [q1] at this; exact this)
          refine wp_region_bel (fun w' h => (unhide HAL) w' ((unhide HF _).trans (h.mono (unhide HF _).size))) (by kernel_rfl) (by kernel_rfl) ?_
          (repeat (go_big_quiet_step (first | (go_at_call 42; exact belS (unhide CN _)))))
          refine wpQuiet_nil ?_
          rintro _ ⟨y, rfl⟩
          go_wp2_with fail
          go_ret
          exact ⟨ret_bool (unhide HE).symm, unhide HBF y⟩
        · clear hv
          have HE : Hid (caB cs = false) := hide (listS_el hlt (by rw [unhide HX, crB, q3]; simp))
          have CN : Hid (∀ W, Calls Try.prog 42 #[.string x.n] W fun e w' => e = .returned (.bool true) ∧ w' = W) := hide (fun W => by have := l1Name_any x.n W (unhide HFX); rw [q1] at this; exact this)
          refine wp_region_bel (fun w' h => (unhide HAL) w' ((unhide HF _).trans (h.mono (unhide HF _).size))) (by kernel_rfl) (by kernel_rfl) ?_
          (repeat (go_big_quiet_step (first | (go_at_call 42; exact belS (unhide CN _)) | (go_at_call 43; exact belS (l1In_is _ _ _ _ (by exact q3))))))
          refine wpQuiet_nil ?_
          rintro _ ⟨y, rfl⟩
          go_wp2_with fail
          go_ret
          exact ⟨ret_bool (unhide HE).symm, unhide HBF y⟩
        · clear hv
          have HE : Hid (caB cs = false) := hide (listS_el hlt (by rw [unhide HX, crB, q4]; simp))
          have CN : Hid (∀ W, Calls Try.prog 42 #[.string x.n] W fun e w' => e = .returned (.bool true) ∧ w' = W) := hide (fun W => by have := l1Name_any x.n W (unhide HFX); rw [q1] at this; exact this)
          refine wp_region_bel (fun w' h => (unhide HAL) w' ((unhide HF _).trans (h.mono (unhide HF _).size))) (by kernel_rfl) (by kernel_rfl) ?_
          (repeat (go_big_quiet_step (first | (go_at_call 42; exact belS (unhide CN _)) | (go_at_call 43; exact belS (l1In_is _ _ _ _ (by exact q3))) | (go_at_call 43; exact belS (l1In_is _ _ _ _ (by exact q4))))))
          refine wpQuiet_nil ?_
          rintro _ ⟨y, rfl⟩
          go_wp2_with fail
          go_ret
          exact ⟨ret_bool (unhide HE).symm, unhide HBF y⟩
        · clear hv
          have N1 : Hid (∀ j, j < k + 1 → crB (elAt cs j) = true) := hide (fun j hj => by
            by_cases e3 : j = k
            · rw [e3, unhide HX, crB, q1, q3, q4]; rfl
            · exact (unhide A1) j (by omega))
          have N2 : Hid (∀ j, j + 1 < k + 1 → sLt (elAt cs j).n (elAt cs (j + 1)).n = true) := hide (fun j hj => by
            have hm := unhide HM
            by_cases e3 : j = m
            · rw [e3, hm, unhide HX, unhide HZ]; exact q2
            · exact (unhide A2) j (by omega))
          clear A1 A2
          have CN : Hid (∀ W, Calls Try.prog 42 #[.string x.n] W fun e w' => e = .returned (.bool true) ∧ w' = W) := hide (fun W => by have := l1Name_any x.n W (unhide HFX); rw [q1] at this; exact this)
          refine wp_region_bel (fun w' h => (unhide HAL) w' ((unhide HF _).trans (h.mono (unhide HF _).size))) (by kernel_rfl) (by kernel_rfl) ?_
          (repeat (go_big_quiet_step (first | (go_at_call 42; exact belS (unhide CN _)) | (go_at_call 43; exact belS (l1In_is _ _ _ _ (by exact q3))) | (go_at_call 43; exact belS (l1In_is _ _ _ _ (by exact q4))))))
          refine wpQuiet_nil ?_
          rintro _ ⟨y, rfl⟩
          go_wp2_with fail
          have BY := hide (unhide HBF y)
          go_roundw
          case rel => exact ⟨k + 1, by go_num, by omega, BY, N1, N2⟩
          case measure => simp [intOf]; omega
    · have hi1 : ¬ (k : Int) < (cs.length : Int) := by omega
      by_cases hl : cs.length ≤ 20
      · have HE : Hid (caB cs = true) := hide (listS_yes hl (fun i hi => unhide A1 i (by omega)) (fun i hi => unhide A2 i (by omega)))
        have hd : (cs.length : Int) ≤ 20 := by omega
        go_wp2_with fail
        go_ret
        exact ⟨ret_bool (by rw [unhide HE]), unhide BW⟩
      · have HE : Hid (caB cs = false) := hide (listS_long hl)
        have hd : ¬ (cs.length : Int) ≤ 20 := by omega
        go_wp2_with fail
        go_ret
        exact ⟨ret_bool (by rw [unhide HE]), unhide BW⟩

end Go.Proofs.Ytilahgifaglekbc

namespace Go.Proofs.Ytilahgifaglekbc
open Go.RowKit

set_option maxRecDepth 20000 in
set_option maxHeartbeats 2000000 in
theorem specClockOk_is {b : Bool} (h c d : Int) (w : World) (hc : ckB h c d = b) :
    Calls Try.prog 38 #[.agg #[.int .i64 h, .int .i64 c, .int .i64 d]] w fun e w' => e = .returned (.bool b) ∧ Below w.heap.size w w' := by
  subst hc
  rcases three (inB h 0 1000000) (inB c 0 1000000) (inB d 0 1000000) with ⟨q1, hv⟩ | ⟨q1, q2, hv⟩ | ⟨q1, q2, q3, hv⟩ | ⟨q1, q2, q3, hv⟩
  all_goals
    have HE := hide (show ckB h c d = _ from hv)
    rw [unhide HE]
    clear hv
    go_enter Try.func38, Try.ntmps38
    go_wp2_with fail
    obtain ⟨W, hW⟩ : ∃ W, W = (w.alloc (Obj.cells #[.int .i64 h, .int .i64 c, .int .i64 d] 35)) := ⟨_, rfl⟩
    rw [← hW]
    have K0 : Hid (Blk W (w.heap.size) [.int .i64 h, .int .i64 c, .int .i64 d]) := hide (by rw [hW]; exact Blk.new _ _)
    have B0 : Hid (Below w.heap.size w W) := hide (by rw [hW]; exact (by repeat (first | exact Below.refl _ _ | refine Below.alloc ?_ (by simp; try omega) _ | refine Below.setCell ?_ (by simp; try omega) _ | refine taDr ?_ _)))
    clear hW
    obtain ⟨ι, fW, _, hb, hall⟩ := belClass W
    have HB := hide hb
    have HA := hide hall
    have c00 : ∀ x, (fW x).cell? ⟨w.heap.size, 0, none⟩ = some (.int .i64 h) := fun x => ((unhide K0).below (hb x)).c 0 (by simp)
    have c01 : ∀ x, (fW x).cell? ⟨w.heap.size, 1, none⟩ = some (.int .i64 c) := fun x => ((unhide K0).below (hb x)).c 1 (by simp)
    have c02 : ∀ x, (fW x).cell? ⟨w.heap.size, 2, none⟩ = some (.int .i64 d) := fun x => ((unhide K0).below (hb x)).c 2 (by simp)
    clear hb hall
    obtain ⟨x0, h0⟩ := (unhide HA) W (Below.refl _ _)
    rw [h0]
    clear h0
    go_wp2_with (first | (go_at_call 43; refine (belS (l1In_is _ _ _ _ (by first | exact q1 | exact q2 | exact q3))).mono ?_; rintro e _ ⟨rfl, y, rfl⟩))
    repeat (refine wp_region_bel (fun w' h => (unhide HA) w' ((unhide HB _).trans (h.mono (unhide HB _).size))) (by kernel_rfl) (by kernel_rfl) ?_; (repeat (go_big_quiet_step (first | (go_at_call 43; exact belS (l1In_is _ _ _ _ (by first | exact q1 | exact q2 | exact q3)))))); refine wpQuiet_nil ?_; rintro _ ⟨y, rfl⟩; (first | go_wp2_with (first | (go_at_call 43; refine (belS (l1In_is _ _ _ _ (by first | exact q1 | exact q2 | exact q3))).mono ?_; rintro e _ ⟨rfl, y, rfl⟩)) | go_wp2))
    go_ret
    exact ⟨rfl, (unhide B0).trans ((unhide HB _).mono (unhide B0).size)⟩

set_option maxRecDepth 20000 in
set_option maxHeartbeats 2000000 in
theorem specTaskOk_is {b : Bool} (nm : ByteArray) (h c d dh dc dd : Int) (w : World) (hs : nm.size ≤ 9223372036854775807) (hc : tsB ⟨nm, h, c, d, dh, dc, dd⟩ = b) :
    Calls Try.prog 40 #[.agg #[.string nm, .int .i64 h, .int .i64 c, .int .i64 d, .int .i64 dh, .int .i64 dc, .int .i64 dd]] w fun e w' => e = .returned (.bool b) ∧ Below w.heap.size w w' := by
  subst hc
  rcases six (nameB nm) (inB h 0 100000) (inB c 0 100000) (inB d 0 100000) (decide (0 < h + c + d)) (ckB dh dc dd) with ⟨q1, hv⟩ | ⟨q1, q2, hv⟩ | ⟨q1, q2, q3, hv⟩ | ⟨q1, q2, q3, q4, hv⟩ | ⟨q1, q2, q3, q4, q5, hv⟩ | ⟨q1, q2, q3, q4, q5, q6, hv⟩ | ⟨q1, q2, q3, q4, q5, q6, hv⟩
  all_goals
    have HE := hide (show tsB ⟨nm, h, c, d, dh, dc, dd⟩ = _ from hv)
    rw [unhide HE]
    clear hv
    try (have g2 : 0 ≤ h ∧ h ≤ 100000 := of_decide_eq_true q2)
    try (have g3 : 0 ≤ c ∧ c ≤ 100000 := of_decide_eq_true q3)
    try (have g4 : 0 ≤ d ∧ d ≤ 100000 := of_decide_eq_true q4)
    have CN : Hid (∀ W, Calls Try.prog 42 #[.string nm] W fun e w' => e = .returned (.bool _) ∧ w' = W) := hide (fun W => by have := l1Name_any nm W hs; rw [q1] at this; exact this)
    go_enter Try.func40, Try.ntmps40
    go_wp2_with fail
    obtain ⟨W, hW⟩ : ∃ W, W = (w.alloc (Obj.cells #[.string nm, .int .i64 h, .int .i64 c, .int .i64 d, .int .i64 dh, .int .i64 dc, .int .i64 dd] 50)) := ⟨_, rfl⟩
    rw [← hW]
    have K0 : Hid (Blk W (w.heap.size) [.string nm, .int .i64 h, .int .i64 c, .int .i64 d, .int .i64 dh, .int .i64 dc, .int .i64 dd]) := hide (by rw [hW]; exact Blk.new _ _)
    have B0 : Hid (Below w.heap.size w W) := hide (by rw [hW]; exact (by repeat (first | exact Below.refl _ _ | refine Below.alloc ?_ (by simp; try omega) _ | refine Below.setCell ?_ (by simp; try omega) _ | refine taDr ?_ _)))
    clear hW
    obtain ⟨ι, fW, _, hb, hall⟩ := belClass W
    have HB := hide hb
    have HA := hide hall
    have c00 : ∀ x, (fW x).cell? ⟨w.heap.size, 0, none⟩ = some (.string nm) := fun x => ((unhide K0).below (hb x)).c 0 (by simp)
    have c01 : ∀ x, (fW x).cell? ⟨w.heap.size, 1, none⟩ = some (.int .i64 h) := fun x => ((unhide K0).below (hb x)).c 1 (by simp)
    have c02 : ∀ x, (fW x).cell? ⟨w.heap.size, 2, none⟩ = some (.int .i64 c) := fun x => ((unhide K0).below (hb x)).c 2 (by simp)
    have c03 : ∀ x, (fW x).cell? ⟨w.heap.size, 3, none⟩ = some (.int .i64 d) := fun x => ((unhide K0).below (hb x)).c 3 (by simp)
    have c04 : ∀ x, (fW x).cell? ⟨w.heap.size, 4, none⟩ = some (.int .i64 dh) := fun x => ((unhide K0).below (hb x)).c 4 (by simp)
    have c05 : ∀ x, (fW x).cell? ⟨w.heap.size, 5, none⟩ = some (.int .i64 dc) := fun x => ((unhide K0).below (hb x)).c 5 (by simp)
    have c06 : ∀ x, (fW x).cell? ⟨w.heap.size, 6, none⟩ = some (.int .i64 dd) := fun x => ((unhide K0).below (hb x)).c 6 (by simp)
    clear hb hall
    obtain ⟨x0, h0⟩ := (unhide HA) W (Below.refl _ _)
    rw [h0]
    clear h0
    go_wp2_with (first | (go_at_call 42; refine (belS (unhide CN _)).mono ?_; rintro e _ ⟨rfl, y, rfl⟩) | (go_at_call 43; refine (belS (l1In_is _ _ _ _ (by first | exact q2 | exact q3 | exact q4))).mono ?_; rintro e _ ⟨rfl, y, rfl⟩) | (go_at_call 38; refine (belQ (unhide HB) (unhide HA) (specClockOk_is _ _ _ _ (by exact q6))).mono ?_; rintro e _ ⟨rfl, y, rfl⟩))
    repeat (refine wp_region_bel (fun w' h => (unhide HA) w' ((unhide HB _).trans (h.mono (unhide HB _).size))) (by kernel_rfl) (by kernel_rfl) ?_; (repeat (go_big_quiet_step (first | (go_at_call 42; exact belS (unhide CN _)) | (go_at_call 43; exact belS (l1In_is _ _ _ _ (by first | exact q2 | exact q3 | exact q4))) | (go_at_call 38; exact belQ (unhide HB) (unhide HA) (specClockOk_is _ _ _ _ (by exact q6)))))); refine wpQuiet_nil ?_; rintro _ ⟨y, rfl⟩; (first | go_wp2_with (first | (go_at_call 42; refine (belS (unhide CN _)).mono ?_; rintro e _ ⟨rfl, y, rfl⟩) | (go_at_call 43; refine (belS (l1In_is _ _ _ _ (by first | exact q2 | exact q3 | exact q4))).mono ?_; rintro e _ ⟨rfl, y, rfl⟩) | (go_at_call 38; refine (belQ (unhide HB) (unhide HA) (specClockOk_is _ _ _ _ (by exact q6))).mono ?_; rintro e _ ⟨rfl, y, rfl⟩)) | go_wp2))
    go_ret
    exact ⟨rfl, (unhide B0).trans ((unhide HB _).mono (unhide B0).size)⟩

end Go.Proofs.Ytilahgifaglekbc

namespace Go.Proofs.Ytilahgifaglekbc
open Go.RowKit

set_option maxHeartbeats 400000 in
theorem l1Max_eq (x y : Int) (w : World) :
    Calls Try.prog 68 #[.int .i64 x, .int .i64 y] w fun e w' => e = .returned (.int .i64 (max x y)) ∧ w' = w := by
  by_cases h : x < y
  all_goals
    by_cases h2 : y < x
    all_goals
      go_enter Try.func68, Try.ntmps68
      go_wp2
      go_ret
      exact ⟨ret_int (by omega), rfl⟩

end Go.Proofs.Ytilahgifaglekbc

namespace Go.Proofs.Ytilahgifaglekbc
open Go.RowKit

set_option maxRecDepth 20000 in
theorem specBehind_is {b : Bool} (ah ac ad bh bc bd : Int) (w : World) (hc : bhB ah ac ad bh bc bd = b) :
    Calls Try.prog 41 #[.agg #[.int .i64 ah, .int .i64 ac, .int .i64 ad], .agg #[.int .i64 bh, .int .i64 bc, .int .i64 bd]] w fun e w' => e = .returned (.bool b) ∧ Below w.heap.size w w' := by
  subst hc
  rcases three (decide (ah ≤ bh)) (decide (ac ≤ bc)) (decide (ad ≤ bd)) with ⟨q1, hv⟩ | ⟨q1, q2, hv⟩ | ⟨q1, q2, q3, hv⟩ | ⟨q1, q2, q3, hv⟩
  all_goals
    have HE := hide (show bhB ah ac ad bh bc bd = _ from hv)
    rw [unhide HE]
    clear hv
    simp only [decide_eq_true_eq, decide_eq_false_iff_not] at *
    go_enter Try.func41, Try.ntmps41
    go_wp2_with fail
    go_ret
    exact ⟨rfl, (by repeat (first | exact Below.refl _ _ | refine Below.alloc ?_ (by simp; try omega) _ | refine taDr ?_ _))⟩

theorem specLeft_is {r : Int} (b p : Int) (w : World) (hb : 0 ≤ b ∧ b ≤ 100000) (hp : 0 ≤ p ∧ p ≤ 1000000) (hr : lfI b p = r) :
    Calls Try.prog 44 #[.int .i64 b, .int .i64 p] w fun e w' => e = .returned (.int .i64 r) ∧ w' = w := by
  by_cases q : b = 0
  · have hz : r = 0 := by rw [← hr, lfI, if_pos q]
    subst hz
    go_enter Try.func44, Try.ntmps44
    go_wp2_with fail
    go_ret
    exact ⟨rfl, rfl⟩
  · have hz : r = max 0 (b - p) := by rw [← hr, lfI, if_neg q]
    subst hz
    clear hr
    go_enter Try.func44, Try.ntmps44
    go_wp2_with (first | (go_at_call 68; refine (l1Max_eq _ _ _).mono ?_; rintro e w' ⟨rfl, hw⟩; subst w'))
    go_ret
    exact ⟨rfl, rfl⟩

end Go.Proofs.Ytilahgifaglekbc

namespace Go.Proofs.Ytilahgifaglekbc
open Go Go.RowKit

theorem flB_t {ts : List Ts} {cs : List Cr} {ds : List Df} {nh nc nd : Int} (h : listS 40 (tkB nh nc nd) (·.nm) ts = false) : flB ⟨ts, cs, ds, nh, nc, nd⟩ = false := by simp [flB, h]
theorem flB_d {ts : List Ts} {cs : List Cr} {ds : List Df} {nh nc nd : Int} (h : listI 20 (dkB nd) (·.i) ds = false) : flB ⟨ts, cs, ds, nh, nc, nd⟩ = false := by simp [flB, h]
theorem flB_y {ts : List Ts} {cs : List Cr} {ds : List Df} {nh nc nd : Int} (h1 : ckB nh nc nd = true) (h2 : caB cs = true) (h3 : listS 40 (tkB nh nc nd) (·.nm) ts = true) (h4 : listI 20 (dkB nd) (·.i) ds = true) : flB ⟨ts, cs, ds, nh, nc, nd⟩ = true := by simp [flB, h1, h2, h3, h4]
set_option maxRecDepth 20000 in
set_option maxHeartbeats 8000000 in
theorem specFleetOk_any (nh nc nd : Int) (a1 a2 a3 : Option Addr) (l1 c1 l2 c2 l3 c3 : Nat) (ts : List Ts) (cs : List Cr) (ds : List Df) (w : World) (hr : FlIn w a1 a2 a3 l1 l2 l3 ts cs ds) (ft : ∀ i, fitT (elAt ts i).nm) (fc : ∀ i, fitT (elAt cs i).n) (fd : ∀ i, fitT (elAt ds i).n) :
    Calls Try.prog 15 #[.agg #[.slice a1 l1 c1, .slice a2 l2 c2, .slice a3 l3 c3, .int .i64 nh, .int .i64 nc, .int .i64 nd]] w fun e w' => e = .returned (.bool (flB ⟨ts, cs, ds, nh, nc, nd⟩)) ∧ Below w.heap.size w w' := by
  have z1 := hr.r1.len_eq
  have z2 := hr.r2.len_eq
  have z3 := hr.r3.len_eq
  have s1 := hr.r1.small
  have s3 := hr.r3.small
  subst z1
  subst z2
  subst z3
  have HRts := hide hr.r1
  have HRcs := hide hr.r2
  have HRds := hide hr.r3
  have HFts := hide ft
  have HFcs := hide fc
  have HFds := hide fd
  clear hr ft fc fd
  obtain ⟨W, hW⟩ : ∃ W, W = w.alloc (Obj.cells #[.slice a1 ts.length c1, .slice a2 cs.length c2, .slice a3 ds.length c3, .int .i64 nh, .int .i64 nc, .int .i64 nd] 37) := ⟨_, rfl⟩
  have KB0 : Hid (Blk W w.heap.size [.slice a1 ts.length c1, .slice a2 cs.length c2, .slice a3 ds.length c3, .int .i64 nh, .int .i64 nc, .int .i64 nd]) := hide (by rw [hW]; exact Blk.new _ _)
  have BW0 : Hid (Below w.heap.size w W) := hide (by rw [hW]; exact bel1 _)
  have HW := hide hW
  clear hW
  have CC : Hid (∀ V, Below w.heap.size w V → Calls Try.prog 39 #[.slice a2 cs.length c2] V fun e w' => e = .returned (.bool (caB cs)) ∧ Below V.heap.size V w') := hide (fun V b => specCarryOk_any a2 _ c2 cs V ((unhide HRcs).below b) (unhide HFcs))
  rcases four (ckB nh nc nd) (caB cs) (decide (ts.length ≤ 40)) (decide (ds.length ≤ 20)) with ⟨q1, hv⟩ | ⟨q1, q2, hv⟩ | ⟨q1, q2, q3, hv⟩ | ⟨q1, q2, q3, q4, hv⟩ | ⟨q1, q2, q3, q4, hv⟩
  · clear hv
    have HE : Hid (flB ⟨ts, cs, ds, nh, nc, nd⟩ = false) := hide (by simp [flB, q1])
    go_enter Try.func15, Try.ntmps15
    go_wp2_with fail
    rw [← unhide HW]
    clear HW
    obtain ⟨ι, fW, _, hb, hall⟩ := belClass W
    have HB := hide hb
    have HA := hide hall
    have c00 : ∀ x, (fW x).cell? ⟨w.heap.size, 0, none⟩ = some (.slice a1 ts.length c1) := fun x => ((unhide KB0).below (hb x)).c 0 (by simp)
    have c01 : ∀ x, (fW x).cell? ⟨w.heap.size, 1, none⟩ = some (.slice a2 cs.length c2) := fun x => ((unhide KB0).below (hb x)).c 1 (by simp)
    have c02 : ∀ x, (fW x).cell? ⟨w.heap.size, 2, none⟩ = some (.slice a3 ds.length c3) := fun x => ((unhide KB0).below (hb x)).c 2 (by simp)
    have c03 : ∀ x, (fW x).cell? ⟨w.heap.size, 3, none⟩ = some (.int .i64 nh) := fun x => ((unhide KB0).below (hb x)).c 3 (by simp)
    have c04 : ∀ x, (fW x).cell? ⟨w.heap.size, 4, none⟩ = some (.int .i64 nc) := fun x => ((unhide KB0).below (hb x)).c 4 (by simp)
    have c05 : ∀ x, (fW x).cell? ⟨w.heap.size, 5, none⟩ = some (.int .i64 nd) := fun x => ((unhide KB0).below (hb x)).c 5 (by simp)
    clear hb hall
    obtain ⟨x0, h0⟩ := (unhide HA) W (Below.refl _ _)
    rw [h0]
    clear h0
    go_wp2_with (first | (go_at_call 38; refine (belQ (unhide HB) (unhide HA) (specClockOk_is _ _ _ _ (by exact q1))).mono ?_; rintro e _ ⟨rfl, y, rfl⟩))
    go_ret
    exact ⟨ret_bool (unhide HE).symm, (unhide BW0).trans ((unhide HB _).mono (unhide BW0).size)⟩
  · clear hv
    rw [q2] at CC
    have HE : Hid (flB ⟨ts, cs, ds, nh, nc, nd⟩ = false) := hide (by simp [flB, q2])
    go_enter Try.func15, Try.ntmps15
    go_wp2_with fail
    rw [← unhide HW]
    clear HW
    obtain ⟨ι, fW, _, hb, hall⟩ := belClass W
    have HB := hide hb
    have HA := hide hall
    have c00 : ∀ x, (fW x).cell? ⟨w.heap.size, 0, none⟩ = some (.slice a1 ts.length c1) := fun x => ((unhide KB0).below (hb x)).c 0 (by simp)
    have c01 : ∀ x, (fW x).cell? ⟨w.heap.size, 1, none⟩ = some (.slice a2 cs.length c2) := fun x => ((unhide KB0).below (hb x)).c 1 (by simp)
    have c02 : ∀ x, (fW x).cell? ⟨w.heap.size, 2, none⟩ = some (.slice a3 ds.length c3) := fun x => ((unhide KB0).below (hb x)).c 2 (by simp)
    have c03 : ∀ x, (fW x).cell? ⟨w.heap.size, 3, none⟩ = some (.int .i64 nh) := fun x => ((unhide KB0).below (hb x)).c 3 (by simp)
    have c04 : ∀ x, (fW x).cell? ⟨w.heap.size, 4, none⟩ = some (.int .i64 nc) := fun x => ((unhide KB0).below (hb x)).c 4 (by simp)
    have c05 : ∀ x, (fW x).cell? ⟨w.heap.size, 5, none⟩ = some (.int .i64 nd) := fun x => ((unhide KB0).below (hb x)).c 5 (by simp)
    clear hb hall
    obtain ⟨x0, h0⟩ := (unhide HA) W (Below.refl _ _)
    rw [h0]
    clear h0
    go_wp2_with (first | (go_at_call 38; refine (belQ (unhide HB) (unhide HA) (specClockOk_is _ _ _ _ (by exact q1))).mono ?_; rintro e _ ⟨rfl, y, rfl⟩) | (go_at_call 39; refine (belQ (unhide HB) (unhide HA) (unhide CC _ ((unhide BW0).trans ((unhide HB _).mono (unhide BW0).size)))).mono ?_; rintro e _ ⟨rfl, y, rfl⟩))
    go_ret
    exact ⟨ret_bool (unhide HE).symm, (unhide BW0).trans ((unhide HB _).mono (unhide BW0).size)⟩
  · clear hv
    have l3 : (40 : Int) < (ts.length : Int) := by have := of_decide_eq_false q3; omega
    rw [q2] at CC
    have HE : Hid (flB ⟨ts, cs, ds, nh, nc, nd⟩ = false) := hide (flB_t (listS_long (of_decide_eq_false q3)))
    go_enter Try.func15, Try.ntmps15
    go_wp2_with fail
    rw [← unhide HW]
    clear HW
    obtain ⟨ι, fW, _, hb, hall⟩ := belClass W
    have HB := hide hb
    have HA := hide hall
    have c00 : ∀ x, (fW x).cell? ⟨w.heap.size, 0, none⟩ = some (.slice a1 ts.length c1) := fun x => ((unhide KB0).below (hb x)).c 0 (by simp)
    have c01 : ∀ x, (fW x).cell? ⟨w.heap.size, 1, none⟩ = some (.slice a2 cs.length c2) := fun x => ((unhide KB0).below (hb x)).c 1 (by simp)
    have c02 : ∀ x, (fW x).cell? ⟨w.heap.size, 2, none⟩ = some (.slice a3 ds.length c3) := fun x => ((unhide KB0).below (hb x)).c 2 (by simp)
    have c03 : ∀ x, (fW x).cell? ⟨w.heap.size, 3, none⟩ = some (.int .i64 nh) := fun x => ((unhide KB0).below (hb x)).c 3 (by simp)
    have c04 : ∀ x, (fW x).cell? ⟨w.heap.size, 4, none⟩ = some (.int .i64 nc) := fun x => ((unhide KB0).below (hb x)).c 4 (by simp)
    have c05 : ∀ x, (fW x).cell? ⟨w.heap.size, 5, none⟩ = some (.int .i64 nd) := fun x => ((unhide KB0).below (hb x)).c 5 (by simp)
    clear hb hall
    obtain ⟨x0, h0⟩ := (unhide HA) W (Below.refl _ _)
    rw [h0]
    clear h0
    go_wp2_with (first | (go_at_call 38; refine (belQ (unhide HB) (unhide HA) (specClockOk_is _ _ _ _ (by exact q1))).mono ?_; rintro e _ ⟨rfl, y, rfl⟩) | (go_at_call 39; refine (belQ (unhide HB) (unhide HA) (unhide CC _ ((unhide BW0).trans ((unhide HB _).mono (unhide BW0).size)))).mono ?_; rintro e _ ⟨rfl, y, rfl⟩))
    go_ret
    exact ⟨ret_bool (unhide HE).symm, (unhide BW0).trans ((unhide HB _).mono (unhide BW0).size)⟩
  · clear hv
    have l3 : ¬ (40 : Int) < (ts.length : Int) := by have := of_decide_eq_true q3; omega
    have l4 : (20 : Int) < (ds.length : Int) := by have := of_decide_eq_false q4; omega
    rw [q2] at CC
    have HE : Hid (flB ⟨ts, cs, ds, nh, nc, nd⟩ = false) := hide (flB_d (listI_long (of_decide_eq_false q4)))
    go_enter Try.func15, Try.ntmps15
    go_wp2_with fail
    rw [← unhide HW]
    clear HW
    obtain ⟨ι, fW, _, hb, hall⟩ := belClass W
    have HB := hide hb
    have HA := hide hall
    have c00 : ∀ x, (fW x).cell? ⟨w.heap.size, 0, none⟩ = some (.slice a1 ts.length c1) := fun x => ((unhide KB0).below (hb x)).c 0 (by simp)
    have c01 : ∀ x, (fW x).cell? ⟨w.heap.size, 1, none⟩ = some (.slice a2 cs.length c2) := fun x => ((unhide KB0).below (hb x)).c 1 (by simp)
    have c02 : ∀ x, (fW x).cell? ⟨w.heap.size, 2, none⟩ = some (.slice a3 ds.length c3) := fun x => ((unhide KB0).below (hb x)).c 2 (by simp)
    have c03 : ∀ x, (fW x).cell? ⟨w.heap.size, 3, none⟩ = some (.int .i64 nh) := fun x => ((unhide KB0).below (hb x)).c 3 (by simp)
    have c04 : ∀ x, (fW x).cell? ⟨w.heap.size, 4, none⟩ = some (.int .i64 nc) := fun x => ((unhide KB0).below (hb x)).c 4 (by simp)
    have c05 : ∀ x, (fW x).cell? ⟨w.heap.size, 5, none⟩ = some (.int .i64 nd) := fun x => ((unhide KB0).below (hb x)).c 5 (by simp)
    clear hb hall
    obtain ⟨x0, h0⟩ := (unhide HA) W (Below.refl _ _)
    rw [h0]
    clear h0
    go_wp2_with (first | (go_at_call 38; refine (belQ (unhide HB) (unhide HA) (specClockOk_is _ _ _ _ (by exact q1))).mono ?_; rintro e _ ⟨rfl, y, rfl⟩) | (go_at_call 39; refine (belQ (unhide HB) (unhide HA) (unhide CC _ ((unhide BW0).trans ((unhide HB _).mono (unhide BW0).size)))).mono ?_; rintro e _ ⟨rfl, y, rfl⟩))
    go_ret
    exact ⟨ret_bool (unhide HE).symm, (unhide BW0).trans ((unhide HB _).mono (unhide BW0).size)⟩
  · clear hv
    have l3 : ¬ (40 : Int) < (ts.length : Int) := by have := of_decide_eq_true q3; omega
    have l4 : ¬ (20 : Int) < (ds.length : Int) := by have := of_decide_eq_true q4; omega
    have CC2 : Hid (∀ V, Below w.heap.size w V → Calls Try.prog 39 #[.slice a2 cs.length c2] V fun e w' => e = .returned (.bool true) ∧ Below V.heap.size V w') := hide (fun V b => by have := unhide CC V b; rw [q2] at this; exact this)
    go_enter Try.func15, Try.ntmps15
    go_wp2_with fail
    rw [← unhide HW]
    clear HW
    obtain ⟨ι, fW, _, hb, hall⟩ := belClass W
    have HB := hide hb
    have HA := hide hall
    have c00 : ∀ x, (fW x).cell? ⟨w.heap.size, 0, none⟩ = some (.slice a1 ts.length c1) := fun x => ((unhide KB0).below (hb x)).c 0 (by simp)
    have c01 : ∀ x, (fW x).cell? ⟨w.heap.size, 1, none⟩ = some (.slice a2 cs.length c2) := fun x => ((unhide KB0).below (hb x)).c 1 (by simp)
    have c02 : ∀ x, (fW x).cell? ⟨w.heap.size, 2, none⟩ = some (.slice a3 ds.length c3) := fun x => ((unhide KB0).below (hb x)).c 2 (by simp)
    have c03 : ∀ x, (fW x).cell? ⟨w.heap.size, 3, none⟩ = some (.int .i64 nh) := fun x => ((unhide KB0).below (hb x)).c 3 (by simp)
    have c04 : ∀ x, (fW x).cell? ⟨w.heap.size, 4, none⟩ = some (.int .i64 nc) := fun x => ((unhide KB0).below (hb x)).c 4 (by simp)
    have c05 : ∀ x, (fW x).cell? ⟨w.heap.size, 5, none⟩ = some (.int .i64 nd) := fun x => ((unhide KB0).below (hb x)).c 5 (by simp)
    clear hb hall
    obtain ⟨x0, h0⟩ := (unhide HA) W (Below.refl _ _)
    rw [h0]
    clear h0
    go_wp2_with (first | (go_at_call 38; refine (belQ (unhide HB) (unhide HA) (specClockOk_is _ _ _ _ (by exact q1))).mono ?_; rintro e _ ⟨rfl, y, rfl⟩) | (go_at_call 39; refine (belQ (unhide HB) (unhide HA) (unhide CC2 _ ((unhide BW0).trans ((unhide HB _).mono (unhide BW0).size)))).mono ?_; rintro e _ ⟨rfl, y, rfl⟩))
    clear c00 c01 c02 c03 c04 c05
    go_loopw [3] (fun i wr => ∃ k : Nat, i = .int .i64 k ∧ k ≤ ts.length ∧ Hid (Blk wr w.heap.size [.slice a1 ts.length c1, .slice a2 cs.length c2, .slice a3 ds.length c3, .int .i64 nh, .int .i64 nc, .int .i64 nd]) ∧ Hid (Below w.heap.size w wr) ∧ Hid (∀ j, j < k → (tkB nh nc nd) (elAt ts j) = true) ∧ Hid (∀ j, j + 1 < k → sLt (elAt ts j).nm (elAt ts (j + 1)).nm = true)) (fun i _ => ts.length - (intOf i).toNat)
    case atStart => exact ⟨0, rfl, Nat.zero_le _, hide ((unhide KB0).below (unhide HB _)), hide ((unhide BW0).trans ((unhide HB _).mono (unhide BW0).size)), hide (fun j hj => by omega), hide (fun j hj => by omega)⟩
    case round =>
      clear HA HB CC CC2 KB0 BW0
      obtain ⟨k, rfl, hk, KB, BW, A1, A2⟩ := hrel
      by_cases hlt : k < ts.length
      · have g1 : wr.cell? ⟨w.heap.size, 0, none⟩ = some (.slice a1 ts.length c1) := (unhide KB).c 0 (by simp)
        obtain ⟨bb, off, rfl, hc⟩ := ((unhide HRts).below (unhide BW)).at_ k hlt
        have s0 : wr.cell? ⟨bb, off + k * 7, none⟩ = some (.string (elAt ts k).nm) := hc 0 (by omega)
        have s1 : wr.cell? ⟨bb, off + k * 7 + 1, none⟩ = some (.int .i64 (elAt ts k).h) := hc 1 (by omega)
        have s2 : wr.cell? ⟨bb, off + k * 7 + 2, none⟩ = some (.int .i64 (elAt ts k).c) := hc 2 (by omega)
        have s3 : wr.cell? ⟨bb, off + k * 7 + 3, none⟩ = some (.int .i64 (elAt ts k).d) := hc 3 (by omega)
        have s4 : wr.cell? ⟨bb, off + k * 7 + 4, none⟩ = some (.int .i64 (elAt ts k).dh) := hc 4 (by omega)
        have s5 : wr.cell? ⟨bb, off + k * 7 + 5, none⟩ = some (.int .i64 (elAt ts k).dc) := hc 5 (by omega)
        have s6 : wr.cell? ⟨bb, off + k * 7 + 6, none⟩ = some (.int .i64 (elAt ts k).dd) := hc 6 (by omega)
        have hi1 : (k : Int) < (ts.length : Int) := by omega
        have hi0 : (0 : Int) ≤ (k : Int) := by omega
        have HFX := hide (unhide HFts k)
        obtain ⟨x, hx⟩ : ∃ x, elAt ts k = x := ⟨_, rfl⟩
        rw [hx] at s0 s1 s2 s3 s4 s5 s6 HFX
        have HX := hide hx
        clear hc hx
        go_wp2_with fail
        obtain ⟨V, hV⟩ : ∃ V, V = wr.alloc (Obj.cells #[.string x.nm, .int .i64 x.h, .int .i64 x.c, .int .i64 x.d, .int .i64 x.dh, .int .i64 x.dc, .int .i64 x.dd] 50) := ⟨_, rfl⟩
        have KV : Hid (Blk V wr.heap.size [.string x.nm, .int .i64 x.h, .int .i64 x.c, .int .i64 x.d, .int .i64 x.dh, .int .i64 x.dc, .int .i64 x.dd]) := hide (by rw [hV]; exact Blk.new _ _)
        have bV : Below wr.heap.size wr V := by rw [hV]; exact bel1 _
        rw [← hV]
        have BV := hide ((unhide BW).trans (bV.mono (unhide BW).size))
        have KBV := hide ((unhide KB).below bV)
        clear hV bV g1 s0 s1 s2 s3 s4 s5 s6
        obtain ⟨ι, f, _, hbf, hall⟩ := belClass V
        have HF := hide hbf
        have HAL := hide hall
        have HBF : Hid (∀ y, Below w.heap.size w (f y)) := hide (fun y => (unhide BV).trans ((hbf y).mono (unhide BV).size))
        have v0 : ∀ y, (f y).cell? ⟨wr.heap.size, 0, none⟩ = some (.string x.nm) := fun y => ((unhide KV).below (hbf y)).c 0 (by simp)
        have v1 : ∀ y, (f y).cell? ⟨wr.heap.size, 1, none⟩ = some (.int .i64 x.h) := fun y => ((unhide KV).below (hbf y)).c 1 (by simp)
        have v2 : ∀ y, (f y).cell? ⟨wr.heap.size, 2, none⟩ = some (.int .i64 x.c) := fun y => ((unhide KV).below (hbf y)).c 2 (by simp)
        have v3 : ∀ y, (f y).cell? ⟨wr.heap.size, 3, none⟩ = some (.int .i64 x.d) := fun y => ((unhide KV).below (hbf y)).c 3 (by simp)
        have v4 : ∀ y, (f y).cell? ⟨wr.heap.size, 4, none⟩ = some (.int .i64 x.dh) := fun y => ((unhide KV).below (hbf y)).c 4 (by simp)
        have v5 : ∀ y, (f y).cell? ⟨wr.heap.size, 5, none⟩ = some (.int .i64 x.dc) := fun y => ((unhide KV).below (hbf y)).c 5 (by simp)
        have v6 : ∀ y, (f y).cell? ⟨wr.heap.size, 6, none⟩ = some (.int .i64 x.dd) := fun y => ((unhide KV).below (hbf y)).c 6 (by simp)
        have b0 : ∀ y, (f y).cell? ⟨w.heap.size, 0, none⟩ = some (.slice (some ⟨bb, off, none⟩) ts.length c1) := fun y => ((unhide KBV).below (hbf y)).c 0 (by simp)
        have b1 : ∀ y, (f y).cell? ⟨w.heap.size, 1, none⟩ = some (.slice a2 cs.length c2) := fun y => ((unhide KBV).below (hbf y)).c 1 (by simp)
        have b2 : ∀ y, (f y).cell? ⟨w.heap.size, 2, none⟩ = some (.slice a3 ds.length c3) := fun y => ((unhide KBV).below (hbf y)).c 2 (by simp)
        have b3 : ∀ y, (f y).cell? ⟨w.heap.size, 3, none⟩ = some (.int .i64 nh) := fun y => ((unhide KBV).below (hbf y)).c 3 (by simp)
        have b4 : ∀ y, (f y).cell? ⟨w.heap.size, 4, none⟩ = some (.int .i64 nc) := fun y => ((unhide KBV).below (hbf y)).c 4 (by simp)
        have b5 : ∀ y, (f y).cell? ⟨w.heap.size, 5, none⟩ = some (.int .i64 nd) := fun y => ((unhide KBV).below (hbf y)).c 5 (by simp)
        have KBF : Hid (∀ y, Blk (f y) w.heap.size [.slice (some ⟨bb, off, none⟩) ts.length c1, .slice a2 cs.length c2, .slice a3 ds.length c3, .int .i64 nh, .int .i64 nc, .int .i64 nd]) := hide (fun y => (unhide KBV).below (hbf y))
        clear hbf hall
        obtain ⟨x0, hx0⟩ := (unhide HAL) V (Below.refl _ _)
        rw [hx0]
        clear hx0
        by_cases k0 : k = 0
        · have K00 := hide k0
          clear k0
          have dk : decide ((0 : Int) < (k : Int)) = false := by have := unhide K00; simp only [decide_eq_false_iff_not]; omega
          have dkn : decide (0 < k) = false := by have := unhide K00; simp only [decide_eq_false_iff_not]; omega
          rcases two (tsB x) (bhB x.dh x.dc x.dd nh nc nd) with ⟨q1, hv⟩ | ⟨q1, q2, hv⟩ | ⟨q1, q2, hv⟩
          · clear hv
            have HE : Hid (flB ⟨ts, cs, ds, nh, nc, nd⟩ = false) := hide (flB_t (listS_el hlt (by rw [unhide HX]; simp [tkB, q1])))
            refine wp_region_bel (fun w' h => (unhide HAL) w' ((unhide HF _).trans (h.mono (unhide HF _).size))) (by kernel_rfl) (by kernel_rfl) ?_
            (repeat (go_big_quiet_step (first | (go_at_call 40; exact belQ (unhide HF) (unhide HAL) (specTaskOk_is _ _ _ _ _ _ _ _ (unhide HFX) (by exact q1))))))
            refine wpQuiet_nil ?_
            rintro _ ⟨y, rfl⟩
            go_wp2_with fail
            go_ret
            exact ⟨ret_bool (unhide HE).symm, unhide HBF y⟩
          · clear hv
            have HE : Hid (flB ⟨ts, cs, ds, nh, nc, nd⟩ = false) := hide (flB_t (listS_el hlt (by rw [unhide HX]; simp [tkB, q2])))
            refine wp_region_bel (fun w' h => (unhide HAL) w' ((unhide HF _).trans (h.mono (unhide HF _).size))) (by kernel_rfl) (by kernel_rfl) ?_
            (repeat (go_big_quiet_step (first | (go_at_call 40; exact belQ (unhide HF) (unhide HAL) (specTaskOk_is _ _ _ _ _ _ _ _ (unhide HFX) (by exact q1))) | (go_at_call 41; exact belQ (unhide HF) (unhide HAL) (specBehind_is _ _ _ _ _ _ _ (by exact q2))))))
            refine wpQuiet_nil ?_
            rintro _ ⟨y, rfl⟩
            go_wp2_with fail
            go_ret
            exact ⟨ret_bool (unhide HE).symm, unhide HBF y⟩
          · clear hv
            have N1 : Hid (∀ j, j < k + 1 → (tkB nh nc nd) (elAt ts j) = true) := hide (fun j hj => by
              by_cases e3 : j = k
              · rw [e3, unhide HX]; simp [tkB, q1, q2]
              · exact (unhide A1) j (by omega))
            have N2 : Hid (∀ j, j + 1 < k + 1 → sLt (elAt ts j).nm (elAt ts (j + 1)).nm = true) := hide (fun j hj => by have := unhide K00; omega)
            clear A1 A2
            refine wp_region_bel (fun w' h => (unhide HAL) w' ((unhide HF _).trans (h.mono (unhide HF _).size))) (by kernel_rfl) (by kernel_rfl) ?_
            (repeat (go_big_quiet_step (first | (go_at_call 40; exact belQ (unhide HF) (unhide HAL) (specTaskOk_is _ _ _ _ _ _ _ _ (unhide HFX) (by exact q1))) | (go_at_call 41; exact belQ (unhide HF) (unhide HAL) (specBehind_is _ _ _ _ _ _ _ (by exact q2))))))
            refine wpQuiet_nil ?_
            rintro _ ⟨y, rfl⟩
            go_wp2_with fail
            have BY := hide (unhide HBF y)
            have KY := hide (unhide KBF y)
            go_roundw
            case rel => exact ⟨k + 1, by go_num, by omega, KY, BY, N1, N2⟩
            case measure => simp [intOf]; omega
        · obtain ⟨m, hm⟩ : ∃ m, m + 1 = k := ⟨k - 1, by omega⟩
          have dk : decide ((0 : Int) < (k : Int)) = true := by simp only [decide_eq_true_eq]; omega
          have dkn : decide (0 < k) = true := by simp only [decide_eq_true_eq]; omega
          have hsub : (k : Int) - 1 = (m : Int) := by omega
          have hwr : IntKind.i64.wrap (m : Int) = (m : Int) := by rw [IntKind.wrap_i64]; omega
          have hm1 : (m : Int) < (ts.length : Int) := by omega
          have hm0 : (0 : Int) ≤ (m : Int) := by omega
          obtain ⟨Z, hZ⟩ : ∃ z, (elAt ts m).nm = z := ⟨_, rfl⟩
          have m1 : ∀ y, (f y).cell? ⟨bb, off + m * 7, none⟩ = some (.string Z) := fun y => by
            obtain ⟨bb2, off2, ee, hc2⟩ := ((unhide HRts).below ((unhide HBF) y)).at_ m (by omega)
            simp only [Option.some.injEq, Addr.mk.injEq, and_true] at ee
            obtain ⟨rfl, rfl⟩ := ee
            rw [← hZ]
            exact hc2 0 (by omega)
          have HZ := hide hZ
          have HM := hide hm
          clear hZ hm k0
          rcases three (tsB x) (bhB x.dh x.dc x.dd nh nc nd) (Op.bytesLess Z.toList x.nm.toList) with ⟨q1, hv⟩ | ⟨q1, q2, hv⟩ | ⟨q1, q2, q3, hv⟩ | ⟨q1, q2, q3, hv⟩
          · clear hv
            have HE : Hid (flB ⟨ts, cs, ds, nh, nc, nd⟩ = false) := hide (flB_t (listS_el hlt (by rw [unhide HX]; simp [tkB, q1])))
            refine wp_region_bel (fun w' h => (unhide HAL) w' ((unhide HF _).trans (h.mono (unhide HF _).size))) (by kernel_rfl) (by kernel_rfl) ?_
            (repeat (go_big_quiet_step (first | (go_at_call 40; exact belQ (unhide HF) (unhide HAL) (specTaskOk_is _ _ _ _ _ _ _ _ (unhide HFX) (by exact q1))))))
            refine wpQuiet_nil ?_
            rintro _ ⟨y, rfl⟩
            go_wp2_with fail
            go_ret
            exact ⟨ret_bool (unhide HE).symm, unhide HBF y⟩
          · clear hv
            have HE : Hid (flB ⟨ts, cs, ds, nh, nc, nd⟩ = false) := hide (flB_t (listS_el hlt (by rw [unhide HX]; simp [tkB, q2])))
            refine wp_region_bel (fun w' h => (unhide HAL) w' ((unhide HF _).trans (h.mono (unhide HF _).size))) (by kernel_rfl) (by kernel_rfl) ?_
            (repeat (go_big_quiet_step (first | (go_at_call 40; exact belQ (unhide HF) (unhide HAL) (specTaskOk_is _ _ _ _ _ _ _ _ (unhide HFX) (by exact q1))) | (go_at_call 41; exact belQ (unhide HF) (unhide HAL) (specBehind_is _ _ _ _ _ _ _ (by exact q2))))))
            refine wpQuiet_nil ?_
            rintro _ ⟨y, rfl⟩
            go_wp2_with fail
            go_ret
            exact ⟨ret_bool (unhide HE).symm, unhide HBF y⟩
          · clear hv
            have HE : Hid (flB ⟨ts, cs, ds, nh, nc, nd⟩ = false) := hide (flB_t (listS_fall (i := m) (by have := unhide HM; omega) (by rw [unhide HZ, unhide HM, unhide HX]; exact q3)))
            refine wp_region_bel (fun w' h => (unhide HAL) w' ((unhide HF _).trans (h.mono (unhide HF _).size))) (by kernel_rfl) (by kernel_rfl) ?_
            (repeat (go_big_quiet_step (first | (go_at_call 40; exact belQ (unhide HF) (unhide HAL) (specTaskOk_is _ _ _ _ _ _ _ _ (unhide HFX) (by exact q1))) | (go_at_call 41; exact belQ (unhide HF) (unhide HAL) (specBehind_is _ _ _ _ _ _ _ (by exact q2))))))
            refine wpQuiet_nil ?_
            rintro _ ⟨y, rfl⟩
            go_wp2_with fail
            go_ret
            exact ⟨ret_bool (unhide HE).symm, unhide HBF y⟩
          · clear hv
            have N1 : Hid (∀ j, j < k + 1 → (tkB nh nc nd) (elAt ts j) = true) := hide (fun j hj => by
              by_cases e3 : j = k
              · rw [e3, unhide HX]; simp [tkB, q1, q2]
              · exact (unhide A1) j (by omega))
            have N2 : Hid (∀ j, j + 1 < k + 1 → sLt (elAt ts j).nm (elAt ts (j + 1)).nm = true) := hide (fun j hj => by
              have hm := unhide HM
              by_cases e3 : j = m
              · rw [e3, hm, unhide HX, unhide HZ]; exact q3
              · exact (unhide A2) j (by omega))
            clear A1 A2
            refine wp_region_bel (fun w' h => (unhide HAL) w' ((unhide HF _).trans (h.mono (unhide HF _).size))) (by kernel_rfl) (by kernel_rfl) ?_
            (repeat (go_big_quiet_step (first | (go_at_call 40; exact belQ (unhide HF) (unhide HAL) (specTaskOk_is _ _ _ _ _ _ _ _ (unhide HFX) (by exact q1))) | (go_at_call 41; exact belQ (unhide HF) (unhide HAL) (specBehind_is _ _ _ _ _ _ _ (by exact q2))))))
            refine wpQuiet_nil ?_
            rintro _ ⟨y, rfl⟩
            go_wp2_with fail
            have BY := hide (unhide HBF y)
            have KY := hide (unhide KBF y)
            go_roundw
            case rel => exact ⟨k + 1, by go_num, by omega, KY, BY, N1, N2⟩
            case measure => simp [intOf]; omega
      · have hi1 : ¬ (k : Int) < (ts.length : Int) := by omega
        have g1 : wr.cell? ⟨w.heap.size, 0, none⟩ = some (.slice a1 ts.length c1) := (unhide KB).c 0 (by simp)
        have g2 : wr.cell? ⟨w.heap.size, 2, none⟩ = some (.slice a3 ds.length c3) := (unhide KB).c 2 (by simp)
        have HT : Hid (listS 40 (tkB nh nc nd) (·.nm) ts = true) := hide (listS_yes (of_decide_eq_true q3) (fun i hi => unhide A1 i (by omega)) (fun i hi => unhide A2 i (by omega)))
        have KB2 := KB
        have BW2 := BW
        clear A1 A2 KB BW
        go_wp2_with fail
        go_loopw [5] (fun i wr => ∃ k : Nat, i = .int .i64 k ∧ k ≤ ds.length ∧ Hid (Blk wr w.heap.size [.slice a1 ts.length c1, .slice a2 cs.length c2, .slice a3 ds.length c3, .int .i64 nh, .int .i64 nc, .int .i64 nd]) ∧ Hid (Below w.heap.size w wr) ∧ Hid (∀ j, j < k → (dkB nd) (elAt ds j) = true) ∧ Hid (∀ j, j + 1 < k → (elAt ds j).i < (elAt ds (j + 1)).i)) (fun i _ => ds.length - (intOf i).toNat)
        case atStart => exact ⟨0, rfl, Nat.zero_le _, KB2, BW2, hide (fun j hj => by omega), hide (fun j hj => by omega)⟩
        case round =>
          clear KB2 BW2 g1 g2 hi1 hlt hk
          rename_i k1 _ _
          clear k1
          obtain ⟨k, rfl, hk, KB, BW, A1, A2⟩ := hrel
          by_cases hlt : k < ds.length
          · have g1 : wr.cell? ⟨w.heap.size, 2, none⟩ = some (.slice a3 ds.length c3) := (unhide KB).c 2 (by simp)
            obtain ⟨bb, off, rfl, hc⟩ := ((unhide HRds).below (unhide BW)).at_ k hlt
            have s0 : wr.cell? ⟨bb, off + k * 3, none⟩ = some (.string (elAt ds k).n) := hc 0 (by omega)
            have s1 : wr.cell? ⟨bb, off + k * 3 + 1, none⟩ = some (.int .i64 (elAt ds k).i) := hc 1 (by omega)
            have s2 : wr.cell? ⟨bb, off + k * 3 + 2, none⟩ = some (.int .i64 (elAt ds k).s) := hc 2 (by omega)
            have hi1 : (k : Int) < (ds.length : Int) := by omega
            have hi0 : (0 : Int) ≤ (k : Int) := by omega
            have HFX := hide (unhide HFds k)
            obtain ⟨x, hx⟩ : ∃ x, elAt ds k = x := ⟨_, rfl⟩
            rw [hx] at s0 s1 s2 HFX
            have HX := hide hx
            clear hc hx
            go_wp2_with fail
            obtain ⟨V, hV⟩ : ∃ V, V = wr.alloc (Obj.cells #[.string x.n, .int .i64 x.i, .int .i64 x.s] 52) := ⟨_, rfl⟩
            have KV : Hid (Blk V wr.heap.size [.string x.n, .int .i64 x.i, .int .i64 x.s]) := hide (by rw [hV]; exact Blk.new _ _)
            have bV : Below wr.heap.size wr V := by rw [hV]; exact bel1 _
            rw [← hV]
            have BV := hide ((unhide BW).trans (bV.mono (unhide BW).size))
            have KBV := hide ((unhide KB).below bV)
            clear hV bV g1 s0 s1 s2
            obtain ⟨ι, f, _, hbf, hall⟩ := belClass V
            have HF := hide hbf
            have HAL := hide hall
            have HBF : Hid (∀ y, Below w.heap.size w (f y)) := hide (fun y => (unhide BV).trans ((hbf y).mono (unhide BV).size))
            have v0 : ∀ y, (f y).cell? ⟨wr.heap.size, 0, none⟩ = some (.string x.n) := fun y => ((unhide KV).below (hbf y)).c 0 (by simp)
            have v1 : ∀ y, (f y).cell? ⟨wr.heap.size, 1, none⟩ = some (.int .i64 x.i) := fun y => ((unhide KV).below (hbf y)).c 1 (by simp)
            have v2 : ∀ y, (f y).cell? ⟨wr.heap.size, 2, none⟩ = some (.int .i64 x.s) := fun y => ((unhide KV).below (hbf y)).c 2 (by simp)
            have b0 : ∀ y, (f y).cell? ⟨w.heap.size, 0, none⟩ = some (.slice a1 ts.length c1) := fun y => ((unhide KBV).below (hbf y)).c 0 (by simp)
            have b1 : ∀ y, (f y).cell? ⟨w.heap.size, 1, none⟩ = some (.slice a2 cs.length c2) := fun y => ((unhide KBV).below (hbf y)).c 1 (by simp)
            have b2 : ∀ y, (f y).cell? ⟨w.heap.size, 2, none⟩ = some (.slice (some ⟨bb, off, none⟩) ds.length c3) := fun y => ((unhide KBV).below (hbf y)).c 2 (by simp)
            have b3 : ∀ y, (f y).cell? ⟨w.heap.size, 3, none⟩ = some (.int .i64 nh) := fun y => ((unhide KBV).below (hbf y)).c 3 (by simp)
            have b4 : ∀ y, (f y).cell? ⟨w.heap.size, 4, none⟩ = some (.int .i64 nc) := fun y => ((unhide KBV).below (hbf y)).c 4 (by simp)
            have b5 : ∀ y, (f y).cell? ⟨w.heap.size, 5, none⟩ = some (.int .i64 nd) := fun y => ((unhide KBV).below (hbf y)).c 5 (by simp)
            have KBF : Hid (∀ y, Blk (f y) w.heap.size [.slice a1 ts.length c1, .slice a2 cs.length c2, .slice (some ⟨bb, off, none⟩) ds.length c3, .int .i64 nh, .int .i64 nc, .int .i64 nd]) := hide (fun y => (unhide KBV).below (hbf y))
            clear hbf hall
            obtain ⟨x0, hx0⟩ := (unhide HAL) V (Below.refl _ _)
            rw [hx0]
            clear hx0
            by_cases k0 : k = 0
            · have K00 := hide k0
              clear k0
              have dk : decide ((0 : Int) < (k : Int)) = false := by have := unhide K00; simp only [decide_eq_false_iff_not]; omega
              have dkn : decide (0 < k) = false := by have := unhide K00; simp only [decide_eq_false_iff_not]; omega
              rcases three (nameB x.n) (inB x.i 1 1000000) (inB x.s 0 nd) with ⟨q1, hv⟩ | ⟨q1, q2, hv⟩ | ⟨q1, q2, q3, hv⟩ | ⟨q1, q2, q3, hv⟩
              · clear hv
                have HE : Hid (flB ⟨ts, cs, ds, nh, nc, nd⟩ = false) := hide (flB_d (listI_el hlt (by rw [unhide HX]; simp [dkB, q1])))
                have CN : Hid (∀ W, Calls Try.prog 42 #[.string x.n] W fun e w' => e = .returned (.bool false) ∧ w' = W) := hide (fun W => by have := l1Name_any x.n W (unhide HFX); rw [q1] at this; exact this)
                refine wp_region_bel (fun w' h => (unhide HAL) w' ((unhide HF _).trans (h.mono (unhide HF _).size))) (by kernel_rfl) (by kernel_rfl) ?_
                (repeat (go_big_quiet_step (first | (go_at_call 42; exact belS (unhide CN _)))))
                refine wpQuiet_nil ?_
                rintro _ ⟨y, rfl⟩
                go_wp2_with fail
                go_ret
                exact ⟨ret_bool (unhide HE).symm, unhide HBF y⟩
              · clear hv
                have HE : Hid (flB ⟨ts, cs, ds, nh, nc, nd⟩ = false) := hide (flB_d (listI_el hlt (by rw [unhide HX]; simp [dkB, q2])))
                have CN : Hid (∀ W, Calls Try.prog 42 #[.string x.n] W fun e w' => e = .returned (.bool true) ∧ w' = W) := hide (fun W => by have := l1Name_any x.n W (unhide HFX); rw [q1] at this; exact this)
                refine wp_region_bel (fun w' h => (unhide HAL) w' ((unhide HF _).trans (h.mono (unhide HF _).size))) (by kernel_rfl) (by kernel_rfl) ?_
                (repeat (go_big_quiet_step (first | (go_at_call 42; exact belS (unhide CN _)) | (go_at_call 43; exact belS (l1In_is _ _ _ _ (by exact q2))))))
                refine wpQuiet_nil ?_
                rintro _ ⟨y, rfl⟩
                go_wp2_with fail
                go_ret
                exact ⟨ret_bool (unhide HE).symm, unhide HBF y⟩
              · clear hv
                have HE : Hid (flB ⟨ts, cs, ds, nh, nc, nd⟩ = false) := hide (flB_d (listI_el hlt (by rw [unhide HX]; simp [dkB, q3])))
                have CN : Hid (∀ W, Calls Try.prog 42 #[.string x.n] W fun e w' => e = .returned (.bool true) ∧ w' = W) := hide (fun W => by have := l1Name_any x.n W (unhide HFX); rw [q1] at this; exact this)
                refine wp_region_bel (fun w' h => (unhide HAL) w' ((unhide HF _).trans (h.mono (unhide HF _).size))) (by kernel_rfl) (by kernel_rfl) ?_
                (repeat (go_big_quiet_step (first | (go_at_call 42; exact belS (unhide CN _)) | (go_at_call 43; exact belS (l1In_is _ _ _ _ (by exact q2))) | (go_at_call 43; exact belS (l1In_is _ _ _ _ (by exact q3))))))
                refine wpQuiet_nil ?_
                rintro _ ⟨y, rfl⟩
                go_wp2_with fail
                go_ret
                exact ⟨ret_bool (unhide HE).symm, unhide HBF y⟩
              · clear hv
                have N1 : Hid (∀ j, j < k + 1 → (dkB nd) (elAt ds j) = true) := hide (fun j hj => by
                  by_cases e3 : j = k
                  · rw [e3, unhide HX]; simp [dkB, q1, q2, q3]
                  · exact (unhide A1) j (by omega))
                have N2 : Hid (∀ j, j + 1 < k + 1 → (elAt ds j).i < (elAt ds (j + 1)).i) := hide (fun j hj => by have := unhide K00; omega)
                clear A1 A2
                have CN : Hid (∀ W, Calls Try.prog 42 #[.string x.n] W fun e w' => e = .returned (.bool true) ∧ w' = W) := hide (fun W => by have := l1Name_any x.n W (unhide HFX); rw [q1] at this; exact this)
                refine wp_region_bel (fun w' h => (unhide HAL) w' ((unhide HF _).trans (h.mono (unhide HF _).size))) (by kernel_rfl) (by kernel_rfl) ?_
                (repeat (go_big_quiet_step (first | (go_at_call 42; exact belS (unhide CN _)) | (go_at_call 43; exact belS (l1In_is _ _ _ _ (by exact q2))) | (go_at_call 43; exact belS (l1In_is _ _ _ _ (by exact q3))))))
                refine wpQuiet_nil ?_
                rintro _ ⟨y, rfl⟩
                go_wp2_with fail
                have BY := hide (unhide HBF y)
                have KY := hide (unhide KBF y)
                go_roundw
                case rel => exact ⟨k + 1, by go_num, by omega, KY, BY, N1, N2⟩
                case measure => simp [intOf]; omega
            · obtain ⟨m, hm⟩ : ∃ m, m + 1 = k := ⟨k - 1, by omega⟩
              have dk : decide ((0 : Int) < (k : Int)) = true := by simp only [decide_eq_true_eq]; omega
              have dkn : decide (0 < k) = true := by simp only [decide_eq_true_eq]; omega
              have hsub : (k : Int) - 1 = (m : Int) := by omega
              have hwr : IntKind.i64.wrap (m : Int) = (m : Int) := by rw [IntKind.wrap_i64]; omega
              have hm1 : (m : Int) < (ds.length : Int) := by omega
              have hm0 : (0 : Int) ≤ (m : Int) := by omega
              obtain ⟨Z, hZ⟩ : ∃ z, (elAt ds m).i = z := ⟨_, rfl⟩
              have m1 : ∀ y, (f y).cell? ⟨bb, off + m * 3 + 1, none⟩ = some (.int .i64 Z) := fun y => by
                obtain ⟨bb2, off2, ee, hc2⟩ := ((unhide HRds).below ((unhide HBF) y)).at_ m (by omega)
                simp only [Option.some.injEq, Addr.mk.injEq, and_true] at ee
                obtain ⟨rfl, rfl⟩ := ee
                rw [← hZ]
                exact hc2 1 (by omega)
              have HZ := hide hZ
              have HM := hide hm
              clear hZ hm k0
              rcases four (nameB x.n) (inB x.i 1 1000000) (decide (Z < x.i)) (inB x.s 0 nd) with ⟨q1, hv⟩ | ⟨q1, q2, hv⟩ | ⟨q1, q2, q3, hv⟩ | ⟨q1, q2, q3, q4, hv⟩ | ⟨q1, q2, q3, q4, hv⟩
              · clear hv
                have HE : Hid (flB ⟨ts, cs, ds, nh, nc, nd⟩ = false) := hide (flB_d (listI_el hlt (by rw [unhide HX]; simp [dkB, q1])))
                have CN : Hid (∀ W, Calls Try.prog 42 #[.string x.n] W fun e w' => e = .returned (.bool false) ∧ w' = W) := hide (fun W => by have := l1Name_any x.n W (unhide HFX); rw [q1] at this; exact this)
                refine wp_region_bel (fun w' h => (unhide HAL) w' ((unhide HF _).trans (h.mono (unhide HF _).size))) (by kernel_rfl) (by kernel_rfl) ?_
                (repeat (go_big_quiet_step (first | (go_at_call 42; exact belS (unhide CN _)))))
                refine wpQuiet_nil ?_
                rintro _ ⟨y, rfl⟩
                go_wp2_with fail
                go_ret
                exact ⟨ret_bool (unhide HE).symm, unhide HBF y⟩
              · clear hv
                have HE : Hid (flB ⟨ts, cs, ds, nh, nc, nd⟩ = false) := hide (flB_d (listI_el hlt (by rw [unhide HX]; simp [dkB, q2])))
                have CN : Hid (∀ W, Calls Try.prog 42 #[.string x.n] W fun e w' => e = .returned (.bool true) ∧ w' = W) := hide (fun W => by have := l1Name_any x.n W (unhide HFX); rw [q1] at this; exact this)
                refine wp_region_bel (fun w' h => (unhide HAL) w' ((unhide HF _).trans (h.mono (unhide HF _).size))) (by kernel_rfl) (by kernel_rfl) ?_
                (repeat (go_big_quiet_step (first | (go_at_call 42; exact belS (unhide CN _)) | (go_at_call 43; exact belS (l1In_is _ _ _ _ (by exact q2))))))
                refine wpQuiet_nil ?_
                rintro _ ⟨y, rfl⟩
                go_wp2_with fail
                go_ret
                exact ⟨ret_bool (unhide HE).symm, unhide HBF y⟩
              · clear hv
                have HE : Hid (flB ⟨ts, cs, ds, nh, nc, nd⟩ = false) := hide (flB_d (listI_fall (i := m) (by have := unhide HM; omega) (by rw [unhide HZ, unhide HM, unhide HX]; have := of_decide_eq_false q3; omega)))
                have q3n : x.i ≤ Z := by have := of_decide_eq_false q3; omega
                have q3d : decide (x.i ≤ Z) = true := by simpa using q3n
                clear q3n
                have CN : Hid (∀ W, Calls Try.prog 42 #[.string x.n] W fun e w' => e = .returned (.bool true) ∧ w' = W) := hide (fun W => by have := l1Name_any x.n W (unhide HFX); rw [q1] at this; exact this)
                refine wp_region_bel (fun w' h => (unhide HAL) w' ((unhide HF _).trans (h.mono (unhide HF _).size))) (by kernel_rfl) (by kernel_rfl) ?_
                (repeat (go_big_quiet_step (first | (go_at_call 42; exact belS (unhide CN _)) | (go_at_call 43; exact belS (l1In_is _ _ _ _ (by exact q2))))))
                refine wpQuiet_nil ?_
                rintro _ ⟨y, rfl⟩
                go_wp2_with fail
                go_ret
                exact ⟨ret_bool (unhide HE).symm, unhide HBF y⟩
              · clear hv
                have HE : Hid (flB ⟨ts, cs, ds, nh, nc, nd⟩ = false) := hide (flB_d (listI_el hlt (by rw [unhide HX]; simp [dkB, q4])))
                have q3d : decide (x.i ≤ Z) = false := by have := of_decide_eq_true q3; simp only [decide_eq_false_iff_not]; omega
                have CN : Hid (∀ W, Calls Try.prog 42 #[.string x.n] W fun e w' => e = .returned (.bool true) ∧ w' = W) := hide (fun W => by have := l1Name_any x.n W (unhide HFX); rw [q1] at this; exact this)
                refine wp_region_bel (fun w' h => (unhide HAL) w' ((unhide HF _).trans (h.mono (unhide HF _).size))) (by kernel_rfl) (by kernel_rfl) ?_
                (repeat (go_big_quiet_step (first | (go_at_call 42; exact belS (unhide CN _)) | (go_at_call 43; exact belS (l1In_is _ _ _ _ (by exact q2))) | (go_at_call 43; exact belS (l1In_is _ _ _ _ (by exact q4))))))
                refine wpQuiet_nil ?_
                rintro _ ⟨y, rfl⟩
                go_wp2_with fail
                go_ret
                exact ⟨ret_bool (unhide HE).symm, unhide HBF y⟩
              · clear hv
                have q3d : decide (x.i ≤ Z) = false := by have := of_decide_eq_true q3; simp only [decide_eq_false_iff_not]; omega
                have N1 : Hid (∀ j, j < k + 1 → (dkB nd) (elAt ds j) = true) := hide (fun j hj => by
                  by_cases e3 : j = k
                  · rw [e3, unhide HX]; simp [dkB, q1, q2, q4]
                  · exact (unhide A1) j (by omega))
                have N2 : Hid (∀ j, j + 1 < k + 1 → (elAt ds j).i < (elAt ds (j + 1)).i) := hide (fun j hj => by
                  have hm := unhide HM
                  by_cases e3 : j = m
                  · rw [e3, hm, unhide HX, unhide HZ]; exact of_decide_eq_true q3
                  · exact (unhide A2) j (by omega))
                clear A1 A2
                have CN : Hid (∀ W, Calls Try.prog 42 #[.string x.n] W fun e w' => e = .returned (.bool true) ∧ w' = W) := hide (fun W => by have := l1Name_any x.n W (unhide HFX); rw [q1] at this; exact this)
                refine wp_region_bel (fun w' h => (unhide HAL) w' ((unhide HF _).trans (h.mono (unhide HF _).size))) (by kernel_rfl) (by kernel_rfl) ?_
                (repeat (go_big_quiet_step (first | (go_at_call 42; exact belS (unhide CN _)) | (go_at_call 43; exact belS (l1In_is _ _ _ _ (by exact q2))) | (go_at_call 43; exact belS (l1In_is _ _ _ _ (by exact q4))))))
                refine wpQuiet_nil ?_
                rintro _ ⟨y, rfl⟩
                go_wp2_with fail
                have BY := hide (unhide HBF y)
                have KY := hide (unhide KBF y)
                go_roundw
                case rel => exact ⟨k + 1, by go_num, by omega, KY, BY, N1, N2⟩
                case measure => simp [intOf]; omega
          · have hi1 : ¬ (k : Int) < (ds.length : Int) := by omega
            have g2 : wr.cell? ⟨w.heap.size, 2, none⟩ = some (.slice a3 ds.length c3) := (unhide KB).c 2 (by simp)
            have HE : Hid (flB ⟨ts, cs, ds, nh, nc, nd⟩ = true) := hide (flB_y q1 q2 (unhide HT) (listI_yes (of_decide_eq_true q4) (fun i hi => unhide A1 i (by omega)) (fun i hi => unhide A2 i (by omega))))
            go_wp2_with fail
            go_ret
            exact ⟨ret_bool (by rw [unhide HE]), unhide BW⟩

end Go.Proofs.Ytilahgifaglekbc
