/-
  Whether texts rise, as the program asks it: the plain answer, at every list; nothing that was there is written.
  What the model's CarryOk answers: the plain answer, at every list; nothing that was there is written.
-/
import Derived.Test.YticdccdkjepifaaGreatMWrOrd
import Derived.Test.YticdccdkjepifaaGreatMStrRow
import Derived.Laws.Cover1
import Derived.Test.YticdccdkjepifaaGreatMTaAlert

namespace Go.Proofs.YticdccdkjepifaaGreat
open Go.RowKit

set_option maxHeartbeats 1000000 in
theorem ascS_any (ad : Option Addr) (len cap : Nat) (ts : List ByteArray) (w : World) (hr : RowE 1 stC w ad len ts) :
    Calls Tryz.prog 105 #[.slice ad len cap] w fun e w' => e = .returned (.bool (riseS ts)) ∧ ∃ n, w' = w.drewN n := by
  have hz := hr.len_eq
  have hs := hr.small
  have hopen := hr.open1
  clear hr
  subst hz
  go_enter Tryz.func105, Tryz.ntmps105
  go_wp2
  go_loopw [3] (fun i wr => ∃ k n : Nat, i = .int .i64 ((k : Int) + 1) ∧ k ≤ ts.length ∧ Hid (∀ j, j < k → j + 1 < ts.length → sLt (elAt ts j) (elAt ts (j + 1)) = true) ∧ wr = w.drewN n) (fun i _ => ts.length + 1 - (intOf i).toNat)
  case atStart => exact ⟨0, 0, rfl, by omega, hide (fun j hj => by omega), rfl⟩
  case round =>
    obtain ⟨k, n, rfl, hk, hall, rfl⟩ := hrel
    by_cases hlt : k + 1 < ts.length
    · rcases hopen with ⟨h0, _⟩ | ⟨bb, off, rfl, _, hc⟩
      · omega
      have hc1 : w.cell? ⟨bb, off + k, none⟩ = some (.string (elAt ts k)) := hc k (by omega)
      have hc2 : w.cell? ⟨bb, off + (k + 1), none⟩ = some (.string (elAt ts (k + 1))) := hc (k + 1) hlt
      have hi1 : (0 : Int) ≤ (k : Int) := by omega
      have hi2 : (k : Int) < (ts.length : Int) := by omega
      have hi3 : (k : Int) + 1 < (ts.length : Int) := by omega
      have hi4 : ((k : Int) + 1).toNat = k + 1 := by omega
      have HD : Hid (sLt (elAt ts k) (elAt ts (k + 1)) = Op.bytesLess (elAt ts k).toList (elAt ts (k + 1)).toList) := hide rfl
      obtain ⟨x, hx⟩ : ∃ x, elAt ts k = x := ⟨_, rfl⟩
      obtain ⟨y, hy⟩ : ∃ y, elAt ts (k + 1) = y := ⟨_, rfl⟩
      rw [hx] at hc1
      rw [hy] at hc2
      rw [hx, hy] at HD
      have HX := hide hx
      have HY := hide hy
      clear hc hx hy
      have HOR : Hid ((Op.bytesLess y.toList x.toList || y.toList == x.toList) = !Op.bytesLess x.toList y.toList) := hide (sLt_or x y)
      cases hin : Op.bytesLess x.toList y.toList with
      | true =>
        rw [hin] at HD HOR
        have q1 : Op.bytesLess y.toList x.toList = false := by have := unhide HOR; simp at this; exact this.1
        have q2 : (y.toList == x.toList) = false := by have := unhide HOR; simp at this; simpa using this.2
        go_wp2
        go_quiet (fail)
        go_wp2
        go_roundw
        case rel => exact ⟨k + 1, _, by go_num, by omega, hide (fun j hj h2 => by rcases Nat.lt_succ_iff_lt_or_eq.1 hj with h | h; exact unhide hall j h h2; subst h; rw [unhide HX, unhide HY]; exact unhide HD), rfl⟩
        case measure => simp [intOf]; omega
      | false =>
        rw [hin] at HD HOR
        have q1 : (Op.bytesLess y.toList x.toList || y.toList == x.toList) = true := unhide HOR
        rcases Bool.or_eq_true_iff.1 q1 with q2 | q2
        all_goals
          clear q1
          go_wp2
          go_quiet (fail)
          go_wp2
          go_ret
          exact ⟨ret_bool (riseS_false hlt (by rw [unhide HX, unhide HY]; exact unhide HD)).symm, dn2 _ _ _⟩
    · have hi3 : ¬ (k : Int) + 1 < (ts.length : Int) := by omega
      go_wp2
      go_ret
      exact ⟨ret_bool (riseS_true fun j hj => unhide hall j (by omega) hj).symm, n, rfl⟩

end Go.Proofs.YticdccdkjepifaaGreat

namespace Go.Proofs.YticdccdkjepifaaGreat
open Go Go.RowKit

set_option maxRecDepth 20000 in
set_option maxHeartbeats 4000000 in
theorem specCarryOk_any (a1 : Option Addr) (l1 c1 : Nat) (cs : List Cr) (w : World) (hr : RowE 3 crC w a1 l1 cs) (hf : ∀ i, fitT (elAt cs i).n) :
    Calls Tryz.prog 66 #[.slice a1 l1 c1] w fun e w' => e = .returned (.bool (caB cs)) ∧ Below w.heap.size w w' := by
  have hz := hr.len_eq
  have hsm := hr.small
  have HRcs := hide hr
  have HFcs := hide hf
  clear hr hf
  subst hz
  go_enter Tryz.func66, Tryz.ntmps66
  go_wp2_with fail
  go_loopw [3] (fun i wr => ∃ k : Nat, i = .int .i64 k ∧ k ≤ cs.length ∧ Hid (Below w.heap.size w wr) ∧ Hid (∀ j, j < k → crB (elAt cs j) = true) ∧ Hid (∀ j, j + 1 < k → sLt (elAt cs j).n (elAt cs (j + 1)).n = true)) (fun i _ => cs.length - (intOf i).toNat)
  case atStart => exact ⟨0, rfl, Nat.zero_le _, hide (Below.refl _ _), hide (fun j hj => by omega), hide (fun j hj => by omega)⟩
  case round =>
    obtain ⟨k, rfl, hk, BW, A1, A2⟩ := hrel
    by_cases hlt : k < cs.length
    · obtain ⟨bb, off, rfl, hc⟩ := ((unhide HRcs).below (unhide BW)).at_ k hlt
      have s0 : wr.cell? ⟨bb, off + k * 3, none⟩ = some (.string (elAt cs k).n) := hc 0 (by omega)
      have s1 : wr.cell? ⟨bb, off + k * 3 + 1, none⟩ = some (.int .i64 (elAt cs k).m) := hc 1 (by omega)
      have s2 : wr.cell? ⟨bb, off + k * 3 + 2, none⟩ = some (.int .i64 (elAt cs k).d) := hc 2 (by omega)
      have hi1 : (k : Int) < (cs.length : Int) := by omega
      have hi0 : (0 : Int) ≤ (k : Int) := by omega
      have HFX := hide (unhide HFcs k)
      obtain ⟨x, hx⟩ : ∃ x, elAt cs k = x := ⟨_, rfl⟩
      rw [hx] at s0 s1 s2 HFX
      have HX := hide hx
      clear hc hx
      go_wp2_with fail
      obtain ⟨V, hV⟩ : ∃ V, V = wr.alloc (Obj.cells #[.string x.n, .int .i64 x.m, .int .i64 x.d] 92) := ⟨_, rfl⟩
      have KV : Hid (Blk V wr.heap.size [.string x.n, .int .i64 x.m, .int .i64 x.d]) := hide (by rw [hV]; exact Blk.new _ _)
      have bV : Below wr.heap.size wr V := by rw [hV]; exact bel1 _
      rw [← hV]
      have BV := hide ((unhide BW).trans (bV.mono (unhide BW).size))
      clear hV bV s0 s1 s2
      obtain ⟨ι, f, _, hbf, hall⟩ := belClass V
      have HF := hide hbf
      have HAL := hide hall
      have HBF : Hid (∀ y, Below w.heap.size w (f y)) := hide (fun y => (unhide BV).trans ((hbf y).mono (unhide BV).size))
      have v0 : ∀ y, (f y).cell? ⟨wr.heap.size, 0, none⟩ = some (.string x.n) := fun y => ((unhide KV).below (hbf y)).c 0 (by simp)
      have v1 : ∀ y, (f y).cell? ⟨wr.heap.size, 1, none⟩ = some (.int .i64 x.m) := fun y => ((unhide KV).below (hbf y)).c 1 (by simp)
      have v2 : ∀ y, (f y).cell? ⟨wr.heap.size, 2, none⟩ = some (.int .i64 x.d) := fun y => ((unhide KV).below (hbf y)).c 2 (by simp)
      clear hbf hall
      obtain ⟨x0, hx0⟩ := (unhide HAL) V (Below.refl _ _)
      rw [hx0]
      clear hx0
      by_cases k0 : k = 0
      · have K00 := hide k0
        clear k0
        have dk : decide ((0 : Int) < (k : Int)) = false := by have := unhide K00; simp only [decide_eq_false_iff_not]; omega
        have dkn : decide (0 < k) = false := by have := unhide K00; simp only [decide_eq_false_iff_not]; omega
        rcases three (nameB x.n) (inB x.m 0 10) (inB x.d 0 120) with ⟨q1, hv⟩ | ⟨q1, q2, hv⟩ | ⟨q1, q2, q3, hv⟩ | ⟨q1, q2, q3, hv⟩
        · clear hv
          have HE : Hid (caB cs = false) := hide (listS_el hlt (by rw [unhide HX, crB, q1]; simp))
          have CN : Hid (∀ W, Calls Tryz.prog 69 #[.string x.n] W fun e w' => e = .returned (.bool false) ∧ w' = W) := hide (fun W => by have := l1Name_any x.n W (unhide HFX); rw [q1] at this; exact this)
          refine wp_region_bel (fun w' h => (unhide HAL) w' ((unhide HF _).trans (h.mono (unhide HF _).size))) (by kernel_rfl) (by kernel_rfl) ?_
          (repeat (go_big_quiet_step (first | (go_at_call 69; exact belS (unhide CN _)))))
          refine wpQuiet_nil ?_
          rintro _ ⟨y, rfl⟩
          go_wp2_with fail
          go_ret
          exact ⟨ret_bool (unhide HE).symm, unhide HBF y⟩
        · clear hv
          have HE : Hid (caB cs = false) := hide (listS_el hlt (by rw [unhide HX, crB, q2]; simp))
          have CN : Hid (∀ W, Calls Tryz.prog 69 #[.string x.n] W fun e w' => e = .returned (.bool true) ∧ w' = W) := hide (fun W => by have := l1Name_any x.n W (unhide HFX); rw [q1] at this; exact this)
          refine wp_region_bel (fun w' h => (unhide HAL) w' ((unhide HF _).trans (h.mono (unhide HF _).size))) (by kernel_rfl) (by kernel_rfl) ?_
          (repeat (go_big_quiet_step (first | (go_at_call 69; exact belS (unhide CN _)) | (go_at_call 70; exact belS (l1In_is _ _ _ _ (by exact q2))))))
          refine wpQuiet_nil ?_
          rintro _ ⟨y, rfl⟩
          go_wp2_with fail
          go_ret
          exact ⟨ret_bool (unhide HE).symm, unhide HBF y⟩
        · clear hv
          have HE : Hid (caB cs = false) := hide (listS_el hlt (by rw [unhide HX, crB, q3]; simp))
          have CN : Hid (∀ W, Calls Tryz.prog 69 #[.string x.n] W fun e w' => e = .returned (.bool true) ∧ w' = W) := hide (fun W => by have := l1Name_any x.n W (unhide HFX); rw [q1] at this; exact this)
          refine wp_region_bel (fun w' h => (unhide HAL) w' ((unhide HF _).trans (h.mono (unhide HF _).size))) (by kernel_rfl) (by kernel_rfl) ?_
          (repeat (go_big_quiet_step (first | (go_at_call 69; exact belS (unhide CN _)) | (go_at_call 70; exact belS (l1In_is _ _ _ _ (by exact q2))) | (go_at_call 70; exact belS (l1In_is _ _ _ _ (by exact q3))))))
          refine wpQuiet_nil ?_
          rintro _ ⟨y, rfl⟩
          go_wp2_with fail
          go_ret
          exact ⟨ret_bool (unhide HE).symm, unhide HBF y⟩
        · clear hv
          have N1 : Hid (∀ j, j < k + 1 → crB (elAt cs j) = true) := hide (fun j hj => by
            by_cases e3 : j = k
            · rw [e3, unhide HX, crB, q1, q2, q3]; rfl
            · exact (unhide A1) j (by omega))
          have N2 : Hid (∀ j, j + 1 < k + 1 → sLt (elAt cs j).n (elAt cs (j + 1)).n = true) := hide (fun j hj => by have := unhide K00; omega)
          clear A1 A2
          have CN : Hid (∀ W, Calls Tryz.prog 69 #[.string x.n] W fun e w' => e = .returned (.bool true) ∧ w' = W) := hide (fun W => by have := l1Name_any x.n W (unhide HFX); rw [q1] at this; exact this)
          refine wp_region_bel (fun w' h => (unhide HAL) w' ((unhide HF _).trans (h.mono (unhide HF _).size))) (by kernel_rfl) (by kernel_rfl) ?_
          (repeat (go_big_quiet_step (first | (go_at_call 69; exact belS (unhide CN _)) | (go_at_call 70; exact belS (l1In_is _ _ _ _ (by exact q2))) | (go_at_call 70; exact belS (l1In_is _ _ _ _ (by exact q3))))))
          refine wpQuiet_nil ?_
          rintro _ ⟨y, rfl⟩
          go_wp2_with fail
          have BY := hide (unhide HBF y)
          go_roundw
          case rel => exact ⟨k + 1, by go_num, by omega, BY, N1, N2⟩
          case measure => simp [intOf]; omega
      · obtain ⟨m, hm⟩ : ∃ m, m + 1 = k := ⟨k - 1, by omega⟩
        have dk : decide ((0 : Int) < (k : Int)) = true := by simp only [decide_eq_true_eq]; omega
        have dkn : decide (0 < k) = true := by simp only [decide_eq_true_eq]; omega
        have hsub : (k : Int) - 1 = (m : Int) := by omega
        have hwr : IntKind.i64.wrap (m : Int) = (m : Int) := by rw [IntKind.wrap_i64]; omega
        have hm1 : (m : Int) < (cs.length : Int) := by omega
        have hm0 : (0 : Int) ≤ (m : Int) := by omega
        obtain ⟨Z, hZ⟩ : ∃ z, (elAt cs m).n = z := ⟨_, rfl⟩
        have m1 : ∀ y, (f y).cell? ⟨bb, off + m * 3, none⟩ = some (.string Z) := fun y => by
          obtain ⟨bb2, off2, ee, hc2⟩ := ((unhide HRcs).below ((unhide HBF) y)).at_ m (by omega)
          simp only [Option.some.injEq, Addr.mk.injEq, and_true] at ee
          obtain ⟨rfl, rfl⟩ := ee
          rw [← hZ]
          exact hc2 0 (by omega)
        have HZ := hide hZ
        have HM := hide hm
        clear hZ hm k0
        rcases four (nameB x.n) (Op.bytesLess Z.toList x.n.toList) (inB x.m 0 10) (inB x.d 0 120) with ⟨q1, hv⟩ | ⟨q1, q2, hv⟩ | ⟨q1, q2, q3, hv⟩ | ⟨q1, q2, q3, q4, hv⟩ | ⟨q1, q2, q3, q4, hv⟩
        · clear hv
          have HE : Hid (caB cs = false) := hide (listS_el hlt (by rw [unhide HX, crB, q1]; simp))
          have CN : Hid (∀ W, Calls Tryz.prog 69 #[.string x.n] W fun e w' => e = .returned (.bool false) ∧ w' = W) := hide (fun W => by have := l1Name_any x.n W (unhide HFX); rw [q1] at this; exact this)
          refine wp_region_bel (fun w' h => (unhide HAL) w' ((unhide HF _).trans (h.mono (unhide HF _).size))) (by kernel_rfl) (by kernel_rfl) ?_
          (repeat (go_big_quiet_step (first | (go_at_call 69; exact belS (unhide CN _)))))
          refine wpQuiet_nil ?_
          rintro _ ⟨y, rfl⟩
          go_wp2_with fail
          go_ret
          exact ⟨ret_bool (unhide HE).symm, unhide HBF y⟩
        · clear hv
          have HE : Hid (caB cs = false) := hide (listS_fall (i := m) (by have := unhide HM; omega) (by rw [unhide HZ, unhide HM, unhide HX]; exact q2))
          have CN : Hid (∀ W, Calls Tryz.prog 69 #[.string x.n] W fun e w' => e = .returned (.bool true) ∧ w' = W) := hide (fun W => by have := l1Name_any x.n W (unhide HFX); rw [q1] at this; exact this)
          refine wp_region_bel (fun w' h => (unhide HAL) w' ((unhide HF _).trans (h.mono (unhide HF _).size))) (by kernel_rfl) (by kernel_rfl) ?_
          (repeat (go_big_quiet_step (first | (go_at_call 69; exact belS (unhide CN _)))))
          refine wpQuiet_nil ?_
          rintro _ ⟨y, rfl⟩
          go_wp2_with fail
          go_ret
          exact ⟨ret_bool (unhide HE).symm, unhide HBF y⟩
        · clear hv
          have HE : Hid (caB cs = false) := hide (listS_el hlt (by rw [unhide HX, crB, q3]; simp))
          have CN : Hid (∀ W, Calls Tryz.prog 69 #[.string x.n] W fun e w' => e = .returned (.bool true) ∧ w' = W) := hide (fun W => by have := l1Name_any x.n W (unhide HFX); rw [q1] at this; exact this)
          refine wp_region_bel (fun w' h => (unhide HAL) w' ((unhide HF _).trans (h.mono (unhide HF _).size))) (by kernel_rfl) (by kernel_rfl) ?_
          (repeat (go_big_quiet_step (first | (go_at_call 69; exact belS (unhide CN _)) | (go_at_call 70; exact belS (l1In_is _ _ _ _ (by exact q3))))))
          refine wpQuiet_nil ?_
          rintro _ ⟨y, rfl⟩
          go_wp2_with fail
          go_ret
          exact ⟨ret_bool (unhide HE).symm, unhide HBF y⟩
        · clear hv
          have HE : Hid (caB cs = false) := hide (listS_el hlt (by rw [unhide HX, crB, q4]; simp))
          have CN : Hid (∀ W, Calls Tryz.prog 69 #[.string x.n] W fun e w' => e = .returned (.bool true) ∧ w' = W) := hide (fun W => by have := l1Name_any x.n W (unhide HFX); rw [q1] at this; exact this)
          refine wp_region_bel (fun w' h => (unhide HAL) w' ((unhide HF _).trans (h.mono (unhide HF _).size))) (by kernel_rfl) (by kernel_rfl) ?_
          (repeat (go_big_quiet_step (first | (go_at_call 69; exact belS (unhide CN _)) | (go_at_call 70; exact belS (l1In_is _ _ _ _ (by exact q3))) | (go_at_call 70; exact belS (l1In_is _ _ _ _ (by exact q4))))))
          refine wpQuiet_nil ?_
          rintro _ ⟨y, rfl⟩
          go_wp2_with fail
          go_ret
          exact ⟨ret_bool (unhide HE).symm, unhide HBF y⟩
        · clear hv
          have N1 : Hid (∀ j, j < k + 1 → crB (elAt cs j) = true) := hide (fun j hj => by
            by_cases e3 : j = k
            · rw [e3, unhide HX, crB, q1, q3, q4]; rfl
            · exact (unhide A1) j (by omega))
          have N2 : Hid (∀ j, j + 1 < k + 1 → sLt (elAt cs j).n (elAt cs (j + 1)).n = true) := hide (fun j hj => by
            have hm := unhide HM
            by_cases e3 : j = m
            · rw [e3, hm, unhide HX, unhide HZ]; exact q2
            · exact (unhide A2) j (by omega))
          clear A1 A2
          have CN : Hid (∀ W, Calls Tryz.prog 69 #[.string x.n] W fun e w' => e = .returned (.bool true) ∧ w' = W) := hide (fun W => by have := l1Name_any x.n W (unhide HFX); rw [q1] at this; exact this)
          refine wp_region_bel (fun w' h => (unhide HAL) w' ((unhide HF _).trans (h.mono (unhide HF _).size))) (by kernel_rfl) (by kernel_rfl) ?_
          (repeat (go_big_quiet_step (first | (go_at_call 69; exact belS (unhide CN _)) | (go_at_call 70; exact belS (l1In_is _ _ _ _ (by exact q3))) | (go_at_call 70; exact belS (l1In_is _ _ _ _ (by exact q4))))))
          refine wpQuiet_nil ?_
          rintro _ ⟨y, rfl⟩
          go_wp2_with fail
          have BY := hide (unhide HBF y)
          go_roundw
          case rel => exact ⟨k + 1, by go_num, by omega, BY, N1, N2⟩
          case measure => simp [intOf]; omega
    · have hi1 : ¬ (k : Int) < (cs.length : Int) := by omega
      by_cases hl : cs.length ≤ 20
      · have HE : Hid (caB cs = true) := hide (listS_yes hl (fun i hi => unhide A1 i (by omega)) (fun i hi => unhide A2 i (by omega)))
        have hd : (cs.length : Int) ≤ 20 := by omega
        go_wp2_with fail
        go_ret
        exact ⟨ret_bool (by rw [unhide HE]), unhide BW⟩
      · have HE : Hid (caB cs = false) := hide (listS_long hl)
        have hd : ¬ (cs.length : Int) ≤ 20 := by omega
        go_wp2_with fail
        go_ret
        exact ⟨ret_bool (by rw [unhide HE]), unhide BW⟩

end Go.Proofs.YticdccdkjepifaaGreat
