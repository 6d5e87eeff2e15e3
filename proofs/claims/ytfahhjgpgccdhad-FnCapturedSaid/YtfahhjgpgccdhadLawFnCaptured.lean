/-
  The law FnCaptured returns true at every list of bytes and writes nothing that was there: the walk. No condition.
-/
import Derived.Test.YtfahhjgpgccdhadAtFix
import Derived.Test.YtfahhjgpgccdhadMadeI
import Derived.Test.YtfahhjgpgccdhadCaptFacts
import Derived.Test.YtfahhjgpgccdhadTkIs
import Derived.Test.YtfahhjgpgccdhadPrImpl
import Derived.Test.YtfahhjgpgccdhadSomeE
import Derived.Test.YtfahhjgpgccdhadAppR
import Derived.Deep.Cut
import Derived.Deep.CutRange
import Derived.Deep.RegionLaw
namespace Go.Proofs.Ytfahhjgpgccdhad
open Go.RowKit

theorem plC_one (x : Pl) (q : Nat) : (plC x q).oneCell' = true := by unfold plC; split <;> rfl
set_option maxHeartbeats 400000 in
theorem signL_is {s : Int} (x : Int) (w : World) (h : s = if x < 0 then -1 else 1) :
    Calls Try.prog 30 #[.int .i64 x] w fun e w' => e = .returned (.int .i64 s) ∧ w' = w := by
  subst h
  by_cases h0 : x < 0
  all_goals
    go_enter Try.func30, Try.ntmps30
    go_wp2
    go_ret
    exact ⟨ret_int (by first | rfl | (split <;> omega)), rfl⟩
set_option maxHeartbeats 400000 in
theorem sizeL_is {s : Int} (x : Int) (w : World) (hb : -1000 ≤ x ∧ x ≤ 1000) (h : s = if x < 0 then -x else x) :
    Calls Try.prog 17 #[.int .i64 x] w fun e w' => e = .returned (.int .i64 s) ∧ w' = w := by
  subst h
  by_cases h0 : x < 0
  all_goals
    go_enter Try.func17, Try.ntmps17
    go_wp2
    go_ret
    exact ⟨ret_int (by first | rfl | (split <;> omega)), rfl⟩
set_option maxHeartbeats 1000000 in
theorem lawFnCaptured_big (a : Option Addr) (len cap : Nat) (w : World) (h : (1048576 : Int) < len) :
    Calls Try.prog 7 #[.slice a len cap] w fun e w' => e = .returned (.bool true) ∧ Below w.heap.size w w' := by
  have hd : decide ((1048576 : Int) < len) = true := by simpa using h
  go_enter Try.func7, Try.ntmps7
  go_wp2_with fail
  refine (big_any a len cap _).mono ?_
  rintro e w' ⟨rfl, hw⟩
  subst w'
  rw [hd]
  go_wp2
  go_ret
  exact ⟨rfl, Below.refl _ _⟩

set_option maxRecDepth 20000 in
set_option maxHeartbeats 3000000 in
theorem lawFnCaptured_small (a : Option Addr) (len cap : Nat) (w : World) (h : ¬ (1048576 : Int) < len) (hb : Bytes w a len) (_hin : ∀ b off, a = some ⟨b, off, none⟩ → b < w.heap.size) :
    Calls Try.prog 7 #[.slice a len cap] w fun e w' => e = .returned (.bool true) ∧ Below w.heap.size w w' := by
  have hd0 : decide ((1048576 : Int) < len) = false := by simpa using h
  obtain ⟨x0, hx0, hat0⟩ := at_fix a len cap 0 w hb (by omega) (by omega)
  obtain ⟨x1, hx1, hat1⟩ := at_fix a len cap 1 w hb (by omega) (by omega)
  obtain ⟨x2, hx2, hat2⟩ := at_fix a len cap 2 w hb (by omega) (by omega)
  have HAT0 := hide hat0
  have HAT1 := hide hat1
  have HAT2 := hide hat2
  obtain ⟨F1, hF1⟩ : ∃ F1, 1 + x0 = F1 := ⟨_, rfl⟩
  obtain ⟨R1, hR1⟩ : ∃ R1, 1 + x1 % 20 = R1 := ⟨_, rfl⟩
  have hRt : x1.tmod 20 = x1 % 20 := Int.tmod_eq_emod_of_nonneg (by omega)
  have hPt : x2.tmod 2 = x2 % 2 := Int.tmod_eq_emod_of_nonneg (by omega)
  have bF : 1 ≤ F1 ∧ F1 ≤ 256 := by omega
  have bR : 1 ≤ R1 ∧ R1 ≤ 20 := by omega
  clear hat0 hat1 hat2 hb h
  go_enter Try.func7, Try.ntmps7
  go_wp2_with fail
  refine (big_any a len cap _).mono ?_
  rintro e w' ⟨rfl, hw⟩
  subst w'
  rw [hd0]
  go_wp2_with fail
  refine ((unhide HAT0) _ (bel1 _)).mono ?_
  rintro e w' ⟨rfl, hw⟩
  subst w'
  go_wp2_with fail
  refine ((unhide HAT1) _ (bel1 _)).mono ?_
  rintro e w' ⟨rfl, hw⟩
  subst w'
  go_wp2_with fail
  refine ((unhide HAT2) _ (bel1 _)).mono ?_
  rintro e w' ⟨rfl, hw⟩
  subst w'
  have HC : ∃ s far rate : Int, (s = 1 ∨ s = -1) ∧ (far = s * F1 ∧ rate = s * R1) ∧ ((x2 % 2 = 0 ∧ s = -1 ∧ -F1 = far ∧ -R1 = rate) ∨ (x2 % 2 = 1 ∧ s = 1 ∧ F1 = far ∧ R1 = rate)) := by
    rcases (show x2 % 2 = 0 ∨ x2 % 2 = 1 by omega) with h | h
    · exact ⟨-1, -F1, -R1, .inr rfl, ⟨by omega, by omega⟩, .inl ⟨h, rfl, rfl, rfl⟩⟩
    · exact ⟨1, F1, R1, .inl rfl, ⟨by omega, by omega⟩, .inr ⟨h, rfl, rfl, rfl⟩⟩
  obtain ⟨s, far, rate, hs, hfr, hcase⟩ := HC
  have hf : 1 ≤ s * far ∧ s * far ≤ 256 := by rcases hs with rfl | rfl <;> omega
  have hr : 1 ≤ s * rate ∧ s * rate ≤ 20 := by rcases hs with rfl | rfl <;> omega
  have bfar : -256 ≤ far ∧ far ≤ 256 := by rcases hs with rfl | rfl <;> omega
  have brate : -20 ≤ rate ∧ rate ≤ 20 := by rcases hs with rfl | rfl <;> omega
  have hlead : leadB 1000 (1000 + far) rate = true := by
    simp only [leadB, decide_eq_true_eq]
    rcases hs with rfl | rfl <;> omega
  have HSG : Hid (s = if far < 0 then -1 else 1) := hide (by rcases hs with rfl | rfl <;> split <;> omega)
  have HSZ : Hid (s * far = if far < 0 then -far else far) := hide (by rcases hs with rfl | rfl <;> split <;> omega)
  have HS := hide hs
  have HF := hide hf
  have HR := hide hr
  have HLD := hide hlead
  clear hs hf hr hlead hfr
  rcases hcase with ⟨hx, hs1, hfar, hrate⟩ | ⟨hx, hs1, hfar, hrate⟩
  all_goals
    have hxb : (x2 % 2 == 0) = decide (x2 % 2 = 0) := by rw [hx]; rfl
    clear hs1 hxb
    have e0 : prB ⟨1, 0, 1000, 1000, 0, 0, 0, 0, false⟩ 3 (1000 + far) = true := by simp [prB, apOk, inB]; omega
    have e1 : prP ⟨1, 0, 1000, 1000, 0, 0, 0, 0, false⟩ 3 (1000 + far) = ⟨1, 0, 1000, (1000 + far), 0, 0, 0, 0, false⟩ := by rw [prP_yes e0]; simp [prY]
    go_wp2_with fail
    refine (implPress_any 1 0 1000 1000 0 0 0 0 false 3 (1000 + far) _).mono ?_
    rintro e w1 ⟨rfl, b1⟩
    rw [e0, e1]
    dsimp only
    have K1 : Hid (Blk w1 w.heap.size [.int .i64 1, .int .i64 0, .int .i64 1000, .int .i64 1000, .int .i64 0, .int .i64 0, .int .i64 0, .int .i64 0, .bool false]) := hide ((Blk.new (w := w) [.int .i64 1, .int .i64 0, .int .i64 1000, .int .i64 1000, .int .i64 0, .int .i64 0, .int .i64 0, .int .i64 0, .bool false] 64).below b1)
    have L1 : Hid (Below w.heap.size w w1) := hide ((bel1 _).trans (b1.mono (by simp)))
    clear b1 e0 e1
    go_wp2_with (first
      | ((with_reducible show wpList _ _ _ (⟨none, .store 64 _ _, _, _, _, none⟩ :: _) _ _); refine at_storeAgg (us := [.int .i64 1, .int .i64 0, .int .i64 1000, .int .i64 1000, .int .i64 0, .int .i64 0, .int .i64 0, .int .i64 0, .bool false]) (vs := [.int .i64 1, .int .i64 0, .int .i64 1000, .int .i64 (1000 + far), .int .i64 0, .int .i64 0, .int .i64 0, .int .i64 0, .bool false]) Try.sizeOf64 rfl rfl (unhide K1) rfl (by simp [Value.oneCell']) ?_; intro U1 kk gg; have K1b := hide kk; have L1b : Hid (Below w.heap.size w U1) := hide ((unhide L1).grown gg (unhide L1).size (fun q hq => by cases hq; simp)); have f1 : U1.cell? ⟨w.heap.size, 0, none⟩ = some (.int .i64 1) := (unhide K1b).c 0 (by simp); have f2 : U1.frozen? ⟨w.heap.size, 0, none⟩ = false := (unhide K1b).f 0 (by simp); clear kk gg)
      | ((with_reducible show wpList _ _ _ (⟨_, .load 64 _, _, _, _, none⟩ :: _) _ _); refine at_loadAgg (vs := [.int .i64 0, .int .i64 0, .int .i64 1000, .int .i64 (1000 + far), .int .i64 0, .int .i64 0, .int .i64 0, .int .i64 0, .bool false]) Try.isAgg64 Try.sizeOf64 rfl (by simpa using (unhide K1b).set 0 (by simp) (.int .i64 0)) ?_))
    refine (implPress_any 0 0 1000 (1000 + far) 0 0 0 0 false 7 rate _).mono ?_
    rintro e w2 ⟨rfl, b2⟩
    have e0 : prB ⟨0, 0, 1000, (1000 + far), 0, 0, 0, 0, false⟩ 7 rate = true := by simp [prB, apOk, inB]; omega
    have e1 : prP ⟨0, 0, 1000, (1000 + far), 0, 0, 0, 0, false⟩ 7 rate = ⟨0, 0, 1000, (1000 + far), rate, 0, 0, 0, false⟩ := by rw [prP_yes e0]; simp [prY]
    rw [e0, e1]
    dsimp only
    have K2 : Hid (Blk w2 w.heap.size [.int .i64 0, .int .i64 0, .int .i64 1000, .int .i64 (1000 + far), .int .i64 0, .int .i64 0, .int .i64 0, .int .i64 0, .bool false]) := hide (Blk.below (by simpa using (unhide K1b).set 0 (by simp) (.int .i64 0)) b2)
    have L2 : Hid (Below w.heap.size w w2) := hide (((unhide L1b).setCell (by simp) _).trans (b2.mono (by have := (unhide L1b).size; simpa [World.setCell] using this)))
    clear b2 e0 e1 K1 K1b L1 L1b f1 f2
    go_wp2_with (first
      | ((with_reducible show wpList _ _ _ (⟨none, .store 64 _ _, _, _, _, none⟩ :: _) _ _); refine at_storeAgg (us := [.int .i64 0, .int .i64 0, .int .i64 1000, .int .i64 (1000 + far), .int .i64 0, .int .i64 0, .int .i64 0, .int .i64 0, .bool false]) (vs := [.int .i64 0, .int .i64 0, .int .i64 1000, .int .i64 (1000 + far), .int .i64 rate, .int .i64 0, .int .i64 0, .int .i64 0, .bool false]) Try.sizeOf64 rfl rfl (unhide K2) rfl (by simp [Value.oneCell']) ?_; intro U2 kk gg; have K2b := hide kk; have L2b : Hid (Below w.heap.size w U2) := hide ((unhide L2).grown gg (unhide L2).size (fun q hq => by cases hq; simp)); clear kk gg)
      | ((with_reducible show wpList _ _ _ (⟨_, .load 64 _, _, _, _, none⟩ :: _) _ _); refine at_loadAgg (vs := [.int .i64 0, .int .i64 0, .int .i64 1000, .int .i64 (1000 + far), .int .i64 rate, .int .i64 0, .int .i64 0, .int .i64 0, .bool false]) Try.isAgg64 Try.sizeOf64 rfl (unhide K2b) ?_))
    refine (implPress_any 0 0 1000 (1000 + far) rate 0 0 0 false 2 0 _).mono ?_
    rintro e w3 ⟨rfl, b3⟩
    have e0 : prB ⟨0, 0, 1000, (1000 + far), rate, 0, 0, 0, false⟩ 2 0 = true := by simp [prB, apOk, inB, unhide HLD]; omega
    have e1 : prP ⟨0, 0, 1000, (1000 + far), rate, 0, 0, 0, false⟩ 2 0 = ⟨2, 0, 1000, (1000 + far), rate, 0, 0, 0, false⟩ := by rw [prP_yes e0]; simp [prY]
    rw [e0, e1]
    dsimp only
    have K3 := hide ((unhide K2b).below b3)
    have L3 := hide ((unhide L2b).trans (b3.mono (unhide L2b).size))
    have HAP : Hid (apOk ⟨2, 0, 1000, (1000 + far), rate, 0, 0, 0, false⟩ = true) := hide (by simp [apOk, inB]; omega)
    clear b3 e0 e1 K2 K2b L2 L2b
    go_wp2_with (first
      | ((with_reducible show wpList _ _ _ (⟨none, .store 64 _ _, _, _, _, none⟩ :: _) _ _); refine at_storeAgg (us := [.int .i64 0, .int .i64 0, .int .i64 1000, .int .i64 (1000 + far), .int .i64 rate, .int .i64 0, .int .i64 0, .int .i64 0, .bool false]) (vs := [.int .i64 2, .int .i64 0, .int .i64 1000, .int .i64 (1000 + far), .int .i64 rate, .int .i64 0, .int .i64 0, .int .i64 0, .bool false]) Try.sizeOf64 rfl rfl (unhide K3) rfl (by simp [Value.oneCell']) ?_; intro U3 kk gg; have K3b := hide kk; have L3b : Hid (Below w.heap.size w U3) := hide ((unhide L3).grown gg (unhide L3).size (fun q hq => by cases hq; simp)); have f0 : U3.cell? ⟨w.heap.size, 0, none⟩ = some (.int .i64 2) := (unhide K3b).c 0 (by simp); have f1 : U3.cell? ⟨w.heap.size, 1, none⟩ = some (.int .i64 0) := (unhide K3b).c 1 (by simp); have f2 : U3.cell? ⟨w.heap.size, 2, none⟩ = some (.int .i64 1000) := (unhide K3b).c 2 (by simp); have f3 : U3.cell? ⟨w.heap.size, 3, none⟩ = some (.int .i64 (1000 + far)) := (unhide K3b).c 3 (by simp); have f4 : U3.cell? ⟨w.heap.size, 4, none⟩ = some (.int .i64 rate) := (unhide K3b).c 4 (by simp); have f5 : U3.cell? ⟨w.heap.size, 5, none⟩ = some (.int .i64 0) := (unhide K3b).c 5 (by simp); have f6 : U3.cell? ⟨w.heap.size, 6, none⟩ = some (.int .i64 0) := (unhide K3b).c 6 (by simp); have f7 : U3.cell? ⟨w.heap.size, 7, none⟩ = some (.int .i64 0) := (unhide K3b).c 7 (by simp); have f8 : U3.cell? ⟨w.heap.size, 8, none⟩ = some (.bool false) := (unhide K3b).c 8 (by simp); clear kk gg)
      | ((with_reducible show wpList _ _ _ (⟨_, .load 64 _, _, _, _, none⟩ :: _) _ _); refine at_loadAgg (vs := [.int .i64 2, .int .i64 0, .int .i64 1000, .int .i64 (1000 + far), .int .i64 rate, .int .i64 0, .int .i64 0, .int .i64 0, .bool false]) Try.isAgg64 Try.sizeOf64 rfl (unhide K3b) ?_))
    refine (implPilotOk_any 2 0 1000 (1000 + far) rate 0 0 0 false _).mono ?_
    rintro e Q ⟨rfl, b4⟩
    rw [unhide HAP]
    have KQ : Hid (Blk Q w.heap.size [.int .i64 2, .int .i64 0, .int .i64 1000, .int .i64 (1000 + far), .int .i64 rate, .int .i64 0, .int .i64 0, .int .i64 0, .bool false]) := hide ((unhide K3b).below b4)
    have LQ : Hid (Below w.heap.size w Q) := hide ((unhide L3b).trans (b4.mono (unhide L3b).size))
    clear b4 K3 K3b L3 L3b f0 f1 f2 f3 f4 f5 f6 f7 f8
    go_wp2_with fail
    have MI : ∀ W : World, (Instr.makeSlice 26 (.int .i64 300) (.int .i64 300)).run Try.prog W = .ok (.slice (some ⟨W.heap.size, 0, none⟩) 300 300) (W.alloc (.cells (madeCells #[.int .i64 0] 300) 3)) := fun W => madeI_run (L := 300) (by omega) W
    have RM : Hid (Row (World.drew (Q.alloc (.cells (madeCells #[.int .i64 0] 300) 3))) (some ⟨Q.heap.size, 0, none⟩) 300 (List.replicate 300 0)) := hide ((madeI_row Q (by omega)).below (Below.refl _ _).drew)
    have BM : Hid (Below Q.heap.size Q (World.drew (Q.alloc (.cells (madeCells #[.int .i64 0] 300) 3)))) := hide (bel1 (w := Q) _).drew
    have q0 : Q.cell? ⟨w.heap.size, 0, none⟩ = some (.int .i64 2) := (unhide KQ).c 0 (by simp)
    have q1 : Q.cell? ⟨w.heap.size, 1, none⟩ = some (.int .i64 0) := (unhide KQ).c 1 (by simp)
    have q2 : Q.cell? ⟨w.heap.size, 2, none⟩ = some (.int .i64 1000) := (unhide KQ).c 2 (by simp)
    have q3 : Q.cell? ⟨w.heap.size, 3, none⟩ = some (.int .i64 (1000 + far)) := (unhide KQ).c 3 (by simp)
    have q4 : Q.cell? ⟨w.heap.size, 4, none⟩ = some (.int .i64 rate) := (unhide KQ).c 4 (by simp)
    have q5 : Q.cell? ⟨w.heap.size, 5, none⟩ = some (.int .i64 0) := (unhide KQ).c 5 (by simp)
    have q6 : Q.cell? ⟨w.heap.size, 6, none⟩ = some (.int .i64 0) := (unhide KQ).c 6 (by simp)
    have q7 : Q.cell? ⟨w.heap.size, 7, none⟩ = some (.int .i64 0) := (unhide KQ).c 7 (by simp)
    have q8 : Q.cell? ⟨w.heap.size, 8, none⟩ = some (.bool false) := (unhide KQ).c 8 (by simp)
    have r0 : ∀ o, (Q.alloc o).cell? ⟨w.heap.size, 0, none⟩ = some (.int .i64 2) := (fun o => ((unhide KQ).alloc o).c 0 (by simp))
    have r1 : ∀ o, (Q.alloc o).cell? ⟨w.heap.size, 1, none⟩ = some (.int .i64 0) := (fun o => ((unhide KQ).alloc o).c 1 (by simp))
    have r2 : ∀ o, (Q.alloc o).cell? ⟨w.heap.size, 2, none⟩ = some (.int .i64 1000) := (fun o => ((unhide KQ).alloc o).c 2 (by simp))
    have r3 : ∀ o, (Q.alloc o).cell? ⟨w.heap.size, 3, none⟩ = some (.int .i64 (1000 + far)) := (fun o => ((unhide KQ).alloc o).c 3 (by simp))
    have r4 : ∀ o, (Q.alloc o).cell? ⟨w.heap.size, 4, none⟩ = some (.int .i64 rate) := (fun o => ((unhide KQ).alloc o).c 4 (by simp))
    have r5 : ∀ o, (Q.alloc o).cell? ⟨w.heap.size, 5, none⟩ = some (.int .i64 0) := (fun o => ((unhide KQ).alloc o).c 5 (by simp))
    have r6 : ∀ o, (Q.alloc o).cell? ⟨w.heap.size, 6, none⟩ = some (.int .i64 0) := (fun o => ((unhide KQ).alloc o).c 6 (by simp))
    have r7 : ∀ o, (Q.alloc o).cell? ⟨w.heap.size, 7, none⟩ = some (.int .i64 0) := (fun o => ((unhide KQ).alloc o).c 7 (by simp))
    have r8 : ∀ o, (Q.alloc o).cell? ⟨w.heap.size, 8, none⟩ = some (.bool false) := (fun o => ((unhide KQ).alloc o).c 8 (by simp))
    go_cut [9, 10] from 73 to 78 (fun v b Wc => ∃ g c, v = .slice (some ⟨g, 0, none⟩) 300 c ∧ b = .bool true ∧ OwnE 9 plC Wc Q.heap.size 64 (.slice (some ⟨g, 0, none⟩) 300 c) (tkL ⟨2, 0, 1000, (1000 + far), rate, 0, 0, 0, false⟩ (List.replicate 300 0) 300) ∧ Below Q.heap.size Q Wc)
    case first =>
      go_region_law ((fail_if_success have := D1); go_simp; go_wp2_with (go_at_call 29; refine (implTicks_any _ _ _ _ _ _ _ _ _ _ _ _ _ _ (unhide RM)).mono ?_; rintro e u1 ⟨a9, c9, rfl, o9, b9⟩; rw [tkR_zero (unhide HAP) (by omega)] at o9; rw [tkR_zero (unhide HAP) (by omega), tkB_zero (unhide HAP) (by omega)]; have D1 := hide b9; rw [tkL_len] at o9; obtain ⟨g9, d9, e9, _, _⟩ := o9.some_ (fun e => by simp at e); rw [tkL_len] at e9; rw [e9] at o9; rw [tkL_len, e9]; have O9 := hide o9; clear o9 b9))
      all_goals
        go_wp2_with fail
        go_meet
        case rel => exact ⟨_, _, rfl, rfl, (unhide O9).mono (unhide BM).size, (unhide BM).trans ((unhide D1).mono (unhide BM).size)⟩
    case rest =>
      obtain ⟨g, c, hv9, hv10, oT, bT⟩ := hcut
      subst hv9
      subst hv10
      have KT : Hid (Blk wc w.heap.size [.int .i64 2, .int .i64 0, .int .i64 1000, .int .i64 (1000 + far), .int .i64 rate, .int .i64 0, .int .i64 0, .int .i64 0, .bool false]) := hide ((unhide KQ).below bT)
      have HQ1 : Hid (w.heap.size + 1 ≤ Q.heap.size) := hide (unhide KQ).lt
      have LT : Hid (Below w.heap.size w wc) := hide ((unhide LQ).trans (bT.mono (unhide LQ).size))
      have ST : Hid (∀ j : Nat, j < 300 → ∃ v y r, elAt (tkL ⟨2, 0, 1000, (1000 + far), rate, 0, 0, 0, false⟩ (List.replicate 300 0) 300) j = clP v y (1000 + far) r ∧ Clm s far rate (j + 1) v y r ∧ (0 ≤ y ∧ y ≤ 60000)) := hide (fun j hj => by
        obtain ⟨v, y, r, e, hc, hg, _⟩ := clm_at (nthZ 300) (unhide HS) (unhide HF) (unhide HR) (j + 1)
        exact ⟨v, y, r, by rw [tkL_at _ _ _ _ hj]; exact e, hc, hg⟩)
      have OT := hide oT
      clear oT bT KQ LQ HAP q0 q1 q2 q3 q4 q5 q6 q7 q8 r0 r1 r2 r3 r4 r5 r6 r7 r8 MI RM BM
      go_wp2_with fail
      go_loopw [11] (fun i wr => ∃ j q : Nat, i = .int .i64 (j : Int) ∧ j ≤ 300 ∧ wr = wc.drewN q) (fun i _ => 300 - (intOf i).toNat)
      case atStart => exact ⟨0, 0, rfl, by omega, rfl⟩
      case round =>
        obtain ⟨j, q, rfl, hj, hwr⟩ := hrel
        subst wr
        by_cases hjn : j < 300
        · have hjn2 : (j : Int) < 300 := by omega
          have hj0 : (0 : Int) ≤ (j : Int) := by omega
          obtain ⟨v, y, r, e, hc, hy⟩ := (unhide ST) j hjn
          have cy : wc.cell? ⟨g, j * 9 + 2, none⟩ = some (.int .i64 y) := by
            have h := ((unhide OT).here (tkL_len _ _ _) j hjn 2 (by omega)).1
            rw [e] at h; exact h
          have hyb : (744 ≤ y ∧ y ≤ 1256) ∧ 0 ≤ (y - 1000) * s ∧ (y - 1000) * s ≤ s * far := by
            obtain ⟨e', h1, h2, h3, _⟩ := hc.left
            have hf := unhide HF
            rcases unhide HS with hs | hs <;> subst hs <;> omega
          obtain ⟨Y, hY⟩ : ∃ Y, (y - 1000) * s = Y := ⟨_, rfl⟩
          obtain ⟨SF, hSF⟩ : ∃ SF, s * far = SF := ⟨_, rfl⟩
          have bSF := unhide HF
          rw [hY, hSF] at hyb
          rw [hSF] at bSF
          have HZ : Hid (SF = if far < 0 then -far else far) := hide (by rw [← hSF]; exact unhide HSZ)
          have hYn : ¬ Y < 0 := by omega
          have hYs : ¬ SF < Y := by omega
          obtain ⟨y1, hy1⟩ : ∃ y1, y - 1000 = y1 := ⟨_, rfl⟩
          rw [hy1] at hY
          have hw1 : IntKind.i64.wrap y1 = y1 := by rw [IntKind.wrap_i64]; omega
          have hw2 : IntKind.i64.wrap Y = Y := by rw [IntKind.wrap_i64]; omega
          clear e hc hSF
          go_wp2_with fail
          go_quiet ((go_at_call 30; first | exact Calls.quiet_of_same (signL_is _ _ (unhide HSG)) | exact quietSame (signL_is _ _ (unhide HSG))))
          go_wp2_with (go_at_call 17; refine (sizeL_is _ _ (by omega) (unhide HZ)).mono ?_; rintro e w' ⟨rfl, hw⟩; subst w')
          go_roundw
          case rel => exact ⟨j + 1, _, by go_num, by omega, rfl⟩
          case measure => simp [intOf]; omega
        · obtain rfl : j = 300 := by omega
          have hjn2 : ¬ (((300 : Nat) : Int) < 300) := by omega
          obtain ⟨v, y, r, e, hc, _⟩ := (unhide ST) 299 (by omega)
          obtain ⟨e1, e2, e3⟩ := clm_end (by have := (unhide HF).2; omega) hc
          subst e1 e2 e3
          have ce : ∀ k, k < 9 → wc.cell? ⟨g, 2691 + k, none⟩ = some (plC (clP 1 (1000 + far) (1000 + far) 0) k) := fun k hk => by
            have h := ((unhide OT).here (tkL_len _ _ _) 299 (by omega) k hk).1
            rw [e] at h; exact h
          have c0 : wc.cell? ⟨g, 2691, none⟩ = some (.int .i64 1) := ce 0 (by omega)
          have c1 : wc.cell? ⟨g, 2692, none⟩ = some (.int .i64 0) := ce 1 (by omega)
          have c2 : wc.cell? ⟨g, 2693, none⟩ = some (.int .i64 (1000 + far)) := ce 2 (by omega)
          have c3 : wc.cell? ⟨g, 2694, none⟩ = some (.int .i64 (1000 + far)) := ce 3 (by omega)
          have c4 : wc.cell? ⟨g, 2695, none⟩ = some (.int .i64 0) := ce 4 (by omega)
          have c5 : wc.cell? ⟨g, 2696, none⟩ = some (.int .i64 0) := ce 5 (by omega)
          have c6 : wc.cell? ⟨g, 2697, none⟩ = some (.int .i64 0) := ce 6 (by omega)
          have c7 : wc.cell? ⟨g, 2698, none⟩ = some (.int .i64 0) := ce 7 (by omega)
          have c8 : wc.cell? ⟨g, 2699, none⟩ = some (.bool false) := ce 8 (by omega)
          clear ce e hc
          obtain ⟨X, hX⟩ : ∃ X, X = wc.drewN q := ⟨_, rfl⟩
          rw [← hX]
          have KX : Hid (Blk X w.heap.size [.int .i64 2, .int .i64 0, .int .i64 1000, .int .i64 (1000 + far), .int .i64 rate, .int .i64 0, .int .i64 0, .int .i64 0, .bool false]) := hide (by rw [hX]; exact (unhide KT).drewN q)
          have OX : Hid (OwnE 9 plC X (w.heap.size + 1) 64 (.slice (some ⟨g, 0, none⟩) 300 c) (tkL ⟨2, 0, 1000, (1000 + far), rate, 0, 0, 0, false⟩ (List.replicate 300 0) 300)) := hide (by rw [hX]; exact ((unhide OT).drewN q).mono (unhide HQ1))
          have LX : Hid (Below w.heap.size w X) := hide (by rw [hX]; exact (unhide LT).trans ((bel0d' q).mono (unhide LT).size))
          have d0 : X.cell? ⟨g, 2691, none⟩ = some (.int .i64 1) := by rw [hX]; exact c0
          have d1 : X.cell? ⟨g, 2692, none⟩ = some (.int .i64 0) := by rw [hX]; exact c1
          have d2 : X.cell? ⟨g, 2693, none⟩ = some (.int .i64 (1000 + far)) := by rw [hX]; exact c2
          have d3 : X.cell? ⟨g, 2694, none⟩ = some (.int .i64 (1000 + far)) := by rw [hX]; exact c3
          have d4 : X.cell? ⟨g, 2695, none⟩ = some (.int .i64 0) := by rw [hX]; exact c4
          have d5 : X.cell? ⟨g, 2696, none⟩ = some (.int .i64 0) := by rw [hX]; exact c5
          have d6 : X.cell? ⟨g, 2697, none⟩ = some (.int .i64 0) := by rw [hX]; exact c6
          have d7 : X.cell? ⟨g, 2698, none⟩ = some (.int .i64 0) := by rw [hX]; exact c7
          have d8 : X.cell? ⟨g, 2699, none⟩ = some (.bool false) := by rw [hX]; exact c8
          have KZ : Hid (Blk (X.alloc (Obj.cells #[.int .i64 0, .int .i64 0, .int .i64 0, .int .i64 0, .int .i64 0, .int .i64 0, .int .i64 0, .int .i64 0, .bool false] 64)) X.heap.size [.int .i64 0, .int .i64 0, .int .i64 0, .int .i64 0, .int .i64 0, .int .i64 0, .int .i64 0, .int .i64 0, .bool false]) := hide (Blk.new (w := X) [.int .i64 0, .int .i64 0, .int .i64 0, .int .i64 0, .int .i64 0, .int .i64 0, .int .i64 0, .int .i64 0, .bool false] 64)
          have LZ : Hid (Below w.heap.size w (X.alloc (Obj.cells #[.int .i64 0, .int .i64 0, .int .i64 0, .int .i64 0, .int .i64 0, .int .i64 0, .int .i64 0, .int .i64 0, .bool false] 64))) := hide ((unhide LX).trans ((bel1 _).mono (unhide LX).size))
          have hXw : w.heap.size < X.heap.size := (unhide KX).lt
          have hXg := (unhide OX).lies g rfl
          clear hX KT OT LT c0 c1 c2 c3 c4 c5 c6 c7 c8
          go_wp2_with (first
            | ((with_reducible show wpList _ _ _ (⟨none, .store 64 _ _, _, _, _, none⟩ :: _) _ _); refine at_storeAgg (us := [.int .i64 0, .int .i64 0, .int .i64 0, .int .i64 0, .int .i64 0, .int .i64 0, .int .i64 0, .int .i64 0, .bool false]) (vs := [.int .i64 1, .int .i64 0, .int .i64 (1000 + far), .int .i64 (1000 + far), .int .i64 0, .int .i64 0, .int .i64 0, .int .i64 0, .bool false]) Try.sizeOf64 rfl rfl (unhide KZ) rfl (by simp [Value.oneCell']) ?_; intro U5 kk gg; have K5 := hide kk; have L5 : Hid (Below w.heap.size w U5) := hide ((unhide LZ).grown gg (unhide LZ).size (fun q hq => by cases hq; omega)); have K5p : Hid (Blk U5 w.heap.size [.int .i64 2, .int .i64 0, .int .i64 1000, .int .i64 (1000 + far), .int .i64 rate, .int .i64 0, .int .i64 0, .int .i64 0, .bool false]) := hide (((unhide KX).alloc _).apart gg (fun e => by have e3 := Option.some.inj e; omega)); have O5 := hide (((unhide OX).below (bel1 (Obj.cells #[.int .i64 0, .int .i64 0, .int .i64 0, .int .i64 0, .int .i64 0, .int .i64 0, .int .i64 0, .int .i64 0, .bool false] 64))).far gg (fun q hq e => by have e3 := Option.some.inj e; have e4 := Option.some.inj (show some g = some q from hq); omega)); clear kk gg)
            | ((with_reducible show wpList _ _ _ (⟨_, .load 64 _, _, _, _, none⟩ :: _) _ _); refine at_loadAgg (vs := [.int .i64 1, .int .i64 0, .int .i64 (1000 + far), .int .i64 (1000 + far), .int .i64 0, .int .i64 0, .int .i64 0, .int .i64 0, .bool false]) Try.isAgg64 Try.sizeOf64 rfl (unhide K5) ?_))
          refine (implPilotTick_any 1 0 (1000 + far) (1000 + far) 0 0 0 0 false 0 _).mono ?_
          rintro e w5 ⟨rfl, b5⟩
          have et : tickP ⟨1, 0, (1000 + far), (1000 + far), 0, 0, 0, 0, false⟩ 0 = ⟨1, 0, (1000 + far), (1000 + far), 0, 0, 0, 0, false⟩ := tick_cl (v := 1) (g := (1000 + far)) (t := (1000 + far)) (r := 0) (by omega) (by omega) (by omega) (by omega) (by simp [vtT])
          have eo : okT ⟨1, 0, (1000 + far), (1000 + far), 0, 0, 0, 0, false⟩ 0 = true := by simp [okT, apOk, inB]; omega
          rw [et, eo]
          dsimp only
          have K6 := hide ((unhide K5).below b5)
          have K6p := hide ((unhide K5p).below b5)
          have O6 := hide ((unhide O5).below b5)
          have L6 := hide ((unhide L5).trans (b5.mono (unhide L5).size))
          have h5s : X.heap.size < w5.heap.size := (unhide K6).lt
          have h5g : g < w5.heap.size := ((unhide O6).lies g rfl).2
          have KY : Hid (Blk (w5.alloc (Obj.cells #[.int .i64 0, .int .i64 0, .int .i64 0, .int .i64 0, .int .i64 0, .int .i64 0, .int .i64 0, .int .i64 0, .bool false] 64)) w5.heap.size [.int .i64 0, .int .i64 0, .int .i64 0, .int .i64 0, .int .i64 0, .int .i64 0, .int .i64 0, .int .i64 0, .bool false]) := hide (Blk.new (w := w5) [.int .i64 0, .int .i64 0, .int .i64 0, .int .i64 0, .int .i64 0, .int .i64 0, .int .i64 0, .int .i64 0, .bool false] 64)
          have LY : Hid (Below w.heap.size w (w5.alloc (Obj.cells #[.int .i64 0, .int .i64 0, .int .i64 0, .int .i64 0, .int .i64 0, .int .i64 0, .int .i64 0, .int .i64 0, .bool false] 64))) := hide ((unhide L6).trans ((bel1 _).mono (unhide L6).size))
          clear b5 et eo K5 K5p O5 L5 KZ LZ
          obtain ⟨LL, hLL⟩ : ∃ LL, LL = tkL ⟨2, 0, 1000, (1000 + far), rate, 0, 0, 0, false⟩ (List.replicate 300 0) 300 := ⟨_, rfl⟩
          rw [← hLL] at O6
          obtain ⟨ps, hps⟩ : ∃ ps, ps = [(⟨2, 0, 1000, (1000 + far), rate, 0, 0, 0, false⟩ : Pl)] ++ LL := ⟨_, rfl⟩
          obtain ⟨hlp, cn, hcn, hc2⟩ := clm_law 300 (nthZ 300) (unhide HS) (unhide HF) (unhide HR) hLL hps
          have HLEN : Hid (ps.length = 301) := hide hlp
          have hc3 : (cn : Int) ≤ 2 := by omega
          have HPL := hide hcn
          have HPS := hide hps
          clear hcn hps hlp hLL hc2
          go_wp2_with (first
            | ((with_reducible show wpList _ _ _ (⟨none, .store 64 _ _, _, _, _, none⟩ :: _) _ _); refine at_storeAgg (us := [.int .i64 0, .int .i64 0, .int .i64 0, .int .i64 0, .int .i64 0, .int .i64 0, .int .i64 0, .int .i64 0, .bool false]) (vs := [.int .i64 1, .int .i64 0, .int .i64 (1000 + far), .int .i64 (1000 + far), .int .i64 0, .int .i64 0, .int .i64 0, .int .i64 0, .bool false]) Try.sizeOf64 rfl rfl (unhide KY) rfl (by simp [Value.oneCell']) ?_; intro U6 kk gg; have K7 := hide kk; have L7 : Hid (Below w.heap.size w U6) := hide ((unhide LY).grown gg (unhide LY).size (fun q hq => by cases hq; omega)); have K7p : Hid (Blk U6 w.heap.size [.int .i64 2, .int .i64 0, .int .i64 1000, .int .i64 (1000 + far), .int .i64 rate, .int .i64 0, .int .i64 0, .int .i64 0, .bool false]) := hide (((unhide K6p).alloc _).apart gg (fun e => by have e3 := Option.some.inj e; omega)); have K7e : Hid (Blk U6 X.heap.size [.int .i64 1, .int .i64 0, .int .i64 (1000 + far), .int .i64 (1000 + far), .int .i64 0, .int .i64 0, .int .i64 0, .int .i64 0, .bool false]) := hide (((unhide K6).alloc _).apart gg (fun e => by have e3 := Option.some.inj e; omega)); have O7 := hide (((unhide O6).below (bel1 (Obj.cells #[.int .i64 0, .int .i64 0, .int .i64 0, .int .i64 0, .int .i64 0, .int .i64 0, .int .i64 0, .int .i64 0, .bool false] 64))).far gg (fun q hq e => by have e3 := Option.some.inj e; have e4 := Option.some.inj (show some g = some q from hq); omega)); have pz0 : U6.cell? ⟨w.heap.size, 0, none⟩ = some (.int .i64 2) := (unhide K7p).c 0 (by simp); have pz1 : U6.cell? ⟨w.heap.size, 1, none⟩ = some (.int .i64 0) := (unhide K7p).c 1 (by simp); have pz2 : U6.cell? ⟨w.heap.size, 2, none⟩ = some (.int .i64 1000) := (unhide K7p).c 2 (by simp); have pz3 : U6.cell? ⟨w.heap.size, 3, none⟩ = some (.int .i64 (1000 + far)) := (unhide K7p).c 3 (by simp); have pz4 : U6.cell? ⟨w.heap.size, 4, none⟩ = some (.int .i64 rate) := (unhide K7p).c 4 (by simp); have pz5 : U6.cell? ⟨w.heap.size, 5, none⟩ = some (.int .i64 0) := (unhide K7p).c 5 (by simp); have pz6 : U6.cell? ⟨w.heap.size, 6, none⟩ = some (.int .i64 0) := (unhide K7p).c 6 (by simp); have pz7 : U6.cell? ⟨w.heap.size, 7, none⟩ = some (.int .i64 0) := (unhide K7p).c 7 (by simp); have pz8 : U6.cell? ⟨w.heap.size, 8, none⟩ = some (.bool false) := (unhide K7p).c 8 (by simp); have ez0 : U6.cell? ⟨X.heap.size, 0, none⟩ = some (.int .i64 1) := (unhide K7e).c 0 (by simp); have ez1 : U6.cell? ⟨X.heap.size, 1, none⟩ = some (.int .i64 0) := (unhide K7e).c 1 (by simp); have ez2 : U6.cell? ⟨X.heap.size, 2, none⟩ = some (.int .i64 (1000 + far)) := (unhide K7e).c 2 (by simp); have ez3 : U6.cell? ⟨X.heap.size, 3, none⟩ = some (.int .i64 (1000 + far)) := (unhide K7e).c 3 (by simp); have ez4 : U6.cell? ⟨X.heap.size, 4, none⟩ = some (.int .i64 0) := (unhide K7e).c 4 (by simp); have ez5 : U6.cell? ⟨X.heap.size, 5, none⟩ = some (.int .i64 0) := (unhide K7e).c 5 (by simp); have ez6 : U6.cell? ⟨X.heap.size, 6, none⟩ = some (.int .i64 0) := (unhide K7e).c 6 (by simp); have ez7 : U6.cell? ⟨X.heap.size, 7, none⟩ = some (.int .i64 0) := (unhide K7e).c 7 (by simp); have ez8 : U6.cell? ⟨X.heap.size, 8, none⟩ = some (.bool false) := (unhide K7e).c 8 (by simp); have OP : Hid (OwnE 9 plC (U6.alloc (Obj.cells #[.int .i64 2, .int .i64 0, .int .i64 1000, .int .i64 (1000 + far), .int .i64 rate, .int .i64 0, .int .i64 0, .int .i64 0, .bool false] 64)) (w.heap.size + 1) 64 (.slice (some ⟨U6.heap.size, 0, none⟩) 1 1) [(⟨2, 0, 1000, (1000 + far), rate, 0, 0, 0, false⟩ : Pl)]) := hide (ownE_one (w := U6) [.int .i64 2, .int .i64 0, .int .i64 1000, .int .i64 (1000 + far), .int .i64 rate, .int .i64 0, .int .i64 0, .int .i64 0, .bool false] rfl (fun q hq => by rcases (by omega : q = 0 ∨ q = 1 ∨ q = 2 ∨ q = 3 ∨ q = 4 ∨ q = 5 ∨ q = 6 ∨ q = 7 ∨ q = 8) with rfl | rfl | rfl | rfl | rfl | rfl | rfl | rfl | rfl <;> rfl) (unhide K7p).lt); have R7 : Hid (RowE 9 plC (U6.alloc (Obj.cells #[.int .i64 2, .int .i64 0, .int .i64 1000, .int .i64 (1000 + far), .int .i64 rate, .int .i64 0, .int .i64 0, .int .i64 0, .bool false] 64)) (some ⟨g, 0, none⟩) 300 LL) := hide ((unhide O7).row.alloc _); have s7 : w5.heap.size < U6.heap.size := (unhide K7).lt; clear kk gg)
            | (at_builtin; refine wpList_app_els (by kernel_rfl) (.tmp 134) (.tmp 135) 68 64 rfl Try.underlying68 infoPl rfl (by decide) (by decide) plC_one (unhide OP) rfl g 0 300 c LL rfl (unhide R7) (by simp) (by simp; omega) ?_; intro v9 w9 o9 gr9 n9; rw [← unhide HPS] at o9; obtain ⟨g9, d9, e9, _, _⟩ := o9.some_ (fun e => by have := n9 e; simp at this); rw [unhide HLEN] at e9; subst e9; have R9 := hide o9.row; have L9 : Hid (Below w.heap.size w w9) := hide ((((unhide L7).trans ((bel1 (w := U6) (Obj.cells #[.int .i64 2, .int .i64 0, .int .i64 1000, .int .i64 (1000 + far), .int .i64 rate, .int .i64 0, .int .i64 0, .int .i64 0, .bool false] 64)).mono (unhide L7).size))).grown gr9 (by have := (unhide L7).size; simp; omega) (fun q hq => by have e3 := Option.some.inj (show some U6.heap.size = some q from hq); omega)); have K9 : Hid (Blk w9 w5.heap.size [.int .i64 1, .int .i64 0, .int .i64 (1000 + far), .int .i64 (1000 + far), .int .i64 0, .int .i64 0, .int .i64 0, .int .i64 0, .bool false]) := hide (((unhide K7).alloc _).apart gr9 (fun e => by have e3 := Option.some.inj (show some w5.heap.size = some U6.heap.size from e); omega)); have K9e : Hid (Blk w9 X.heap.size [.int .i64 1, .int .i64 0, .int .i64 (1000 + far), .int .i64 (1000 + far), .int .i64 0, .int .i64 0, .int .i64 0, .int .i64 0, .bool false]) := hide (((unhide K7e).alloc _).apart gr9 (fun e => by have e3 := Option.some.inj (show some X.heap.size = some U6.heap.size from e); omega)); clear o9 gr9 n9)
            | (go_at_call 32; refine (implChanges_any _ _ _ _ _ (unhide R9) (by omega)).mono ?_; rintro e w10 ⟨rfl, b10⟩; rw [unhide HPL]; have L10 : Hid (Below w.heap.size w w10) := hide ((unhide L9).trans (b10.mono (unhide L9).size)); have M10 : Blk w10 w5.heap.size [.int .i64 1, .int .i64 0, .int .i64 (1000 + far), .int .i64 (1000 + far), .int .i64 0, .int .i64 0, .int .i64 0, .int .i64 0, .bool false] := (unhide K9).below b10; have N10 : Blk w10 X.heap.size [.int .i64 1, .int .i64 0, .int .i64 (1000 + far), .int .i64 (1000 + far), .int .i64 0, .int .i64 0, .int .i64 0, .int .i64 0, .bool false] := (unhide K9e).below b10; have ma0 : w10.cell? ⟨w5.heap.size, 0, none⟩ = some (.int .i64 1) := (M10).c 0 (by simp); have ma1 : w10.cell? ⟨w5.heap.size, 1, none⟩ = some (.int .i64 0) := (M10).c 1 (by simp); have ma2 : w10.cell? ⟨w5.heap.size, 2, none⟩ = some (.int .i64 (1000 + far)) := (M10).c 2 (by simp); have ma3 : w10.cell? ⟨w5.heap.size, 3, none⟩ = some (.int .i64 (1000 + far)) := (M10).c 3 (by simp); have ma4 : w10.cell? ⟨w5.heap.size, 4, none⟩ = some (.int .i64 0) := (M10).c 4 (by simp); have ma5 : w10.cell? ⟨w5.heap.size, 5, none⟩ = some (.int .i64 0) := (M10).c 5 (by simp); have ma6 : w10.cell? ⟨w5.heap.size, 6, none⟩ = some (.int .i64 0) := (M10).c 6 (by simp); have ma7 : w10.cell? ⟨w5.heap.size, 7, none⟩ = some (.int .i64 0) := (M10).c 7 (by simp); have ma8 : w10.cell? ⟨w5.heap.size, 8, none⟩ = some (.bool false) := (M10).c 8 (by simp); have na0 : w10.cell? ⟨X.heap.size, 0, none⟩ = some (.int .i64 1) := (N10).c 0 (by simp); have na1 : w10.cell? ⟨X.heap.size, 1, none⟩ = some (.int .i64 0) := (N10).c 1 (by simp); have na2 : w10.cell? ⟨X.heap.size, 2, none⟩ = some (.int .i64 (1000 + far)) := (N10).c 2 (by simp); have na3 : w10.cell? ⟨X.heap.size, 3, none⟩ = some (.int .i64 (1000 + far)) := (N10).c 3 (by simp); have na4 : w10.cell? ⟨X.heap.size, 4, none⟩ = some (.int .i64 0) := (N10).c 4 (by simp); have na5 : w10.cell? ⟨X.heap.size, 5, none⟩ = some (.int .i64 0) := (N10).c 5 (by simp); have na6 : w10.cell? ⟨X.heap.size, 6, none⟩ = some (.int .i64 0) := (N10).c 6 (by simp); have na7 : w10.cell? ⟨X.heap.size, 7, none⟩ = some (.int .i64 0) := (N10).c 7 (by simp); have na8 : w10.cell? ⟨X.heap.size, 8, none⟩ = some (.bool false) := (N10).c 8 (by simp); clear b10 M10 N10))
          go_ret
          exact ⟨rfl, unhide L10⟩

theorem lawFnCaptured (a : Option Addr) (len cap : Nat) (w : World) (hb : Bytes w a len) (hin : ∀ b off, a = some ⟨b, off, none⟩ → b < w.heap.size) :
    Calls Try.prog 7 #[.slice a len cap] w fun e w' => e = .returned (.bool true) ∧ Below w.heap.size w w' := by
  by_cases h : (1048576 : Int) < len
  · exact lawFnCaptured_big a len cap w h
  · exact lawFnCaptured_small a len cap w h hb hin

end Go.Proofs.Ytfahhjgpgccdhad
