/-
  The law FnExactFly returns true at every argument and writes nothing that was there: the walk. No condition.
-/
import Derived.Test.YtgihdklgmndeeanMarkMo
import Derived.Test.YtgihdklgmndeeanFlyIs
import Derived.Deep.RegionHeld3
namespace Go.Proofs.Ytgihdklgmndeean
open Go.RowKit
attribute [local go_sem] run_store_float

set_option maxRecDepth 20000 in
set_option maxHeartbeats 8000000 in
theorem lawFly (a0 a1 a2 a3 f0 f1 f2 f3 f4 : Nat) (ad : Option Addr) (len cap : Nat) (es : List Nat) (dt : Nat) (w : World) (hr : RowE 1 flC w ad len es) :
    Calls Try.prog 3 #[.agg #[.float .f64 a0, .float .f64 a1, .float .f64 a2, .float .f64 a3], .agg #[.float .f64 f0, .float .f64 f1, .float .f64 f2, .float .f64 f3, .float .f64 f4], .slice ad len cap, .float .f64 dt] w fun e w' => e = .returned (.bool true) ∧ Below w.heap.size w w' := by
  have R := hide hr
  have hm := hr.small
  have LT := hide hr.len_eq
  clear hr
  by_cases g : (1048576 : Int) < len
  · go_enter Try.func3, Try.ntmps3
    go_wp2_with fail
    go_ret
    exact ⟨rfl, bel2 _ _⟩
  have hl : len ≤ 1048576 := by omega
  have hq : (flyB es dt != flyB es dt) = false := by simp
  have KEPT1 : Hid (∀ W w3, (FlyIn W w.heap.size a0 a1 a2 a3 f0 f1 f2 f3 f4 ∧ Below w.heap.size w W) → Below W.heap.size W w3 → (FlyIn w3 w.heap.size a0 a1 a2 a3 f0 f1 f2 f3 f4 ∧ Below w.heap.size w w3)) := hide (fun W w3 h b => ⟨h.1.call b, h.2.trans (b.mono h.2.size)⟩)
  go_enter Try.func3, Try.ntmps3
  go_wp2_with fail
  obtain ⟨w1, hw1⟩ : ∃ w1, w1 = ((w.alloc (Obj.cells #[.float .f64 a0, .float .f64 a1, .float .f64 a2, .float .f64 a3] 24)).alloc (Obj.cells #[.float .f64 f0, .float .f64 f1, .float .f64 f2, .float .f64 f3, .float .f64 f4] 26)) := ⟨_, rfl⟩
  rw [← hw1]
  have K : Hid (FlyIn w1 w.heap.size a0 a1 a2 a3 f0 f1 f2 f3 f4 ∧ Below w.heap.size w w1) := hide (by rw [hw1]; exact ⟨by refine ⟨?_, ?_, ?_, ?_, ?_, ?_, ?_, ?_, ?_, ?_, ?_, ?_, ?_⟩ <;> simp [go_sem], bel2 _ _⟩)
  obtain ⟨m0, m1, m2, m3, z0, z1, z2, z3, g0, g1, g2, g3, g4⟩ := (unhide K).1
  clear hw1
  go_region_held3 (fun w' => w'.cell? ⟨w.heap.size, 0, none⟩ = some (.float .f64 a0) ∧ w'.cell? ⟨w.heap.size, 1, none⟩ = some (.float .f64 a1) ∧ w'.cell? ⟨w.heap.size, 2, none⟩ = some (.float .f64 a2) ∧ w'.cell? ⟨w.heap.size, 3, none⟩ = some (.float .f64 a3) ∧ w'.cell? ⟨w.heap.size + 1, 0, none⟩ = some (.float .f64 f0) ∧ w'.cell? ⟨w.heap.size + 1, 1, none⟩ = some (.float .f64 f1) ∧ w'.cell? ⟨w.heap.size + 1, 2, none⟩ = some (.float .f64 f2) ∧ w'.cell? ⟨w.heap.size + 1, 3, none⟩ = some (.float .f64 f3) ∧ w'.cell? ⟨w.heap.size + 1, 4, none⟩ = some (.float .f64 f4)) (go_keep)
    ((first
      | (go_at_call 10; refine (toMotion_any _ _ _ _ _).mono ?_; rintro e w3 ⟨rfl, b3⟩; have K := hide (show FlyIn w3 w.heap.size a0 a1 a2 a3 f0 f1 f2 f3 f4 ∧ Below w.heap.size w w3 from by first | exact (unhide KEPT1) _ _ (unhide K) b3 | exact (unhide KEPT1) _ _ ((unhide KEPT1) _ _ (unhide K) (bel0d 1)) b3); clear m0 m1 m2 m3 z0 z1 z2 z3 g0 g1 g2 g3 g4; obtain ⟨m0, m1, m2, m3, z0, z1, z2, z3, g0, g1, g2, g3, g4⟩ := (unhide K).1; clear b3)
      | (go_at_call 11; refine (toForces_any _ _ _ _ _ _).mono ?_; rintro e w3 ⟨rfl, b3⟩; have K := hide (show FlyIn w3 w.heap.size a0 a1 a2 a3 f0 f1 f2 f3 f4 ∧ Below w.heap.size w w3 from by first | exact (unhide KEPT1) _ _ (unhide K) b3 | exact (unhide KEPT1) _ _ ((unhide KEPT1) _ _ (unhide K) (bel0d 1)) b3); clear m0 m1 m2 m3 z0 z1 z2 z3 g0 g1 g2 g3 g4; obtain ⟨m0, m1, m2, m3, z0, z1, z2, z3, g0, g1, g2, g3, g4⟩ := (unhide K).1; clear b3)
      | (go_at_call 12; refine (toFloat64S_own _ _ _ es _ ((unhide R).below (show Below w.heap.size w _ from by first | exact (unhide K).2 | exact (unhide K).2.trans (bel0d' 1))) hl).mono ?_; rintro e w3 ⟨rfl, qA, b3⟩; have QA := hide qA.row; clear qA; have K := hide (show FlyIn w3 w.heap.size a0 a1 a2 a3 f0 f1 f2 f3 f4 ∧ Below w.heap.size w w3 from by first | exact (unhide KEPT1) _ _ (unhide K) b3 | exact (unhide KEPT1) _ _ ((unhide KEPT1) _ _ (unhide K) (bel0d 1)) b3); clear m0 m1 m2 m3 z0 z1 z2 z3 g0 g1 g2 g3 g4; obtain ⟨m0, m1, m2, m3, z0, z1, z2, z3, g0, g1, g2, g3, g4⟩ := (unhide K).1; clear b3)
      | (go_at_call 9; refine (specFly_any _ _ _ _ _ _ _ _ _ _ _ _ es dt _ (by first | exact unhide QA | exact (unhide QA).drewN 1)).mono ?_; rintro e wC ⟨v0, q0, rfl, o0, al0, b3⟩; obtain ⟨av0, cv0, rfl, _, _⟩ := o0.slice; have L0 := hide o0.lies; have V0 := hide (o0.mono (unhide K).2.size); have AL0 := hide al0; clear o0 al0 QA; have K := hide (show FlyIn wC w.heap.size a0 a1 a2 a3 f0 f1 f2 f3 f4 ∧ Below w.heap.size w wC from by first | exact (unhide KEPT1) _ _ (unhide K) b3 | exact (unhide KEPT1) _ _ ((unhide KEPT1) _ _ (unhide K) (bel0d 1)) b3); clear m0 m1 m2 m3 z0 z1 z2 z3 g0 g1 g2 g3 g4; obtain ⟨m0, m1, m2, m3, z0, z1, z2, z3, g0, g1, g2, g3, g4⟩ := (unhide K).1; clear b3)))
  have sC : w.heap.size + 1 < wC.heap.size := (unhide K).1.size
  go_wp2_with fail
  refine (toFloat64S_own _ _ _ es _ ((unhide R).below (unhide K).2) hl).mono ?_
  rintro e wD ⟨rfl, oD, b⟩
  have sD : wC.heap.size < wD.heap.size := (oD.lies _ rfl).2
  have KEPT2 : Hid (∀ W w3, (FlyIn W w.heap.size a0 a1 a2 a3 f0 f1 f2 f3 f4 ∧ Below w.heap.size w W ∧ OwnE 4 moC W w.heap.size 31 (.slice av0 q0.length cv0) q0 ∧ OwnE 1 flC W wC.heap.size 22 (.slice (some ⟨wC.heap.size, 0, none⟩) len len) es ∧ wD.heap.size ≤ W.heap.size) → Below W.heap.size W w3 → (FlyIn w3 w.heap.size a0 a1 a2 a3 f0 f1 f2 f3 f4 ∧ Below w.heap.size w w3 ∧ OwnE 4 moC w3 w.heap.size 31 (.slice av0 q0.length cv0) q0 ∧ OwnE 1 flC w3 wC.heap.size 22 (.slice (some ⟨wC.heap.size, 0, none⟩) len len) es ∧ wD.heap.size ≤ w3.heap.size)) := hide (fun W w3 h b => ⟨h.1.call b, h.2.1.trans (b.mono h.2.1.size), h.2.2.1.below b, h.2.2.2.1.below b, Nat.le_trans h.2.2.2.2 b.size⟩)
  have K : Hid (FlyIn wD w.heap.size a0 a1 a2 a3 f0 f1 f2 f3 f4 ∧ Below w.heap.size w wD ∧ OwnE 4 moC wD w.heap.size 31 (.slice av0 q0.length cv0) q0 ∧ OwnE 1 flC wD wC.heap.size 22 (.slice (some ⟨wC.heap.size, 0, none⟩) len len) es ∧ wD.heap.size ≤ wD.heap.size) := hide ⟨(unhide K).1.call b, (unhide K).2.trans (b.mono (unhide K).2.size), (unhide V0).below b, oD, Nat.le_refl _⟩
  clear b oD V0 m0 m1 m2 m3 z0 z1 z2 z3 g0 g1 g2 g3 g4 KEPT1
  obtain ⟨m0, m1, m2, m3, z0, z1, z2, z3, g0, g1, g2, g3, g4⟩ := (unhide K).1
  go_wp2_with fail
  go_region_held3 (fun w' => w'.cell? ⟨w.heap.size, 0, none⟩ = some (.float .f64 a0) ∧ w'.cell? ⟨w.heap.size, 1, none⟩ = some (.float .f64 a1) ∧ w'.cell? ⟨w.heap.size, 2, none⟩ = some (.float .f64 a2) ∧ w'.cell? ⟨w.heap.size, 3, none⟩ = some (.float .f64 a3) ∧ w'.cell? ⟨w.heap.size + 1, 0, none⟩ = some (.float .f64 f0) ∧ w'.cell? ⟨w.heap.size + 1, 1, none⟩ = some (.float .f64 f1) ∧ w'.cell? ⟨w.heap.size + 1, 2, none⟩ = some (.float .f64 f2) ∧ w'.cell? ⟨w.heap.size + 1, 3, none⟩ = some (.float .f64 f3) ∧ w'.cell? ⟨w.heap.size + 1, 4, none⟩ = some (.float .f64 f4)) (go_keep)
    ((first
      | (go_at_call 10; refine (toMotion_any _ _ _ _ _).mono ?_; rintro e w3 ⟨rfl, b3⟩; have K := hide (show FlyIn w3 w.heap.size a0 a1 a2 a3 f0 f1 f2 f3 f4 ∧ Below w.heap.size w w3 ∧ OwnE 4 moC w3 w.heap.size 31 (.slice av0 q0.length cv0) q0 ∧ OwnE 1 flC w3 wC.heap.size 22 (.slice (some ⟨wC.heap.size, 0, none⟩) len len) es ∧ wD.heap.size ≤ w3.heap.size from by first | exact (unhide KEPT2) _ _ (unhide K) b3 | exact (unhide KEPT2) _ _ ((unhide KEPT2) _ _ (unhide K) (bel0d 1)) b3); clear m0 m1 m2 m3 z0 z1 z2 z3 g0 g1 g2 g3 g4; obtain ⟨m0, m1, m2, m3, z0, z1, z2, z3, g0, g1, g2, g3, g4⟩ := (unhide K).1; clear b3)
      | (go_at_call 11; refine (toForces_any _ _ _ _ _ _).mono ?_; rintro e w3 ⟨rfl, b3⟩; have K := hide (show FlyIn w3 w.heap.size a0 a1 a2 a3 f0 f1 f2 f3 f4 ∧ Below w.heap.size w w3 ∧ OwnE 4 moC w3 w.heap.size 31 (.slice av0 q0.length cv0) q0 ∧ OwnE 1 flC w3 wC.heap.size 22 (.slice (some ⟨wC.heap.size, 0, none⟩) len len) es ∧ wD.heap.size ≤ w3.heap.size from by first | exact (unhide KEPT2) _ _ (unhide K) b3 | exact (unhide KEPT2) _ _ ((unhide KEPT2) _ _ (unhide K) (bel0d 1)) b3); clear m0 m1 m2 m3 z0 z1 z2 z3 g0 g1 g2 g3 g4; obtain ⟨m0, m1, m2, m3, z0, z1, z2, z3, g0, g1, g2, g3, g4⟩ := (unhide K).1; clear b3)
      | (go_at_call 13; refine (implFly_any _ _ _ _ _ _ _ _ _ _ _ _ es dt _ (unhide K).2.2.2.1.row).mono ?_; rintro e wF ⟨v1, q1, rfl, o1, al1, b3⟩; obtain ⟨av1, cv1, rfl, _, _⟩ := o1.slice; have V1 := hide (o1.mono (unhide K).2.2.2.2); have L1 := hide (unhide V1).lies; have AL1 := hide al1; clear o1 al1; have K := hide (show FlyIn wF w.heap.size a0 a1 a2 a3 f0 f1 f2 f3 f4 ∧ Below w.heap.size w wF ∧ OwnE 4 moC wF w.heap.size 31 (.slice av0 q0.length cv0) q0 ∧ OwnE 1 flC wF wC.heap.size 22 (.slice (some ⟨wC.heap.size, 0, none⟩) len len) es ∧ wD.heap.size ≤ wF.heap.size from by first | exact (unhide KEPT2) _ _ (unhide K) b3 | exact (unhide KEPT2) _ _ ((unhide KEPT2) _ _ (unhide K) (bel0d 1)) b3); clear m0 m1 m2 m3 z0 z1 z2 z3 g0 g1 g2 g3 g4; obtain ⟨m0, m1, m2, m3, z0, z1, z2, z3, g0, g1, g2, g3, g4⟩ := (unhide K).1; clear b3)))
  have KEPT4 : Hid (∀ W w3, (FlyIn W w.heap.size a0 a1 a2 a3 f0 f1 f2 f3 f4 ∧ Below w.heap.size w W ∧ OwnE 4 moC W w.heap.size 31 (.slice av0 q0.length cv0) q0 ∧ OwnE 4 moC W wD.heap.size 31 (.slice av1 q1.length cv1) q1 ∧ OwnE 1 flC W wC.heap.size 22 (.slice (some ⟨wC.heap.size, 0, none⟩) len len) es) → Below W.heap.size W w3 → (FlyIn w3 w.heap.size a0 a1 a2 a3 f0 f1 f2 f3 f4 ∧ Below w.heap.size w w3 ∧ OwnE 4 moC w3 w.heap.size 31 (.slice av0 q0.length cv0) q0 ∧ OwnE 4 moC w3 wD.heap.size 31 (.slice av1 q1.length cv1) q1 ∧ OwnE 1 flC w3 wC.heap.size 22 (.slice (some ⟨wC.heap.size, 0, none⟩) len len) es)) := hide (fun W w3 h b => ⟨h.1.call b, h.2.1.trans (b.mono h.2.1.size), h.2.2.1.below b, h.2.2.2.1.below b, h.2.2.2.2.below b⟩)
  have hq12 : q1.length ≤ 400 := by rw [(unhide AL1).len]; exact flyR_len _ _ es dt
  have A10 := hide ((unhide AL1).trans (unhide AL0).symm)
  have K : Hid (FlyIn wF w.heap.size a0 a1 a2 a3 f0 f1 f2 f3 f4 ∧ Below w.heap.size w wF ∧ OwnE 4 moC wF w.heap.size 31 (.slice av0 q0.length cv0) q0 ∧ OwnE 4 moC wF wD.heap.size 31 (.slice av1 q1.length cv1) q1 ∧ OwnE 1 flC wF wC.heap.size 22 (.slice (some ⟨wC.heap.size, 0, none⟩) len len) es) := hide ⟨(unhide K).1, (unhide K).2.1, (unhide K).2.2.1, unhide V1, (unhide K).2.2.2.1⟩
  clear V1 KEPT2 m0 m1 m2 m3 z0 z1 z2 z3 g0 g1 g2 g3 g4
  go_wp2_with fail
  refine (eqMotionS_alike _ _ _ _ _ _ q1 q0 _ (unhide K).2.2.2.1.row (unhide K).2.2.1.row (unhide A10).len (fun i _ => (unhide A10).at_ i)).mono ?_
  rintro e wG ⟨rfl, b⟩
  have K : Hid (FlyIn wG w.heap.size a0 a1 a2 a3 f0 f1 f2 f3 f4 ∧ Below w.heap.size w wG ∧ OwnE 4 moC wG w.heap.size 31 (.slice av0 q0.length cv0) q0 ∧ OwnE 4 moC wG wD.heap.size 31 (.slice av1 q1.length cv1) q1 ∧ OwnE 1 flC wG wC.heap.size 22 (.slice (some ⟨wC.heap.size, 0, none⟩) len len) es) := hide ((unhide KEPT4) _ _ (unhide K) b)
  clear b
  go_wp2_with fail
  refine (toFloat64S_own _ _ _ es _ ((unhide R).below (unhide K).2.1) hl).mono ?_
  rintro e wH ⟨rfl, qH, b⟩
  have QH := hide qH.row
  clear qH
  have K : Hid (FlyIn wH w.heap.size a0 a1 a2 a3 f0 f1 f2 f3 f4 ∧ Below w.heap.size w wH ∧ OwnE 4 moC wH w.heap.size 31 (.slice av0 q0.length cv0) q0 ∧ OwnE 4 moC wH wD.heap.size 31 (.slice av1 q1.length cv1) q1 ∧ OwnE 1 flC wH wC.heap.size 22 (.slice (some ⟨wC.heap.size, 0, none⟩) len len) es) := hide ((unhide KEPT4) _ _ (unhide K) b)
  clear b
  go_wp2_with fail
  refine (eqFloat64S_alike _ _ _ _ _ _ es es _ (unhide K).2.2.2.2.row (unhide QH) rfl (fun _ _ => .refl _ _)).mono ?_
  rintro e wI ⟨rfl, b⟩
  have K : Hid (FlyIn wI w.heap.size a0 a1 a2 a3 f0 f1 f2 f3 f4 ∧ Below w.heap.size w wI ∧ OwnE 4 moC wI w.heap.size 31 (.slice av0 q0.length cv0) q0 ∧ OwnE 4 moC wI wD.heap.size 31 (.slice av1 q1.length cv1) q1 ∧ OwnE 1 flC wI wC.heap.size 22 (.slice (some ⟨wC.heap.size, 0, none⟩) len len) es) := hide ((unhide KEPT4) _ _ (unhide K) b)
  clear b
  go_wp2_with fail
  refine (markFloat64S_any _ _ _ _ es 1 _ (unhide K).2.2.2.2 (unhide LT) hl (by omega) (by omega)).mono ?_
  rintro e wL ⟨rfl, _, gL⟩
  have hk1 : ¬ ((1 : Int) + (len : Int) < 0) := by omega
  have KEPT5 : Hid (∀ W w3, (FlyIn W w.heap.size a0 a1 a2 a3 f0 f1 f2 f3 f4 ∧ Below w.heap.size w W ∧ OwnE 4 moC W w.heap.size 31 (.slice av0 q0.length cv0) q0 ∧ OwnE 4 moC W wD.heap.size 31 (.slice av1 q1.length cv1) q1) → Below W.heap.size W w3 → (FlyIn w3 w.heap.size a0 a1 a2 a3 f0 f1 f2 f3 f4 ∧ Below w.heap.size w w3 ∧ OwnE 4 moC w3 w.heap.size 31 (.slice av0 q0.length cv0) q0 ∧ OwnE 4 moC w3 wD.heap.size 31 (.slice av1 q1.length cv1) q1)) := hide (fun W w3 h b => ⟨h.1.call b, h.2.1.trans (b.mono h.2.1.size), h.2.2.1.below b, h.2.2.2.below b⟩)
  have K : Hid (FlyIn wL w.heap.size a0 a1 a2 a3 f0 f1 f2 f3 f4 ∧ Below w.heap.size w wL ∧ OwnE 4 moC wL w.heap.size 31 (.slice av0 q0.length cv0) q0 ∧ OwnE 4 moC wL wD.heap.size 31 (.slice av1 q1.length cv1) q1) := hide ⟨(unhide K).1.grow gL (fun e => by have e3 := Option.some.inj (show some w.heap.size = some wC.heap.size from e); omega) (fun e => by have e3 := Option.some.inj (show some (w.heap.size + 1) = some wC.heap.size from e); omega), (unhide K).2.1.grown gL (unhide K).2.1.size (fun i hi => by have e3 := Option.some.inj (show some wC.heap.size = some i from hi); omega), (unhide K).2.2.1.far gL (fun i hi e => by have h := (unhide L0) i hi; have e3 := Option.some.inj (show some i = some wC.heap.size from e); omega), (unhide K).2.2.2.1.far gL (fun i hi e => by have h := (unhide L1) i hi; have e3 := Option.some.inj (show some i = some wC.heap.size from e); omega)⟩
  clear gL QH KEPT4
  go_wp2_with fail
  refine (eqMotionS_alike _ _ _ _ _ _ q1 q0 _ (unhide K).2.2.2.row (unhide K).2.2.1.row (unhide A10).len (fun i _ => (unhide A10).at_ i)).mono ?_
  rintro e wM ⟨rfl, b⟩
  have K : Hid (FlyIn wM w.heap.size a0 a1 a2 a3 f0 f1 f2 f3 f4 ∧ Below w.heap.size w wM ∧ OwnE 4 moC wM w.heap.size 31 (.slice av0 q0.length cv0) q0 ∧ OwnE 4 moC wM wD.heap.size 31 (.slice av1 q1.length cv1) q1) := hide ((unhide KEPT5) _ _ (unhide K) b)
  clear b
  go_wp2_with fail
  refine (markMotionS_any _ _ _ _ q1 1 _ (unhide K).2.2.2 rfl (by omega) (by omega) (by omega)).mono ?_
  rintro e wN ⟨rfl, oN, gN⟩
  have KEPT6 : Hid (∀ W w3, (FlyIn W w.heap.size a0 a1 a2 a3 f0 f1 f2 f3 f4 ∧ Below w.heap.size w W ∧ OwnE 4 moC W w.heap.size 31 (.slice av0 q0.length cv0) q0 ∧ OwnE 4 moC W wD.heap.size 31 (.slice av1 q1.length cv1) (markL mkMo 4 q1 1 q1.length)) → Below W.heap.size W w3 → (FlyIn w3 w.heap.size a0 a1 a2 a3 f0 f1 f2 f3 f4 ∧ Below w.heap.size w w3 ∧ OwnE 4 moC w3 w.heap.size 31 (.slice av0 q0.length cv0) q0 ∧ OwnE 4 moC w3 wD.heap.size 31 (.slice av1 q1.length cv1) (markL mkMo 4 q1 1 q1.length))) := hide (fun W w3 h b => ⟨h.1.call b, h.2.1.trans (b.mono h.2.1.size), h.2.2.1.below b, h.2.2.2.below b⟩)
  have K : Hid (FlyIn wN w.heap.size a0 a1 a2 a3 f0 f1 f2 f3 f4 ∧ Below w.heap.size w wN ∧ OwnE 4 moC wN w.heap.size 31 (.slice av0 q0.length cv0) q0 ∧ OwnE 4 moC wN wD.heap.size 31 (.slice av1 q1.length cv1) (markL mkMo 4 q1 1 q1.length)) := hide ⟨(unhide K).1.grow gN (fun e => by have h := (unhide L1) _ e.symm; omega) (fun e => by have h := (unhide L1) _ e.symm; omega), (unhide K).2.1.grown gN (unhide K).2.1.size (fun i hi => by have h := (unhide L1) i hi; omega), (unhide K).2.2.1.far gN (fun i hi e => by have h := (unhide L0) i hi; have h2 := (unhide L1) i e.symm; omega), oN⟩
  clear gN oN KEPT5
  go_wp2_with fail
  refine (heldMotionS_any _ _ _ _ q1 1 _ (unhide K).2.2.2 rfl (by omega) (by omega) (by omega)).mono ?_
  rintro e w' ⟨rfl, hw⟩
  subst w'
  have hk2 : ((1 : Int) + 4 * (q1.length : Int) != (1 : Int) + 4 * (q1.length : Int)) = false := by simp
  obtain ⟨m0, m1, m2, m3, z0, z1, z2, z3, g0, g1, g2, g3, g4⟩ := (unhide K).1
  go_wp2_with fail
  go_region_held3 (fun w' => w'.cell? ⟨w.heap.size, 0, none⟩ = some (.float .f64 a0) ∧ w'.cell? ⟨w.heap.size, 1, none⟩ = some (.float .f64 a1) ∧ w'.cell? ⟨w.heap.size, 2, none⟩ = some (.float .f64 a2) ∧ w'.cell? ⟨w.heap.size, 3, none⟩ = some (.float .f64 a3) ∧ w'.cell? ⟨w.heap.size + 1, 0, none⟩ = some (.float .f64 f0) ∧ w'.cell? ⟨w.heap.size + 1, 1, none⟩ = some (.float .f64 f1) ∧ w'.cell? ⟨w.heap.size + 1, 2, none⟩ = some (.float .f64 f2) ∧ w'.cell? ⟨w.heap.size + 1, 3, none⟩ = some (.float .f64 f3) ∧ w'.cell? ⟨w.heap.size + 1, 4, none⟩ = some (.float .f64 f4)) (go_keep)
    ((first
      | (go_at_call 10; refine (toMotion_any _ _ _ _ _).mono ?_; rintro e w3 ⟨rfl, b3⟩; have K := hide (show FlyIn w3 w.heap.size a0 a1 a2 a3 f0 f1 f2 f3 f4 ∧ Below w.heap.size w w3 ∧ OwnE 4 moC w3 w.heap.size 31 (.slice av0 q0.length cv0) q0 ∧ OwnE 4 moC w3 wD.heap.size 31 (.slice av1 q1.length cv1) (markL mkMo 4 q1 1 q1.length) from by first | exact (unhide KEPT6) _ _ (unhide K) b3 | exact (unhide KEPT6) _ _ ((unhide KEPT6) _ _ (unhide K) (bel0d 1)) b3); clear m0 m1 m2 m3 z0 z1 z2 z3 g0 g1 g2 g3 g4; obtain ⟨m0, m1, m2, m3, z0, z1, z2, z3, g0, g1, g2, g3, g4⟩ := (unhide K).1; clear b3)
      | (go_at_call 11; refine (toForces_any _ _ _ _ _ _).mono ?_; rintro e w3 ⟨rfl, b3⟩; have K := hide (show FlyIn w3 w.heap.size a0 a1 a2 a3 f0 f1 f2 f3 f4 ∧ Below w.heap.size w w3 ∧ OwnE 4 moC w3 w.heap.size 31 (.slice av0 q0.length cv0) q0 ∧ OwnE 4 moC w3 wD.heap.size 31 (.slice av1 q1.length cv1) (markL mkMo 4 q1 1 q1.length) from by first | exact (unhide KEPT6) _ _ (unhide K) b3 | exact (unhide KEPT6) _ _ ((unhide KEPT6) _ _ (unhide K) (bel0d 1)) b3); clear m0 m1 m2 m3 z0 z1 z2 z3 g0 g1 g2 g3 g4; obtain ⟨m0, m1, m2, m3, z0, z1, z2, z3, g0, g1, g2, g3, g4⟩ := (unhide K).1; clear b3)
      | (go_at_call 12; refine (toFloat64S_own _ _ _ es _ ((unhide R).below (show Below w.heap.size w _ from by first | exact (unhide K).2.1 | exact (unhide K).2.1.trans (bel0d' 1))) hl).mono ?_; rintro e w3 ⟨rfl, qA, b3⟩; have QA := hide qA.row; clear qA; have K := hide (show FlyIn w3 w.heap.size a0 a1 a2 a3 f0 f1 f2 f3 f4 ∧ Below w.heap.size w w3 ∧ OwnE 4 moC w3 w.heap.size 31 (.slice av0 q0.length cv0) q0 ∧ OwnE 4 moC w3 wD.heap.size 31 (.slice av1 q1.length cv1) (markL mkMo 4 q1 1 q1.length) from by first | exact (unhide KEPT6) _ _ (unhide K) b3 | exact (unhide KEPT6) _ _ ((unhide KEPT6) _ _ (unhide K) (bel0d 1)) b3); clear m0 m1 m2 m3 z0 z1 z2 z3 g0 g1 g2 g3 g4; obtain ⟨m0, m1, m2, m3, z0, z1, z2, z3, g0, g1, g2, g3, g4⟩ := (unhide K).1; clear b3)
      | (go_at_call 13; refine (implFly_any _ _ _ _ _ _ _ _ _ _ _ _ es dt _ (by first | exact unhide QA | exact (unhide QA).drewN 1)).mono ?_; rintro e wP ⟨v2, q2, rfl, o2, al2, b3⟩; obtain ⟨av2, cv2, rfl, _, _⟩ := o2.slice; have V2 := hide o2; have AL2 := hide al2; clear o2 al2 QA; have K := hide (show FlyIn wP w.heap.size a0 a1 a2 a3 f0 f1 f2 f3 f4 ∧ Below w.heap.size w wP ∧ OwnE 4 moC wP w.heap.size 31 (.slice av0 q0.length cv0) q0 ∧ OwnE 4 moC wP wD.heap.size 31 (.slice av1 q1.length cv1) (markL mkMo 4 q1 1 q1.length) from by first | exact (unhide KEPT6) _ _ (unhide K) b3 | exact (unhide KEPT6) _ _ ((unhide KEPT6) _ _ (unhide K) (bel0d 1)) b3); clear m0 m1 m2 m3 z0 z1 z2 z3 g0 g1 g2 g3 g4; obtain ⟨m0, m1, m2, m3, z0, z1, z2, z3, g0, g1, g2, g3, g4⟩ := (unhide K).1; clear b3)))
  have A20 := hide ((unhide AL2).trans (unhide AL0).symm)
  clear m0 m1 m2 m3 z0 z1 z2 z3 g0 g1 g2 g3 g4
  go_wp2_with fail
  refine (eqMotionS_alike _ _ _ _ _ _ q2 q0 _ (unhide V2).row (unhide K).2.2.1.row (unhide A20).len (fun i _ => (unhide A20).at_ i)).mono ?_
  rintro e wQ ⟨rfl, b⟩
  have K : Hid (FlyIn wQ w.heap.size a0 a1 a2 a3 f0 f1 f2 f3 f4 ∧ Below w.heap.size w wQ ∧ OwnE 4 moC wQ w.heap.size 31 (.slice av0 q0.length cv0) q0 ∧ OwnE 4 moC wQ wD.heap.size 31 (.slice av1 q1.length cv1) (markL mkMo 4 q1 1 q1.length)) := hide ((unhide KEPT6) _ _ (unhide K) b)
  clear b V2
  go_wp2_with fail
  refine (heldMotionS_any _ _ _ _ q1 1 _ (unhide K).2.2.2 rfl (by omega) (by omega) (by omega)).mono ?_
  rintro e w' ⟨rfl, hw⟩
  subst w'
  go_wp2_with fail
  go_ret
  exact ⟨rfl, (unhide K).2.1⟩

end Go.Proofs.Ytgihdklgmndeean
