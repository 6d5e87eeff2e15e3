/-
  The law FnCracks returns true at every list of bytes and writes nothing that was there: the walk. No condition.
-/
import Derived.Test.YtnpohiceefkhdacAtFix
import Derived.Test.YtnpohiceefkhdacInImpl
import Derived.Test.YtnpohiceefkhdacCrackFacts
namespace Go.Proofs.Ytnpohiceefkhdac
open Go.RowKit

set_option maxRecDepth 20000 in
set_option maxHeartbeats 4000000 in
theorem lawFnCracks (a : Option Addr) (len cap : Nat) (w : World) (hb : Bytes w a len) :
    Calls Try.prog 3 #[.slice a len cap] w fun e w' => e = .returned (.bool true) ∧ Below w.heap.size w w' := by
  by_cases hbig : (1048576 : Int) < len
  · have hbg := big_any a len cap
    go_enter Try.func3, Try.ntmps3
    go_wp2_with fail
    refine (hbg _).mono ?_
    rintro e w' ⟨rfl, hw⟩
    subst w'
    go_wp2_with fail
    go_ret
    exact ⟨rfl, Below.refl _ _⟩
  have hl : len ≤ 1048576 := by omega
  obtain ⟨x0, hx0, at0⟩ := at_fix a len cap 0 w hb hl (by omega)
  obtain ⟨x1, hx1, at1⟩ := at_fix a len cap 1 w hb hl (by omega)
  obtain ⟨x2, hx2, at2⟩ := at_fix a len cap 2 w hb hl (by omega)
  obtain ⟨x3, hx3, at3⟩ := at_fix a len cap 3 w hb hl (by omega)
  have AT0 := hide at0
  have AT1 := hide at1
  have AT2 := hide at2
  have AT3 := hide at3
  have hcr := crack_drawn hx0 hx1 hx2
  obtain ⟨N, hN⟩ : ∃ N, 1 + x0 % 90 = N := ⟨_, rfl⟩
  obtain ⟨L, hL⟩ : ∃ L, 90 + x1 * 4 = L := ⟨_, rfl⟩
  obtain ⟨G, hG⟩ : ∃ G, 1 + x2 % 100 = G := ⟨_, rfl⟩
  obtain ⟨P, hP⟩ : ∃ P, 1 + x3 % 5 = P := ⟨_, rfl⟩
  rw [hN, hL, hG] at hcr
  have hN1 : 1 ≤ N ∧ N ≤ 90 := by omega
  have hL1 : L ≤ 4000 := by omega
  have hP1 : 1 ≤ P ∧ P ≤ 20 := by omega
  have hfb := fl_small hcr hN1.1 hL1
  have HLOOK := hide (look_law hcr hN1.1 hP1 hfb)
  obtain ⟨f1, f2, f3, f4, f5⟩ := crackB_facts hcr
  obtain ⟨k, hk, hkF, hov, hno⟩ := fl_facts hfb
  obtain ⟨F, hF⟩ : ∃ F, flN N L G = F := ⟨_, rfl⟩
  have hFk : F = (k : Int) + 1 := by rw [← hF]; exact hkF
  have hF1 : 1 ≤ F ∧ F ≤ 5000 := by omega
  have HFK := hide hFk
  have HOV := hide hov
  have HNO := hide hno
  rw [hF] at HLOOK
  clear hb at0 at1 at2 at3 hbig hk hkF hov hno hFk hcr
  go_enter Try.func3, Try.ntmps3
  go_wp2_with fail
  refine (big_any a len cap _).mono ?_
  rintro e w' ⟨rfl, hw⟩
  subst w'
  go_wp2_with fail
  refine ((unhide AT0) w (Below.refl _ _)).mono ?_
  rintro e w' ⟨rfl, hw⟩
  subst w'
  go_wp2_with fail
  refine ((unhide AT1) w (Below.refl _ _)).mono ?_
  rintro e w' ⟨rfl, hw⟩
  subst w'
  go_wp2_with fail
  refine ((unhide AT2) w (Below.refl _ _)).mono ?_
  rintro e w' ⟨rfl, hw⟩
  subst w'
  go_wp2_with fail
  refine (implFlights_any N L G _).mono ?_
  rintro e w1 ⟨rfl, b1⟩
  rw [hF, hfb]
  have R1 : Blk w1 w.heap.size [.int .i64 N, .int .i64 L, .int .i64 G] :=
    Blk.below ⟨fun i hi => by
      rcases (show i = 0 ∨ i = 1 ∨ i = 2 from by simp at hi; omega) with rfl | rfl | rfl <;> simp [go_sem], fun i hi => by
      rcases (show i = 0 ∨ i = 1 ∨ i = 2 from by simp at hi; omega) with rfl | rfl | rfl <;> simp [go_sem], by simp⟩ b1
  have B1 : Below w.heap.size w w1 := by
    refine Below.trans ?_ (b1.mono (by simp))
    repeat (first | exact Below.refl _ _ | refine Below.setCell ?_ (by simp; try omega) _ | refine Below.alloc ?_ (by simp; try omega) _)
  have c0 : w1.cell? ⟨w.heap.size, 0, none⟩ = some (.int .i64 N) := R1.c 0 (by simp)
  have R1 := hide R1
  have B1 := hide B1
  clear b1 hfb
  go_wp2_with fail
  clear c0
  go_loopw [6, 7] (fun nv iv wr => ∃ (j : Nat) (J : Int), nv = .int .i64 (crackAt N G j) ∧ iv = .int .i64 J ∧ Hid (J = (j : Int)) ∧ (0 ≤ J ∧ J ≤ F) ∧ wr = w1) (fun _ i _ => (F - intOf i).toNat)
  case atStart => exact ⟨0, 0, rfl, rfl, hide rfl, by omega, rfl⟩
  case round =>
    obtain ⟨j, J, rfl, rfl, HJ, hJ, hwr⟩ := hrel
    subst wr
    have c0 : w1.cell? ⟨w.heap.size, 0, none⟩ = some (.int .i64 N) := (unhide R1).c 0 (by simp)
    have c1 : w1.cell? ⟨w.heap.size, 1, none⟩ = some (.int .i64 L) := (unhide R1).c 1 (by simp)
    have c2 : w1.cell? ⟨w.heap.size, 2, none⟩ = some (.int .i64 G) := (unhide R1).c 2 (by simp)
    have hge := crackAt_ge f1 f4 j
    by_cases hlt : J < F
    · have hle : crackAt N G j ≤ L := by
        have h1 := unhide HJ
        have h2 := unhide HFK
        cases j with
        | zero => exact f2
        | succ q => exact unhide HNO q (by omega)
      have hbd := cgrow_bd hge (show crackAt N G j ≤ 1000000 by omega) f4 f5
      have HS : Hid (crackAt N G (j + 1) = crackAt N G j + (crackAt N G j * G + 999) / 1000) := hide rfl
      generalize crackAt N G j = q at *
      go_wp2_with fail
      go_roundw
      case rel => exact ⟨j + 1, J + 1, by rw [unhide HS], by go_num, hide (by rw [unhide HJ]; rfl), by omega, trivial⟩
      case measure => simp [intOf]; omega
    · obtain rfl : J = F := by omega
      have hjk : j = k + 1 := by have h1 := unhide HJ; have h2 := unhide HFK; omega
      have ho : L < crackAt N G j := by rw [hjk]; exact unhide HOV
      clear hjk
      generalize crackAt N G j = q at *
      go_wp2_with fail
      refine ((unhide AT3) w1 (unhide B1)).mono ?_
      rintro e w' ⟨rfl, hw⟩
      subst w'
      go_wp2_with fail
      refine (implInspect_any N L G N P _).mono ?_
      rintro e w2 ⟨rfl, b2⟩
      have R2 := (unhide R1).below b2
      have d1 : w2.cell? ⟨w.heap.size, 1, none⟩ = some (.int .i64 L) := R2.c 1 (by simp)
      have B2 := hide ((unhide B1).trans (b2.mono (unhide B1).size))
      clear b2 R2 c0 c1 c2
      rcases unhide HLOOK with ⟨h1, h2⟩ | ⟨h1, h2, h3, h4⟩
      · go_wp2_with fail
        go_ret
        exact ⟨rfl, unhide B2⟩
      · generalize lookN N L G N P = E at *
        have hm := (mulBd (s := E) (d := P) (A := 5000) (B := 20) (by omega) h3 (by omega) hP1.2 (by omega) (by omega))
        go_wp2_with fail
        go_ret
        exact ⟨rfl, unhide B2⟩

end Go.Proofs.Ytnpohiceefkhdac
