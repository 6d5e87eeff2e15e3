/-
  The law FnExactLasts returns true at every battery and list of draws and writes nothing that was there: the walk. No condition.
-/
import Derived.Test.YtdeodlinjilehapMake
import Derived.Test.YtdeodlinjilehapLastSpec
import Derived.Test.YtdeodlinjilehapLastImpl
namespace Go.Proofs.Ytdeodlinjilehap
open Go.RowKit

set_option maxHeartbeats 1000000 in
theorem toBattery_any (c m l : Int) (w : World) :
    Calls Try.prog 6 #[.agg #[.int .i64 c, .int .i64 m, .int .i64 l]] w fun x w' => x = .returned (.agg #[.int .i64 c, .int .i64 m, .int .i64 l]) ∧ Below w.heap.size w w' := by
  go_enter Try.func6, Try.ntmps6
  go_wp2
  refine bodyPost_ret (v := .agg #[.int .i64 c, .int .i64 m, .int .i64 l]) (by simp [results, Try.results6, go_sem]) rfl ⟨rfl, ?_⟩
  repeat (first | exact Below.refl _ _ | refine Below.setCell ?_ (by simp; try omega) _ | refine Below.alloc ?_ (by simp; try omega) _)

set_option maxHeartbeats 2000000 in
theorem lawLasts (c m l : Int) (ad : Option Addr) (len cap : Nat) (zs : List Int) (w : World) (hr : Row w ad len zs) :
    Calls Try.prog 3 #[.agg #[.int .i64 c, .int .i64 m, .int .i64 l], .slice ad len cap] w fun x w' => x = .returned (.bool true) ∧ Below w.heap.size w w' := by
  have R := hide hr
  have hm := hr.small
  clear hr
  have B0 := hide (bel1 (w := w) (Obj.cells #[.int .i64 c, .int .i64 m, .int .i64 l] 23))
  have R0 := hide (Blk.new (w := w) [.int .i64 c, .int .i64 m, .int .i64 l] 23)
  by_cases g : (1048576 : Int) < len
  · go_enter Try.func3, Try.ntmps3
    go_wp2_with fail
    go_ret
    exact ⟨rfl, unhide B0⟩
  · have hl : len ≤ 1048576 := by omega
    have g' : (len : Int) ≤ 1048576 := by omega
    have hq1 : ((lastT c m l zs).1 != (lastT c m l zs).1) = false := by simp
    have hq2 : ((lastT c m l zs).2 != (lastT c m l zs).2) = false := by simp
    have hq3 : (lastB c m l zs != lastB c m l zs) = false := by simp
    have hq4 := eqB_refl zs
    go_enter Try.func3, Try.ntmps3
    go_wp2_with fail
    refine (toBattery_any _ _ _ _).mono ?_
    rintro x w1 ⟨rfl, b1⟩
    have R1 := hide ((unhide R0).below b1)
    have B1 := hide ((unhide B0).trans (b1.mono (by simp)))
    clear b1 R0 B0
    go_wp2_with fail
    refine (toIntS_any _ _ _ zs _ ((unhide R).below (unhide B1)) hl).mono ?_
    rintro x w2 ⟨rfl, q2, b2⟩
    have R2 := hide ((unhide R1).below b2)
    have B2 := hide ((unhide B1).trans (b2.mono (unhide B1).size))
    have Q2 := hide q2
    clear b2 q2 R1 B1
    go_wp2_with fail
    refine (specLasts_any c m l _ _ _ zs _ (unhide Q2)).mono ?_
    rintro x w3 ⟨rfl, b3⟩
    have R3 := hide ((unhide R2).below b3)
    have B3 := hide ((unhide B2).trans (b3.mono (unhide B2).size))
    clear b3 Q2 R2 B2
    go_wp2_with fail
    refine (toIntS_any _ _ _ zs _ ((unhide R).below (unhide B3)) hl).mono ?_
    rintro x w4 ⟨rfl, q4, b4⟩
    have R4 := (unhide R3).below b4
    have B4 := hide ((unhide B3).trans (b4.mono (unhide B3).size))
    have Q4 := hide q4
    have c0 : w4.cell? ⟨w.heap.size, 0, none⟩ = some (.int .i64 c) := R4.c 0 (by simp)
    have c1 : w4.cell? ⟨w.heap.size, 1, none⟩ = some (.int .i64 m) := R4.c 1 (by simp)
    have c2 : w4.cell? ⟨w.heap.size, 2, none⟩ = some (.int .i64 l) := R4.c 2 (by simp)
    clear b4 q4 R3 R4 B3
    go_wp2_with fail
    refine (toBattery_any _ _ _ _).mono ?_
    rintro x w5 ⟨rfl, b5⟩
    have Q5 := hide ((unhide Q4).below b5)
    have B5 := hide ((unhide B4).trans (b5.mono (unhide B4).size))
    clear b5 Q4 B4 c0 c1 c2
    go_wp2_with fail
    refine (implLasts_any c m l _ _ _ zs _ (unhide Q5)).mono ?_
    rintro x w6 ⟨rfl, b6⟩
    have Q6 := hide ((unhide Q5).below b6)
    have B6 := hide ((unhide B5).trans (b6.mono (unhide B5).size))
    clear b6 Q5 B5
    go_wp2_with fail
    refine (toIntS_any _ _ _ zs _ ((unhide R).below (unhide B6)) hl).mono ?_
    rintro x w7 ⟨rfl, q7, b7⟩
    have Q7 := hide ((unhide Q6).below b7)
    have B7 := hide ((unhide B6).trans (b7.mono (unhide B6).size))
    have Q8 := hide q7
    clear b7 q7
    go_wp2_with fail
    refine (eqIntS_any _ _ _ _ _ _ zs zs _ (unhide Q7) (unhide Q8)).mono ?_
    rintro x w8 ⟨rfl, n8, rfl⟩
    have B8 := hide ((unhide B7).trans (bel0d' n8))
    go_wp2_with fail
    go_ret
    exact ⟨rfl, unhide B8⟩

end Go.Proofs.Ytdeodlinjilehap
