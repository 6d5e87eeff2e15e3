/-
  The law FnExactClimbs returns true at every start and list of phases and writes nothing that was there: the walk. No condition.
-/
import Derived.Test.YtkebjipmbgjilakPairPhase
import Derived.Test.YtkebjipmbgjilakMarkPhase
import Derived.Test.YtkebjipmbgjilakClimbs
namespace Go.Proofs.Ytkebjipmbgjilak
open Go.RowKit

theorem climbL_short (start : Int) (ps : List (Int × Int)) : (climbL start ps).length ≤ 12 := by
  cases h : phaseB start ps
  · rw [climbL_no h]; simp
  · rw [climbL_yes h, endsL_len]; exact (phase_facts h).2.1

set_option maxRecDepth 20000 in
set_option maxHeartbeats 4000000 in
theorem lawClimbs (start : Int) (ad : Option Addr) (len cap : Nat) (ps : List (Int × Int)) (w : World) (hr : Row2 w ad len ps) :
    Calls Try.prog 6 #[.int .i64 start, .slice ad len cap] w fun e w' => e = .returned (.bool true) ∧ Below w.heap.size w w' := by
  have R := hide hr
  have hm := hr.small
  have hn := climbL_short start ps
  have hle := hr.len_eq
  have HLE := hide hle
  clear hr hle
  by_cases g : (1048576 : Int) < len
  · go_enter Try.func6, Try.ntmps6
    go_wp2_with fail
    refine (szPhaseS_no _ _ _ _ _ (by omega) (by omega) (by omega) (by omega)).mono ?_
    rintro e w' ⟨rfl, hw⟩
    subst w'
    go_wp2_with fail
    go_ret
    exact ⟨rfl, Below.refl _ _⟩
  · have hl : len ≤ 1048576 := by omega
    have hq : (phaseB start ps != phaseB start ps) = false := by simp
    have hq1 : ((1 : Int) + (climbL start ps).length != (1 : Int) + (climbL start ps).length) = false := by simp
    go_enter Try.func6, Try.ntmps6
    go_wp2_with fail
    refine (szPhaseS_yes _ _ _ _ _ (by omega) (by omega)).mono ?_
    rintro e w' ⟨rfl, hw⟩
    subst w'
    go_wp2_with fail
    refine (toPhaseS_any _ _ _ ps _ (unhide R) hl).mono ?_
    rintro e w1 ⟨rfl, q1, b1⟩
    have B1 := hide b1
    have Q1 := hide q1
    clear b1 q1
    go_wp2_with fail
    refine (specClimbs_any start _ _ _ ps _ (unhide Q1)).mono ?_
    rintro e w2 ⟨a0, c0, rfl, o0, b2⟩
    have hs1 : w.heap.size ≤ w1.heap.size := (unhide B1).size
    have B2 := hide ((unhide B1).trans (b2.mono hs1))
    have L0 := hide o0.lies
    have O0 := hide o0
    have hs2 : w1.heap.size ≤ w2.heap.size := b2.size
    clear b2 o0 Q1
    go_wp2_with fail
    refine (toPhaseS_own _ _ _ ps _ ((unhide R).below (unhide B2)) hl).mono ?_
    rintro e w3 ⟨rfl, x3, b3⟩
    have hs3 : w2.heap.size < w3.heap.size := by
      rcases x3.form with ⟨hv, _⟩ | ⟨gg, cc, hv, _, h5, _⟩
      · simp at hv
      · simp at hv; omega
    have B3 := hide ((unhide B2).trans (b3.mono (by omega)))
    have O0 := hide ((unhide O0).below b3)
    have X1 := hide x3
    clear b3 x3
    go_wp2_with fail
    refine (implClimbs_any start _ _ _ ps _ (unhide X1).row).mono ?_
    rintro e w4 ⟨a1, c1, rfl, o1, b4⟩
    have hs4 : w3.heap.size ≤ w4.heap.size := b4.size
    have B4 := hide ((unhide B3).trans (b4.mono (by omega)))
    have O0 := hide ((unhide O0).below b4)
    have X1 := hide ((unhide X1).below b4)
    have L1 := hide o1.lies
    have O1 := hide o1
    clear b4 o1
    go_wp2_with fail
    refine (eqIntS_any _ _ _ _ _ _ _ _ _ (unhide O1).row (unhide O0).row).mono ?_
    rintro e w5 ⟨rfl, n5, hw5⟩
    rw [eqB_refl]
    have b5 : Below w4.heap.size w4 w5 := by rw [hw5]; exact bel0d _
    have hs5 : w4.heap.size ≤ w5.heap.size := b5.size
    have B5 := hide ((unhide B4).trans (b5.mono (by omega)))
    have O0 := hide ((unhide O0).below b5)
    have O1 := hide ((unhide O1).below b5)
    have X1 := hide ((unhide X1).below b5)
    clear b5 hw5
    go_wp2_with fail
    refine (toPhaseS_any _ _ _ ps _ ((unhide R).below (unhide B5)) hl).mono ?_
    rintro e w6 ⟨rfl, q6, b6⟩
    have hs6 : w5.heap.size ≤ w6.heap.size := b6.size
    have B6 := hide ((unhide B5).trans (b6.mono (by omega)))
    have O0 := hide ((unhide O0).below b6)
    have O1 := hide ((unhide O1).below b6)
    have X1 := hide ((unhide X1).below b6)
    have Q6 := hide q6
    clear b6 q6
    go_wp2_with fail
    refine (eqPhaseS_same _ _ _ _ _ _ ps _ (unhide X1).row (unhide Q6)).mono ?_
    rintro e w7 ⟨rfl, b7⟩
    have hs7 : w6.heap.size ≤ w7.heap.size := b7.size
    have B7 := hide ((unhide B6).trans (b7.mono (by omega)))
    have O0 := hide ((unhide O0).below b7)
    have O1 := hide ((unhide O1).below b7)
    have X1 := hide ((unhide X1).below b7)
    clear b7 Q6
    go_wp2_with fail
    refine (markPhaseS_any _ _ _ _ ps 1 _ (unhide X1) (unhide HLE) hl (by omega) (by omega)).mono ?_
    rintro e w8 ⟨rfl, _, g8⟩
    have hs8 : w7.heap.size ≤ w8.heap.size := g8.size
    have B8 := hide ((unhide B7).grown g8 (by omega) (fun j hj => by simp [Value.ownBlock] at hj; omega))
    have O0 := hide ((unhide O0).far g8 (fun j hj => by have := unhide L0 j hj; simp [Value.ownBlock]; omega))
    have O1 := hide ((unhide O1).far g8 (fun j hj => by have := unhide L1 j hj; simp [Value.ownBlock]; omega))
    clear g8 X1
    go_wp2_with fail
    refine (eqIntS_any _ _ _ _ _ _ _ _ _ (unhide O1).row (unhide O0).row).mono ?_
    rintro e w9 ⟨rfl, n9, hw9⟩
    rw [eqB_refl]
    have b9 : Below w8.heap.size w8 w9 := by rw [hw9]; exact bel0d _
    have hs9 : w8.heap.size ≤ w9.heap.size := b9.size
    have B9 := hide ((unhide B8).trans (b9.mono (by omega)))
    have O0 := hide ((unhide O0).below b9)
    have O1 := hide ((unhide O1).below b9)
    clear b9 hw9
    go_wp2_with fail
    refine (markIntS_own _ _ _ _ _ 1 _ (unhide O1) rfl (by omega) (by omega) (by omega)).mono ?_
    rintro e wA ⟨rfl, oA, gA⟩
    have hsA : w9.heap.size ≤ wA.heap.size := gA.size
    have BA := hide ((unhide B9).grown gA (by omega) (fun j hj => by have := unhide L1 j hj; omega))
    have O0 := hide ((unhide O0).far gA (fun j hj e => by have := unhide L0 j hj; have := unhide L1 j e.symm; omega))
    have O1 := hide oA
    clear gA oA
    go_wp2_with fail
    refine (heldIntS_any _ _ _ _ _ 1 _ (unhide O1) rfl (by omega) (by omega) (by omega)).mono ?_
    rintro e w' ⟨rfl, hw⟩
    subst w'
    go_wp2_with fail
    refine (toPhaseS_any _ _ _ ps _ ((unhide R).below (unhide BA)) hl).mono ?_
    rintro e wB ⟨rfl, qB, bB⟩
    have hsB : wA.heap.size ≤ wB.heap.size := bB.size
    have BB := hide ((unhide BA).trans (bB.mono (by omega)))
    have O0 := hide ((unhide O0).below bB)
    have O1 := hide ((unhide O1).below bB)
    have QB := hide qB
    clear bB qB
    go_wp2_with fail
    refine (implClimbs_any start _ _ _ ps _ (unhide QB)).mono ?_
    rintro e wC ⟨a2, c2, rfl, oC, bC⟩
    have hsC : wB.heap.size ≤ wC.heap.size := bC.size
    have BC := hide ((unhide BB).trans (bC.mono (by omega)))
    have O0 := hide ((unhide O0).below bC)
    have O1 := hide ((unhide O1).below bC)
    have O2 := hide oC.row
    clear bC oC QB
    go_wp2_with fail
    refine (eqIntS_any _ _ _ _ _ _ _ _ _ (unhide O2) (unhide O0).row).mono ?_
    rintro e wD ⟨rfl, nD, hwD⟩
    rw [eqB_refl]
    have bD : Below wC.heap.size wC wD := by rw [hwD]; exact bel0d _
    have hsD : wC.heap.size ≤ wD.heap.size := bD.size
    have BD := hide ((unhide BC).trans (bD.mono (by omega)))
    have O1 := hide ((unhide O1).below bD)
    clear bD hwD O0 O2
    go_wp2_with fail
    refine (heldIntS_any _ _ _ _ _ 1 _ (unhide O1) rfl (by omega) (by omega) (by omega)).mono ?_
    rintro e w' ⟨rfl, hw⟩
    subst w'
    go_wp2_with fail
    go_ret
    exact ⟨rfl, unhide BD⟩

end Go.Proofs.Ytkebjipmbgjilak
