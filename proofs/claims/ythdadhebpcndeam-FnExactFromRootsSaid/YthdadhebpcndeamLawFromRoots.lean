/-
  The law FnExactFromRoots returns true at every list of complex numbers and writes nothing that was there: the walk. No condition.
-/
import Derived.Test.YthdadhebpcndeamCxRow
import Derived.Test.YthdadhebpcndeamMarkC
import Derived.Test.YthdadhebpcndeamFromSpec
import Derived.Test.YthdadhebpcndeamFromImpl
namespace Go.Proofs.Ythdadhebpcndeam
open Go.RowKit

theorem fromR_len (ps : List (Nat × Nat)) : (fromR ps).length ≤ 12 := by
  unfold fromR fromB
  by_cases h : ps.length ≤ 11
  · rw [decide_eq_true h]; show (fromL ps ps.length).length ≤ 12; rw [fromL_len]; omega
  · rw [decide_eq_false h]; simp
theorem OwnC.is {w : World} {base : Nat} {T : TypeId} {v : Value} {ps : List (Nat × Nat)} (h : OwnC w base T v ps) : ∃ a cap, v = .slice a ps.length cap := by
  obtain ⟨a, cap, e, _, _⟩ := h.slice
  exact ⟨a, cap, e⟩

set_option maxRecDepth 20000 in
set_option maxHeartbeats 4000000 in
theorem lawFromRoots (ad : Option Addr) (len cap : Nat) (ps : List (Nat × Nat)) (w : World) (hr : RowC w ad len ps) :
    Calls Try.prog 4 #[.slice ad len cap] w fun e w' => e = .returned (.bool true) ∧ Below w.heap.size w w' := by
  have R := hide hr
  have hm := hr.small
  have LT := hide hr.len_eq
  clear hr
  by_cases g : (1048576 : Int) < len
  · go_enter Try.func4, Try.ntmps4
    go_wp2_with fail
    refine (szCxS_no _ _ _ _ _ (by omega) (by omega) (by omega) (by omega)).mono ?_
    rintro e w' ⟨rfl, hw⟩
    subst w'
    go_wp2_with fail
    go_ret
    exact ⟨rfl, Below.refl _ _⟩
  have hl : len ≤ 1048576 := by omega
  have hq : (fromB ps != fromB ps) = false := by simp
  go_enter Try.func4, Try.ntmps4
  go_wp2_with fail
  refine (szCxS_yes _ _ _ _ _ (by omega) (by omega)).mono ?_
  rintro e w' ⟨rfl, hw⟩
  subst w'
  go_wp2_with fail
  refine (toCxS_any _ _ _ ps _ (unhide R) hl).mono ?_
  rintro e wA ⟨rfl, qA, bA⟩
  have BA := hide bA
  clear bA
  go_wp2_with fail
  refine (specFromRoots_any _ _ _ ps _ qA).mono ?_
  rintro e wC ⟨v0, q0, rfl, o0, al0, bC⟩
  obtain ⟨a0, c0, rfl⟩ := o0.is
  have sA : w.heap.size ≤ wA.heap.size := (unhide BA).size
  have BC := hide ((unhide BA).trans (bC.mono (unhide BA).size))
  have V0 := hide o0
  have L0 := hide o0.liesIn
  have AL0 := hide al0
  clear bC o0 qA al0
  go_wp2_with fail
  refine (toCxS_own _ _ _ ps _ ((unhide R).below (unhide BC)) hl).mono ?_
  rintro e wD ⟨rfl, oD, bD⟩
  have sD : wC.heap.size < wD.heap.size := (oD.liesIn _ rfl).2
  have BD := hide ((unhide BC).trans (bD.mono (unhide BC).size))
  have QD := hide oD
  have V0 := hide ((unhide V0).below bD)
  clear bD oD
  go_wp2_with fail
  refine (implFromRoots_any _ _ _ ps _ (unhide QD).row).mono ?_
  rintro e wF ⟨v1, q1, rfl, o1, al1, bF⟩
  obtain ⟨a1, c1, rfl⟩ := o1.is
  have sF : wD.heap.size ≤ wF.heap.size := bF.size
  have BF := hide ((unhide BD).trans (bF.mono (unhide BD).size))
  have V1 := hide o1
  have L1 := hide o1.liesIn
  have AL1 := hide al1
  have hq12 : q1.length ≤ 12 := by rw [al1.len]; exact fromR_len ps
  have V0 := hide ((unhide V0).below bF)
  have QD := hide ((unhide QD).below bF)
  clear bF o1 al1
  have A10 := hide ((unhide AL1).trans (unhide AL0).symm)
  go_wp2_with fail
  refine (eqCxS_alike _ _ _ _ _ _ q1 q0 _ (unhide V1).row (unhide V0).row (unhide A10).len (fun i _ => ⟨(unhide A10).re i, (unhide A10).im i⟩)).mono ?_
  rintro e wG ⟨rfl, bG⟩
  have sG : wF.heap.size ≤ wG.heap.size := bG.size
  have BG := hide ((unhide BF).trans (bG.mono (unhide BF).size))
  have V0 := hide ((unhide V0).below bG)
  have V1 := hide ((unhide V1).below bG)
  have QD := hide ((unhide QD).below bG)
  clear bG
  go_wp2_with fail
  refine (toCxS_any _ _ _ ps _ ((unhide R).below (unhide BG)) hl).mono ?_
  rintro e wH ⟨rfl, qH, bH⟩
  have sH : wG.heap.size ≤ wH.heap.size := bH.size
  have BH := hide ((unhide BG).trans (bH.mono (unhide BG).size))
  have QH := hide qH
  have V0 := hide ((unhide V0).below bH)
  have V1 := hide ((unhide V1).below bH)
  have QD := hide ((unhide QD).below bH)
  clear bH qH
  go_wp2_with fail
  refine (eqCxS_alike _ _ _ _ _ _ ps ps _ (unhide QD).row (unhide QH) rfl (fun _ _ => ⟨.refl _ _, .refl _ _⟩)).mono ?_
  rintro e wI ⟨rfl, bI⟩
  have sI : wH.heap.size ≤ wI.heap.size := bI.size
  have BI := hide ((unhide BH).trans (bI.mono (unhide BH).size))
  have V0 := hide ((unhide V0).below bI)
  have V1 := hide ((unhide V1).below bI)
  have QD := hide ((unhide QD).below bI)
  clear bI QH
  go_wp2_with fail
  refine (markCxS_any _ _ _ _ ps 1 _ (unhide QD) (unhide LT) hl (by omega) (by omega)).mono ?_
  rintro e wL ⟨rfl, _, gL⟩
  have BL : Hid (Below w.heap.size w wL) := hide ((unhide BI).grown gL (unhide BI).size (fun i hi => by cases hi; have := (unhide BC).size; omega))
  have V0 := hide ((unhide V0).far gL (fun i hi e => by have h := (unhide L0) i hi; have e2 : some i = some wC.heap.size := e; have e3 := Option.some.inj e2; omega))
  have V1 := hide ((unhide V1).far gL (fun i hi e => by have h := (unhide L1) i hi; have e2 : some i = some wC.heap.size := e; have e3 := Option.some.inj e2; omega))
  have sL : wI.heap.size ≤ wL.heap.size := gL.size
  have hk1 : ¬ ((1 : Int) + 2 * (len : Int) < 0) := by omega
  clear gL QD
  go_wp2_with fail
  refine (eqCxS_alike _ _ _ _ _ _ q1 q0 _ (unhide V1).row (unhide V0).row (unhide A10).len (fun i _ => ⟨(unhide A10).re i, (unhide A10).im i⟩)).mono ?_
  rintro e wM ⟨rfl, bM⟩
  have sM : wL.heap.size ≤ wM.heap.size := bM.size
  have BM := hide ((unhide BL).trans (bM.mono (unhide BL).size))
  have V0 := hide ((unhide V0).below bM)
  have V1 := hide ((unhide V1).below bM)
  clear bM
  go_wp2_with fail
  refine (markCxS_any _ _ _ _ q1 1 _ (unhide V1) rfl (by omega) (by omega) (by omega)).mono ?_
  rintro e wN ⟨rfl, oN, gN⟩
  have BN : Hid (Below w.heap.size w wN) := hide ((unhide BM).grown gN (unhide BM).size (fun i hi => by have h := (unhide L1) i hi; have := (unhide BD).size; omega))
  have V0 := hide ((unhide V0).far gN (fun i hi e => by have h := (unhide L0) i hi; have h2 := (unhide L1) i e.symm; omega))
  have V1 := hide oN
  have sN : wM.heap.size ≤ wN.heap.size := gN.size
  clear gN oN
  go_wp2_with fail
  refine (heldCxS_any _ _ _ _ q1 1 _ (unhide V1) rfl (by omega) (by omega) (by omega)).mono ?_
  rintro e w' ⟨rfl, hw⟩
  subst w'
  have hk2 : ((1 : Int) + 2 * (q1.length : Int) != (1 : Int) + 2 * (q1.length : Int)) = false := by simp
  go_wp2_with fail
  refine (toCxS_any _ _ _ ps _ ((unhide R).below (unhide BN)) hl).mono ?_
  rintro e wO ⟨rfl, qO, bO⟩
  have BO := hide ((unhide BN).trans (bO.mono (unhide BN).size))
  have V0 := hide ((unhide V0).below bO)
  have V1 := hide ((unhide V1).below bO)
  clear bO
  go_wp2_with fail
  refine (implFromRoots_any _ _ _ ps _ qO).mono ?_
  rintro e wP ⟨v2, q2, rfl, o2, al2, bP⟩
  obtain ⟨a2, c2, rfl⟩ := o2.is
  have BP := hide ((unhide BO).trans (bP.mono (unhide BO).size))
  have V2 := hide o2
  have A20 := hide (al2.trans (unhide AL0).symm)
  have V0 := hide ((unhide V0).below bP)
  have V1 := hide ((unhide V1).below bP)
  clear bP o2 al2 qO
  go_wp2_with fail
  refine (eqCxS_alike _ _ _ _ _ _ q2 q0 _ (unhide V2).row (unhide V0).row (unhide A20).len (fun i _ => ⟨(unhide A20).re i, (unhide A20).im i⟩)).mono ?_
  rintro e wQ ⟨rfl, bQ⟩
  have BQ := hide ((unhide BP).trans (bQ.mono (unhide BP).size))
  have V1 := hide ((unhide V1).below bQ)
  clear bQ
  go_wp2_with fail
  refine (heldCxS_any _ _ _ _ q1 1 _ (unhide V1) rfl (by omega) (by omega) (by omega)).mono ?_
  rintro e w' ⟨rfl, hw⟩
  subst w'
  go_wp2_with fail
  go_ret
  exact ⟨rfl, unhide BQ⟩

end Go.Proofs.Ythdadhebpcndeam
