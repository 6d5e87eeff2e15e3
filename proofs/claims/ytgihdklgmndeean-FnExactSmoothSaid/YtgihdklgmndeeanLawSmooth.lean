/-
  The law FnExactSmooth returns true at every list of floats and every part and writes nothing that was there: the walk. No condition.
-/
import Derived.Test.YtgihdklgmndeeanRowFl
import Derived.Test.YtgihdklgmndeeanSmoothIs
namespace Go.Proofs.Ytgihdklgmndeean
open Go.RowKit

set_option maxRecDepth 20000 in
set_option maxHeartbeats 4000000 in
theorem lawSmooth (ad : Option Addr) (len cap : Nat) (ps : List Nat) (part : Nat) (w : World) (hr : RowE 1 flC w ad len ps) :
    Calls Try.prog 6 #[.slice ad len cap, .float .f64 part] w fun e w' => e = .returned (.bool true) ∧ Below w.heap.size w w' := by
  have R := hide hr
  have hm := hr.small
  have LT := hide hr.len_eq
  clear hr
  by_cases g : (1048576 : Int) < len
  · go_enter Try.func6, Try.ntmps6
    go_wp2_with fail
    go_ret
    exact ⟨rfl, Below.refl _ _⟩
  have hl : len ≤ 1048576 := by omega
  have hq : (smB ps != smB ps) = false := by simp
  go_enter Try.func6, Try.ntmps6
  go_wp2_with fail
  refine (toFloat64S_own _ _ _ ps _ (unhide R) hl).mono ?_
  rintro e wA ⟨rfl, qA, bA⟩
  have BA := hide bA
  clear bA
  go_wp2_with fail
  refine (specSmooth_any _ _ _ ps part _ qA.row).mono ?_
  rintro e wC ⟨v0, q0, rfl, o0, al0, bC⟩
  obtain ⟨a0, c0, rfl, _, _⟩ := o0.slice
  have sA : w.heap.size ≤ wA.heap.size := (unhide BA).size
  have BC := hide ((unhide BA).trans (bC.mono (unhide BA).size))
  have V0 := hide o0
  have L0 := hide o0.lies
  have AL0 := hide al0
  clear bC o0 qA al0
  go_wp2_with fail
  refine (toFloat64S_own _ _ _ ps _ ((unhide R).below (unhide BC)) hl).mono ?_
  rintro e wD ⟨rfl, oD, bD⟩
  have sD : wC.heap.size < wD.heap.size := (oD.lies _ rfl).2
  have BD := hide ((unhide BC).trans (bD.mono (unhide BC).size))
  have QD := hide oD
  have V0 := hide ((unhide V0).below bD)
  clear bD oD
  go_wp2_with fail
  refine (implSmooth_any _ _ _ ps part _ (unhide QD).row).mono ?_
  rintro e wF ⟨v1, q1, rfl, o1, al1, bF⟩
  obtain ⟨a1, c1, rfl, _, _⟩ := o1.slice
  have sF : wD.heap.size ≤ wF.heap.size := bF.size
  have BF := hide ((unhide BD).trans (bF.mono (unhide BD).size))
  have V1 := hide o1
  have L1 := hide o1.lies
  have AL1 := hide al1
  have hq12 : q1.length ≤ 60 := by rw [al1.len]; exact smR_len ps part
  have V0 := hide ((unhide V0).below bF)
  have QD := hide ((unhide QD).below bF)
  clear bF o1 al1
  have A10 := hide ((unhide AL1).trans (unhide AL0).symm)
  go_wp2_with fail
  refine (eqFloat64S_alike _ _ _ _ _ _ q1 q0 _ (unhide V1).row (unhide V0).row (unhide A10).len (fun i _ => (unhide A10).at_ i)).mono ?_
  rintro e wG ⟨rfl, bG⟩
  have sG : wF.heap.size ≤ wG.heap.size := bG.size
  have BG := hide ((unhide BF).trans (bG.mono (unhide BF).size))
  have V0 := hide ((unhide V0).below bG)
  have V1 := hide ((unhide V1).below bG)
  have QD := hide ((unhide QD).below bG)
  clear bG
  go_wp2_with fail
  refine (toFloat64S_own _ _ _ ps _ ((unhide R).below (unhide BG)) hl).mono ?_
  rintro e wH ⟨rfl, qH, bH⟩
  have sH : wG.heap.size ≤ wH.heap.size := bH.size
  have BH := hide ((unhide BG).trans (bH.mono (unhide BG).size))
  have QH := hide qH.row
  have V0 := hide ((unhide V0).below bH)
  have V1 := hide ((unhide V1).below bH)
  have QD := hide ((unhide QD).below bH)
  clear bH qH
  go_wp2_with fail
  refine (eqFloat64S_alike _ _ _ _ _ _ ps ps _ (unhide QD).row (unhide QH) rfl (fun _ _ => .refl _ _)).mono ?_
  rintro e wI ⟨rfl, bI⟩
  have sI : wH.heap.size ≤ wI.heap.size := bI.size
  have BI := hide ((unhide BH).trans (bI.mono (unhide BH).size))
  have V0 := hide ((unhide V0).below bI)
  have V1 := hide ((unhide V1).below bI)
  have QD := hide ((unhide QD).below bI)
  clear bI QH
  go_wp2_with fail
  refine (markFloat64S_any _ _ _ _ ps 1 _ (unhide QD) (unhide LT) hl (by omega) (by omega)).mono ?_
  rintro e wL ⟨rfl, _, gL⟩
  have BL : Hid (Below w.heap.size w wL) := hide ((unhide BI).grown gL (unhide BI).size (fun i hi => by cases hi; have := (unhide BC).size; omega))
  have V0 := hide ((unhide V0).far gL (fun i hi e => by have h := (unhide L0) i hi; have e2 : some i = some wC.heap.size := e; have e3 := Option.some.inj e2; omega))
  have V1 := hide ((unhide V1).far gL (fun i hi e => by have h := (unhide L1) i hi; have e2 : some i = some wC.heap.size := e; have e3 := Option.some.inj e2; omega))
  have sL : wI.heap.size ≤ wL.heap.size := gL.size
  have hk1 : ¬ ((1 : Int) + (len : Int) < 0) := by omega
  clear gL QD
  go_wp2_with fail
  refine (eqFloat64S_alike _ _ _ _ _ _ q1 q0 _ (unhide V1).row (unhide V0).row (unhide A10).len (fun i _ => (unhide A10).at_ i)).mono ?_
  rintro e wM ⟨rfl, bM⟩
  have sM : wL.heap.size ≤ wM.heap.size := bM.size
  have BM := hide ((unhide BL).trans (bM.mono (unhide BL).size))
  have V0 := hide ((unhide V0).below bM)
  have V1 := hide ((unhide V1).below bM)
  clear bM
  go_wp2_with fail
  refine (markFloat64S_any _ _ _ _ q1 1 _ (unhide V1) rfl (by omega) (by omega) (by omega)).mono ?_
  rintro e wN ⟨rfl, oN, gN⟩
  have BN : Hid (Below w.heap.size w wN) := hide ((unhide BM).grown gN (unhide BM).size (fun i hi => by have h := (unhide L1) i hi; have := (unhide BD).size; omega))
  have V0 := hide ((unhide V0).far gN (fun i hi e => by have h := (unhide L0) i hi; have h2 := (unhide L1) i e.symm; omega))
  have V1 := hide oN
  have sN : wM.heap.size ≤ wN.heap.size := gN.size
  clear gN oN
  go_wp2_with fail
  refine (heldFloat64S_any _ _ _ _ q1 1 _ (unhide V1) rfl (by omega) (by omega) (by omega)).mono ?_
  rintro e w' ⟨rfl, hw⟩
  subst w'
  have hk2 : ((1 : Int) + (q1.length : Int) != (1 : Int) + (q1.length : Int)) = false := by simp
  go_wp2_with fail
  refine (toFloat64S_own _ _ _ ps _ ((unhide R).below (unhide BN)) hl).mono ?_
  rintro e wO ⟨rfl, qO, bO⟩
  have BO := hide ((unhide BN).trans (bO.mono (unhide BN).size))
  have V0 := hide ((unhide V0).below bO)
  have V1 := hide ((unhide V1).below bO)
  clear bO
  go_wp2_with fail
  refine (implSmooth_any _ _ _ ps part _ qO.row).mono ?_
  rintro e wP ⟨v2, q2, rfl, o2, al2, bP⟩
  obtain ⟨a2, c2, rfl, _, _⟩ := o2.slice
  have BP := hide ((unhide BO).trans (bP.mono (unhide BO).size))
  have V2 := hide o2
  have A20 := hide (al2.trans (unhide AL0).symm)
  have V0 := hide ((unhide V0).below bP)
  have V1 := hide ((unhide V1).below bP)
  clear bP o2 al2 qO
  go_wp2_with fail
  refine (eqFloat64S_alike _ _ _ _ _ _ q2 q0 _ (unhide V2).row (unhide V0).row (unhide A20).len (fun i _ => (unhide A20).at_ i)).mono ?_
  rintro e wQ ⟨rfl, bQ⟩
  have BQ := hide ((unhide BP).trans (bQ.mono (unhide BP).size))
  have V1 := hide ((unhide V1).below bQ)
  clear bQ
  go_wp2_with fail
  refine (heldFloat64S_any _ _ _ _ q1 1 _ (unhide V1) rfl (by omega) (by omega) (by omega)).mono ?_
  rintro e w' ⟨rfl, hw⟩
  subst w'
  go_wp2_with fail
  go_ret
  exact ⟨rfl, unhide BQ⟩

end Go.Proofs.Ytgihdklgmndeean
