/-
  The law FnExactBurnt returns true at every list of tanks and of burns and writes nothing that was there: the walk. No condition.
-/
import Derived.Test.YtigpemoicfdfcajPairFuelTank
import Derived.Test.YtigpemoicfdfcajPairBurn
import Derived.Test.YtigpemoicfdfcajMarkFuelTank
import Derived.Test.YtigpemoicfdfcajMarkBurn
import Derived.Test.YtigpemoicfdfcajBurntSpec
namespace Go.Proofs.Ytigpemoicfdfcaj
open Go.RowKit

theorem Own2.lies {w : World} {base : Nat} {T : TypeId} {v : Value} {ps : List (Int × Int)} (h : Own2 w base T v ps) : ∀ g, v.ownBlock = some g → base ≤ g ∧ g < w.heap.size := by
  intro g hg
  rcases h.form with ⟨rfl, _⟩ | ⟨g', cap, rfl, h1, h2, _⟩
  · simp [Value.ownBlock] at hg
  · simp only [Value.ownBlock, Option.some.injEq] at hg
    omega
theorem burntT_len (ts bs : List (Int × Int)) : (burntT ts bs).length ≤ 8 := by
  unfold burntT
  cases h : burntOk ts bs
  · simp
  · simp only [if_true]
    rw [afterB_len]
    simp [burntOk] at h
    exact (tanks_facts h.1).1

set_option maxHeartbeats 4000000 in
theorem lawBurnt (ad : Option Addr) (tl tc : Nat) (ts : List (Int × Int)) (bd : Option Addr) (bl bc : Nat) (bs : List (Int × Int)) (w : World) (hr : Row2 w ad tl ts) (hb : Row2 w bd bl bs) :
    Calls Try.prog 5 #[.slice ad tl tc, .slice bd bl bc] w fun e w' => e = .returned (.bool true) ∧ Below w.heap.size w w' := by
  have R := hide hr
  have S := hide hb
  have hm := hr.small
  have hm2 := hb.small
  have LT := hide hr.len_eq
  have LB := hide hb.len_eq
  have hn := burntT_len ts bs
  clear hr hb
  by_cases g : (1048576 : Int) < tl
  · go_enter Try.func5, Try.ntmps5
    go_wp2_with fail
    refine (szFuelTankS_no _ _ _ _ _ (by omega) (by omega) (by omega) (by omega)).mono ?_
    rintro e w' ⟨rfl, hw⟩
    subst w'
    go_wp2_with fail
    go_ret
    exact ⟨rfl, Below.refl _ _⟩
  have hl : tl ≤ 1048576 := by omega
  by_cases g2 : (1048576 : Int) - tl < bl
  · go_enter Try.func5, Try.ntmps5
    go_wp2_with fail
    refine (szFuelTankS_yes _ _ _ _ _ (by omega) (by omega)).mono ?_
    rintro e w' ⟨rfl, hw⟩
    subst w'
    go_wp2_with fail
    refine (szBurnS_no _ _ _ _ _ (by omega) (by omega) (by omega) (by omega)).mono ?_
    rintro e w' ⟨rfl, hw⟩
    subst w'
    go_wp2_with fail
    go_ret
    exact ⟨rfl, Below.refl _ _⟩
  have hl2 : bl ≤ 1048576 := by omega
  go_enter Try.func5, Try.ntmps5
  go_wp2_with fail
  refine (szFuelTankS_yes _ _ _ _ _ (by omega) (by omega)).mono ?_
  rintro e w' ⟨rfl, hw⟩
  subst w'
  go_wp2_with fail
  refine (szBurnS_yes _ _ _ _ _ (by omega) (by omega)).mono ?_
  rintro e w' ⟨rfl, hw⟩
  subst w'
  go_wp2_with fail
  refine (toFuelTankS_own _ _ _ ts _ (unhide R) hl).mono ?_
  rintro e wA ⟨rfl, oA, bA⟩
  have BA := hide bA
  have QA := hide oA
  clear bA oA
  go_wp2_with fail
  refine (toBurnS_own _ _ _ bs _ ((unhide S).below (unhide BA)) hl2).mono ?_
  rintro e wB ⟨rfl, oB, bB⟩
  have sB : wA.heap.size < wB.heap.size := by rcases oB.lies _ rfl with ⟨_, h⟩; exact h
  have BB := hide ((unhide BA).trans (bB.mono (unhide BA).size))
  have QB := hide oB
  have QA := hide ((unhide QA).below bB)
  clear bB oB
  go_wp2_with fail
  refine (specBurnt_any _ _ _ _ _ _ _ ts bs _ (unhide QA).row (unhide QB).row).mono ?_
  rintro e wC ⟨a0, c0, rfl, oC, bC⟩
  have sC : wB.heap.size ≤ wC.heap.size := bC.size
  have BC := hide ((unhide BB).trans (bC.mono (unhide BB).size))
  have V0 := hide oC
  have L0 := hide oC.lies
  clear bC oC QA QB
  go_wp2_with fail
  refine (toFuelTankS_own _ _ _ ts _ ((unhide R).below (unhide BC)) hl).mono ?_
  rintro e wD ⟨rfl, oD, bD⟩
  have sD : wC.heap.size < wD.heap.size := by rcases oD.lies _ rfl with ⟨_, h⟩; exact h
  have BD := hide ((unhide BC).trans (bD.mono (unhide BC).size))
  have QD := hide oD
  have V0 := hide ((unhide V0).below bD)
  clear bD oD
  go_wp2_with fail
  refine (toBurnS_own _ _ _ bs _ ((unhide S).below (unhide BD)) hl2).mono ?_
  rintro e wE ⟨rfl, oE, bE⟩
  have sE : wD.heap.size < wE.heap.size := by rcases oE.lies _ rfl with ⟨_, h⟩; exact h
  have BE := hide ((unhide BD).trans (bE.mono (unhide BD).size))
  have QE := hide oE
  have V0 := hide ((unhide V0).below bE)
  have QD := hide ((unhide QD).below bE)
  clear bE oE
  go_wp2_with fail
  refine (implBurnt_any _ _ _ _ _ _ _ ts bs _ (unhide QD).row (unhide QE).row).mono ?_
  rintro e wF ⟨a1, c1, rfl, oF, bF⟩
  have sF : wE.heap.size ≤ wF.heap.size := bF.size
  have BF := hide ((unhide BE).trans (bF.mono (unhide BE).size))
  have V1 := hide oF
  have L1 := hide oF.lies
  have V0 := hide ((unhide V0).below bF)
  have QD := hide ((unhide QD).below bF)
  have QE := hide ((unhide QE).below bF)
  have hq : (burntC ts bs != burntC ts bs) = false := by simp
  clear bF oF
  go_wp2_with fail
  refine (eqFuelTankS_same _ _ _ _ _ _ (burntT ts bs) _ (unhide V1).row (unhide V0).row).mono ?_
  rintro e wG ⟨rfl, bG⟩
  have sG : wF.heap.size ≤ wG.heap.size := bG.size
  have BG := hide ((unhide BF).trans (bG.mono (unhide BF).size))
  have V0 := hide ((unhide V0).below bG)
  have V1 := hide ((unhide V1).below bG)
  have QD := hide ((unhide QD).below bG)
  have QE := hide ((unhide QE).below bG)
  clear bG
  go_wp2_with fail
  refine (toFuelTankS_own _ _ _ ts _ ((unhide R).below (unhide BG)) hl).mono ?_
  rintro e wH ⟨rfl, oH, bH⟩
  have sH : wG.heap.size < wH.heap.size := by rcases oH.lies _ rfl with ⟨_, h⟩; exact h
  have BH := hide ((unhide BG).trans (bH.mono (unhide BG).size))
  have QH := hide oH
  have V0 := hide ((unhide V0).below bH)
  have V1 := hide ((unhide V1).below bH)
  have QD := hide ((unhide QD).below bH)
  have QE := hide ((unhide QE).below bH)
  clear bH oH
  go_wp2_with fail
  refine (eqFuelTankS_same _ _ _ _ _ _ ts _ (unhide QD).row (unhide QH).row).mono ?_
  rintro e wI ⟨rfl, bI⟩
  have sI : wH.heap.size ≤ wI.heap.size := bI.size
  have BI := hide ((unhide BH).trans (bI.mono (unhide BH).size))
  have V0 := hide ((unhide V0).below bI)
  have V1 := hide ((unhide V1).below bI)
  have QD := hide ((unhide QD).below bI)
  have QE := hide ((unhide QE).below bI)
  clear bI QH
  go_wp2_with fail
  refine (toBurnS_own _ _ _ bs _ ((unhide S).below (unhide BI)) hl2).mono ?_
  rintro e wJ ⟨rfl, oJ, bJ⟩
  have sJ : wI.heap.size < wJ.heap.size := by rcases oJ.lies _ rfl with ⟨_, h⟩; exact h
  have BJ := hide ((unhide BI).trans (bJ.mono (unhide BI).size))
  have QJ := hide oJ
  have V0 := hide ((unhide V0).below bJ)
  have V1 := hide ((unhide V1).below bJ)
  have QD := hide ((unhide QD).below bJ)
  have QE := hide ((unhide QE).below bJ)
  clear bJ oJ
  go_wp2_with fail
  refine (eqBurnS_same _ _ _ _ _ _ bs _ (unhide QE).row (unhide QJ).row).mono ?_
  rintro e wK ⟨rfl, bK⟩
  have sK : wJ.heap.size ≤ wK.heap.size := bK.size
  have BK := hide ((unhide BJ).trans (bK.mono (unhide BJ).size))
  have V0 := hide ((unhide V0).below bK)
  have V1 := hide ((unhide V1).below bK)
  have QD := hide ((unhide QD).below bK)
  have QE := hide ((unhide QE).below bK)
  clear bK QJ
  have sA : w.heap.size ≤ wA.heap.size := (unhide BA).size
  go_wp2_with fail
  refine (markFuelTankS_any _ _ _ _ ts 1 _ (unhide QD) (unhide LT) hl (by omega) (by omega)).mono ?_
  rintro e wL ⟨rfl, _, gL⟩
  have sL : wK.heap.size ≤ wL.heap.size := gL.size
  have BL := hide ((unhide BK).grown gL (by omega) (fun k hk => by simp [Value.ownBlock] at hk; omega))
  have V0 := hide ((unhide V0).far gL (fun g hg => by have := unhide L0 g hg; simp [Value.ownBlock]; omega))
  have V1 := hide ((unhide V1).far gL (fun g hg => by have := unhide L1 g hg; simp [Value.ownBlock]; omega))
  have QE := hide ((unhide QE).far gL (fun g hg => by simp [Value.ownBlock] at hg ⊢; omega))
  clear gL QD
  go_wp2_with fail
  refine (markBurnS_any _ _ _ _ bs _ _ (unhide QE) (unhide LB) hl2 (by omega) (by omega)).mono ?_
  rintro e wM ⟨rfl, _, gM⟩
  have sM : wL.heap.size ≤ wM.heap.size := gM.size
  have BM := hide ((unhide BL).grown gM (by omega) (fun k hk => by simp [Value.ownBlock] at hk; omega))
  have V0 := hide ((unhide V0).far gM (fun g hg => by have := unhide L0 g hg; simp [Value.ownBlock]; omega))
  have V1 := hide ((unhide V1).far gM (fun g hg => by have := unhide L1 g hg; simp [Value.ownBlock]; omega))
  clear gM QE
  go_wp2_with fail
  refine (eqFuelTankS_same _ _ _ _ _ _ (burntT ts bs) _ (unhide V1).row (unhide V0).row).mono ?_
  rintro e wN ⟨rfl, bN⟩
  have sN : wM.heap.size ≤ wN.heap.size := bN.size
  have BN := hide ((unhide BM).trans (bN.mono (unhide BM).size))
  have V0 := hide ((unhide V0).below bN)
  have V1 := hide ((unhide V1).below bN)
  clear bN
  go_wp2_with fail
  refine (markFuelTankS_any _ _ _ _ (burntT ts bs) 1 _ (unhide V1) rfl (by omega) (by omega) (by omega)).mono ?_
  rintro e wO ⟨rfl, oO, gO⟩
  have sO : wN.heap.size ≤ wO.heap.size := gO.size
  have BO := hide ((unhide BN).grown gO (by omega) (fun k hk => by have := unhide L1 k hk; omega))
  have V0 := hide ((unhide V0).far gO (fun g hg e => by have := unhide L0 g hg; have := unhide L1 g e.symm; omega))
  have V1 := hide oO
  have hq2 : ((1 + 2 * ((burntT ts bs).length : Int)) != (1 + 2 * ((burntT ts bs).length : Int))) = false := by simp
  clear gO oO
  go_wp2_with fail
  refine (heldFuelTankS_any _ _ _ _ (burntT ts bs) 1 _ (unhide V1) rfl (by omega) (by omega) (by omega)).mono ?_
  rintro e w' ⟨rfl, hw⟩
  subst w'
  go_wp2_with fail
  refine (toFuelTankS_own _ _ _ ts _ ((unhide R).below (unhide BO)) hl).mono ?_
  rintro e wP ⟨rfl, oP, bP⟩
  have sP : wO.heap.size < wP.heap.size := by rcases oP.lies _ rfl with ⟨_, h⟩; exact h
  have BP := hide ((unhide BO).trans (bP.mono (unhide BO).size))
  have QP := hide oP
  have V0 := hide ((unhide V0).below bP)
  have V1 := hide ((unhide V1).below bP)
  clear bP oP
  go_wp2_with fail
  refine (toBurnS_own _ _ _ bs _ ((unhide S).below (unhide BP)) hl2).mono ?_
  rintro e wQ ⟨rfl, oQ, bQ⟩
  have sQ : wP.heap.size < wQ.heap.size := by rcases oQ.lies _ rfl with ⟨_, h⟩; exact h
  have BQ := hide ((unhide BP).trans (bQ.mono (unhide BP).size))
  have QQ := hide oQ
  have V0 := hide ((unhide V0).below bQ)
  have V1 := hide ((unhide V1).below bQ)
  have QP := hide ((unhide QP).below bQ)
  clear bQ oQ
  go_wp2_with fail
  refine (implBurnt_any _ _ _ _ _ _ _ ts bs _ (unhide QP).row (unhide QQ).row).mono ?_
  rintro e wR ⟨a2, c2, rfl, oR, bR⟩
  have BR := hide ((unhide BQ).trans (bR.mono (unhide BQ).size))
  have V0 := hide ((unhide V0).below bR)
  have V1 := hide ((unhide V1).below bR)
  have V2 := hide oR
  clear bR oR QP QQ
  go_wp2_with fail
  refine (eqFuelTankS_same _ _ _ _ _ _ (burntT ts bs) _ (unhide V2).row (unhide V0).row).mono ?_
  rintro e wS ⟨rfl, bS⟩
  have BS := hide ((unhide BR).trans (bS.mono (unhide BR).size))
  have V1 := hide ((unhide V1).below bS)
  clear bS V0 V2
  go_wp2_with fail
  refine (heldFuelTankS_any _ _ _ _ (burntT ts bs) 1 _ (unhide V1) rfl (by omega) (by omega) (by omega)).mono ?_
  rintro e w' ⟨rfl, hw⟩
  subst w'
  go_wp2_with fail
  go_ret
  exact ⟨rfl, unhide BS⟩

end Go.Proofs.Ytigpemoicfdfcaj
