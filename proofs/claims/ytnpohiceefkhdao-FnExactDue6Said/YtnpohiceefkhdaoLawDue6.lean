/-
  The law FnExactDue6 returns true at every list of lives and of stays and writes nothing that was there: the walk. No condition.
-/
import Derived.Test.YtnpohiceefkhdaoRowPt
import Derived.Test.YtnpohiceefkhdaoDueSpec
import Derived.Test.YtnpohiceefkhdaoDueImpl
namespace Go.Proofs.Ytnpohiceefkhdao
open Go.RowKit

/-- What the program's Due6 answers, its texts owned. -/
theorem implDue6_own (al : Option Addr) (ll cl : Nat) (ls : List Pt) (ak : Option Addr) (ln cn : Nat) (ss : List Pt) (w : World) (hl : RowE 4 ptC w al ll ls) (hs : RowE 4 ptC w ak ln ss) (hfl : ∀ i, ptFit (elAt ls i)) (hfs : ∀ i, ptFit (elAt ss i)) :
    Calls Try.prog 28 #[.slice al ll cl, .slice ak ln cn] w fun e w' => ∃ g cap, e = .returned (.tuple #[.slice (some ⟨g, 0, none⟩) (dueS ls ss).length cap, .bool (dueOk ls ss)]) ∧ OwnE 1 stC w' w.heap.size 9 (.slice (some ⟨g, 0, none⟩) (dueS ls ss).length cap) (dueS ls ss) ∧ Below w.heap.size w w' := by
  refine (implDue6_any al ll cl ls ak ln cn ss w hl hs hfl hfs).mono ?_
  rintro e w' ⟨g, cap, rfl, hown, b⟩
  rw [← dueS_len] at hown ⊢
  refine ⟨g, cap, rfl, ⟨⟨_, hown, fun j hj q hq => ?_⟩⟩, b⟩
  obtain rfl : q = 0 := by omega
  rw [← dueS_enc]
  simp [elAt, hj, stC]
theorem dueS_short {ls ss : List Pt} : (dueS ls ss).length ≤ 30 := by
  rw [dueS_len]
  cases h : dueOk ls ss with
  | false => rw [dueR_no h]; simp
  | true =>
    rw [dueR_yes h, List.length_mergeSort]
    have h2 : okB ss 10000000 = true := by unfold dueOk at h; simp only [Bool.and_eq_true] at h; exact h.2
    have := (okB_facts h2).1
    have h3 : (dueL ls ss).length ≤ ss.length := by unfold dueL; rw [List.length_map]; exact List.length_filter_le _ _
    omega

set_option maxRecDepth 20000 in
set_option maxHeartbeats 8000000 in
theorem lawDue6 (al : Option Addr) (ll cl : Nat) (ls : List Pt) (ak : Option Addr) (ln cn : Nat) (ss : List Pt) (w : World) (hl : RowE 4 ptC w al ll ls ∧ ∀ i, ptFit (elAt ls i)) (hs : RowE 4 ptC w ak ln ss ∧ ∀ i, ptFit (elAt ss i)) :
    Calls Try.prog 7 #[.slice al ll cl, .slice ak ln cn] w fun e w' => e = .returned (.bool true) ∧ Below w.heap.size w w' := by
  have RL := hide hl.1
  have RS := hide hs.1
  have HFL := hide hl.2
  have HFS := hide hs.2
  have HLL := hide hl.1.len_eq
  have HLS := hide hs.1.len_eq
  clear hl hs
  have hsh := dueS_short (ls := ls) (ss := ss)
  have hq1 : (dueOk ls ss != dueOk ls ss) = false := by simp
  go_enter Try.func7, Try.ntmps7
  go_wp2_with fail
  refine (szLifeS_any _ _ _ ls 1048576 _ (unhide RL) (unhide HFL) (by omega) (by omega)).mono ?_
  rintro e w1 ⟨⟨r, rfl, hr⟩, b⟩
  have BW := hide b
  clear b
  rcases hr with hr | ⟨hr0, hr1, hl20⟩
  · go_wp2_with fail
    go_ret
    exact ⟨rfl, unhide BW⟩
  have hr2 : ¬ r < 0 := by omega
  have hll : ll ≤ 1048576 := by omega
  go_wp2_with fail
  refine (szStayS_any _ _ _ ss r _ ((unhide RS).below (unhide BW)) (unhide HFS) hr0 (by omega)).mono ?_
  rintro e w2 ⟨⟨r2, rfl, hr⟩, b⟩
  have BW := hide ((unhide BW).trans (b.mono (unhide BW).size))
  clear b
  rcases hr with hr | ⟨hr3, hr4, hn20⟩
  · go_wp2_with fail
    go_ret
    exact ⟨rfl, unhide BW⟩
  have hr5 : ¬ r2 < 0 := by omega
  have hln : ln ≤ 1048576 := by omega
  clear hr0 hr1 hr3 hr4
  go_wp2_with fail
  refine (toLifeS_own _ _ _ ls _ ((unhide RL).below (unhide BW)) hll).mono ?_
  rintro e wA ⟨rfl, oA, b⟩
  have BW := hide ((unhide BW).trans (b.mono (unhide BW).size))
  have BA := hide (Below.refl wA.heap.size wA)
  have OA := hide oA
  clear oA b
  go_wp2_with fail
  refine (toStayS_own _ _ _ ss _ ((unhide RS).below (unhide BW)) hln).mono ?_
  rintro e wB ⟨rfl, oB, b⟩
  have BW := hide ((unhide BW).trans (b.mono (unhide BW).size))
  have BA := hide ((unhide BA).trans (b.mono (unhide BA).size))
  have BB := hide (Below.refl wB.heap.size wB)
  have OB := hide oB
  clear oB b
  go_wp2_with fail
  refine (specDue6_any _ _ _ ls _ _ _ ss _ ((unhide OA).row.below (unhide BA)) ((unhide OB).row.below (unhide BB)) (unhide HFL) (unhide HFS)).mono ?_
  rintro e wC ⟨a0, c0, rfl, rC, b⟩
  have BW := hide ((unhide BW).trans (b.mono (unhide BW).size))
  have RC := hide rC
  have BWC : Hid (w.heap.size ≤ wC.heap.size) := hide (unhide BW).size
  have BC := hide (Below.refl wC.heap.size wC)
  clear rC b OA OB BA BB
  go_wp2_with fail
  refine (toLifeS_own _ _ _ ls _ ((unhide RL).below (unhide BW)) hll).mono ?_
  rintro e wD ⟨rfl, oD, b⟩
  have BW := hide ((unhide BW).trans (b.mono (unhide BW).size))
  have BC := hide ((unhide BC).trans (b.mono (unhide BC).size))
  have BD := hide (Below.refl wD.heap.size wD)
  have OD := hide oD
  have sD : wC.heap.size < wD.heap.size := (oD.lies _ rfl).2
  clear oD b
  go_wp2_with fail
  refine (toStayS_own _ _ _ ss _ ((unhide RS).below (unhide BW)) hln).mono ?_
  rintro e wE ⟨rfl, oE, b⟩
  have BW := hide ((unhide BW).trans (b.mono (unhide BW).size))
  have BC := hide ((unhide BC).trans (b.mono (unhide BC).size))
  have BD := hide ((unhide BD).trans (b.mono (unhide BD).size))
  have BE := hide (Below.refl wE.heap.size wE)
  have OE := hide oE
  have sE : wD.heap.size < wE.heap.size := (oE.lies _ rfl).2
  clear oE b
  go_wp2_with fail
  refine (implDue6_own _ _ _ ls _ _ _ ss _ ((unhide OD).row.below (unhide BD)) ((unhide OE).row.below (unhide BE)) (unhide HFL) (unhide HFS)).mono ?_
  rintro e wF ⟨g1, c1, rfl, oF, b⟩
  have BW := hide ((unhide BW).trans (b.mono (unhide BW).size))
  have BC := hide ((unhide BC).trans (b.mono (unhide BC).size))
  have BD := hide ((unhide BD).trans (b.mono (unhide BD).size))
  have BE := hide ((unhide BE).trans (b.mono (unhide BE).size))
  have OF := hide oF
  have sF := oF.lies g1 rfl
  have BF := hide (Below.refl wF.heap.size wF)
  clear oF b
  go_wp2_with fail
  refine (eqStringS_same _ _ _ _ _ (dueS ls ss) _ (unhide OF).row ((unhide RC).below (unhide BC))).mono ?_
  rintro e wG ⟨rfl, nG, hG⟩
  have b : Below wF.heap.size wF wG := by rw [hG]; exact bel0d nG
  clear hG
  have BW := hide ((unhide BW).trans (b.mono (unhide BW).size))
  have BC := hide ((unhide BC).trans (b.mono (unhide BC).size))
  have BD := hide ((unhide BD).trans (b.mono (unhide BD).size))
  have BE := hide ((unhide BE).trans (b.mono (unhide BE).size))
  have BF := hide ((unhide BF).trans (b.mono (unhide BF).size))
  clear b
  go_wp2_with fail
  refine (toLifeS_own _ _ _ ls _ ((unhide RL).below (unhide BW)) hll).mono ?_
  rintro e wH ⟨rfl, oH, b⟩
  have BW := hide ((unhide BW).trans (b.mono (unhide BW).size))
  have BC := hide ((unhide BC).trans (b.mono (unhide BC).size))
  have BD := hide ((unhide BD).trans (b.mono (unhide BD).size))
  have BE := hide ((unhide BE).trans (b.mono (unhide BE).size))
  have BF := hide ((unhide BF).trans (b.mono (unhide BF).size))
  have RH := hide oH.row
  clear oH b
  go_wp2_with fail
  refine (eqLifeS_same _ _ _ _ _ ls _ ((unhide OD).row.below (unhide BD)) (unhide RH)).mono ?_
  rintro e wI ⟨rfl, b⟩
  have BW := hide ((unhide BW).trans (b.mono (unhide BW).size))
  have BC := hide ((unhide BC).trans (b.mono (unhide BC).size))
  have BD := hide ((unhide BD).trans (b.mono (unhide BD).size))
  have BE := hide ((unhide BE).trans (b.mono (unhide BE).size))
  have BF := hide ((unhide BF).trans (b.mono (unhide BF).size))
  clear b RH
  go_wp2_with fail
  refine (toStayS_own _ _ _ ss _ ((unhide RS).below (unhide BW)) hln).mono ?_
  rintro e wJ ⟨rfl, oJ, b⟩
  have BW := hide ((unhide BW).trans (b.mono (unhide BW).size))
  have BC := hide ((unhide BC).trans (b.mono (unhide BC).size))
  have BD := hide ((unhide BD).trans (b.mono (unhide BD).size))
  have BE := hide ((unhide BE).trans (b.mono (unhide BE).size))
  have BF := hide ((unhide BF).trans (b.mono (unhide BF).size))
  have RJ := hide oJ.row
  clear oJ b
  go_wp2_with fail
  refine (eqStayS_same _ _ _ _ _ ss _ ((unhide OE).row.below (unhide BE)) (unhide RJ)).mono ?_
  rintro e wK ⟨rfl, b⟩
  have BW := hide ((unhide BW).trans (b.mono (unhide BW).size))
  have BC := hide ((unhide BC).trans (b.mono (unhide BC).size))
  have BD := hide ((unhide BD).trans (b.mono (unhide BD).size))
  have BE := hide ((unhide BE).trans (b.mono (unhide BE).size))
  have BF := hide ((unhide BF).trans (b.mono (unhide BF).size))
  clear b RJ
  go_wp2_with fail
  refine (markLifeS_any _ _ _ _ ls 1 _ ((unhide OD).below (unhide BD)) (unhide HLL) hll (by omega) (by omega)).mono ?_
  rintro e wL ⟨rfl, _, gL⟩
  have gL' : wK.grownBy wL (some wC.heap.size) := gL
  have OE1 := hide (((unhide OE).below (unhide BE)).far gL' (fun q hq => by have h := Option.some.inj (show some wD.heap.size = some q from hq); intro e; have := Option.some.inj e; omega))
  have OF1 := hide (((unhide OF).below (unhide BF)).far gL' (fun q hq => by have h := Option.some.inj (show some g1 = some q from hq); intro e; have := Option.some.inj e; omega))
  have BW := hide ((unhide BW).grown gL' (unhide BW).size (fun q hq => by cases hq; have := (unhide BWC); omega))
  have BC := hide ((unhide BC).grown gL' (unhide BC).size (fun q hq => by cases hq; exact Nat.le_refl _))
  clear gL gL' OD OE OF BD BE BF
  go_wp2_with fail
  refine (markStayS_any _ _ _ _ ss (1 + 4 * (ll : Int)) _ (unhide OE1) (unhide HLS) hln (by omega) (by omega)).mono ?_
  rintro e wM ⟨rfl, _, gM⟩
  have gM' : wL.grownBy wM (some wD.heap.size) := gM
  have OF2 := hide ((unhide OF1).far gM' (fun q hq => by have h := Option.some.inj (show some g1 = some q from hq); intro e; have := Option.some.inj e; omega))
  have BW := hide ((unhide BW).grown gM' (unhide BW).size (fun q hq => by cases hq; have := (unhide BWC); omega))
  have BC := hide ((unhide BC).grown gM' (unhide BC).size (fun q hq => by cases hq; omega))
  have hk1 : ¬ ((1 : Int) + 4 * (ll : Int) + 4 * (ln : Int) < 0) := by omega
  clear gM gM' OE1 OF1
  go_wp2_with fail
  refine (eqStringS_same _ _ _ _ _ (dueS ls ss) _ (unhide OF2).row ((unhide RC).below (unhide BC))).mono ?_
  rintro e wN ⟨rfl, nN, hN⟩
  have b : Below wM.heap.size wM wN := by rw [hN]; exact bel0d nN
  have BW := hide ((unhide BW).trans (b.mono (unhide BW).size))
  have BC := hide ((unhide BC).trans (b.mono (unhide BC).size))
  have OF3 := hide ((unhide OF2).below b)
  clear b hN OF2
  go_wp2_with fail
  refine (markStringS_any _ _ _ _ (dueS ls ss) 1 _ (unhide OF3) rfl (by omega) (by omega) (by omega)).mono ?_
  rintro e wO ⟨rfl, oO, gO⟩
  have gO' : wN.grownBy wO (some g1) := gO
  have OO := hide oO
  have BW := hide ((unhide BW).grown gO' (unhide BW).size (fun q hq => by cases hq; have := (unhide BWC); omega))
  have BC := hide ((unhide BC).grown gO' (unhide BC).size (fun q hq => by cases hq; omega))
  have BO := hide (Below.refl wO.heap.size wO)
  have hq2 : ((1 : Int) + ((dueS ls ss).length : Int) != (1 : Int) + ((dueS ls ss).length : Int)) = false := by simp
  have hq3 : ¬ ((1 : Int) + ((dueS ls ss).length : Int) < 0) := by omega
  clear gO gO' oO OF3
  go_wp2_with fail
  refine (heldStringS_any _ _ _ (dueS ls ss) 1 _ ((unhide OO).row.below (unhide BO)) rfl (by omega) (by omega) (by omega)).mono ?_
  rintro e wP ⟨rfl, b⟩
  have BW := hide ((unhide BW).trans (b.mono (unhide BW).size))
  have BC := hide ((unhide BC).trans (b.mono (unhide BC).size))
  have BO := hide ((unhide BO).trans (b.mono (unhide BO).size))
  clear b
  go_wp2_with fail
  refine (toLifeS_own _ _ _ ls _ ((unhide RL).below (unhide BW)) hll).mono ?_
  rintro e wQ ⟨rfl, oQ, b⟩
  have BW := hide ((unhide BW).trans (b.mono (unhide BW).size))
  have BC := hide ((unhide BC).trans (b.mono (unhide BC).size))
  have BO := hide ((unhide BO).trans (b.mono (unhide BO).size))
  have BQ := hide (Below.refl wQ.heap.size wQ)
  have OQ := hide oQ
  clear oQ b
  go_wp2_with fail
  refine (toStayS_own _ _ _ ss _ ((unhide RS).below (unhide BW)) hln).mono ?_
  rintro e wR ⟨rfl, oR, b⟩
  have BW := hide ((unhide BW).trans (b.mono (unhide BW).size))
  have BC := hide ((unhide BC).trans (b.mono (unhide BC).size))
  have BO := hide ((unhide BO).trans (b.mono (unhide BO).size))
  have BQ := hide ((unhide BQ).trans (b.mono (unhide BQ).size))
  have BR := hide (Below.refl wR.heap.size wR)
  have OR := hide oR
  clear oR b
  go_wp2_with fail
  refine (implDue6_own _ _ _ ls _ _ _ ss _ ((unhide OQ).row.below (unhide BQ)) ((unhide OR).row.below (unhide BR)) (unhide HFL) (unhide HFS)).mono ?_
  rintro e wS ⟨g2, c2, rfl, oS, b⟩
  have BW := hide ((unhide BW).trans (b.mono (unhide BW).size))
  have BC := hide ((unhide BC).trans (b.mono (unhide BC).size))
  have BO := hide ((unhide BO).trans (b.mono (unhide BO).size))
  have OS := hide oS
  clear oS b OQ OR BQ BR
  go_wp2_with fail
  refine (eqStringS_same _ _ _ _ _ (dueS ls ss) _ (unhide OS).row ((unhide RC).below (unhide BC))).mono ?_
  rintro e wT ⟨rfl, nT, hT⟩
  have b : Below wS.heap.size wS wT := by rw [hT]; exact bel0d nT
  have BW := hide ((unhide BW).trans (b.mono (unhide BW).size))
  have BO := hide ((unhide BO).trans (b.mono (unhide BO).size))
  clear b hT OS
  go_wp2_with fail
  refine (heldStringS_any _ _ _ (dueS ls ss) 1 _ ((unhide OO).row.below (unhide BO)) rfl (by omega) (by omega) (by omega)).mono ?_
  rintro e wU ⟨rfl, b⟩
  have BW := hide ((unhide BW).trans (b.mono (unhide BW).size))
  clear b
  go_wp2_with fail
  go_ret
  exact ⟨rfl, unhide BW⟩

end Go.Proofs.Ytnpohiceefkhdao
