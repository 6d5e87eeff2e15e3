/-
  The law FnExactLeaves returns true at every envelope, dry sum, tanks and plan and writes nothing that was there: the walk. No condition.
-/
import Derived.Test.YtbaocifpifbldajEnvTo
import Derived.Test.YtbaocifpifbldajToSum
import Derived.Test.YtbaocifpifbldajPairFuelTank
import Derived.Test.YtbaocifpifbldajPairBurn
import Derived.Test.YtbaocifpifbldajLeavesSpec
import Derived.Test.YtbaocifpifbldajLeavesImpl
import Derived.Deep.DrawnRows
namespace Go.Proofs.Ytbaocifpifbldaj
open Go.RowKit
attribute [local go_sem ↓] Go.wp_at_zero Go.wp_at_succ

set_option maxHeartbeats 8000000 in
theorem lawLeaves (a1 a2 a3 : Option Addr) (l1 c1 l2 c2 l3 c3 : Nat) (xs ys zs : List Int) (m q : Int) (ad : Option Addr) (tl tc : Nat) (ts : List (Int × Int)) (bd : Option Addr) (bl bc : Nat) (bs : List (Int × Int)) (w : World) (h1 : Row w a1 l1 xs) (h2 : Row w a2 l2 ys) (h3 : Row w a3 l3 zs) (hr : Row2 w ad tl ts) (hb : Row2 w bd bl bs) :
    Calls Try.prog 6 #[.agg #[.slice a1 l1 c1, .slice a2 l2 c2, .slice a3 l3 c3], .agg #[.int .i64 m, .int .i64 q], .slice ad tl tc, .slice bd bl bc] w fun e w' => e = .returned (.bool true) ∧ Below w.heap.size w w' := by
  have hm1 := h1.small
  have hm2 := h2.small
  have hm3 := h3.small
  have hm4 := hr.small
  have hm5 := hb.small
  have B0 := hide (bel2 (w := w) (.cells #[.slice a1 l1 c1, .slice a2 l2 c2, .slice a3 l3 c3] 24) (.cells #[.int .i64 m, .int .i64 q] 32))
  obtain ⟨W, hW⟩ : ∃ W, W = (w.alloc (.cells #[.slice a1 l1 c1, .slice a2 l2 c2, .slice a3 l3 c3] 24)).alloc (.cells #[.int .i64 m, .int .i64 q] 32) := ⟨_, rfl⟩
  have z0 : W.cell? ⟨w.heap.size, 0, none⟩ = some (Value.slice a1 l1 c1) := by rw [hW]; simp [go_sem]
  have z1 : W.cell? ⟨w.heap.size, 1, none⟩ = some (Value.slice a2 l2 c2) := by rw [hW]; simp [go_sem]
  have z2 : W.cell? ⟨w.heap.size, 2, none⟩ = some (Value.slice a3 l3 c3) := by rw [hW]; simp [go_sem]
  have t0 : W.cell? ⟨w.heap.size + 1, 0, none⟩ = some (Value.int IntKind.i64 m) := by rw [hW]; simp [go_sem]
  have t1 : W.cell? ⟨w.heap.size + 1, 1, none⟩ = some (Value.int IntKind.i64 q) := by rw [hW]; simp [go_sem]
  have sW : W.heap.size = w.heap.size + 2 := by rw [hW]; simp
  rw [← hW] at B0
  obtain ⟨ι, f, hne, hbel, hall⟩ := belClass W
  have hW0 : ∃ x, W = f x := hall W (Below.refl _ _)
  have z0 : ∀ x, (f x).cell? ⟨w.heap.size, 0, none⟩ = some (Value.slice a1 l1 c1) := fun x => ((hbel x).cell (p := ⟨w.heap.size, 0, none⟩) (by simp; omega)).trans z0
  have z1 : ∀ x, (f x).cell? ⟨w.heap.size, 1, none⟩ = some (Value.slice a2 l2 c2) := fun x => ((hbel x).cell (p := ⟨w.heap.size, 1, none⟩) (by simp; omega)).trans z1
  have z2 : ∀ x, (f x).cell? ⟨w.heap.size, 2, none⟩ = some (Value.slice a3 l3 c3) := fun x => ((hbel x).cell (p := ⟨w.heap.size, 2, none⟩) (by simp; omega)).trans z2
  have t0 : ∀ x, (f x).cell? ⟨w.heap.size + 1, 0, none⟩ = some (Value.int IntKind.i64 m) := fun x => ((hbel x).cell (p := ⟨w.heap.size + 1, 0, none⟩) (by simp; omega)).trans t0
  have t1 : ∀ x, (f x).cell? ⟨w.heap.size + 1, 1, none⟩ = some (Value.int IntKind.i64 q) := fun x => ((hbel x).cell (p := ⟨w.heap.size + 1, 1, none⟩) (by simp; omega)).trans t1
  have HB := hide fun x => (unhide B0).trans ((hbel x).mono (by omega))
  have R1 := hide fun x => h1.below (unhide HB x)
  have R2 := hide fun x => h2.below (unhide HB x)
  have R3 := hide fun x => h3.below (unhide HB x)
  have RT := hide fun x => hr.below (unhide HB x)
  have RB := hide fun x => hb.below (unhide HB x)
  have HL := hide hbel
  have HX := hide hall
  have HZ : Hid (∀ x, w.heap.size + 2 ≤ (f x).heap.size) := hide fun x => by have := (hbel x).size; omega
  clear hbel hall B0 sW h1 h2 h3 hr hb
  go_enter Try.func6, Try.ntmps6
  go_wp2_with fail
  rw [← hW]
  clear hW
  obtain ⟨xw, hxw⟩ := hW0
  rw [hxw]
  clear hxw
  refine (szEnvelope_any _ _ _ _ _ _ _ _ _ _ hm1 hm2 hm3).mono ?_
  rintro e w1 ⟨⟨r, rfl, hr⟩, b1⟩
  obtain ⟨xv, rfl⟩ := unhide HX _ ((unhide HL xw).trans (b1.mono (unhide HL xw).size))
  clear hm1 hm2 hm3 b1
  rcases hr with hr | ⟨hr, hrr, hl1, hl2, hl3⟩
  · go_wp2_with fail
    go_ret
    exact ⟨rfl, unhide HB xv⟩
  go_wp2_with fail
  by_cases g1 : r < tl
  · refine (szFuelTankS_no _ _ _ _ _ (by omega) (by omega) (by omega) (by omega)).mono ?_
    rintro e w' ⟨rfl, hw⟩
    subst w'
    go_wp2_with fail
    go_ret
    exact ⟨rfl, unhide HB xv⟩
  refine (szFuelTankS_yes _ _ _ _ _ (by omega) (by omega)).mono ?_
  rintro e w' ⟨rfl, hw⟩
  subst w'
  go_wp2_with fail
  by_cases g2 : r - tl < bl
  · refine (szBurnS_no _ _ _ _ _ (by omega) (by omega) (by omega) (by omega)).mono ?_
    rintro e w' ⟨rfl, hw⟩
    subst w'
    go_wp2_with fail
    go_ret
    exact ⟨rfl, unhide HB xv⟩
  refine (szBurnS_yes _ _ _ _ _ (by omega) (by omega)).mono ?_
  rintro e w' ⟨rfl, hw⟩
  subst w'
  have hl4 : tl ≤ 1048576 := by omega
  have hl5 : bl ≤ 1048576 := by omega
  go_wp2_with fail
  clear hr hrr g1 g2 hm4 hm5
  go_region_held3 (fun w' => w'.cell? ⟨w.heap.size, 0, none⟩ = some (Value.slice a1 l1 c1) ∧ w'.cell? ⟨w.heap.size, 1, none⟩ = some (Value.slice a2 l2 c2) ∧ w'.cell? ⟨w.heap.size, 2, none⟩ = some (Value.slice a3 l3 c3) ∧ w'.cell? ⟨w.heap.size + 1, 0, none⟩ = some (Value.int IntKind.i64 m) ∧ w'.cell? ⟨w.heap.size + 1, 1, none⟩ = some (Value.int IntKind.i64 q)) (go_keep)
    (first
      | (go_at_call 11; refine (toEnvelope_any _ _ _ _ _ _ _ _ _ xs ys zs _ ((unhide R1 xv).drewN 1) ((unhide R2 xv).drewN 1) ((unhide R3 xv).drewN 1) hl1 hl2 hl3).mono ?_; rintro e wA ⟨g1, g2, g0, rfl, q1, q2, q3, bA⟩; obtain ⟨xA, rfl⟩ := unhide HX _ (((unhide HL xv).trans (bel0d' 1)).trans (bA.mono (unhide HL xv).size)))
      | (go_at_call 15; refine (toSum2_any _ _ _).mono ?_; rintro e wB ⟨rfl, bB⟩; obtain ⟨xB, rfl⟩ := unhide HX _ ((unhide HL xA).trans (bB.mono (unhide HL xA).size)); have q1 := q1.below bB; have q2 := q2.below bB; have q3 := q3.below bB)
      | (go_at_call 20; refine (toFuelTankS_own _ _ _ ts _ (unhide RT xB) hl4).mono ?_; rintro e wC ⟨rfl, oC, bC⟩; obtain ⟨xC, rfl⟩ := unhide HX _ ((unhide HL xB).trans (bC.mono (unhide HL xB).size)); have q1 := q1.below bC; have q2 := q2.below bC; have q3 := q3.below bC)
      | (go_at_call 21; refine (toBurnS_own _ _ _ bs _ (unhide RB xC) hl5).mono ?_; rintro e wD ⟨rfl, oD, bD⟩; obtain ⟨xD, rfl⟩ := unhide HX _ ((unhide HL xC).trans (bD.mono (unhide HL xC).size)); have q1 := q1.below bD; have q2 := q2.below bD; have q3 := q3.below bD; have oC := oC.below bD)
      | (go_at_call 28; refine (specLeaves_any _ _ _ _ _ _ _ _ _ xs ys zs m q _ _ _ _ _ _ _ _ ts bs _ q1 q2 q3 oC.row oD.row (Nat.le_refl _)).mono ?_; rintro e wE ⟨rfl, bE⟩; obtain ⟨xE, rfl⟩ := unhide HX _ ((unhide HL xD).trans (bE.mono (unhide HL xD).size))))
  clear q1 q2 q3 oC oD bA bB bC bD bE
  go_wp2_with fail
  refine (toEnvelope_any _ _ _ _ _ _ _ _ _ xs ys zs _ ((unhide R1 xE)) ((unhide R2 xE)) ((unhide R3 xE)) hl1 hl2 hl3).mono ?_
  rintro e wF ⟨g3, g4, g7, rfl, q1, q2, q3, bF⟩
  obtain ⟨xF, rfl⟩ := unhide HX _ ((unhide HL xE).trans (bF.mono (unhide HL xE).size))
  clear bF
  have hzF := unhide HZ xF
  obtain ⟨V, hV⟩ : ∃ V, V = (f xF).alloc (Obj.cells #[Value.slice (some ⟨g3, 0, none⟩) l1 l1, Value.slice (some ⟨g4, 0, none⟩) l2 l2, Value.slice (some ⟨g7, 0, none⟩) l3 l3] 27) := ⟨_, rfl⟩
  obtain ⟨N, hN⟩ : ∃ N, (f xF).heap.size = N := ⟨_, rfl⟩
  have y0 : V.cell? ⟨N, 0, none⟩ = some (Value.slice (some ⟨g3, 0, none⟩) l1 l1) := by rw [hV, ← hN]; simp [go_sem]
  have y1 : V.cell? ⟨N, 1, none⟩ = some (Value.slice (some ⟨g4, 0, none⟩) l2 l2) := by rw [hV, ← hN]; simp [go_sem]
  have y2 : V.cell? ⟨N, 2, none⟩ = some (Value.slice (some ⟨g7, 0, none⟩) l3 l3) := by rw [hV, ← hN]; simp [go_sem]
  have sV : V.heap.size = N + 1 := by rw [hV, ← hN]; simp
  have A1 : Row V (some ⟨g3, 0, none⟩) l1 xs := by rw [hV]; exact q1.alloc _
  have A2 : Row V (some ⟨g4, 0, none⟩) l2 ys := by rw [hV]; exact q2.alloc _
  have A3 : Row V (some ⟨g7, 0, none⟩) l3 zs := by rw [hV]; exact q3.alloc _
  have hVB : Below W.heap.size W V := by rw [hV]; exact (unhide HL xF).trans ((bel1 _).mono (unhide HL xF).size)
  obtain ⟨κ, g, hne2, hb2, hall2⟩ := belClass V
  have hgf : ∀ y, ∃ z, g y = f z := fun y => unhide HX _ (hVB.trans ((hb2 y).mono hVB.size))
  have hV0 : ∃ y, V = g y := hall2 V (Below.refl _ _)
  have z0 : ∀ y, (g y).cell? ⟨w.heap.size, 0, none⟩ = some (Value.slice a1 l1 c1) := fun y => by obtain ⟨z, hz⟩ := hgf y; rw [hz]; exact z0 z
  have z1 : ∀ y, (g y).cell? ⟨w.heap.size, 1, none⟩ = some (Value.slice a2 l2 c2) := fun y => by obtain ⟨z, hz⟩ := hgf y; rw [hz]; exact z1 z
  have z2 : ∀ y, (g y).cell? ⟨w.heap.size, 2, none⟩ = some (Value.slice a3 l3 c3) := fun y => by obtain ⟨z, hz⟩ := hgf y; rw [hz]; exact z2 z
  have t0 : ∀ y, (g y).cell? ⟨w.heap.size + 1, 0, none⟩ = some (Value.int IntKind.i64 m) := fun y => by obtain ⟨z, hz⟩ := hgf y; rw [hz]; exact t0 z
  have t1 : ∀ y, (g y).cell? ⟨w.heap.size + 1, 1, none⟩ = some (Value.int IntKind.i64 q) := fun y => by obtain ⟨z, hz⟩ := hgf y; rw [hz]; exact t1 z
  have y0 : ∀ y, (g y).cell? ⟨N, 0, none⟩ = some (Value.slice (some ⟨g3, 0, none⟩) l1 l1) := fun y => ((hb2 y).cell (p := ⟨N, 0, none⟩) (by simp; omega)).trans y0
  have y1 : ∀ y, (g y).cell? ⟨N, 1, none⟩ = some (Value.slice (some ⟨g4, 0, none⟩) l2 l2) := fun y => ((hb2 y).cell (p := ⟨N, 1, none⟩) (by simp; omega)).trans y1
  have y2 : ∀ y, (g y).cell? ⟨N, 2, none⟩ = some (Value.slice (some ⟨g7, 0, none⟩) l3 l3) := fun y => ((hb2 y).cell (p := ⟨N, 2, none⟩) (by simp; omega)).trans y2
  have R1 := hide fun y => show Row (g y) a1 l1 xs by obtain ⟨z, hz⟩ := hgf y; rw [hz]; exact unhide R1 z
  have R2 := hide fun y => show Row (g y) a2 l2 ys by obtain ⟨z, hz⟩ := hgf y; rw [hz]; exact unhide R2 z
  have R3 := hide fun y => show Row (g y) a3 l3 zs by obtain ⟨z, hz⟩ := hgf y; rw [hz]; exact unhide R3 z
  have RT := hide fun y => show Row2 (g y) ad tl ts by obtain ⟨z, hz⟩ := hgf y; rw [hz]; exact unhide RT z
  have RB := hide fun y => show Row2 (g y) bd bl bs by obtain ⟨z, hz⟩ := hgf y; rw [hz]; exact unhide RB z
  have HB := hide fun y => show Below w.heap.size w (g y) by obtain ⟨z, hz⟩ := hgf y; rw [hz]; exact unhide HB z
  have A1 := hide fun y => A1.below (hb2 y)
  have A2 := hide fun y => A2.below (hb2 y)
  have A3 := hide fun y => A3.below (hb2 y)
  have GL := hide hb2
  have GX := hide hall2
  clear hb2 hall2 hgf hVB sV q1 q2 q3 HL HX HZ
  go_wp2_with fail
  rw [← hV]
  clear hV hN hzF
  obtain ⟨ya, hya⟩ := hV0
  rw [hya]
  clear hya
  refine (toFuelTankS_own _ _ _ ts _ (unhide RT ya) hl4).mono ?_
  rintro e wG ⟨rfl, oG, bG⟩
  obtain ⟨yb, rfl⟩ := unhide GX _ ((unhide GL ya).trans (bG.mono (unhide GL ya).size))
  have QT := hide oG
  clear bG oG
  go_wp2_with fail
  refine (toBurnS_own _ _ _ bs _ (unhide RB yb) hl5).mono ?_
  rintro e wH ⟨rfl, oH, bH⟩
  obtain ⟨yc, rfl⟩ := unhide GX _ ((unhide GL yb).trans (bH.mono (unhide GL yb).size))
  have QB := hide oH
  have QT := hide ((unhide QT).below bH)
  clear bH oH
  go_wp2_with fail
  go_region_held3 (fun w' => w'.cell? ⟨w.heap.size, 0, none⟩ = some (Value.slice a1 l1 c1) ∧ w'.cell? ⟨w.heap.size, 1, none⟩ = some (Value.slice a2 l2 c2) ∧ w'.cell? ⟨w.heap.size, 2, none⟩ = some (Value.slice a3 l3 c3) ∧ w'.cell? ⟨w.heap.size + 1, 0, none⟩ = some (Value.int IntKind.i64 m) ∧ w'.cell? ⟨w.heap.size + 1, 1, none⟩ = some (Value.int IntKind.i64 q) ∧ w'.cell? ⟨N, 0, none⟩ = some (Value.slice (some ⟨g3, 0, none⟩) l1 l1) ∧ w'.cell? ⟨N, 1, none⟩ = some (Value.slice (some ⟨g4, 0, none⟩) l2 l2) ∧ w'.cell? ⟨N, 2, none⟩ = some (Value.slice (some ⟨g7, 0, none⟩) l3 l3)) (go_keep)
    (first
      | (go_at_call 15; refine (toSum2_any _ _ _).mono ?_; rintro e wI ⟨rfl, bI⟩; have oT := ((unhide QT).drewN 1).below bI; have oB := ((unhide QB).drewN 1).below bI; obtain ⟨yd, rfl⟩ := unhide GX _ (((unhide GL yc).trans (bel0d' 1)).trans (bI.mono (unhide GL yc).size)))
      | (go_at_call 29; refine (implLeaves_any _ _ _ _ _ _ _ _ _ xs ys zs m q _ _ _ _ _ _ _ ts bs _ (unhide A1 yd) (unhide A2 yd) (unhide A3 yd) (Nat.le_refl _) (Nat.le_refl _) (Nat.le_refl _) oT.row oB.row).mono ?_; rintro e wJ ⟨rfl, bJ⟩; have oT := oT.below bJ; have oB := oB.below bJ; obtain ⟨ye, rfl⟩ := unhide GX _ ((unhide GL yd).trans (bJ.mono (unhide GL yd).size))))
  have QT := hide oT
  have QB := hide oB
  have hq : (leavesV xs ys zs m q ts bs != leavesV xs ys zs m q ts bs) = false := by simp
  clear oT oB bI bJ
  go_wp2_with fail
  go_region_held3 (fun w' => w'.cell? ⟨w.heap.size, 0, none⟩ = some (Value.slice a1 l1 c1) ∧ w'.cell? ⟨w.heap.size, 1, none⟩ = some (Value.slice a2 l2 c2) ∧ w'.cell? ⟨w.heap.size, 2, none⟩ = some (Value.slice a3 l3 c3) ∧ w'.cell? ⟨w.heap.size + 1, 0, none⟩ = some (Value.int IntKind.i64 m) ∧ w'.cell? ⟨w.heap.size + 1, 1, none⟩ = some (Value.int IntKind.i64 q) ∧ w'.cell? ⟨N, 0, none⟩ = some (Value.slice (some ⟨g3, 0, none⟩) l1 l1) ∧ w'.cell? ⟨N, 1, none⟩ = some (Value.slice (some ⟨g4, 0, none⟩) l2 l2) ∧ w'.cell? ⟨N, 2, none⟩ = some (Value.slice (some ⟨g7, 0, none⟩) l3 l3)) (go_keep)
    (first
      | (go_at_call 11; refine (toEnvelope_any _ _ _ _ _ _ _ _ _ xs ys zs _ ((unhide R1 ye).drewN 1) ((unhide R2 ye).drewN 1) ((unhide R3 ye).drewN 1) hl1 hl2 hl3).mono ?_; rintro e wK ⟨g5, g6, g8, rfl, q1, q2, q3, bK⟩; have oT := ((unhide QT).drewN 1).below bK; have oB := ((unhide QB).drewN 1).below bK; obtain ⟨yf, rfl⟩ := unhide GX _ (((unhide GL ye).trans (bel0d' 1)).trans (bK.mono (unhide GL ye).size)))
      | (go_at_call 13; refine (eqEnvelope_same _ _ _ _ _ _ _ _ _ _ _ _ _ _ _ _ _ _ xs ys zs _ (unhide A1 yf) (unhide A2 yf) (unhide A3 yf) q1 q2 q3).mono ?_; rintro e wM ⟨rfl, bM⟩; have oT := oT.below bM; have oB := oB.below bM; obtain ⟨yg, rfl⟩ := unhide GX _ ((unhide GL yf).trans (bM.mono (unhide GL yf).size))))
  have QT := hide oT
  have QB := hide oB
  clear oT oB bK bM q1 q2 q3
  go_wp2_with fail
  refine (toFuelTankS_own _ _ _ ts _ (unhide RT yg) hl4).mono ?_
  rintro e wN ⟨rfl, oN, bN⟩
  obtain ⟨yh, rfl⟩ := unhide GX _ ((unhide GL yg).trans (bN.mono (unhide GL yg).size))
  have QN := hide oN
  have QT := hide ((unhide QT).below bN)
  have QB := hide ((unhide QB).below bN)
  clear bN oN
  go_wp2_with fail
  refine (eqFuelTankS_same _ _ _ _ _ _ ts _ (unhide QT).row (unhide QN).row).mono ?_
  rintro e wO ⟨rfl, bO⟩
  obtain ⟨yi, rfl⟩ := unhide GX _ ((unhide GL yh).trans (bO.mono (unhide GL yh).size))
  have QB := hide ((unhide QB).below bO)
  clear bO QT QN
  go_wp2_with fail
  refine (toBurnS_own _ _ _ bs _ (unhide RB yi) hl5).mono ?_
  rintro e wP ⟨rfl, oP, bP⟩
  obtain ⟨yj, rfl⟩ := unhide GX _ ((unhide GL yi).trans (bP.mono (unhide GL yi).size))
  have QN := hide oP
  have QB := hide ((unhide QB).below bP)
  clear bP oP
  go_wp2_with fail
  refine (eqBurnS_same _ _ _ _ _ _ bs _ (unhide QB).row (unhide QN).row).mono ?_
  rintro e wQ ⟨rfl, bQ⟩
  obtain ⟨yk, rfl⟩ := unhide GX _ ((unhide GL yj).trans (bQ.mono (unhide GL yj).size))
  clear bQ QB QN
  go_wp2_with fail
  go_ret
  exact ⟨rfl, unhide HB yk⟩

end Go.Proofs.Ytbaocifpifbldaj
