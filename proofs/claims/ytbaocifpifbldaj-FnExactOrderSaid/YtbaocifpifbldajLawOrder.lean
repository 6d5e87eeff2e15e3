/-
  The law FnExactOrder returns true at every envelope, dry sum, tanks and step and writes nothing that was there: the walk. No condition.
-/
import Derived.Test.YtbaocifpifbldajEnvOwn
import Derived.Test.YtbaocifpifbldajToSum
import Derived.Test.YtbaocifpifbldajPairFuelTank
import Derived.Test.YtbaocifpifbldajPairBurn
import Derived.Test.YtbaocifpifbldajMarkFuelTank
import Derived.Test.YtbaocifpifbldajMarkBurn
import Derived.Test.YtbaocifpifbldajOrdSpec
import Derived.Deep.DrawnRows
namespace Go.Proofs.Ytbaocifpifbldaj
open Go.RowKit
attribute [local go_sem ↓] Go.wp_at_zero Go.wp_at_succ

theorem orderR_len {ms fs gs : List Int} {dm dq step : Int} : ∀ (n : Nat) (T P : List (Int × Int)), (orderR ms fs gs dm dq step n T P).1.length ≤ n + P.length := by
  intro n
  induction n with
  | zero => intro T P; simp [orderR]
  | succ n ih =>
    intro T P
    by_cases h : sumM T T.length = 0
    · rw [orderR_empty h]; simp
    · cases hk : nextK ms fs gs dm dq step T with
      | none => rw [orderR_none h hk]; simp
      | some k =>
        rw [orderR_some h hk]
        have := ih (take1 T k (manyAt step T k)) (P ++ [((k : Int), manyAt step T k)])
        simp at this
        omega
theorem order_len (ms fs gs : List Int) (dm dq step : Int) (ts : List (Int × Int)) : (orderRes ms fs gs dm dq step ts).1.length ≤ 60 := by
  unfold orderRes
  split
  · exact orderR_len 60 ts []
  · simp

set_option maxRecDepth 20000 in
set_option maxHeartbeats 16000000 in
theorem lawOrder (a1 a2 a3 : Option Addr) (l1 c1 l2 c2 l3 c3 : Nat) (xs ys zs : List Int) (m q : Int) (ad : Option Addr) (tl tc : Nat) (ts : List (Int × Int)) (step : Int) (w : World) (h1 : Row w a1 l1 xs) (h2 : Row w a2 l2 ys) (h3 : Row w a3 l3 zs) (hr : Row2 w ad tl ts) :
    Calls Try.prog 7 #[.agg #[.slice a1 l1 c1, .slice a2 l2 c2, .slice a3 l3 c3], .agg #[.int .i64 m, .int .i64 q], .slice ad tl tc, .int .i64 step] w fun e w' => e = .returned (.bool true) ∧ Below w.heap.size w w' := by
  have hm1 := h1.small
  have hm2 := h2.small
  have hm3 := h3.small
  have hm4 := hr.small
  have E1 := hide h1.len_eq
  have E2 := hide h2.len_eq
  have E3 := hide h3.len_eq
  have ET := hide hr.len_eq
  have hn := order_len xs ys zs m q step ts
  have B0 := hide (bel2 (w := w) (.cells #[.slice a1 l1 c1, .slice a2 l2 c2, .slice a3 l3 c3] 24) (.cells #[.int .i64 m, .int .i64 q] 32))
  obtain ⟨W, hW⟩ : ∃ W, W = (w.alloc (.cells #[.slice a1 l1 c1, .slice a2 l2 c2, .slice a3 l3 c3] 24)).alloc (.cells #[.int .i64 m, .int .i64 q] 32) := ⟨_, rfl⟩
  have z0 : W.cell? ⟨w.heap.size, 0, none⟩ = some (Value.slice a1 l1 c1) := by rw [hW]; simp [go_sem]
  have z1 : W.cell? ⟨w.heap.size, 1, none⟩ = some (Value.slice a2 l2 c2) := by rw [hW]; simp [go_sem]
  have z2 : W.cell? ⟨w.heap.size, 2, none⟩ = some (Value.slice a3 l3 c3) := by rw [hW]; simp [go_sem]
  have t0 : W.cell? ⟨w.heap.size + 1, 0, none⟩ = some (Value.int IntKind.i64 m) := by rw [hW]; simp [go_sem]
  have t1 : W.cell? ⟨w.heap.size + 1, 1, none⟩ = some (Value.int IntKind.i64 q) := by rw [hW]; simp [go_sem]
  have sW : W.heap.size = w.heap.size + 2 := by rw [hW]; simp
  rw [← hW] at B0
  obtain ⟨ι, f, hne, hbel, hall⟩ := belClass W
  have hW0 : ∃ x, W = f x := hall W (Below.refl _ _)
  have z0 : ∀ x, (f x).cell? ⟨w.heap.size, 0, none⟩ = some (Value.slice a1 l1 c1) := fun x => ((hbel x).cell (p := ⟨w.heap.size, 0, none⟩) (by simp; omega)).trans z0
  have z1 : ∀ x, (f x).cell? ⟨w.heap.size, 1, none⟩ = some (Value.slice a2 l2 c2) := fun x => ((hbel x).cell (p := ⟨w.heap.size, 1, none⟩) (by simp; omega)).trans z1
  have z2 : ∀ x, (f x).cell? ⟨w.heap.size, 2, none⟩ = some (Value.slice a3 l3 c3) := fun x => ((hbel x).cell (p := ⟨w.heap.size, 2, none⟩) (by simp; omega)).trans z2
  have t0 : ∀ x, (f x).cell? ⟨w.heap.size + 1, 0, none⟩ = some (Value.int IntKind.i64 m) := fun x => ((hbel x).cell (p := ⟨w.heap.size + 1, 0, none⟩) (by simp; omega)).trans t0
  have t1 : ∀ x, (f x).cell? ⟨w.heap.size + 1, 1, none⟩ = some (Value.int IntKind.i64 q) := fun x => ((hbel x).cell (p := ⟨w.heap.size + 1, 1, none⟩) (by simp; omega)).trans t1
  have HB := hide fun x => (unhide B0).trans ((hbel x).mono (by omega))
  have R1 := hide fun x => h1.below (unhide HB x)
  have R2 := hide fun x => h2.below (unhide HB x)
  have R3 := hide fun x => h3.below (unhide HB x)
  have RT := hide fun x => hr.below (unhide HB x)
  have HL := hide hbel
  have HX := hide hall
  clear hbel hall B0 sW h1 h2 h3 hr
  go_enter Try.func7, Try.ntmps7
  go_wp2_with fail
  rw [← hW]
  clear hW
  obtain ⟨xw, hxw⟩ := hW0
  rw [hxw]
  clear hxw
  refine (szEnvelope_any _ _ _ _ _ _ _ _ _ _ hm1 hm2 hm3).mono ?_
  rintro e w1 ⟨⟨r, rfl, hr⟩, b1⟩
  obtain ⟨xv, rfl⟩ := unhide HX _ ((unhide HL xw).trans (b1.mono (unhide HL xw).size))
  clear hm1 hm2 hm3 b1
  rcases hr with hr | ⟨hr, hrr, hl1, hl2, hl3⟩
  · go_wp2_with fail
    go_ret
    exact ⟨rfl, unhide HB xv⟩
  go_wp2_with fail
  by_cases g1 : r < tl
  · refine (szFuelTankS_no _ _ _ _ _ (by omega) (by omega) (by omega) (by omega)).mono ?_
    rintro e w' ⟨rfl, hw⟩
    subst w'
    go_wp2_with fail
    go_ret
    exact ⟨rfl, unhide HB xv⟩
  refine (szFuelTankS_yes _ _ _ _ _ (by omega) (by omega)).mono ?_
  rintro e w' ⟨rfl, hw⟩
  subst w'
  have hl4 : tl ≤ 1048576 := by omega
  go_wp2_with fail
  clear hr hrr g1 hm4
  go_region_held3 (fun w' => w'.cell? ⟨w.heap.size, 0, none⟩ = some (Value.slice a1 l1 c1) ∧ w'.cell? ⟨w.heap.size, 1, none⟩ = some (Value.slice a2 l2 c2) ∧ w'.cell? ⟨w.heap.size, 2, none⟩ = some (Value.slice a3 l3 c3) ∧ w'.cell? ⟨w.heap.size + 1, 0, none⟩ = some (Value.int IntKind.i64 m) ∧ w'.cell? ⟨w.heap.size + 1, 1, none⟩ = some (Value.int IntKind.i64 q)) (go_keep)
    (first
      | (go_at_call 11; refine (toEnvelope_any _ _ _ _ _ _ _ _ _ xs ys zs _ ((unhide R1 xv).drewN 1) ((unhide R2 xv).drewN 1) ((unhide R3 xv).drewN 1) hl1 hl2 hl3).mono ?_; rintro e wA ⟨g1, g2, g0, rfl, q1, q2, q3, bA⟩; obtain ⟨xA, rfl⟩ := unhide HX _ (((unhide HL xv).trans (bel0d' 1)).trans (bA.mono (unhide HL xv).size)))
      | (go_at_call 15; refine (toSum2_any _ _ _).mono ?_; rintro e wB ⟨rfl, bB⟩; obtain ⟨xB, rfl⟩ := unhide HX _ ((unhide HL xA).trans (bB.mono (unhide HL xA).size)); have q1 := q1.below bB; have q2 := q2.below bB; have q3 := q3.below bB)
      | (go_at_call 20; refine (toFuelTankS_own _ _ _ ts _ (unhide RT xB) hl4).mono ?_; rintro e wC ⟨rfl, oC, bC⟩; obtain ⟨xC, rfl⟩ := unhide HX _ ((unhide HL xB).trans (bC.mono (unhide HL xB).size)); have q1 := q1.below bC; have q2 := q2.below bC; have q3 := q3.below bC)
      | (go_at_call 30; refine (specOrder_any _ _ _ _ _ _ _ _ _ xs ys zs m q step _ _ _ _ ts _ q1 q2 q3 oC.row).mono ?_; rintro e wE ⟨a0, c0, rfl, oE, bE⟩; obtain ⟨xE, rfl⟩ := unhide HX _ ((unhide HL xC).trans (bE.mono (unhide HL xC).size))))
  have V0 := hide oE
  have L0 : Hid (∀ g, (Value.slice a0 (orderRes xs ys zs m q step ts).1.length c0).ownBlock = some g → W.heap.size ≤ g ∧ g < (f xE).heap.size) := hide fun g hg => by have := oE.lies2 g hg; have := (unhide HL xC).size; omega
  clear q1 q2 q3 oC bA bB bC bE oE
  go_wp2_with fail
  refine (toEnvelope_own _ _ _ _ _ _ _ _ _ xs ys zs _ ((unhide R1 xE)) ((unhide R2 xE)) ((unhide R3 xE)) hl1 hl2 hl3).mono ?_
  rintro e wF ⟨g3, g4, g7, rfl, q1, q2, q3, hg, bF⟩
  have V0 := hide ((unhide V0).below bF)
  obtain ⟨xF, rfl⟩ := unhide HX _ ((unhide HL xE).trans (bF.mono (unhide HL xE).size))
  obtain ⟨LO, hLO⟩ : ∃ n, (f xE).heap.size = n := ⟨_, rfl⟩
  have hWL : W.heap.size ≤ LO := by have := (unhide HL xE).size; omega
  rw [hLO] at hg q1 q2 q3 L0
  clear bF hLO
  obtain ⟨V, hV⟩ : ∃ V, V = (f xF).alloc (Obj.cells #[Value.slice (some ⟨g3, 0, none⟩) l1 l1, Value.slice (some ⟨g4, 0, none⟩) l2 l2, Value.slice (some ⟨g7, 0, none⟩) l3 l3] 27) := ⟨_, rfl⟩
  obtain ⟨N, hN⟩ : ∃ N, (f xF).heap.size = N := ⟨_, rfl⟩
  have y0 : V.cell? ⟨N, 0, none⟩ = some (Value.slice (some ⟨g3, 0, none⟩) l1 l1) := by rw [hV, ← hN]; simp [go_sem]
  have y1 : V.cell? ⟨N, 1, none⟩ = some (Value.slice (some ⟨g4, 0, none⟩) l2 l2) := by rw [hV, ← hN]; simp [go_sem]
  have y2 : V.cell? ⟨N, 2, none⟩ = some (Value.slice (some ⟨g7, 0, none⟩) l3 l3) := by rw [hV, ← hN]; simp [go_sem]
  have sV : V.heap.size = N + 1 := by rw [hV, ← hN]; simp
  have hg := hg
  rw [hN] at hg
  have A1 : OwnI V LO (.slice (some ⟨g3, 0, none⟩) l1 l1) xs := by rw [hV]; exact q1.below (bel1 _)
  have A2 : OwnI V LO (.slice (some ⟨g4, 0, none⟩) l2 l2) ys := by rw [hV]; exact q2.below (bel1 _)
  have A3 : OwnI V LO (.slice (some ⟨g7, 0, none⟩) l3 l3) zs := by rw [hV]; exact q3.below (bel1 _)
  have V0 := (unhide V0).below (bel1 (Obj.cells #[Value.slice (some ⟨g3, 0, none⟩) l1 l1, Value.slice (some ⟨g4, 0, none⟩) l2 l2, Value.slice (some ⟨g7, 0, none⟩) l3 l3] 27))
  rw [← hV] at V0
  have hVB : Below W.heap.size W V := by rw [hV]; exact (unhide HL xF).trans ((bel1 _).mono (unhide HL xF).size)
  obtain ⟨κ, g, hne2, hb2, hall2⟩ := belClass V
  have hgf : ∀ y, ∃ z, g y = f z := fun y => unhide HX _ (hVB.trans ((hb2 y).mono hVB.size))
  have hV0 : ∃ y, V = g y := hall2 V (Below.refl _ _)
  have vz0 : ∀ y, (g y).cell? ⟨w.heap.size, 0, none⟩ = some (Value.slice a1 l1 c1) := fun y => by obtain ⟨z, hz⟩ := hgf y; rw [hz]; exact z0 z
  have vz1 : ∀ y, (g y).cell? ⟨w.heap.size, 1, none⟩ = some (Value.slice a2 l2 c2) := fun y => by obtain ⟨z, hz⟩ := hgf y; rw [hz]; exact z1 z
  have vz2 : ∀ y, (g y).cell? ⟨w.heap.size, 2, none⟩ = some (Value.slice a3 l3 c3) := fun y => by obtain ⟨z, hz⟩ := hgf y; rw [hz]; exact z2 z
  have vt0 : ∀ y, (g y).cell? ⟨w.heap.size + 1, 0, none⟩ = some (Value.int IntKind.i64 m) := fun y => by obtain ⟨z, hz⟩ := hgf y; rw [hz]; exact t0 z
  have vt1 : ∀ y, (g y).cell? ⟨w.heap.size + 1, 1, none⟩ = some (Value.int IntKind.i64 q) := fun y => by obtain ⟨z, hz⟩ := hgf y; rw [hz]; exact t1 z
  have y0 : ∀ y, (g y).cell? ⟨N, 0, none⟩ = some (Value.slice (some ⟨g3, 0, none⟩) l1 l1) := fun y => ((hb2 y).cell (p := ⟨N, 0, none⟩) (by simp; omega)).trans y0
  have y1 : ∀ y, (g y).cell? ⟨N, 1, none⟩ = some (Value.slice (some ⟨g4, 0, none⟩) l2 l2) := fun y => ((hb2 y).cell (p := ⟨N, 1, none⟩) (by simp; omega)).trans y1
  have y2 : ∀ y, (g y).cell? ⟨N, 2, none⟩ = some (Value.slice (some ⟨g7, 0, none⟩) l3 l3) := fun y => ((hb2 y).cell (p := ⟨N, 2, none⟩) (by simp; omega)).trans y2
  have SR1 := hide fun y => show Row (g y) a1 l1 xs by obtain ⟨z, hz⟩ := hgf y; rw [hz]; exact unhide R1 z
  have SR2 := hide fun y => show Row (g y) a2 l2 ys by obtain ⟨z, hz⟩ := hgf y; rw [hz]; exact unhide R2 z
  have SR3 := hide fun y => show Row (g y) a3 l3 zs by obtain ⟨z, hz⟩ := hgf y; rw [hz]; exact unhide R3 z
  have SRT := hide fun y => show Row2 (g y) ad tl ts by obtain ⟨z, hz⟩ := hgf y; rw [hz]; exact unhide RT z
  have A1 := hide fun y => A1.below (hb2 y)
  have A2 := hide fun y => A2.below (hb2 y)
  have A3 := hide fun y => A3.below (hb2 y)
  have GL := hide hb2
  have GX := hide hall2
  have HGF := hide hgf
  have HVB := hide hVB
  have GS : Hid (∀ y, N + 1 ≤ (g y).heap.size) := hide fun y => by have := (hb2 y).size; omega
  obtain ⟨ya, hya⟩ := hV0
  rw [hya] at V0
  have V0 := hide V0
  have HG := hide hg
  clear hb2 hall2 hgf hVB sV q1 q2 q3 hg
  go_wp2_with fail
  rw [← hV]
  clear hV hN
  rw [hya]
  clear hya
  refine (toFuelTankS_own _ _ _ ts _ (unhide SRT ya) hl4).mono ?_
  rintro e wG ⟨rfl, oG, bG⟩
  have V0 := hide ((unhide V0).below bG)
  obtain ⟨yb, rfl⟩ := unhide GX _ ((unhide GL ya).trans (bG.mono (unhide GL ya).size))
  have QT := hide oG
  obtain ⟨TB, hTB⟩ : ∃ n, (g ya).heap.size = n := ⟨_, rfl⟩
  have hTB1 : N + 1 ≤ TB := by have := unhide GS ya; omega
  have hTB2 : TB < (g yb).heap.size := by have := (oG.lies2 (g ya).heap.size rfl).2; omega
  rw [hTB] at QT
  clear bG oG
  go_wp2_with fail
  clear hTB
  go_region_held3 (fun w' => w'.cell? ⟨w.heap.size, 0, none⟩ = some (Value.slice a1 l1 c1) ∧ w'.cell? ⟨w.heap.size, 1, none⟩ = some (Value.slice a2 l2 c2) ∧ w'.cell? ⟨w.heap.size, 2, none⟩ = some (Value.slice a3 l3 c3) ∧ w'.cell? ⟨w.heap.size + 1, 0, none⟩ = some (Value.int IntKind.i64 m) ∧ w'.cell? ⟨w.heap.size + 1, 1, none⟩ = some (Value.int IntKind.i64 q) ∧ w'.cell? ⟨N, 0, none⟩ = some (Value.slice (some ⟨g3, 0, none⟩) l1 l1) ∧ w'.cell? ⟨N, 1, none⟩ = some (Value.slice (some ⟨g4, 0, none⟩) l2 l2) ∧ w'.cell? ⟨N, 2, none⟩ = some (Value.slice (some ⟨g7, 0, none⟩) l3 l3)) (go_keep)
    (first
      | (go_at_call 15; refine (toSum2_any _ _ _).mono ?_; rintro e wI ⟨rfl, bI⟩; have oT := ((unhide QT).drewN 1).below bI; have oV := ((unhide V0).drewN 1).below bI; have sI := bI.size; obtain ⟨yd, rfl⟩ := unhide GX _ (((unhide GL yb).trans (bel0d' 1)).trans (bI.mono (unhide GL yb).size)))
      | (go_at_call 31; refine (implOrder_any _ _ _ _ _ _ _ _ _ xs ys zs m q step _ _ _ _ ts _ (unhide A1 yd).row (unhide A2 yd).row (unhide A3 yd).row (Nat.le_refl _) (Nat.le_refl _) (Nat.le_refl _) oT.row).mono ?_; rintro e wJ ⟨a5, c5, rfl, oJ, bJ⟩; have oT := oT.below bJ; have oV := oV.below bJ; obtain ⟨ye, rfl⟩ := unhide GX _ ((unhide GL yd).trans (bJ.mono (unhide GL yd).size))))
  have QT := hide oT
  have V0 := hide oV
  have V1 := hide oJ
  have L1 : Hid (∀ g', (Value.slice a5 (orderRes xs ys zs m q step ts).1.length c5).ownBlock = some g' → TB < g') := hide fun g' hg' => by have := oJ.lies2 g' hg'; simp at sI; omega
  have hq : ((orderRes xs ys zs m q step ts).2 != (orderRes xs ys zs m q step ts).2) = false := by simp
  clear oT oV oJ bI bJ sI
  go_wp2_with fail
  refine (eqBurnS_same _ _ _ _ _ _ (orderRes xs ys zs m q step ts).1 _ (unhide V1).row (unhide V0).row).mono ?_
  rintro e wK ⟨rfl, bK⟩
  have QT := hide ((unhide QT).below bK)
  have V0 := hide ((unhide V0).below bK)
  have V1 := hide ((unhide V1).below bK)
  obtain ⟨yf, rfl⟩ := unhide GX _ ((unhide GL ye).trans (bK.mono (unhide GL ye).size))
  clear bK
  go_wp2_with fail
  go_region_held3 (fun w' => w'.cell? ⟨w.heap.size, 0, none⟩ = some (Value.slice a1 l1 c1) ∧ w'.cell? ⟨w.heap.size, 1, none⟩ = some (Value.slice a2 l2 c2) ∧ w'.cell? ⟨w.heap.size, 2, none⟩ = some (Value.slice a3 l3 c3) ∧ w'.cell? ⟨w.heap.size + 1, 0, none⟩ = some (Value.int IntKind.i64 m) ∧ w'.cell? ⟨w.heap.size + 1, 1, none⟩ = some (Value.int IntKind.i64 q) ∧ w'.cell? ⟨N, 0, none⟩ = some (Value.slice (some ⟨g3, 0, none⟩) l1 l1) ∧ w'.cell? ⟨N, 1, none⟩ = some (Value.slice (some ⟨g4, 0, none⟩) l2 l2) ∧ w'.cell? ⟨N, 2, none⟩ = some (Value.slice (some ⟨g7, 0, none⟩) l3 l3)) (go_keep)
    (first
      | (go_at_call 11; refine (toEnvelope_any _ _ _ _ _ _ _ _ _ xs ys zs _ ((unhide SR1 yf).drewN 1) ((unhide SR2 yf).drewN 1) ((unhide SR3 yf).drewN 1) hl1 hl2 hl3).mono ?_; rintro e wL ⟨g5, g6, g8, rfl, q1, q2, q3, bL⟩; have oT := ((unhide QT).drewN 1).below bL; have oV := ((unhide V0).drewN 1).below bL; have oU := ((unhide V1).drewN 1).below bL; obtain ⟨yg, rfl⟩ := unhide GX _ (((unhide GL yf).trans (bel0d' 1)).trans (bL.mono (unhide GL yf).size)))
      | (go_at_call 13; refine (eqEnvelope_same _ _ _ _ _ _ _ _ _ _ _ _ _ _ _ _ _ _ xs ys zs _ (unhide A1 yg).row (unhide A2 yg).row (unhide A3 yg).row q1 q2 q3).mono ?_; rintro e wM ⟨rfl, bM⟩; have oT := oT.below bM; have oV := oV.below bM; have oU := oU.below bM; obtain ⟨yh, rfl⟩ := unhide GX _ ((unhide GL yg).trans (bM.mono (unhide GL yg).size))))
  have QT := hide oT
  have V0 := hide oV
  have V1 := hide oU
  clear oT oV oU bL bM q1 q2 q3
  go_wp2_with fail
  refine (toFuelTankS_own _ _ _ ts _ (unhide SRT yh) hl4).mono ?_
  rintro e wN ⟨rfl, oN, bN⟩
  have QN := hide oN
  have QT := hide ((unhide QT).below bN)
  have V0 := hide ((unhide V0).below bN)
  have V1 := hide ((unhide V1).below bN)
  obtain ⟨yi, rfl⟩ := unhide GX _ ((unhide GL yh).trans (bN.mono (unhide GL yh).size))
  clear bN oN
  go_wp2_with fail
  refine (eqFuelTankS_same _ _ _ _ _ _ ts _ (unhide QT).row (unhide QN).row).mono ?_
  rintro e wO ⟨rfl, bO⟩
  have QT := hide ((unhide QT).below bO)
  have V0 := hide ((unhide V0).below bO)
  have V1 := hide ((unhide V1).below bO)
  obtain ⟨yj, rfl⟩ := unhide GX _ ((unhide GL yi).trans (bO.mono (unhide GL yi).size))
  clear bO QN
  go_wp2_with fail
  refine (markEnvelope_any LO N g3 g4 g7 l1 l2 l3 xs ys zs 1 _ (unhide A1 yj) (unhide A2 yj) (unhide A3 yj) (unhide E1) (unhide E2) (unhide E3) hl1 hl2 hl3 (unhide HG) (by have := unhide GS yj; omega) (by omega) (by omega)).mono ?_
  rintro e wP ⟨rfl, tP⟩
  have QT := hide ((unhide QT).turned tP (fun i hi => by simp [Value.ownBlock] at hi; omega))
  have V0 := hide ((unhide V0).turned tP (fun i hi => .inl (unhide L0 i hi).2))
  have V1 := hide ((unhide V1).turned tP (fun i hi => .inr (by have := unhide L1 i hi; omega)))
  have bP : Below W.heap.size W wP := tP.below ((unhide HVB).trans ((unhide GL yj).mono (unhide HVB).size)) hWL (by have := ((unhide HVB).trans ((unhide GL yj).mono (unhide HVB).size)).size; omega)
  obtain ⟨xP, rfl⟩ := unhide HX _ bP
  clear tP bP A1 A2 A3 SR1 SR2 SR3 SRT GL GX HGF HVB GS vz0 vz1 vz2 vt0 vt1 y0 y1 y2
  go_wp2_with fail
  refine (markFuelTankS_any _ _ _ _ ts _ _ (unhide QT) (unhide ET) hl4 (by omega) (by omega)).mono ?_
  rintro e wQ ⟨rfl, _, gQ⟩
  have bQ : Below W.heap.size W wQ := (unhide HL xP).grown gQ (by have := (unhide HL xP).size; omega) (fun i hi => by have := unhide HG; simp [Value.ownBlock] at hi; omega)
  have V0 := hide ((unhide V0).far gQ (fun i hi => by have := unhide L0 i hi; have := unhide HG; simp [Value.ownBlock]; omega))
  have V1 := hide ((unhide V1).far gQ (fun i hi => by have := unhide L1 i hi; simp [Value.ownBlock]; omega))
  obtain ⟨xQ, rfl⟩ := unhide HX _ bQ
  clear gQ bQ QT
  go_wp2_with fail
  refine (eqBurnS_same _ _ _ _ _ _ (orderRes xs ys zs m q step ts).1 _ (unhide V1).row (unhide V0).row).mono ?_
  rintro e wR ⟨rfl, bR⟩
  have V0 := hide ((unhide V0).below bR)
  have V1 := hide ((unhide V1).below bR)
  obtain ⟨xR, rfl⟩ := unhide HX _ ((unhide HL xQ).trans (bR.mono (unhide HL xQ).size))
  clear bR
  go_wp2_with fail
  refine (markBurnS_any _ _ _ _ (orderRes xs ys zs m q step ts).1 1 _ (unhide V1) rfl (by omega) (by omega) (by omega)).mono ?_
  rintro e wS ⟨rfl, oS, gS⟩
  have bS : Below W.heap.size W wS := (unhide HL xR).grown gS (by have := (unhide HL xR).size; omega) (fun i hi => by have := unhide L1 i hi; have := unhide HG; omega)
  have V0 := hide ((unhide V0).far gS (fun i hi e => by have := unhide L0 i hi; have := unhide L1 i e.symm; have := unhide HG; omega))
  have V1 := hide oS
  have hq2 : ((1 + 2 * ((orderRes xs ys zs m q step ts).1.length : Int)) != (1 + 2 * ((orderRes xs ys zs m q step ts).1.length : Int))) = false := by simp
  obtain ⟨xS, rfl⟩ := unhide HX _ bS
  clear gS bS oS
  go_wp2_with fail
  refine (heldBurnS_any _ _ _ _ (orderRes xs ys zs m q step ts).1 1 _ (unhide V1) rfl (by omega) (by omega) (by omega)).mono ?_
  rintro e w' ⟨rfl, hw⟩
  subst w'
  go_wp2_with fail
  go_region_held3 (fun w' => w'.cell? ⟨w.heap.size, 0, none⟩ = some (Value.slice a1 l1 c1) ∧ w'.cell? ⟨w.heap.size, 1, none⟩ = some (Value.slice a2 l2 c2) ∧ w'.cell? ⟨w.heap.size, 2, none⟩ = some (Value.slice a3 l3 c3) ∧ w'.cell? ⟨w.heap.size + 1, 0, none⟩ = some (Value.int IntKind.i64 m) ∧ w'.cell? ⟨w.heap.size + 1, 1, none⟩ = some (Value.int IntKind.i64 q)) (go_keep)
    (first
      | (go_at_call 11; refine (toEnvelope_any _ _ _ _ _ _ _ _ _ xs ys zs _ ((unhide R1 xS).drewN 1) ((unhide R2 xS).drewN 1) ((unhide R3 xS).drewN 1) hl1 hl2 hl3).mono ?_; rintro e wA ⟨g1, g2, g0, rfl, q1, q2, q3, bA⟩; have oV := ((unhide V0).drewN 1).below bA; have oU := ((unhide V1).drewN 1).below bA; obtain ⟨xT, rfl⟩ := unhide HX _ (((unhide HL xS).trans (bel0d' 1)).trans (bA.mono (unhide HL xS).size)))
      | (go_at_call 15; refine (toSum2_any _ _ _).mono ?_; rintro e wB ⟨rfl, bB⟩; have oV := oV.below bB; have oU := oU.below bB; obtain ⟨xU, rfl⟩ := unhide HX _ ((unhide HL xT).trans (bB.mono (unhide HL xT).size)); have q1 := q1.below bB; have q2 := q2.below bB; have q3 := q3.below bB)
      | (go_at_call 20; refine (toFuelTankS_own _ _ _ ts _ (unhide RT xU) hl4).mono ?_; rintro e wC ⟨rfl, oC, bC⟩; have oV := oV.below bC; have oU := oU.below bC; obtain ⟨xX, rfl⟩ := unhide HX _ ((unhide HL xU).trans (bC.mono (unhide HL xU).size)); have q1 := q1.below bC; have q2 := q2.below bC; have q3 := q3.below bC)
      | (go_at_call 31; refine (implOrder_any _ _ _ _ _ _ _ _ _ xs ys zs m q step _ _ _ _ ts _ q1 q2 q3 (Nat.le_refl _) (Nat.le_refl _) (Nat.le_refl _) oC.row).mono ?_; rintro e wE ⟨a6, c6, rfl, oE, bE⟩; have oV := oV.below bE; have oU := oU.below bE; obtain ⟨xY, rfl⟩ := unhide HX _ ((unhide HL xX).trans (bE.mono (unhide HL xX).size))))
  have V0 := hide oV
  have V1 := hide oU
  have V2 := hide oE
  clear q1 q2 q3 oC bA bB bC bE oE oV oU
  go_wp2_with fail
  refine (eqBurnS_same _ _ _ _ _ _ (orderRes xs ys zs m q step ts).1 _ (unhide V2).row (unhide V0).row).mono ?_
  rintro e wZ ⟨rfl, bZ⟩
  have V1 := hide ((unhide V1).below bZ)
  obtain ⟨xZ, rfl⟩ := unhide HX _ ((unhide HL xY).trans (bZ.mono (unhide HL xY).size))
  clear bZ V0 V2
  go_wp2_with fail
  refine (heldBurnS_any _ _ _ _ (orderRes xs ys zs m q step ts).1 1 _ (unhide V1) rfl (by omega) (by omega) (by omega)).mono ?_
  rintro e w' ⟨rfl, hw⟩
  subst w'
  go_wp2_with fail
  go_ret
  exact ⟨rfl, unhide HB xZ⟩

end Go.Proofs.Ytbaocifpifbldaj
