/-
  What the program's FitWindow answers: the plain answer, in memory of its own. At lists of at most 1048576; nothing that was there is written.
-/
import Derived.Test.YtndhiecakojjgafFt1
import Derived.Test.YtndhiecakojjgafPpTo
namespace Go.Proofs.Ytndhiecakojjgaf
open Go.RowKit

theorem ftA_four (fr pa : Int) (ws : List Wn) (p lg : Int) : ftA fr pa ws p lg = (ppB fr pa ws && !decide (ws.length = 40) && inB p 0 (pa - 1) && inB lg 1 10000) := rfl
theorem insL_is {ws : List Wn} {k : Nat} {x : Wn} : ws.take k ++ ([x] ++ ws.drop k) = insL ws k x := rfl

set_option maxRecDepth 20000 in
set_option maxHeartbeats 4000000 in
theorem implFitWindow_is (fr pa : Int) (da : Option Addr) (dn dc : Nat) (ws : List Wn) (p lg : Int) (w : World) (hl : dn ≤ 1048576) (hr : RowE 3 wnC w da dn ws) :
    Calls Try.prog 29 #[.agg #[.int .i64 fr, .int .i64 pa, .slice da dn dc], .int .i64 p, .int .i64 lg] w fun e w' => ∃ (a1 : Option Addr) (c1 : Nat), e = .returned (.tuple #[.agg #[.int .i64 fr, .int .i64 pa, .slice a1 (ftL fr pa ws p lg).length c1], .bool (ftB fr pa ws p lg)]) ∧ PpOwn w' w.heap.size a1 (ftL fr pa ws p lg).length c1 (ftL fr pa ws p lg) ∧ Below w.heap.size w w' := by
  have hz := hr.len_eq
  subst hz
  obtain ⟨W, hW⟩ : ∃ W, W = (w.alloc (Obj.cells #[.int .i64 fr, .int .i64 pa, .slice da ws.length dc] 53)).alloc (Obj.cells #[.int .i64 0, .int .i64 0, .slice none 0 0] 53) := ⟨_, rfl⟩
  have HWS : Hid (W.heap.size = w.heap.size + 2) := hide (by rw [hW]; simp)
  have KP : Hid (Blk W w.heap.size [.int .i64 fr, .int .i64 pa, .slice da ws.length dc]) := hide (by rw [hW]; exact blkAt2_0)
  have KR : Hid (Blk W (w.heap.size + 1) [.int .i64 0, .int .i64 0, .slice none 0 0]) := hide (by rw [hW]; exact blkAt2_1)
  have B0 : Hid (Below w.heap.size w W) := hide (by rw [hW]; exact bel2 _ _)
  have HR := hide hr
  have HW := hide hW
  clear hW hr
  go_enter Try.func29, Try.ntmps29
  go_upto_region 1 with fail
  rw [← unhide HW]
  clear HW
  have p0 : W.cell? ⟨w.heap.size, 0, none⟩ = some (.int .i64 fr) := (unhide KP).c 0 (by simp)
  have p1 : W.cell? ⟨w.heap.size, 1, none⟩ = some (.int .i64 pa) := (unhide KP).c 1 (by simp)
  have p2 : W.cell? ⟨w.heap.size, 2, none⟩ = some (.slice da ws.length dc) := (unhide KP).c 2 (by simp)
  go_wp2_with fail
  clear p0 p1 p2
  refine (copied17_is fr pa da ws.length dc ws W hl ((unhide HR).below (unhide B0))).mono ?_
  rintro e W1 ⟨g, cp, rfl, ho, b1⟩
  have hlies := ho.lies g rfl
  obtain ⟨V, hV⟩ : ∃ V, V = W1.alloc (Obj.cells #[.int .i64 fr, .int .i64 pa, .slice (some ⟨g, 0, none⟩) ws.length cp] 53) := ⟨_, rfl⟩
  have bV : Below W1.heap.size W1 V := by rw [hV]; exact bel1 _
  obtain ⟨F, hF⟩ : ∃ F, W1.heap.size = F := ⟨_, rfl⟩
  have K0 := hide (((unhide KP).below b1).below bV)
  have K1 := hide (((unhide KR).below b1).below bV)
  have K2' : Hid (Blk V F [.int .i64 fr, .int .i64 pa, .slice (some ⟨g, 0, none⟩) ws.length cp]) := hide (by rw [hV, ← hF]; exact Blk.new _ _)
  have OV := hide (ho.below bV)
  have B1 := hide ((unhide B0).trans (b1.mono (unhide B0).size))
  have B0 := hide ((unhide B1).trans (bV.mono (unhide B1).size))
  have HG : Hid (w.heap.size + 2 ≤ g ∧ g < F) := hide (by have := unhide HWS; omega)
  have HR := hide ((unhide HR).below (unhide B0))
  have HVV := hide hV
  have HF := hide hF
  clear hV hF bV b1 ho hlies KP KR B1
  go_upto_region 2 with fail
  rw [← unhide HVV, unhide HF]
  clear HVV HF
  have K2 := K2'
  clear K2'
  obtain ⟨ι, fW, _, hb, hall⟩ := belClass V
  have HB := hide hb
  have HA := hide hall
  have c00 : ∀ x, (fW x).cell? ⟨w.heap.size, 0, none⟩ = some (.int .i64 fr) := fun x => ((unhide K0).below (hb x)).c 0 (by simp)
  have c01 : ∀ x, (fW x).cell? ⟨w.heap.size, 1, none⟩ = some (.int .i64 pa) := fun x => ((unhide K0).below (hb x)).c 1 (by simp)
  have c02 : ∀ x, (fW x).cell? ⟨w.heap.size, 2, none⟩ = some (.slice da ws.length dc) := fun x => ((unhide K0).below (hb x)).c 2 (by simp)
  have c10 : ∀ x, (fW x).cell? ⟨w.heap.size + 1, 0, none⟩ = some (.int .i64 0) := fun x => ((unhide K1).below (hb x)).c 0 (by simp)
  have c11 : ∀ x, (fW x).cell? ⟨w.heap.size + 1, 1, none⟩ = some (.int .i64 0) := fun x => ((unhide K1).below (hb x)).c 1 (by simp)
  have c12 : ∀ x, (fW x).cell? ⟨w.heap.size + 1, 2, none⟩ = some (.slice none 0 0) := fun x => ((unhide K1).below (hb x)).c 2 (by simp)
  have c20 : ∀ x, (fW x).cell? ⟨F, 0, none⟩ = some (.int .i64 fr) := fun x => ((unhide K2).below (hb x)).c 0 (by simp)
  have c21 : ∀ x, (fW x).cell? ⟨F, 1, none⟩ = some (.int .i64 pa) := fun x => ((unhide K2).below (hb x)).c 1 (by simp)
  have c22 : ∀ x, (fW x).cell? ⟨F, 2, none⟩ = some (.slice (some ⟨g, 0, none⟩) ws.length cp) := fun x => ((unhide K2).below (hb x)).c 2 (by simp)
  clear hb hall
  obtain ⟨y0, h0⟩ := (unhide HA) V (Below.refl _ _)
  have BX : Hid (∀ x, Below w.heap.size w (fW x)) := hide (fun x => (unhide B0).trans ((unhide HB x).mono (unhide B0).size))
  rw [h0]
  clear h0
  rcases four (ppB fr pa ws) (!decide (ws.length = 40)) (inB p 0 (pa - 1)) (inB lg 1 10000) with ⟨q1, hv⟩ | ⟨q1, q2, hv⟩ | ⟨q1, q2, q3, hv⟩ | ⟨q1, q2, q3, q4, hv⟩ | ⟨q1, q2, q3, q4, hv⟩
  · have HN := hide (ft_no (show ftA fr pa ws p lg = false from hv))
    clear hv
    go_upto_region 3 with (first | (go_at_call 28; refine (belQ (unhide HB) (unhide HA) (implPlanOk_is _ _ _ _ _ ws _ ((unhide HR).below (unhide HB _)) (by exact q1))).mono ?_; rintro e _ ⟨rfl, y, rfl⟩))
    have KRX := hide ((unhide K1).below (unhide HB y))
    have OX := hide ((unhide OV).below (unhide HB y))
    go_wp2_with (((with_reducible show wpList _ _ _ (⟨none, .store 53 _ _, _, _, _, none⟩ :: _) _ _); refine at_storeAgg (us := [.int .i64 0, .int .i64 0, .slice none 0 0]) (vs := [.int .i64 fr, .int .i64 pa, .slice (some ⟨g, 0, none⟩) ws.length cp]) Try.sizeOf53 rfl rfl (unhide KRX) rfl (fun v hv => by simp at hv; rcases hv with rfl | rfl | rfl <;> rfl) ?_; intro w2 k2 g2; have K2 := hide k2; have G2 := hide g2; clear k2 g2))
    refine bodyPost_ret (results_cellB (x := .bool false) (vs := [.int .i64 fr, .int .i64 pa, .slice (some ⟨g, 0, none⟩) ws.length cp]) rfl Try.isAgg53 Try.sizeOf53 rfl (unhide K2) rfl) rfl ⟨some ⟨g, 0, none⟩, cp, by rw [(unhide HN).1, (unhide HN).2], ⟨?_⟩, ?_⟩
    · rw [(unhide HN).2]
      exact ((unhide OX).far (unhide G2) (fun q hq => by simp [Value.ownBlock] at hq; have := unhide HG; simp; omega)).mono (by have := unhide HWS; omega)
    · exact (unhide (hide (unhide BX y))).grown (unhide G2) (unhide (hide (unhide BX y))).size (fun q hq => by simp at hq; omega)
  · have HN := hide (ft_no (show ftA fr pa ws p lg = false from hv))
    clear hv
    have e1 : ws.length = 40 := by simpa using q2
    have e2 : ((ws.length : Int) == 40) = true := by simp only [beq_iff_eq]; omega
    clear q2 e1
    go_upto_region 3 with (first | (go_at_call 28; refine (belQ (unhide HB) (unhide HA) (implPlanOk_is _ _ _ _ _ ws _ ((unhide HR).below (unhide HB _)) (by exact q1))).mono ?_; rintro e _ ⟨rfl, y, rfl⟩))
    have KRX := hide ((unhide K1).below (unhide HB y))
    have OX := hide ((unhide OV).below (unhide HB y))
    go_wp2_with (((with_reducible show wpList _ _ _ (⟨none, .store 53 _ _, _, _, _, none⟩ :: _) _ _); refine at_storeAgg (us := [.int .i64 0, .int .i64 0, .slice none 0 0]) (vs := [.int .i64 fr, .int .i64 pa, .slice (some ⟨g, 0, none⟩) ws.length cp]) Try.sizeOf53 rfl rfl (unhide KRX) rfl (fun v hv => by simp at hv; rcases hv with rfl | rfl | rfl <;> rfl) ?_; intro w2 k2 g2; have K2 := hide k2; have G2 := hide g2; clear k2 g2))
    refine bodyPost_ret (results_cellB (x := .bool false) (vs := [.int .i64 fr, .int .i64 pa, .slice (some ⟨g, 0, none⟩) ws.length cp]) rfl Try.isAgg53 Try.sizeOf53 rfl (unhide K2) rfl) rfl ⟨some ⟨g, 0, none⟩, cp, by rw [(unhide HN).1, (unhide HN).2], ⟨?_⟩, ?_⟩
    · rw [(unhide HN).2]
      exact ((unhide OX).far (unhide G2) (fun q hq => by simp [Value.ownBlock] at hq; have := unhide HG; simp; omega)).mono (by have := unhide HWS; omega)
    · exact (unhide (hide (unhide BX y))).grown (unhide G2) (unhide (hide (unhide BX y))).size (fun q hq => by simp at hq; omega)
  · have HN := hide (ft_no (show ftA fr pa ws p lg = false from hv))
    clear hv
    have e1 : ¬ ws.length = 40 := by simpa using q2
    have e2 : ((ws.length : Int) == 40) = false := by simp only [beq_eq_false_iff_ne, ne_eq]; omega
    clear q2
    have f2 := (ppB_facts q1).2.1
    go_upto_region 3 with (first | (go_at_call 28; refine (belQ (unhide HB) (unhide HA) (implPlanOk_is _ _ _ _ _ ws _ ((unhide HR).below (unhide HB _)) (by exact q1))).mono ?_; rintro e _ ⟨rfl, y, rfl⟩) | (go_at_call 51; refine (belQ (unhide HB) (unhide HA) (hasPart_is _ _ _ _ _ _ _ f2 (by exact q3))).mono ?_; rintro e _ ⟨rfl, y, rfl⟩))
    have KRX := hide ((unhide K1).below (unhide HB y))
    have OX := hide ((unhide OV).below (unhide HB y))
    go_wp2_with (((with_reducible show wpList _ _ _ (⟨none, .store 53 _ _, _, _, _, none⟩ :: _) _ _); refine at_storeAgg (us := [.int .i64 0, .int .i64 0, .slice none 0 0]) (vs := [.int .i64 fr, .int .i64 pa, .slice (some ⟨g, 0, none⟩) ws.length cp]) Try.sizeOf53 rfl rfl (unhide KRX) rfl (fun v hv => by simp at hv; rcases hv with rfl | rfl | rfl <;> rfl) ?_; intro w2 k2 g2; have K2 := hide k2; have G2 := hide g2; clear k2 g2))
    refine bodyPost_ret (results_cellB (x := .bool false) (vs := [.int .i64 fr, .int .i64 pa, .slice (some ⟨g, 0, none⟩) ws.length cp]) rfl Try.isAgg53 Try.sizeOf53 rfl (unhide K2) rfl) rfl ⟨some ⟨g, 0, none⟩, cp, by rw [(unhide HN).1, (unhide HN).2], ⟨?_⟩, ?_⟩
    · rw [(unhide HN).2]
      exact ((unhide OX).far (unhide G2) (fun q hq => by simp [Value.ownBlock] at hq; have := unhide HG; simp; omega)).mono (by have := unhide HWS; omega)
    · exact (unhide (hide (unhide BX y))).grown (unhide G2) (unhide (hide (unhide BX y))).size (fun q hq => by simp at hq; omega)
  · have HN := hide (ft_no (show ftA fr pa ws p lg = false from hv))
    clear hv
    have e1 : ¬ ws.length = 40 := by simpa using q2
    have e2 : ((ws.length : Int) == 40) = false := by simp only [beq_eq_false_iff_ne, ne_eq]; omega
    clear q2
    have f2 := (ppB_facts q1).2.1
    go_upto_region 3 with (first | (go_at_call 28; refine (belQ (unhide HB) (unhide HA) (implPlanOk_is _ _ _ _ _ ws _ ((unhide HR).below (unhide HB _)) (by exact q1))).mono ?_; rintro e _ ⟨rfl, y, rfl⟩) | (go_at_call 51; refine (belQ (unhide HB) (unhide HA) (hasPart_is _ _ _ _ _ _ _ f2 (by exact q3))).mono ?_; rintro e _ ⟨rfl, y, rfl⟩) | (go_at_call 57; refine (belS (longOk_is _ _ (by exact q4))).mono ?_; rintro e _ ⟨rfl, y, rfl⟩))
    have KRX := hide ((unhide K1).below (unhide HB y))
    have OX := hide ((unhide OV).below (unhide HB y))
    go_wp2_with (((with_reducible show wpList _ _ _ (⟨none, .store 53 _ _, _, _, _, none⟩ :: _) _ _); refine at_storeAgg (us := [.int .i64 0, .int .i64 0, .slice none 0 0]) (vs := [.int .i64 fr, .int .i64 pa, .slice (some ⟨g, 0, none⟩) ws.length cp]) Try.sizeOf53 rfl rfl (unhide KRX) rfl (fun v hv => by simp at hv; rcases hv with rfl | rfl | rfl <;> rfl) ?_; intro w2 k2 g2; have K2 := hide k2; have G2 := hide g2; clear k2 g2))
    refine bodyPost_ret (results_cellB (x := .bool false) (vs := [.int .i64 fr, .int .i64 pa, .slice (some ⟨g, 0, none⟩) ws.length cp]) rfl Try.isAgg53 Try.sizeOf53 rfl (unhide K2) rfl) rfl ⟨some ⟨g, 0, none⟩, cp, by rw [(unhide HN).1, (unhide HN).2], ⟨?_⟩, ?_⟩
    · rw [(unhide HN).2]
      exact ((unhide OX).far (unhide G2) (fun q hq => by simp [Value.ownBlock] at hq; have := unhide HG; simp; omega)).mono (by have := unhide HWS; omega)
    · exact (unhide (hide (unhide BX y))).grown (unhide G2) (unhide (hide (unhide BX y))).size (fun q hq => by simp at hq; omega)
  · have HA4 := hide (show ftA fr pa ws p lg = true from hv)
    clear hv
    have e1 : ¬ ws.length = 40 := by simpa using q2
    have e2 : ((ws.length : Int) == 40) = false := by simp only [beq_eq_false_iff_ne, ne_eq]; omega
    clear q2
    have f0 := ppB_facts q1
    have f2 := f0.2.1
    have l1 := f0.2.2.1
    have f4 := in_facts q4
    clear f0
    obtain ⟨K, hK⟩ : ∃ K, ftP fr ws lg = K := ⟨_, rfl⟩
    have HK := hide hK
    have HKE : Hid (0 ≤ pwE ws K ∧ pwE ws K ≤ 100000) := hide (pwE_in q1 K (by rw [← hK, ftP]; split <;> omega))
    have hKl : K ≤ ws.length := by rw [← hK, ftP]; split <;> omega
    clear hK
    cases hb : decide (ftK fr ws lg ≤ ws.length) with
    | false =>
      have HBF := hide hb
      have HN := hide (show ftB fr pa ws p lg = false ∧ ftL fr pa ws p lg = ws from by
        have e : ftB fr pa ws p lg = false := by rw [ftB, hb, Bool.and_false]
        exact ⟨e, by rw [ftL, e]; rfl⟩)
      clear hb
      go_upto_region 6 with (first | (go_at_call 28; refine (belQ (unhide HB) (unhide HA) (implPlanOk_is _ _ _ _ _ ws _ ((unhide HR).below (unhide HB _)) (by exact q1))).mono ?_; rintro e _ ⟨rfl, y, rfl⟩) | (go_at_call 51; refine (belQ (unhide HB) (unhide HA) (hasPart_is _ _ _ _ _ _ _ f2 (by exact q3))).mono ?_; rintro e _ ⟨rfl, y, rfl⟩) | (go_at_call 57; refine (belS (longOk_is _ _ (by exact q4))).mono ?_; rintro e _ ⟨rfl, y, rfl⟩) | (go_at_call 58; refine (belQ (unhide HB) (unhide HA) (freeFor_is _ _ _ _ _ ws _ _ ((unhide HR).below (unhide HB _)) q1 f4 (unhide HK) (unhide HBF))).mono ?_; rintro e _ ⟨rfl, y, rfl⟩))
      have KRX := hide ((unhide K1).below (unhide HB y))
      have OX := hide ((unhide OV).below (unhide HB y))
      go_wp2_with (((with_reducible show wpList _ _ _ (⟨none, .store 53 _ _, _, _, _, none⟩ :: _) _ _); refine at_storeAgg (us := [.int .i64 0, .int .i64 0, .slice none 0 0]) (vs := [.int .i64 fr, .int .i64 pa, .slice (some ⟨g, 0, none⟩) ws.length cp]) Try.sizeOf53 rfl rfl (unhide KRX) rfl (fun v hv => by simp at hv; rcases hv with rfl | rfl | rfl <;> rfl) ?_; intro w2 k2 g2; have K2 := hide k2; have G2 := hide g2; clear k2 g2))
      refine bodyPost_ret (results_cellB (x := .bool false) (vs := [.int .i64 fr, .int .i64 pa, .slice (some ⟨g, 0, none⟩) ws.length cp]) rfl Try.isAgg53 Try.sizeOf53 rfl (unhide K2) rfl) rfl ⟨some ⟨g, 0, none⟩, cp, by rw [(unhide HN).1, (unhide HN).2], ⟨?_⟩, ?_⟩
      · rw [(unhide HN).2]
        exact ((unhide OX).far (unhide G2) (fun q hq => by simp [Value.ownBlock] at hq; have := unhide HG; simp; omega)).mono (by have := unhide HWS; omega)
      · exact (unhide (hide (unhide BX y))).grown (unhide G2) (unhide (hide (unhide BX y))).size (fun q hq => by simp at hq; omega)
    | true =>
      have HBF := hide hb
      have hk : ftK fr ws lg = K := by
        have h1 := of_decide_eq_true hb
        rw [← unhide HK, ftP, if_pos h1]
      have HN := hide (ft_at (unhide HA4) hKl hk)
      clear hb hk
      go_upto_region 7 with (first | (go_at_call 28; refine (belQ (unhide HB) (unhide HA) (implPlanOk_is _ _ _ _ _ ws _ ((unhide HR).below (unhide HB _)) (by exact q1))).mono ?_; rintro e _ ⟨rfl, y, rfl⟩) | (go_at_call 51; refine (belQ (unhide HB) (unhide HA) (hasPart_is _ _ _ _ _ _ _ f2 (by exact q3))).mono ?_; rintro e _ ⟨rfl, y, rfl⟩) | (go_at_call 57; refine (belS (longOk_is _ _ (by exact q4))).mono ?_; rintro e _ ⟨rfl, y, rfl⟩) | (go_at_call 58; refine (belQ (unhide HB) (unhide HA) (freeFor_is _ _ _ _ _ ws _ _ ((unhide HR).below (unhide HB _)) q1 f4 (unhide HK) (unhide HBF))).mono ?_; rintro e _ ⟨rfl, y, rfl⟩))
      obtain ⟨E, hE⟩ : ∃ E, pwE ws K = E := ⟨_, rfl⟩
      rw [hE] at HN HKE
      rw [hE]
      clear hE
      have hFy : g < (fW y).heap.size := by
        have := unhide HG
        have := ((unhide K2).below (unhide HB y)).lt
        omega
      obtain ⟨X, hX⟩ : ∃ X, X = (fW y).alloc (Obj.cells #[.int .i64 p, .int .i64 E, .int .i64 lg] 91) := ⟨_, rfl⟩
      have bX : Below (fW y).heap.size (fW y) X := by rw [hX]; exact bel1 _
      have hXv : X.heap[(fW y).heap.size]? = some (.cells #[.int .i64 p, .int .i64 E, .int .i64 lg] 91 (0, 0)) := by
        rw [hX]
        exact heap_alloc_new _ _
      have OX := hide (((unhide OV).below (unhide HB y)).below bX)
      have KFX := hide (((unhide K2).below (unhide HB y)).below bX)
      have KRX := hide (((unhide K1).below (unhide HB y)).below bX)
      have BXX := hide ((unhide BX y).trans (bX.mono (unhide BX y).size))
      have SX : Hid (W.heap.size ≤ X.heap.size) := hide (by have := bX.size; have := unhide HWS; have := unhide HG; omega)
      have HXV := hide hXv
      have HX := hide hX
      clear bX hX hXv
      have INS := hide (insW_is W.heap.size g ws.length cp (fW y).heap.size K ws ⟨p, E, lg⟩ X (unhide OX) rfl (by omega) (unhide SX) hKl (by omega) (unhide HXV))
      rw [unhide HX] at INS
      go_upto_region 8 with (go_at_call 59; refine (unhide INS).mono ?_; rintro e w9 ⟨g', cp', rfl, o9, gr9⟩; rw [← unhide HX] at gr9; have KF9 := hide ((unhide KFX).apart gr9 (by have := unhide HG; simp; omega)); have KR9 := hide ((unhide KRX).apart gr9 (by have := unhide HG; simp; omega)); have B9 := hide ((unhide BXX).grown gr9 (unhide BXX).size (fun q hq => by simp at hq; have := unhide HG; omega)); have O9 := hide o9; have y1 : w9.cell? ⟨F, 2, none⟩ = some (.slice (some ⟨g, 0, none⟩) ws.length cp) := (unhide KF9).c 2 (by simp); have y2 : w9.frozen? ⟨F, 2, none⟩ = false := (unhide KF9).f 2 (by simp); have HG9 : Hid (w.heap.size + 2 ≤ g' ∧ ¬ g' = F) := hide ⟨(by have := (o9.lies g' rfl).1; have := unhide HWS; omega), fun e => (by have c1 := (o9.here (insL_len hKl) 0 (by omega) 2 (by omega)).1; rw [e, show 0 * 3 + 2 = 2 from rfl, y1] at c1; cases c1)⟩; clear o9 gr9)
      obtain ⟨U, hU⟩ : ∃ U, U = w9.setCell ⟨F, 2, none⟩ (.slice (some ⟨g', 0, none⟩) (ws.length + 1) cp') := ⟨_, rfl⟩
      have KFU : Hid (Blk U F [.int .i64 fr, .int .i64 pa, .slice (some ⟨g', 0, none⟩) (ws.length + 1) cp']) := hide (by rw [hU]; exact (unhide KF9).set 2 (by simp) _)
      have KRU : Hid (Blk U (w.heap.size + 1) [.int .i64 0, .int .i64 0, .slice none 0 0]) := hide (by rw [hU]; exact (unhide KR9).other (p := ⟨F, 2, none⟩) (by have := unhide HG; show F ≠ w.heap.size + 1; omega) _)
      have OU : Hid (OwnE 3 wnC U W.heap.size 91 (.slice (some ⟨g', 0, none⟩) (ws.length + 1) cp') (insL ws K ⟨p, E, lg⟩)) := hide (by rw [hU]; exact (unhide O9).set_other _ (by intro e; simp [Value.ownBlock] at e; exact (unhide HG9).2 e))
      have BU : Hid (Below w.heap.size w U) := hide (by rw [hU]; exact (unhide B9).setCell (p := ⟨F, 2, none⟩) (by have := unhide HG; show w.heap.size ≤ F; omega) _)
      rw [← hU]
      clear hU y1 y2
      have p0 : U.cell? ⟨F, 0, none⟩ = some (.int .i64 fr) := (unhide KFU).c 0 (by simp)
      have p1 : U.cell? ⟨F, 1, none⟩ = some (.int .i64 pa) := (unhide KFU).c 1 (by simp)
      have p2 : U.cell? ⟨F, 2, none⟩ = some (.slice (some ⟨g', 0, none⟩) (ws.length + 1) cp') := (unhide KFU).c 2 (by simp)
      have HL : Hid ((insL ws K ⟨p, E, lg⟩).length = ws.length + 1) := hide (insL_len hKl)
      rw [insL_is] at HN
      go_wp2_with (((with_reducible show wpList _ _ _ (⟨none, .store 53 _ _, _, _, _, none⟩ :: _) _ _); refine at_storeAgg (us := [.int .i64 0, .int .i64 0, .slice none 0 0]) (vs := [.int .i64 fr, .int .i64 pa, .slice (some ⟨g', 0, none⟩) (ws.length + 1) cp']) Try.sizeOf53 rfl rfl (unhide KRU) rfl (fun v hv => by simp at hv; rcases hv with rfl | rfl | rfl <;> rfl) ?_; intro w2 k2 g2; have K2 := hide k2; have G2 := hide g2; clear k2 g2))
      refine bodyPost_ret (results_cellB (x := .bool true) (vs := [.int .i64 fr, .int .i64 pa, .slice (some ⟨g', 0, none⟩) (ws.length + 1) cp']) rfl Try.isAgg53 Try.sizeOf53 rfl (unhide K2) rfl) rfl ⟨some ⟨g', 0, none⟩, cp', by rw [(unhide HN).1, (unhide HN).2, unhide HL], ⟨?_⟩, ?_⟩
      · rw [(unhide HN).2, unhide HL]
        exact ((unhide OU).far (unhide G2) (fun q hq => by simp [Value.ownBlock] at hq; have := unhide HG9; simp; omega)).mono (by have := unhide HWS; omega)
      · exact (unhide BU).grown (unhide G2) (unhide BU).size (fun q hq => by simp at hq; omega)

end Go.Proofs.Ytndhiecakojjgaf
