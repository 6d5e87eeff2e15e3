/-
  What the model's FitWindow answers: the plain answer, in memory of its own, at a plan whose list is not nil and fills its room. At lists of at most 1048576; nothing that was there is written.
-/
import Derived.Test.YtndhiecakojjgbaFtImpl
import Derived.Test.YtndhiecakojjgbaShYes
namespace Go.Proofs.Ytndhiecakojjgba
open Go.RowKit

theorem rowE_take {w : World} {a : Option Addr} {len : Nat} {ps : List Wn} (h : RowE 3 wnC w a len ps) {k : Nat} (hk : k ≤ len) : RowE 3 wnC w a k (ps.take k) := by
  have hl := h.len_eq
  have hs := h.small
  refine ⟨by rw [List.length_take]; omega, by omega, fun i hi => ?_⟩
  obtain ⟨b, off, e, hc⟩ := h.at_ i (by omega)
  refine ⟨b, off, e, fun q hq => ?_⟩
  have e2 : elAt (ps.take k) i = elAt ps i := by unfold elAt; rw [List.getElem?_take, if_pos hi]
  rw [e2]; exact hc q hq
theorem rowE_drop {w : World} {bb len : Nat} {ps : List Wn} (h : RowE 3 wnC w (some ⟨bb, 0, none⟩) len ps) {k : Nat} (hk : k ≤ len) : RowE 3 wnC w (some ⟨bb, k * 3, none⟩) (len - k) (ps.drop k) := by
  have hl := h.len_eq
  have hs := h.small
  refine ⟨by rw [List.length_drop]; omega, by omega, fun i hi => ⟨bb, k * 3, rfl, fun q hq => ?_⟩⟩
  obtain ⟨b, off, e, hc⟩ := h.at_ (k + i) (by omega)
  simp only [Option.some.injEq, Addr.mk.injEq, and_true] at e
  obtain ⟨rfl, rfl⟩ := e
  have e2 : elAt (ps.drop k) i = elAt ps (k + i) := by unfold elAt; rw [List.getElem?_drop]
  have := hc q hq
  rw [e2, ← this]
  congr 2
  omega
theorem own_shapeL {w : World} {base : Nat} {T : TypeId} {v v0 : Value} {ps : List Wn} (h : OwnE 3 wnC w base T v ps) (hn : v = .slice none 0 0 → v0 = .slice none 0 0) (h0 : v0 ≠ .slice none 0 0) : ∃ g cp m, v = .slice (some ⟨g, 0, none⟩) m cp ∧ ps.length = m ∧ base ≤ g := by
  obtain ⟨g, cp, e, hb⟩ := own_shape h hn h0
  exact ⟨g, cp, _, e, rfl, hb⟩
theorem rowE_none {w : World} {a : Option Addr} : RowE 3 wnC w a 0 [] := ⟨rfl, by omega, fun i hi => by omega⟩

set_option maxRecDepth 20000 in
set_option maxHeartbeats 4000000 in
theorem specFitWindow_is (fr pa : Int) (da : Option Addr) (dn dc : Nat) (ws : List Wn) (p lg : Int) (w : World) (hl : dn ≤ 1048576) (hd : ∃ bb, da = some ⟨bb, 0, none⟩) (hcd : dc = dn) (hr : RowE 3 wnC w da dn ws) :
    Calls Try.prog 5 #[.agg #[.int .i64 fr, .int .i64 pa, .slice da dn dc], .int .i64 p, .int .i64 lg] w fun e w' => ∃ (a1 : Option Addr) (c1 : Nat), e = .returned (.tuple #[.agg #[.int .i64 fr, .int .i64 pa, .slice a1 (ftL fr pa ws p lg).length c1], .bool (ftB fr pa ws p lg)]) ∧ PpOwn w' w.heap.size a1 (ftL fr pa ws p lg).length c1 (ftL fr pa ws p lg) ∧ Below w.heap.size w w' := by
  obtain ⟨bb, rfl⟩ := hd
  have hz := hr.len_eq
  subst hcd
  subst hz
  obtain ⟨W, hW⟩ : ∃ W, W = ((w.alloc (Obj.cells #[.int .i64 fr, .int .i64 pa, .slice (some ⟨bb, 0, none⟩) ws.length ws.length] 28)).alloc (Obj.cells #[.int .i64 0, .int .i64 0, .slice none 0 0] 28)).alloc (Obj.cells #[.int .i64 fr, .int .i64 pa, .slice (some ⟨bb, 0, none⟩) ws.length ws.length] 28) := ⟨_, rfl⟩
  have HWS : Hid (W.heap.size = w.heap.size + 3) := hide (by rw [hW]; simp)
  have KP : Hid (Blk W w.heap.size [.int .i64 fr, .int .i64 pa, .slice (some ⟨bb, 0, none⟩) ws.length ws.length]) := hide (by rw [hW]; exact blkAt3_0)
  have KR : Hid (Blk W (w.heap.size + 1) [.int .i64 0, .int .i64 0, .slice none 0 0]) := hide (by rw [hW]; exact blkAt3_1)
  have KF : Hid (Blk W (w.heap.size + 1 + 1) [.int .i64 fr, .int .i64 pa, .slice (some ⟨bb, 0, none⟩) ws.length ws.length]) := hide (by rw [hW]; exact blkAt3_2)
  have B0 : Hid (Below w.heap.size w W) := hide (by rw [hW]; exact (by repeat (first | exact Below.refl _ _ | refine Below.alloc ?_ (by simp; try omega) _ | refine Below.setCell ?_ (by simp; try omega) _ | refine taDr ?_ _)))
  obtain ⟨V, hV⟩ : ∃ V, V = W.alloc (Obj.cells #[] 39) := ⟨_, rfl⟩
  have bV : Below W.heap.size W V := by rw [hV]; exact bel1 _
  have OV : Hid (OwnE 3 wnC V W.heap.size 39 (.slice (some ⟨W.heap.size, 0, none⟩) 0 0) []) := hide (by rw [hV]; exact ownE_none (Nat.le_refl _))
  have RV : Hid (RowE 3 wnC V (some ⟨bb, 0, none⟩) ws.length ws) := hide ((hr.below (unhide B0)).below bV)
  have SV : Hid (W.heap.size ≤ V.heap.size) := hide bV.size
  have KP := hide ((unhide KP).below bV)
  have KR := hide ((unhide KR).below bV)
  have KF := hide ((unhide KF).below bV)
  have B0 := hide ((unhide B0).trans (bV.mono (unhide B0).size))
  have n2 : V.cell? ⟨w.heap.size, 2, none⟩ = some (.slice (some ⟨bb, 0, none⟩) ws.length ws.length) := (unhide KP).c 2 (by simp)
  have HR := hide hr
  have HW := hide hW
  have HV := hide hV
  clear hW hV bV hr
  rw [unhide HV] at n2 OV RV SV KP KR KF B0
  go_enter Try.func5, Try.ntmps5
  go_upto_region 2 with fail
  rw [← unhide HW]
  clear HW
  go_upto_region 3 with (at_builtin; (refine wpList_app_elsM (K := 3) (cells := wnC) (by kernel_rfl) _ _ 26 39 rfl Try.underlying26 infoWn rfl (by decide) (by decide) wnCell1 (unhide OV) rfl (some ⟨bb, 0, none⟩) ws.length ws.length ws rfl (unhide RV) (by simp; omega) (unhide SV) ?_; intro v9 w9 o9 gr9 nn9; obtain ⟨g, cp, rfl, hbg⟩ := own_shape o9 nn9 (by simp); rw [List.nil_append] at o9; have KP9 := hide ((unhide KP).apart gr9 (by simp [Value.ownBlock, unhide HWS])); have KR9 := hide ((unhide KR).apart gr9 (by simp [Value.ownBlock, unhide HWS])); have KF9 := hide ((unhide KF).apart gr9 (by simp [Value.ownBlock, unhide HWS])); have B9 := hide ((unhide B0).grown gr9 (unhide B0).size (fun q hq => by simp [Value.ownBlock] at hq; have := unhide HWS; omega)); have O9 := hide o9; have HG : Hid (w.heap.size + 3 ≤ g) := hide (by have := unhide HWS; omega); have y1 : w9.cell? ⟨w.heap.size + 1 + 1, 2, none⟩ = some (.slice (some ⟨bb, 0, none⟩) ws.length ws.length) := (unhide KF9).c 2 (by simp); have y2 : w9.frozen? ⟨w.heap.size + 1 + 1, 2, none⟩ = false := (unhide KF9).f 2 (by simp); clear o9 gr9 nn9 hbg))
  obtain ⟨F, hF⟩ : ∃ F, w.heap.size + 1 + 1 = F := ⟨_, rfl⟩
  obtain ⟨U, hU⟩ : ∃ U, U = w9.setCell ⟨F, 2, none⟩ (.slice (some ⟨g, 0, none⟩) ws.length cp) := ⟨_, rfl⟩
  rw [hF] at KF9 y1 y2
  have K0 : Hid (Blk U w.heap.size [.int .i64 fr, .int .i64 pa, .slice (some ⟨bb, 0, none⟩) ws.length ws.length]) := hide (by rw [hU]; exact (unhide KP9).other (p := ⟨F, 2, none⟩) (by show F ≠ w.heap.size; omega) _)
  have K1 : Hid (Blk U (w.heap.size + 1) [.int .i64 0, .int .i64 0, .slice none 0 0]) := hide (by rw [hU]; exact (unhide KR9).other (p := ⟨F, 2, none⟩) (by show F ≠ w.heap.size + 1; omega) _)
  have K2 : Hid (Blk U F [.int .i64 fr, .int .i64 pa, .slice (some ⟨g, 0, none⟩) ws.length cp]) := hide (by rw [hU]; exact (unhide KF9).set 2 (by simp) _)
  have OV : Hid (OwnE 3 wnC U W.heap.size 39 (.slice (some ⟨g, 0, none⟩) ws.length cp) ws) := hide (by rw [hU]; exact (unhide O9).set_other _ (by intro e; simp [Value.ownBlock] at e; have := unhide HG; omega))
  have B0 : Hid (Below w.heap.size w U) := hide (by rw [hU]; exact (unhide B9).setCell (p := ⟨F, 2, none⟩) (by show w.heap.size ≤ F; omega) _)
  have HG : Hid (w.heap.size + 2 ≤ g ∧ ¬ g = F ∧ w.heap.size + 2 ≤ F) := hide (by have := unhide HG; omega)
  rw [hF, ← hU]
  have HFE := hide hF
  clear hF hU y1 y2 KP9 KR9 KF9 O9 B9 n2 RV SV KP KR KF
  have HR := hide ((unhide HR).below (unhide B0))
  obtain ⟨ι, fW, _, hb, hall⟩ := belClass U
  have HB := hide hb
  have HA := hide hall
  have c00 : ∀ x, (fW x).cell? ⟨w.heap.size, 0, none⟩ = some (.int .i64 fr) := fun x => ((unhide K0).below (hb x)).c 0 (by simp)
  have c01 : ∀ x, (fW x).cell? ⟨w.heap.size, 1, none⟩ = some (.int .i64 pa) := fun x => ((unhide K0).below (hb x)).c 1 (by simp)
  have c02 : ∀ x, (fW x).cell? ⟨w.heap.size, 2, none⟩ = some (.slice (some ⟨bb, 0, none⟩) ws.length ws.length) := fun x => ((unhide K0).below (hb x)).c 2 (by simp)
  have c10 : ∀ x, (fW x).cell? ⟨w.heap.size + 1, 0, none⟩ = some (.int .i64 0) := fun x => ((unhide K1).below (hb x)).c 0 (by simp)
  have c11 : ∀ x, (fW x).cell? ⟨w.heap.size + 1, 1, none⟩ = some (.int .i64 0) := fun x => ((unhide K1).below (hb x)).c 1 (by simp)
  have c12 : ∀ x, (fW x).cell? ⟨w.heap.size + 1, 2, none⟩ = some (.slice none 0 0) := fun x => ((unhide K1).below (hb x)).c 2 (by simp)
  have c20 : ∀ x, (fW x).cell? ⟨F, 0, none⟩ = some (.int .i64 fr) := fun x => ((unhide K2).below (hb x)).c 0 (by simp)
  have c21 : ∀ x, (fW x).cell? ⟨F, 1, none⟩ = some (.int .i64 pa) := fun x => ((unhide K2).below (hb x)).c 1 (by simp)
  have c22 : ∀ x, (fW x).cell? ⟨F, 2, none⟩ = some (.slice (some ⟨g, 0, none⟩) ws.length cp) := fun x => ((unhide K2).below (hb x)).c 2 (by simp)
  clear hb hall
  have BX : Hid (∀ x, Below w.heap.size w (fW x)) := hide (fun x => (unhide B0).trans ((unhide HB x).mono (unhide B0).size))
  obtain ⟨y0, h0⟩ := (unhide HA) U (Below.refl _ _)
  rw [h0]
  clear h0
  rcases four (ppB fr pa ws) (!decide (ws.length = 40)) (inB p 0 (pa - 1)) (inB lg 1 10000) with ⟨q1, hv⟩ | ⟨q1, q2, hv⟩ | ⟨q1, q2, q3, hv⟩ | ⟨q1, q2, q3, q4, hv⟩ | ⟨q1, q2, q3, q4, hv⟩
  · have HN := hide (ft_no (show ftA fr pa ws p lg = false from hv))
    clear hv
    go_upto_region 4 with (first | (go_at_call 12; refine (belQ (unhide HB) (unhide HA) (specPlanOk_is _ _ _ _ _ ws _ ((unhide HR).below (unhide HB _)) (by exact q1))).mono ?_; rintro e _ ⟨rfl, y, rfl⟩))
    have KRX := hide ((unhide K1).below (unhide HB y))
    have OX := hide ((unhide OV).below (unhide HB y))
    go_wp2_with (((with_reducible show wpList _ _ _ (⟨none, .store 28 _ _, _, _, _, none⟩ :: _) _ _); refine at_storeAgg (us := [.int .i64 0, .int .i64 0, .slice none 0 0]) (vs := [.int .i64 fr, .int .i64 pa, .slice (some ⟨g, 0, none⟩) ws.length cp]) Try.sizeOf28 rfl rfl (unhide KRX) rfl (fun v hv => by simp at hv; rcases hv with rfl | rfl | rfl <;> rfl) ?_; intro w2 k2 g2; have K2 := hide k2; have G2 := hide g2; clear k2 g2))
    refine bodyPost_ret (results_cellB (x := .bool false) (vs := [.int .i64 fr, .int .i64 pa, .slice (some ⟨g, 0, none⟩) ws.length cp]) rfl Try.isAgg28 Try.sizeOf28 rfl (unhide K2) rfl) rfl ⟨some ⟨g, 0, none⟩, cp, by rw [(unhide HN).1, (unhide HN).2], ⟨?_⟩, ?_⟩
    · rw [(unhide HN).2]
      exact ((unhide OX).far (unhide G2) (fun q hq => by simp [Value.ownBlock] at hq; have := unhide HG; simp; omega)).mono (by have := unhide HWS; omega)
    · exact (unhide (hide (unhide BX y))).grown (unhide G2) (unhide (hide (unhide BX y))).size (fun q hq => by simp at hq; omega)
  · have HN := hide (ft_no (show ftA fr pa ws p lg = false from hv))
    clear hv
    have e1 : ws.length = 40 := by simpa using q2
    have e2 : ((ws.length : Int) == 40) = true := by simp only [beq_iff_eq]; omega
    clear q2 e1
    go_upto_region 4 with (first | (go_at_call 12; refine (belQ (unhide HB) (unhide HA) (specPlanOk_is _ _ _ _ _ ws _ ((unhide HR).below (unhide HB _)) (by exact q1))).mono ?_; rintro e _ ⟨rfl, y, rfl⟩))
    have KRX := hide ((unhide K1).below (unhide HB y))
    have OX := hide ((unhide OV).below (unhide HB y))
    go_wp2_with (((with_reducible show wpList _ _ _ (⟨none, .store 28 _ _, _, _, _, none⟩ :: _) _ _); refine at_storeAgg (us := [.int .i64 0, .int .i64 0, .slice none 0 0]) (vs := [.int .i64 fr, .int .i64 pa, .slice (some ⟨g, 0, none⟩) ws.length cp]) Try.sizeOf28 rfl rfl (unhide KRX) rfl (fun v hv => by simp at hv; rcases hv with rfl | rfl | rfl <;> rfl) ?_; intro w2 k2 g2; have K2 := hide k2; have G2 := hide g2; clear k2 g2))
    refine bodyPost_ret (results_cellB (x := .bool false) (vs := [.int .i64 fr, .int .i64 pa, .slice (some ⟨g, 0, none⟩) ws.length cp]) rfl Try.isAgg28 Try.sizeOf28 rfl (unhide K2) rfl) rfl ⟨some ⟨g, 0, none⟩, cp, by rw [(unhide HN).1, (unhide HN).2], ⟨?_⟩, ?_⟩
    · rw [(unhide HN).2]
      exact ((unhide OX).far (unhide G2) (fun q hq => by simp [Value.ownBlock] at hq; have := unhide HG; simp; omega)).mono (by have := unhide HWS; omega)
    · exact (unhide (hide (unhide BX y))).grown (unhide G2) (unhide (hide (unhide BX y))).size (fun q hq => by simp at hq; omega)
  · have HN := hide (ft_no (show ftA fr pa ws p lg = false from hv))
    clear hv
    have e1 : ¬ ws.length = 40 := by simpa using q2
    have e2 : ((ws.length : Int) == 40) = false := by simp only [beq_eq_false_iff_ne, ne_eq]; omega
    clear q2
    have f2 := (ppB_facts q1).2.1
    go_upto_region 4 with (first | (go_at_call 12; refine (belQ (unhide HB) (unhide HA) (specPlanOk_is _ _ _ _ _ ws _ ((unhide HR).below (unhide HB _)) (by exact q1))).mono ?_; rintro e _ ⟨rfl, y, rfl⟩) | (go_at_call 13; refine (belS (l1In_is _ _ _ _ (by exact q3))).mono ?_; rintro e _ ⟨rfl, y, rfl⟩))
    have KRX := hide ((unhide K1).below (unhide HB y))
    have OX := hide ((unhide OV).below (unhide HB y))
    go_wp2_with (((with_reducible show wpList _ _ _ (⟨none, .store 28 _ _, _, _, _, none⟩ :: _) _ _); refine at_storeAgg (us := [.int .i64 0, .int .i64 0, .slice none 0 0]) (vs := [.int .i64 fr, .int .i64 pa, .slice (some ⟨g, 0, none⟩) ws.length cp]) Try.sizeOf28 rfl rfl (unhide KRX) rfl (fun v hv => by simp at hv; rcases hv with rfl | rfl | rfl <;> rfl) ?_; intro w2 k2 g2; have K2 := hide k2; have G2 := hide g2; clear k2 g2))
    refine bodyPost_ret (results_cellB (x := .bool false) (vs := [.int .i64 fr, .int .i64 pa, .slice (some ⟨g, 0, none⟩) ws.length cp]) rfl Try.isAgg28 Try.sizeOf28 rfl (unhide K2) rfl) rfl ⟨some ⟨g, 0, none⟩, cp, by rw [(unhide HN).1, (unhide HN).2], ⟨?_⟩, ?_⟩
    · rw [(unhide HN).2]
      exact ((unhide OX).far (unhide G2) (fun q hq => by simp [Value.ownBlock] at hq; have := unhide HG; simp; omega)).mono (by have := unhide HWS; omega)
    · exact (unhide (hide (unhide BX y))).grown (unhide G2) (unhide (hide (unhide BX y))).size (fun q hq => by simp at hq; omega)
  · have HN := hide (ft_no (show ftA fr pa ws p lg = false from hv))
    clear hv
    have e1 : ¬ ws.length = 40 := by simpa using q2
    have e2 : ((ws.length : Int) == 40) = false := by simp only [beq_eq_false_iff_ne, ne_eq]; omega
    clear q2
    have f2 := (ppB_facts q1).2.1
    go_upto_region 4 with (first | (go_at_call 12; refine (belQ (unhide HB) (unhide HA) (specPlanOk_is _ _ _ _ _ ws _ ((unhide HR).below (unhide HB _)) (by exact q1))).mono ?_; rintro e _ ⟨rfl, y, rfl⟩) | (go_at_call 13; refine (belS (l1In_is _ _ _ _ (by first | exact q3 | exact q4))).mono ?_; rintro e _ ⟨rfl, y, rfl⟩))
    have KRX := hide ((unhide K1).below (unhide HB y))
    have OX := hide ((unhide OV).below (unhide HB y))
    go_wp2_with (((with_reducible show wpList _ _ _ (⟨none, .store 28 _ _, _, _, _, none⟩ :: _) _ _); refine at_storeAgg (us := [.int .i64 0, .int .i64 0, .slice none 0 0]) (vs := [.int .i64 fr, .int .i64 pa, .slice (some ⟨g, 0, none⟩) ws.length cp]) Try.sizeOf28 rfl rfl (unhide KRX) rfl (fun v hv => by simp at hv; rcases hv with rfl | rfl | rfl <;> rfl) ?_; intro w2 k2 g2; have K2 := hide k2; have G2 := hide g2; clear k2 g2))
    refine bodyPost_ret (results_cellB (x := .bool false) (vs := [.int .i64 fr, .int .i64 pa, .slice (some ⟨g, 0, none⟩) ws.length cp]) rfl Try.isAgg28 Try.sizeOf28 rfl (unhide K2) rfl) rfl ⟨some ⟨g, 0, none⟩, cp, by rw [(unhide HN).1, (unhide HN).2], ⟨?_⟩, ?_⟩
    · rw [(unhide HN).2]
      exact ((unhide OX).far (unhide G2) (fun q hq => by simp [Value.ownBlock] at hq; have := unhide HG; simp; omega)).mono (by have := unhide HWS; omega)
    · exact (unhide (hide (unhide BX y))).grown (unhide G2) (unhide (hide (unhide BX y))).size (fun q hq => by simp at hq; omega)
  · have HA4 := hide (show ftA fr pa ws p lg = true from hv)
    clear hv
    have e1 : ¬ ws.length = 40 := by simpa using q2
    have e2 : ((ws.length : Int) == 40) = false := by simp only [beq_eq_false_iff_ne, ne_eq]; omega
    clear q2
    have f0 := ppB_facts q1
    have f1 := f0.1
    have f2 := f0.2.1
    have l1 := f0.2.2.1
    have f4 := in_facts q4
    have HPP := hide q1
    clear f0
    go_upto_region 6 with (first | (go_at_call 12; refine (belQ (unhide HB) (unhide HA) (specPlanOk_is _ _ _ _ _ ws _ ((unhide HR).below (unhide HB _)) (by exact q1))).mono ?_; rintro e _ ⟨rfl, y, rfl⟩) | (go_at_call 13; refine (belS (l1In_is _ _ _ _ (by first | exact q3 | exact q4))).mono ?_; rintro e _ ⟨rfl, y, rfl⟩))
    go_wp2_with fail
    go_loopw [9, 10] (fun s9 s10 v => ∃ (k : Nat) (E : Int) (x : ι), k ≤ ws.length + 1 ∧ s9 = .int .i64 E ∧ s10 = .int .i64 (k : Int) ∧ (0 ≤ E ∧ E ≤ 100000) ∧ Hid (k ≤ ws.length → pwE ws k = E) ∧ Hid (∀ j, j < k → ftG fr ws lg j = false) ∧ v = fW x) (fun _ s10 _ => ws.length + 1 - (intOf s10).toNat)
    case atStart => exact ⟨0, 0, _, Nat.zero_le _, rfl, rfl, by omega, hide (fun _ => rfl), hide (fun j hj => by omega), rfl⟩
    case round =>
      obtain ⟨k, E, x, hk1, rfl, rfl, hE, HPE0, HJ, rfl⟩ := hrel
      by_cases hk : k ≤ ws.length
      · have HPE := hide (unhide HPE0 hk)
        clear HPE0
        have k0 : (0 : Int) ≤ (k : Int) := by omega
        have k3 : (k : Int) ≤ (ws.length : Int) := by omega
        by_cases hlt : k < ws.length
        · have hall := ppB_all (unhide HPP) hlt
          have k1 : (k : Int) < (ws.length : Int) := by omega
          have hnk : ¬ ws.length = k := by omega
          rcases ((unhide HR).below (unhide HB x)).wn3 with ⟨z0, _⟩ | ⟨bb2, off, e3, _, hcs⟩
          · omega
          simp only [Option.some.injEq, Addr.mk.injEq, and_true] at e3
          obtain ⟨rfl, rfl⟩ := e3
          obtain ⟨x1, hx1⟩ : ∃ z, (elAt ws k).a1 = z := ⟨_, rfl⟩
          obtain ⟨x2, hx2⟩ : ∃ z, (elAt ws k).a2 = z := ⟨_, rfl⟩
          have m1 := (hcs k hlt).2.1
          have m2 := (hcs k hlt).2.2
          rw [hx1, Nat.zero_add] at m1
          rw [hx2, Nat.zero_add] at m2
          rw [hx1, hx2] at hall
          have HX1 := hide hx1
          have HX2 := hide hx2
          clear hcs hx1 hx2
          by_cases q : E + lg ≤ x1
          · have qd : decide (E + lg ≤ x1) = true := decide_eq_true q
            have HC := hide (ft_at (unhide HA4) hk (ftK_at hk (by rw [ftG, unhide HPE, ftN, if_pos hlt, unhide HX1]; exact decide_eq_true (by omega)) (unhide HJ)))
            rw [unhide HPE, insL_is] at HC
            obtain ⟨Y, hY⟩ : ∃ Y, Y = (fW x).alloc (Obj.cells #[.int .i64 p, .int .i64 E, .int .i64 lg] 39) := ⟨_, rfl⟩
            have bY : Below (fW x).heap.size (fW x) Y := by rw [hY]; exact bel1 _
            have OY : Hid (OwnE 3 wnC Y (fW x).heap.size 39 (.slice (some ⟨(fW x).heap.size, 0, none⟩) 1 1) [⟨p, E, lg⟩]) := hide (by rw [hY]; exact ownE_one [.int .i64 p, .int .i64 E, .int .i64 lg] rfl (fun q hq => by match q, hq with | 0, _ => rfl | 1, _ => rfl | 2, _ => rfl) (Nat.le_refl _))
            have RY : Hid (RowE 3 wnC Y (some ⟨bb, k * 3, none⟩) (ws.length - k) (ws.drop k)) := hide (rowE_drop (((unhide HR).below (unhide HB x)).below bY) hk)
            have SY : Hid ((fW x).heap.size ≤ Y.heap.size) := hide bY.size
            have BY : Hid (Below (fW x).heap.size (fW x) Y) := hide bY
            have n2 : Y.cell? ⟨w.heap.size, 2, none⟩ = some (.slice (some ⟨bb, 0, none⟩) ws.length ws.length) := (((unhide K0).below (unhide HB x)).below bY).c 2 (by simp)
            have HY := hide hY
            clear hY bY
            rw [unhide HY] at n2 OY RY SY BY
            go_upto_region 14 with (at_builtin; (refine wpList_app_elsM (K := 3) (cells := wnC) (by kernel_rfl) _ _ 26 39 rfl Try.underlying26 infoWn rfl (by decide) (by decide) wnCell1 (unhide OY) rfl (some ⟨bb, k * 3, none⟩) (ws.length - k) (ws.length - k) (ws.drop k) rfl (unhide RY) (by simp <;> omega) (unhide SY) ?_; intro v10 w10 o10 gr10 nn10; obtain ⟨g10, c10, m10, rfl, hm10, hb10⟩ := own_shapeL o10 nn10 (by simp); have B10 : Hid (Below (fW x).heap.size (fW x) w10) := hide ((unhide BY).grown gr10 (unhide BY).size (fun q hq => by simp [Value.ownBlock] at hq; omega)); have O10 := hide o10; have HM10 := hide hm10; clear o10 gr10 nn10 hb10 hm10))
            clear n2 OY RY SY BY HY
            obtain ⟨Z, hZ⟩ : ∃ Z, Z = w10.alloc (Obj.cells #[] 39) := ⟨_, rfl⟩
            have bZ : Below w10.heap.size w10 Z := by rw [hZ]; exact bel1 _
            have BZ : Hid (Below (fW x).heap.size (fW x) Z) := hide ((unhide B10).trans (bZ.mono (unhide B10).size))
            have OZ : Hid (OwnE 3 wnC Z w10.heap.size 39 (.slice (some ⟨w10.heap.size, 0, none⟩) 0 0) []) := hide (by rw [hZ]; exact ownE_none (Nat.le_refl _))
            have RZ : Hid (RowE 3 wnC Z (some ⟨bb, 0, none⟩) k (ws.take k)) := hide (rowE_take ((((unhide HR).below (unhide HB x)).below (unhide BZ))) hk)
            have TZ : Hid (OwnE 3 wnC Z (fW x).heap.size 39 (.slice (some ⟨g10, 0, none⟩) m10 c10) ([⟨p, E, lg⟩] ++ ws.drop k)) := hide ((unhide O10).below bZ)
            have SZ : Hid (w10.heap.size ≤ Z.heap.size) := hide bZ.size
            have S10 : Hid ((fW x).heap.size ≤ w10.heap.size) := hide (unhide B10).size
            have LZ : Hid (g10 < w10.heap.size) := hide ((unhide O10).lies g10 rfl).2
            have n2 : Z.cell? ⟨w.heap.size, 2, none⟩ = some (.slice (some ⟨bb, 0, none⟩) ws.length ws.length) := (((unhide K0).below (unhide HB x)).below (unhide BZ)).c 2 (by simp)
            have HZ := hide hZ
            have h40 : m10 ≤ 41 := by rw [← unhide HM10, List.length_append, List.length_drop, List.length_singleton]; omega
            clear hZ bZ
            rw [unhide HZ] at n2 OZ RZ SZ BZ TZ
            have hLF : F < (fW x).heap.size := ((unhide K2).below (unhide HB x)).lt
            have HLF := hide hLF
            clear hLF
            go_upto_region 15 with (first
              | (at_builtin; (refine wpList_app_elsM (K := 3) (cells := wnC) (by kernel_rfl) _ _ 26 39 rfl Try.underlying26 infoWn rfl (by decide) (by decide) wnCell1 (unhide OZ) rfl (some ⟨bb, 0, none⟩) (k) (ws.length) (ws.take k) rfl (unhide RZ) (by simp <;> omega) (unhide SZ) ?_; intro v11 w11 o11 gr11 nn11; obtain ⟨g11, c11, m11, rfl, hm11, hb11⟩ := own_shapeL o11 nn11 (by simp); rw [List.nil_append] at o11 hm11; have B11 : Hid (Below (fW x).heap.size (fW x) w11) := hide ((unhide BZ).grown gr11 (unhide BZ).size (fun q hq => by simp [Value.ownBlock] at hq; have := unhide S10; omega)); have T11 := hide ((unhide TZ).far gr11 (fun q hq => by simp [Value.ownBlock] at hq; have := unhide LZ; simp [Value.ownBlock]; omega)).row; have S11 : Hid (w10.heap.size ≤ w11.heap.size) := hide (Nat.le_trans (unhide SZ) gr11.size); have HB11 := hide hb11; have O11 := hide o11; have h41 : (ws.take k).length ≤ 40 := (by rw [List.length_take]; omega); clear o11 gr11 nn11 hb11 hm11))
              | (at_builtin; (refine wpList_app_elsM (K := 3) (cells := wnC) (by kernel_rfl) _ _ 26 39 rfl Try.underlying26 infoWn rfl (by decide) (by decide) wnCell1 (unhide O11) rfl (some ⟨g10, 0, none⟩) (m10) (c10) ([⟨p, E, lg⟩] ++ ws.drop k) rfl (unhide T11) (by simp <;> omega) (unhide S11) ?_; intro v12 w12 o12 gr12 nn12; obtain ⟨g12, c12, m12, rfl, hm12, hb12⟩ := own_shapeL o12 nn12 (by simp); have B12 : Hid (Below (fW x).heap.size (fW x) w12) := hide ((unhide B11).grown gr12 (unhide B11).size (fun q hq => by simp [Value.ownBlock] at hq; have := unhide HB11; have := unhide S10; omega)); have HB12 := hide hb12; have O12 := hide o12; have HM12 := hide hm12; have KF12 := hide (((unhide K2).below (unhide HB x)).below (unhide B12)); have y1 : w12.cell? ⟨F, 2, none⟩ = some (.slice (some ⟨g, 0, none⟩) ws.length cp) := (unhide KF12).c 2 (by simp); have y2 : w12.frozen? ⟨F, 2, none⟩ = false := (unhide KF12).f 2 (by simp); clear o12 gr12 nn12 hb12 hm12)))
            have KR12 := hide (((unhide K1).below (unhide HB x)).below (unhide B12))
            have BW12 := hide ((unhide BX x).trans ((unhide B12).mono (unhide BX x).size))
            have HG9 : Hid (w.heap.size + 2 ≤ g12 ∧ ¬ g12 = F) := hide (by have := unhide HB12; have := unhide S10; have := unhide HLF; have := unhide HG; omega)
            obtain ⟨U2, hU⟩ : ∃ U, U = w12.setCell ⟨F, 2, none⟩ (.slice (some ⟨g12, 0, none⟩) m12 c12) := ⟨_, rfl⟩
            have KFU : Hid (Blk U2 F [.int .i64 fr, .int .i64 pa, .slice (some ⟨g12, 0, none⟩) m12 c12]) := hide (by rw [hU]; exact (unhide KF12).set 2 (by simp) _)
            have KRU : Hid (Blk U2 (w.heap.size + 1) [.int .i64 0, .int .i64 0, .slice none 0 0]) := hide (by rw [hU]; exact (unhide KR12).other (p := ⟨F, 2, none⟩) (by have := unhide HG; show F ≠ w.heap.size + 1; omega) _)
            have OU : Hid (OwnE 3 wnC U2 w10.heap.size 39 (.slice (some ⟨g12, 0, none⟩) m12 c12) (insL ws k ⟨p, E, lg⟩)) := hide (by rw [hU]; exact (unhide O12).set_other _ (by intro e; simp [Value.ownBlock] at e; exact (unhide HG9).2 e))
            have BU : Hid (Below w.heap.size w U2) := hide (by rw [hU]; exact (unhide BW12).setCell (p := ⟨F, 2, none⟩) (by have := unhide HG; show w.heap.size ≤ F; omega) _)
            rw [← hU]
            clear hU y1 y2 n2
            have p0 : U2.cell? ⟨F, 0, none⟩ = some (.int .i64 fr) := (unhide KFU).c 0 (by simp)
            have p1 : U2.cell? ⟨F, 1, none⟩ = some (.int .i64 pa) := (unhide KFU).c 1 (by simp)
            have p2 : U2.cell? ⟨F, 2, none⟩ = some (.slice (some ⟨g12, 0, none⟩) m12 c12) := (unhide KFU).c 2 (by simp)
            have HL : Hid ((insL ws k ⟨p, E, lg⟩).length = m12) := HM12
            have HWS : Hid (w10.heap.size = w.heap.size + (w10.heap.size - w.heap.size)) := hide (by have := unhide S10; have := (unhide BX x).size; omega)
            go_wp2_with (((with_reducible show wpList _ _ _ (⟨none, .store 28 _ _, _, _, _, none⟩ :: _) _ _); refine at_storeAgg (us := [.int .i64 0, .int .i64 0, .slice none 0 0]) (vs := [.int .i64 fr, .int .i64 pa, .slice (some ⟨g12, 0, none⟩) m12 c12]) Try.sizeOf28 rfl rfl (unhide KRU) rfl (fun v hv => by simp at hv; rcases hv with rfl | rfl | rfl <;> rfl) ?_; intro w2 k2 g2; have K2 := hide k2; have G2 := hide g2; clear k2 g2))
            refine bodyPost_ret (results_cellB (x := .bool true) (vs := [.int .i64 fr, .int .i64 pa, .slice (some ⟨g12, 0, none⟩) m12 c12]) rfl Try.isAgg28 Try.sizeOf28 rfl (unhide K2) rfl) rfl ⟨some ⟨g12, 0, none⟩, c12, by rw [(unhide HC).1, (unhide HC).2, unhide HL], ⟨?_⟩, ?_⟩
            · rw [(unhide HC).2, unhide HL]
              exact ((unhide OU).far (unhide G2) (fun q hq => by simp [Value.ownBlock] at hq; have := unhide HG9; simp; omega)).mono (by have := unhide HWS; omega)
            · exact (unhide BU).grown (unhide G2) (unhide BU).size (fun q hq => by simp at hq; omega)
          · have qd : decide (E + lg ≤ x1) = false := decide_eq_false q
            go_upto_region 17 with fail
            go_quiet (fail)
            go_wp2_with fail
            go_roundw
            case rel =>
              obtain ⟨z, hz⟩ := unhide HA _ ((unhide HB x).trans (bel0d' _))
              exact ⟨k + 1, x1 + x2, z, by omega, rfl, by go_num, by omega, hide (fun _ => by show (elAt ws k).a1 + (elAt ws k).a2 = _; rw [unhide HX1, unhide HX2]), hide (fun j hj => by rcases Nat.lt_succ_iff_lt_or_eq.1 hj with h | h; exact unhide HJ j h; subst h; rw [ftG, unhide HPE, ftN, if_pos hlt, unhide HX1]; exact qd), hz⟩
            case measure => simp [intOf]; omega
        · have hkl : k = ws.length := by omega
          subst hkl
          have k1 : ¬ (ws.length : Int) < (ws.length : Int) := by omega
          by_cases q : E + lg ≤ fr
          · have qd : decide (E + lg ≤ fr) = true := decide_eq_true q
            have HC := hide (ft_at (unhide HA4) hk (ftK_at hk (by rw [ftG, unhide HPE, ftN, if_neg (by omega)]; exact decide_eq_true (by omega)) (unhide HJ)))
            rw [unhide HPE, insL_is] at HC
            obtain ⟨Y, hY⟩ : ∃ Y, Y = (fW x).alloc (Obj.cells #[.int .i64 p, .int .i64 E, .int .i64 lg] 39) := ⟨_, rfl⟩
            have bY : Below (fW x).heap.size (fW x) Y := by rw [hY]; exact bel1 _
            have OY : Hid (OwnE 3 wnC Y (fW x).heap.size 39 (.slice (some ⟨(fW x).heap.size, 0, none⟩) 1 1) [⟨p, E, lg⟩]) := hide (by rw [hY]; exact ownE_one [.int .i64 p, .int .i64 E, .int .i64 lg] rfl (fun q hq => by match q, hq with | 0, _ => rfl | 1, _ => rfl | 2, _ => rfl) (Nat.le_refl _))
            have RY : Hid (RowE 3 wnC Y (some ⟨bb, 0, none⟩) (0) (ws.drop ws.length)) := hide (by rw [List.drop_length]; exact rowE_none)
            have SY : Hid ((fW x).heap.size ≤ Y.heap.size) := hide bY.size
            have BY : Hid (Below (fW x).heap.size (fW x) Y) := hide bY
            have n2 : Y.cell? ⟨w.heap.size, 2, none⟩ = some (.slice (some ⟨bb, 0, none⟩) ws.length ws.length) := (((unhide K0).below (unhide HB x)).below bY).c 2 (by simp)
            have HY := hide hY
            clear hY bY
            rw [unhide HY] at n2 OY RY SY BY
            go_upto_region 14 with (at_builtin; (refine wpList_app_elsM (K := 3) (cells := wnC) (by kernel_rfl) _ _ 26 39 rfl Try.underlying26 infoWn rfl (by decide) (by decide) wnCell1 (unhide OY) rfl (some ⟨bb, 0, none⟩) (0) (0) (ws.drop ws.length) rfl (unhide RY) (by simp <;> omega) (unhide SY) ?_; intro v10 w10 o10 gr10 nn10; obtain ⟨g10, c10, m10, rfl, hm10, hb10⟩ := own_shapeL o10 nn10 (by simp); have B10 : Hid (Below (fW x).heap.size (fW x) w10) := hide ((unhide BY).grown gr10 (unhide BY).size (fun q hq => by simp [Value.ownBlock] at hq; omega)); have O10 := hide o10; have HM10 := hide hm10; clear o10 gr10 nn10 hb10 hm10))
            clear n2 OY RY SY BY HY
            obtain ⟨Z, hZ⟩ : ∃ Z, Z = w10.alloc (Obj.cells #[] 39) := ⟨_, rfl⟩
            have bZ : Below w10.heap.size w10 Z := by rw [hZ]; exact bel1 _
            have BZ : Hid (Below (fW x).heap.size (fW x) Z) := hide ((unhide B10).trans (bZ.mono (unhide B10).size))
            have OZ : Hid (OwnE 3 wnC Z w10.heap.size 39 (.slice (some ⟨w10.heap.size, 0, none⟩) 0 0) []) := hide (by rw [hZ]; exact ownE_none (Nat.le_refl _))
            have RZ : Hid (RowE 3 wnC Z (some ⟨bb, 0, none⟩) ws.length (ws.take ws.length)) := hide (rowE_take ((((unhide HR).below (unhide HB x)).below (unhide BZ))) hk)
            have TZ : Hid (OwnE 3 wnC Z (fW x).heap.size 39 (.slice (some ⟨g10, 0, none⟩) m10 c10) ([⟨p, E, lg⟩] ++ ws.drop ws.length)) := hide ((unhide O10).below bZ)
            have SZ : Hid (w10.heap.size ≤ Z.heap.size) := hide bZ.size
            have S10 : Hid ((fW x).heap.size ≤ w10.heap.size) := hide (unhide B10).size
            have LZ : Hid (g10 < w10.heap.size) := hide ((unhide O10).lies g10 rfl).2
            have n2 : Z.cell? ⟨w.heap.size, 2, none⟩ = some (.slice (some ⟨bb, 0, none⟩) ws.length ws.length) := (((unhide K0).below (unhide HB x)).below (unhide BZ)).c 2 (by simp)
            have HZ := hide hZ
            have h40 : m10 ≤ 41 := by rw [← unhide HM10, List.length_append, List.length_drop, List.length_singleton]; omega
            clear hZ bZ
            rw [unhide HZ] at n2 OZ RZ SZ BZ TZ
            have hLF : F < (fW x).heap.size := ((unhide K2).below (unhide HB x)).lt
            have HLF := hide hLF
            clear hLF
            go_upto_region 15 with (first
              | (at_builtin; (refine wpList_app_elsM (K := 3) (cells := wnC) (by kernel_rfl) _ _ 26 39 rfl Try.underlying26 infoWn rfl (by decide) (by decide) wnCell1 (unhide OZ) rfl (some ⟨bb, 0, none⟩) (ws.length) (ws.length) (ws.take ws.length) rfl (unhide RZ) (by simp <;> omega) (unhide SZ) ?_; intro v11 w11 o11 gr11 nn11; obtain ⟨g11, c11, m11, rfl, hm11, hb11⟩ := own_shapeL o11 nn11 (by simp); rw [List.nil_append] at o11 hm11; have B11 : Hid (Below (fW x).heap.size (fW x) w11) := hide ((unhide BZ).grown gr11 (unhide BZ).size (fun q hq => by simp [Value.ownBlock] at hq; have := unhide S10; omega)); have T11 := hide ((unhide TZ).far gr11 (fun q hq => by simp [Value.ownBlock] at hq; have := unhide LZ; simp [Value.ownBlock]; omega)).row; have S11 : Hid (w10.heap.size ≤ w11.heap.size) := hide (Nat.le_trans (unhide SZ) gr11.size); have HB11 := hide hb11; have O11 := hide o11; have h41 : (ws.take ws.length).length ≤ 40 := (by rw [List.length_take]; omega); clear o11 gr11 nn11 hb11 hm11))
              | (at_builtin; (refine wpList_app_elsM (K := 3) (cells := wnC) (by kernel_rfl) _ _ 26 39 rfl Try.underlying26 infoWn rfl (by decide) (by decide) wnCell1 (unhide O11) rfl (some ⟨g10, 0, none⟩) (m10) (c10) ([⟨p, E, lg⟩] ++ ws.drop ws.length) rfl (unhide T11) (by simp <;> omega) (unhide S11) ?_; intro v12 w12 o12 gr12 nn12; obtain ⟨g12, c12, m12, rfl, hm12, hb12⟩ := own_shapeL o12 nn12 (by simp); have B12 : Hid (Below (fW x).heap.size (fW x) w12) := hide ((unhide B11).grown gr12 (unhide B11).size (fun q hq => by simp [Value.ownBlock] at hq; have := unhide HB11; have := unhide S10; omega)); have HB12 := hide hb12; have O12 := hide o12; have HM12 := hide hm12; have KF12 := hide (((unhide K2).below (unhide HB x)).below (unhide B12)); have y1 : w12.cell? ⟨F, 2, none⟩ = some (.slice (some ⟨g, 0, none⟩) ws.length cp) := (unhide KF12).c 2 (by simp); have y2 : w12.frozen? ⟨F, 2, none⟩ = false := (unhide KF12).f 2 (by simp); clear o12 gr12 nn12 hb12 hm12)))
            have KR12 := hide (((unhide K1).below (unhide HB x)).below (unhide B12))
            have BW12 := hide ((unhide BX x).trans ((unhide B12).mono (unhide BX x).size))
            have HG9 : Hid (w.heap.size + 2 ≤ g12 ∧ ¬ g12 = F) := hide (by have := unhide HB12; have := unhide S10; have := unhide HLF; have := unhide HG; omega)
            obtain ⟨U2, hU⟩ : ∃ U, U = w12.setCell ⟨F, 2, none⟩ (.slice (some ⟨g12, 0, none⟩) m12 c12) := ⟨_, rfl⟩
            have KFU : Hid (Blk U2 F [.int .i64 fr, .int .i64 pa, .slice (some ⟨g12, 0, none⟩) m12 c12]) := hide (by rw [hU]; exact (unhide KF12).set 2 (by simp) _)
            have KRU : Hid (Blk U2 (w.heap.size + 1) [.int .i64 0, .int .i64 0, .slice none 0 0]) := hide (by rw [hU]; exact (unhide KR12).other (p := ⟨F, 2, none⟩) (by have := unhide HG; show F ≠ w.heap.size + 1; omega) _)
            have OU : Hid (OwnE 3 wnC U2 w10.heap.size 39 (.slice (some ⟨g12, 0, none⟩) m12 c12) (insL ws ws.length ⟨p, E, lg⟩)) := hide (by rw [hU]; exact (unhide O12).set_other _ (by intro e; simp [Value.ownBlock] at e; exact (unhide HG9).2 e))
            have BU : Hid (Below w.heap.size w U2) := hide (by rw [hU]; exact (unhide BW12).setCell (p := ⟨F, 2, none⟩) (by have := unhide HG; show w.heap.size ≤ F; omega) _)
            rw [← hU]
            clear hU y1 y2 n2
            have p0 : U2.cell? ⟨F, 0, none⟩ = some (.int .i64 fr) := (unhide KFU).c 0 (by simp)
            have p1 : U2.cell? ⟨F, 1, none⟩ = some (.int .i64 pa) := (unhide KFU).c 1 (by simp)
            have p2 : U2.cell? ⟨F, 2, none⟩ = some (.slice (some ⟨g12, 0, none⟩) m12 c12) := (unhide KFU).c 2 (by simp)
            have HL : Hid ((insL ws ws.length ⟨p, E, lg⟩).length = m12) := HM12
            have HWS : Hid (w10.heap.size = w.heap.size + (w10.heap.size - w.heap.size)) := hide (by have := unhide S10; have := (unhide BX x).size; omega)
            go_wp2_with (((with_reducible show wpList _ _ _ (⟨none, .store 28 _ _, _, _, _, none⟩ :: _) _ _); refine at_storeAgg (us := [.int .i64 0, .int .i64 0, .slice none 0 0]) (vs := [.int .i64 fr, .int .i64 pa, .slice (some ⟨g12, 0, none⟩) m12 c12]) Try.sizeOf28 rfl rfl (unhide KRU) rfl (fun v hv => by simp at hv; rcases hv with rfl | rfl | rfl <;> rfl) ?_; intro w2 k2 g2; have K2 := hide k2; have G2 := hide g2; clear k2 g2))
            refine bodyPost_ret (results_cellB (x := .bool true) (vs := [.int .i64 fr, .int .i64 pa, .slice (some ⟨g12, 0, none⟩) m12 c12]) rfl Try.isAgg28 Try.sizeOf28 rfl (unhide K2) rfl) rfl ⟨some ⟨g12, 0, none⟩, c12, by rw [(unhide HC).1, (unhide HC).2, unhide HL], ⟨?_⟩, ?_⟩
            · rw [(unhide HC).2, unhide HL]
              exact ((unhide OU).far (unhide G2) (fun q hq => by simp [Value.ownBlock] at hq; have := unhide HG9; simp; omega)).mono (by have := unhide HWS; omega)
            · exact (unhide BU).grown (unhide G2) (unhide BU).size (fun q hq => by simp at hq; omega)
          · have qd : decide (E + lg ≤ fr) = false := decide_eq_false q
            go_wp2_with fail
            go_roundw
            case rel => exact ⟨ws.length + 1, E, x, by omega, rfl, by go_num, by omega, hide (fun h => by omega), hide (fun j hj => by rcases Nat.lt_succ_iff_lt_or_eq.1 hj with h | h; exact unhide HJ j h; subst h; rw [ftG, unhide HPE, ftN, if_neg (by omega)]; exact qd), rfl⟩
            case measure => simp [intOf]
      · have k3 : ¬ (k : Int) ≤ (ws.length : Int) := by omega
        have HN := hide (ft_none (pa := pa) (p := p) (ftK_none (fr := fr) (lg := lg) (ws := ws) (fun j hj => unhide HJ j (by omega))))
        have KRX := hide ((unhide K1).below (unhide HB x))
        have OX := hide ((unhide OV).below (unhide HB x))
        go_wp2_with (((with_reducible show wpList _ _ _ (⟨none, .store 28 _ _, _, _, _, none⟩ :: _) _ _); refine at_storeAgg (us := [.int .i64 0, .int .i64 0, .slice none 0 0]) (vs := [.int .i64 fr, .int .i64 pa, .slice (some ⟨g, 0, none⟩) ws.length cp]) Try.sizeOf28 rfl rfl (unhide KRX) rfl (fun v hv => by simp at hv; rcases hv with rfl | rfl | rfl <;> rfl) ?_; intro w2 k2 g2; have K2 := hide k2; have G2 := hide g2; clear k2 g2))
        refine bodyPost_ret (results_cellB (x := .bool false) (vs := [.int .i64 fr, .int .i64 pa, .slice (some ⟨g, 0, none⟩) ws.length cp]) rfl Try.isAgg28 Try.sizeOf28 rfl (unhide K2) rfl) rfl ⟨some ⟨g, 0, none⟩, cp, by rw [(unhide HN).1, (unhide HN).2], ⟨?_⟩, ?_⟩
        · rw [(unhide HN).2]
          exact ((unhide OX).far (unhide G2) (fun q hq => by simp [Value.ownBlock] at hq; have := unhide HG; simp; omega)).mono (by have := unhide HWS; omega)
        · exact (unhide (hide (unhide BX x))).grown (unhide G2) (unhide (hide (unhide BX x))).size (fun q hq => by simp at hq; omega)

end Go.Proofs.Ytndhiecakojjgba
