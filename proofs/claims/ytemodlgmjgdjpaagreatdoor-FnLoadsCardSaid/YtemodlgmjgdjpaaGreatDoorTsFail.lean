/-
  What the model's Take18 answers: the plain answer, in memory of its own; nothing that was there is written. At lists of at most 1048576.
-/
import Derived.Test.YtemodlgmjgdjpaaGreatDoorTsPure
import Derived.Test.YtemodlgmjgdjpaaGreatDoorMCpSpc
import Derived.Test.YtemodlgmjgdjpaaGreatDoorAbSpec
namespace Go.Proofs.YtemodlgmjgdjpaaGreatDoor
open Go Go.RowKit

set_option maxRecDepth 20000 in
set_option maxHeartbeats 16000000 in
theorem specTake18_fail (s : Int) (a1 : Option Addr) (l1 c1 : Nat) (zs : List Lc) (x : Lx) (sl : Int) (w : World) (hr : AbIn w a1 l1 zs) (hlz : LzB zs) (hin : LxIn w x) (_hdn : x.d.n ≤ 1048576) (hne : tkC s zs (lxW x) sl ≠ 0) :
    Calls Tryz.prog 17 #[.agg #[.int .i64 s, .slice a1 l1 c1], .agg #[.string x.p, .int .i64 x.nb, .int .i64 x.le, .int .i64 x.mo, .int .i64 x.ne, .slice x.d.a x.d.n x.d.c], .int .i64 sl] w fun e w' => ∃ a9 c9, e = .returned (.tuple #[.agg #[.int .i64 s, .slice a9 (tkL s zs (lxW x) sl).length c9], .int .i64 (tkC s zs (lxW x) sl)]) ∧ AbOwn w' w.heap.size a9 (tkL s zs (lxW x) sl).length c9 (tkL s zs (lxW x) sl) ∧ Below w.heap.size w w' := by
  have HNE := hide hne
  clear hne
  have HT := hide hr.r1
  have HZL := hide hr.r1.len_eq
  have hsm := hr.r1.small
  have HLZ := hide hlz
  have HIN := hide hin
  obtain ⟨ls, e, hl⟩ := hr.r1.ex
  have HE := hide e
  have HO := hide hl.row.six
  have HLL := hide hl.row.len_eq
  clear hr hlz hin e hl
  obtain ⟨W, hW⟩ : ∃ W, W = ((w.alloc (Obj.cells #[.int .i64 s, .slice a1 l1 c1] 26)).alloc (Obj.cells #[.string x.p, .int .i64 x.nb, .int .i64 x.le, .int .i64 x.mo, .int .i64 x.ne, .slice x.d.a x.d.n x.d.c] 32)).alloc (Obj.cells #[.int .i64 0, .slice none 0 0] 26) := ⟨_, rfl⟩
  have K0 : Hid (Blk W w.heap.size [.int .i64 s, .slice a1 l1 c1]) := hide (by rw [hW]; exact ((Blk.new _ _).alloc _).alloc _)
  have K1 : Hid (Blk W (w.heap.size + 1) [.string x.p, .int .i64 x.nb, .int .i64 x.le, .int .i64 x.mo, .int .i64 x.ne, .slice x.d.a x.d.n x.d.c]) := hide (by
    rw [hW]
    have := (Blk.new (w := (w.alloc (Obj.cells #[.int .i64 s, .slice a1 l1 c1] 26))) [.string x.p, .int .i64 x.nb, .int .i64 x.le, .int .i64 x.mo, .int .i64 x.ne, .slice x.d.a x.d.n x.d.c] 32).alloc (Obj.cells #[.int .i64 0, .slice none 0 0] 26)
    simpa using this)
  have K2 : Hid (Blk W (w.heap.size + 1 + 1) [.int .i64 0, .slice none 0 0]) := hide (by
    rw [hW]
    have := Blk.new (w := ((w.alloc (Obj.cells #[.int .i64 s, .slice a1 l1 c1] 26)).alloc (Obj.cells #[.string x.p, .int .i64 x.nb, .int .i64 x.le, .int .i64 x.mo, .int .i64 x.ne, .slice x.d.a x.d.n x.d.c] 32))) [.int .i64 0, .slice none 0 0] 26
    simpa using this)
  have B0 : Hid (Below w.heap.size w W) := hide (by rw [hW]; exact bel3 _ _ _)
  have hWs : Hid (W.heap.size = w.heap.size + 3) := hide (by rw [hW]; simp)
  have a0 : W.cell? ⟨w.heap.size, 0, none⟩ = some (.int .i64 s) := (unhide K0).c 0 (by simp)
  have a1' : W.cell? ⟨w.heap.size, 1, none⟩ = some (.slice a1 l1 c1) := (unhide K0).c 1 (by simp)
  rw [hW] at a0 a1'
  have HW := hide hW
  clear hW
  go_enter Tryz.func17, Tryz.ntmps17
  go_wp2_with fail
  rw [← unhide HW]
  clear HW a0 a1'
  refine (l18Copy_any s a1 l1 c1 zs W ((unhide HT).below (unhide B0)) (unhide HLZ)).mono ?_
  rintro e w2 ⟨⟨a9, c9, rfl, ow⟩, b2⟩
  have ow := ow.mono (base' := w.heap.size + 3) (by have := unhide hWs; omega)
  obtain ⟨us, hus, ho⟩ := ow.ex
  have HOK := hide ow.ok
  have HUS := hide hus
  have HLI : Hid (LxLies (w.heap.size + 3) w2.heap.size (.slice a9 l1 c9) us) := hide ho.lies
  have HUL : Hid (us.length = l1) := hide (ownLd_len ho)
  have ow := hide ho
  clear ho hus
  have hw2 : w.heap.size + 3 ≤ w2.heap.size := by have := b2.size; have := unhide hWs; omega
  have K0 := hide ((unhide K0).below b2)
  have K1 := hide ((unhide K1).below b2)
  have K2 := hide ((unhide K2).below b2)
  have B2 := hide ((unhide B0).trans (b2.mono (unhide B0).size))
  clear b2 B0 hWs
  obtain ⟨V, hV⟩ : ∃ V, V = w2.alloc (Obj.cells #[.int .i64 s, .slice a9 l1 c9] 26) := ⟨_, rfl⟩
  have bV : Below w2.heap.size w2 V := by rw [hV]; exact bel1 _
  have K8 : Hid (Blk V w2.heap.size [.int .i64 s, .slice a9 l1 c9]) := hide (by rw [hV]; exact Blk.new _ _)
  have K0 := hide ((unhide K0).below bV)
  have K1 := hide ((unhide K1).below bV)
  have K2 := hide ((unhide K2).below bV)
  have BV := hide ((unhide B2).trans (bV.mono (unhide B2).size))
  have OV := hide ((unhide ow).below bV)
  obtain ⟨ι, f, _, hbf, hall⟩ := belClass V
  have HF := hide hbf
  have HAL := hide hall
  have HBF : Hid (∀ y, Below w.heap.size w (f y)) := hide (fun y => (unhide BV).trans ((hbf y).mono (unhide BV).size))
  have b0 : ∀ y, (f y).cell? ⟨w.heap.size, 0, none⟩ = some (.int .i64 s) := fun y => ((unhide K0).below (hbf y)).c 0 (by simp)
  have b1 : ∀ y, (f y).cell? ⟨w.heap.size, 1, none⟩ = some (.slice a1 l1 c1) := fun y => ((unhide K0).below (hbf y)).c 1 (by simp)
  have v0 : ∀ y, (f y).cell? ⟨w.heap.size + 1, 0, none⟩ = some (.string x.p) := fun y => ((unhide K1).below (hbf y)).c 0 (by simp)
  have v1 : ∀ y, (f y).cell? ⟨w.heap.size + 1, 1, none⟩ = some (.int .i64 x.nb) := fun y => ((unhide K1).below (hbf y)).c 1 (by simp)
  have v2 : ∀ y, (f y).cell? ⟨w.heap.size + 1, 2, none⟩ = some (.int .i64 x.le) := fun y => ((unhide K1).below (hbf y)).c 2 (by simp)
  have v3 : ∀ y, (f y).cell? ⟨w.heap.size + 1, 3, none⟩ = some (.int .i64 x.mo) := fun y => ((unhide K1).below (hbf y)).c 3 (by simp)
  have v4 : ∀ y, (f y).cell? ⟨w.heap.size + 1, 4, none⟩ = some (.int .i64 x.ne) := fun y => ((unhide K1).below (hbf y)).c 4 (by simp)
  have v5 : ∀ y, (f y).cell? ⟨w.heap.size + 1, 5, none⟩ = some (.slice x.d.a x.d.n x.d.c) := fun y => ((unhide K1).below (hbf y)).c 5 (by simp)
  have p0 : ∀ y, (f y).cell? ⟨w2.heap.size, 0, none⟩ = some (.int .i64 s) := fun y => ((unhide K8).below (hbf y)).c 0 (by simp)
  have p1 : ∀ y, (f y).cell? ⟨w2.heap.size, 1, none⟩ = some (.slice a9 l1 c9) := fun y => ((unhide K8).below (hbf y)).c 1 (by simp)
  have KF1 : Hid (∀ y, Blk (f y) (w.heap.size + 1) [.string x.p, .int .i64 x.nb, .int .i64 x.le, .int .i64 x.mo, .int .i64 x.ne, .slice x.d.a x.d.n x.d.c]) := hide (fun y => (unhide K1).below (hbf y))
  have KF2 : Hid (∀ y, Blk (f y) (w.heap.size + 1 + 1) [.int .i64 0, .slice none 0 0]) := hide (fun y => (unhide K2).below (hbf y))
  have KF8 : Hid (∀ y, Blk (f y) w2.heap.size [.int .i64 s, .slice a9 l1 c9]) := hide (fun y => (unhide K8).below (hbf y))
  have OF : Hid (∀ y, OwnLd (f y) (w.heap.size + 3) (.slice a9 l1 c9) us) := hide (fun y => (unhide OV).below (hbf y))
  have CA : Hid (∀ y, Calls Tryz.prog 59 #[.agg #[.int .i64 s, .slice a1 l1 c1]] (f y) fun e w' => e = .returned (.bool (abB s zs)) ∧ Below (f y).heap.size (f y) w') := hide (fun y => specAboardOk_any s _ _ _ zs (f y) ⟨(unhide HT).below ((unhide HBF) y)⟩)
  have CS : Hid (∀ y, Calls Tryz.prog 58 #[.agg #[.string x.p, .int .i64 x.nb, .int .i64 x.le, .int .i64 x.mo, .int .i64 x.ne, .slice x.d.a x.d.n x.d.c]] (f y) fun e w' => e = .returned (.tuple #[.int .i64 (seR (lxW x)), .bool (ldB (lxW x))]) ∧ Below (f y).heap.size (f y) w') := hide (fun y => specSeal_any x.p x.nb x.le x.mo x.ne _ _ _ x.d.zs (f y) ⟨(unhide HIN).sl.row.below ((unhide HBF) y)⟩ (unhide HIN).sl.byt (unhide HIN).sz)
  have CF : Hid (∀ y n, Calls Tryz.prog 61 #[.agg #[.int .i64 s, .slice a1 l1 c1], .int .i64 n] (f y) fun e w' => e = .returned (.int .i64 (fnF zs n)) ∧ Below (f y).heap.size (f y) w') := hide (fun y n => l18Find_any s _ _ _ zs n (f y) ((unhide HT).below ((unhide HBF) y)))
  have CN : Hid (∀ y n, Calls Tryz.prog 62 #[.agg #[.int .i64 s, .slice a1 l1 c1], .int .i64 n] (f y) fun e w' => e = .returned (.bool (neB zs n)) ∧ Below (f y).heap.size (f y) w') := hide (fun y n => l18Needed_any s _ _ _ zs n (f y) ((unhide HT).below ((unhide HBF) y)))
  have CELL : Hid (∀ bb off, a1 = some ⟨bb, off, none⟩ → ∀ j, j < l1 → ∀ y, (f y).cell? ⟨bb, off + j * 6, none⟩ = some (.string (elAt zs j).p) ∧ (f y).cell? ⟨bb, off + j * 6 + 1, none⟩ = some (.int .i64 (elAt zs j).nb)) := hide (fun bb off ha j hj y => by
    rcases (unhide HO) with ⟨h0, _⟩ | ⟨b2, o2, e, _, hc⟩
    · omega
    rw [ha] at e
    simp only [Option.some.injEq, Addr.mk.injEq, and_true] at e
    obtain ⟨rfl, rfl⟩ := e
    rw [elAt_lx (unhide HE) (by have := unhide HLL; omega)]
    exact ⟨((unhide HBF y).cell (block_lt_of_cell (hc j hj).1)).trans (hc j hj).1, ((unhide HBF y).cell (block_lt_of_cell (hc j hj).2.1)).trans (hc j hj).2.1⟩)
  have HA1 : Hid (0 < l1 → ∃ bb off, a1 = some ⟨bb, off, none⟩) := hide (fun h => by
    rcases (unhide HO) with ⟨h0, _⟩ | ⟨b2, o2, e, _, _⟩
    · omega
    · exact ⟨b2, o2, e⟩)
  obtain ⟨x0, hx0⟩ := (unhide HAL) V (Below.refl _ _)
  have HX0 : Hid (w2.alloc (Obj.cells #[.int .i64 s, .slice a9 l1 c9] 26) = f x0) := hide (hV.symm.trans hx0)
  have v0w := v0 x0
  have v1w := v1 x0
  have v2w := v2 x0
  have v3w := v3 x0
  have v4w := v4 x0
  have v5w := v5 x0
  rw [← hx0, hV] at v0w v1w v2w v3w v4w v5w
  clear hbf hall hV hx0 bV K0 K1 K2 K8 BV OV ow B2 HT HO HLL
  cases q1 : abB s zs with
  | false =>
    rw [q1] at CA
    have HC : Hid (tkC s zs (lxW x) sl = 1) := hide (rf_bad (.inl q1))
    go_wp2_with fail
    rw [unhide HX0]
    clear HX0 v0w v1w v2w v3w v4w v5w
    have HDL : Hid (tkL s zs (lxW x) sl = zs) := hide (tkL_fail (unhide HC) (by decide))
    go_wp2_with (first | (go_at_call 59; refine (belQ (unhide HF) (unhide HAL) (unhide CA _)).mono ?_; rintro e _ ⟨rfl, y, rfl⟩) | (go_at_call 58; refine (belQ (unhide HF) (unhide HAL) (unhide CS _)).mono ?_; rintro e _ ⟨rfl, y, rfl⟩) | (go_at_call 60; refine (belS (l1In_is _ _ _ _ (by exact q4))).mono ?_; rintro e _ ⟨rfl, y, rfl⟩) | (go_at_call 61; refine (belQ (unhide HF) (unhide HAL) (unhide CF _ _)).mono ?_; rintro e _ ⟨rfl, y, rfl⟩) | (go_at_call 61; refine (belQ (unhide HF) (unhide HAL) (unhide CF _ 0)).mono ?_; rintro e _ ⟨rfl, y, rfl⟩) | (go_at_call 62; refine (belQ (unhide HF) (unhide HAL) (unhide CN _ _)).mono ?_; rintro e _ ⟨rfl, y, rfl⟩) | (go_at_call 62; refine (belQ (unhide HF) (unhide HAL) (unhide CN _ 0)).mono ?_; rintro e _ ⟨rfl, y, rfl⟩) | ((with_reducible show wpList _ _ _ (⟨none, .store 26 _ _, _, _, _, none⟩ :: _) _ _); refine at_storeAgg (us := [.int .i64 0, .slice none 0 0]) (vs := [.int .i64 s, .slice a9 l1 c9]) Tryz.sizeOf26 rfl rfl ((unhide KF2) _) rfl (by intro v hv; simp at hv; rcases hv with rfl | rfl <;> rfl) ?_; intro w5 kk gg))
    repeat (refine wp_region_bel (fun w' h => (unhide HAL) w' ((unhide HF _).trans (h.mono (unhide HF _).size))) (by kernel_rfl) (by kernel_rfl) ?_; (repeat (go_big_quiet_step (first | (go_at_call 61; exact belQ (unhide HF) (unhide HAL) (unhide CF _ _)) | (go_at_call 61; exact belQ (unhide HF) (unhide HAL) (unhide CF _ 0)) | (go_at_call 62; exact belQ (unhide HF) (unhide HAL) (unhide CN _ _)) | (go_at_call 62; exact belQ (unhide HF) (unhide HAL) (unhide CN _ 0))))); refine wpQuiet_nil ?_; rintro _ ⟨y, rfl⟩; (first | go_wp2_with (first | (go_at_call 59; refine (belQ (unhide HF) (unhide HAL) (unhide CA _)).mono ?_; rintro e _ ⟨rfl, y, rfl⟩) | (go_at_call 58; refine (belQ (unhide HF) (unhide HAL) (unhide CS _)).mono ?_; rintro e _ ⟨rfl, y, rfl⟩) | (go_at_call 60; refine (belS (l1In_is _ _ _ _ (by exact q4))).mono ?_; rintro e _ ⟨rfl, y, rfl⟩) | (go_at_call 61; refine (belQ (unhide HF) (unhide HAL) (unhide CF _ _)).mono ?_; rintro e _ ⟨rfl, y, rfl⟩) | (go_at_call 61; refine (belQ (unhide HF) (unhide HAL) (unhide CF _ 0)).mono ?_; rintro e _ ⟨rfl, y, rfl⟩) | (go_at_call 62; refine (belQ (unhide HF) (unhide HAL) (unhide CN _ _)).mono ?_; rintro e _ ⟨rfl, y, rfl⟩) | (go_at_call 62; refine (belQ (unhide HF) (unhide HAL) (unhide CN _ 0)).mono ?_; rintro e _ ⟨rfl, y, rfl⟩) | ((with_reducible show wpList _ _ _ (⟨none, .store 26 _ _, _, _, _, none⟩ :: _) _ _); refine at_storeAgg (us := [.int .i64 0, .slice none 0 0]) (vs := [.int .i64 s, .slice a9 l1 c9]) Tryz.sizeOf26 rfl rfl ((unhide KF2) _) rfl (by intro v hv; simp at hv; rcases hv with rfl | rfl <;> rfl) ?_; intro w5 kk gg)) | go_wp2))
    have BE : Below w.heap.size w w5 := ((unhide HBF) _).grown gg ((unhide HBF) _).size (fun q hq => by cases hq; omega)
    have OE := ((unhide OF) _).far gg (fun q hq e => by have := Option.some.inj e; omega)
    exact bodyPost_ret (results_cellB (vs := [.int .i64 s, .slice a9 l1 c9]) (x := .int .i64 1) rfl Tryz.isAgg26 Tryz.sizeOf26 rfl kk rfl) rfl ⟨a9, c9, by rw [unhide HDL, unhide HC, unhide HZL], ⟨by rw [unhide HDL, unhide HZL]; exact cp_ok (unhide HUS) (unhide HOK) (OE.mono (by omega))⟩, BE⟩
  | true =>
    have HQ1 := hide q1
    rw [q1] at CA
    cases q2 : ldB (lxW x) with
    | false =>
      rw [q2] at CS
      have HC : Hid (tkC s zs (lxW x) sl = 1) := hide (rf_bad (.inr q2))
      go_wp2_with fail
      rw [unhide HX0]
      clear HX0 v0w v1w v2w v3w v4w v5w
      have HDL : Hid (tkL s zs (lxW x) sl = zs) := hide (tkL_fail (unhide HC) (by decide))
      go_wp2_with (first | (go_at_call 59; refine (belQ (unhide HF) (unhide HAL) (unhide CA _)).mono ?_; rintro e _ ⟨rfl, y, rfl⟩) | (go_at_call 58; refine (belQ (unhide HF) (unhide HAL) (unhide CS _)).mono ?_; rintro e _ ⟨rfl, y, rfl⟩) | (go_at_call 60; refine (belS (l1In_is _ _ _ _ (by exact q4))).mono ?_; rintro e _ ⟨rfl, y, rfl⟩) | (go_at_call 61; refine (belQ (unhide HF) (unhide HAL) (unhide CF _ _)).mono ?_; rintro e _ ⟨rfl, y, rfl⟩) | (go_at_call 61; refine (belQ (unhide HF) (unhide HAL) (unhide CF _ 0)).mono ?_; rintro e _ ⟨rfl, y, rfl⟩) | (go_at_call 62; refine (belQ (unhide HF) (unhide HAL) (unhide CN _ _)).mono ?_; rintro e _ ⟨rfl, y, rfl⟩) | (go_at_call 62; refine (belQ (unhide HF) (unhide HAL) (unhide CN _ 0)).mono ?_; rintro e _ ⟨rfl, y, rfl⟩) | ((with_reducible show wpList _ _ _ (⟨none, .store 26 _ _, _, _, _, none⟩ :: _) _ _); refine at_storeAgg (us := [.int .i64 0, .slice none 0 0]) (vs := [.int .i64 s, .slice a9 l1 c9]) Tryz.sizeOf26 rfl rfl ((unhide KF2) _) rfl (by intro v hv; simp at hv; rcases hv with rfl | rfl <;> rfl) ?_; intro w5 kk gg))
      repeat (refine wp_region_bel (fun w' h => (unhide HAL) w' ((unhide HF _).trans (h.mono (unhide HF _).size))) (by kernel_rfl) (by kernel_rfl) ?_; (repeat (go_big_quiet_step (first | (go_at_call 61; exact belQ (unhide HF) (unhide HAL) (unhide CF _ _)) | (go_at_call 61; exact belQ (unhide HF) (unhide HAL) (unhide CF _ 0)) | (go_at_call 62; exact belQ (unhide HF) (unhide HAL) (unhide CN _ _)) | (go_at_call 62; exact belQ (unhide HF) (unhide HAL) (unhide CN _ 0))))); refine wpQuiet_nil ?_; rintro _ ⟨y, rfl⟩; (first | go_wp2_with (first | (go_at_call 59; refine (belQ (unhide HF) (unhide HAL) (unhide CA _)).mono ?_; rintro e _ ⟨rfl, y, rfl⟩) | (go_at_call 58; refine (belQ (unhide HF) (unhide HAL) (unhide CS _)).mono ?_; rintro e _ ⟨rfl, y, rfl⟩) | (go_at_call 60; refine (belS (l1In_is _ _ _ _ (by exact q4))).mono ?_; rintro e _ ⟨rfl, y, rfl⟩) | (go_at_call 61; refine (belQ (unhide HF) (unhide HAL) (unhide CF _ _)).mono ?_; rintro e _ ⟨rfl, y, rfl⟩) | (go_at_call 61; refine (belQ (unhide HF) (unhide HAL) (unhide CF _ 0)).mono ?_; rintro e _ ⟨rfl, y, rfl⟩) | (go_at_call 62; refine (belQ (unhide HF) (unhide HAL) (unhide CN _ _)).mono ?_; rintro e _ ⟨rfl, y, rfl⟩) | (go_at_call 62; refine (belQ (unhide HF) (unhide HAL) (unhide CN _ 0)).mono ?_; rintro e _ ⟨rfl, y, rfl⟩) | ((with_reducible show wpList _ _ _ (⟨none, .store 26 _ _, _, _, _, none⟩ :: _) _ _); refine at_storeAgg (us := [.int .i64 0, .slice none 0 0]) (vs := [.int .i64 s, .slice a9 l1 c9]) Tryz.sizeOf26 rfl rfl ((unhide KF2) _) rfl (by intro v hv; simp at hv; rcases hv with rfl | rfl <;> rfl) ?_; intro w5 kk gg)) | go_wp2))
      have BE : Below w.heap.size w w5 := ((unhide HBF) _).grown gg ((unhide HBF) _).size (fun q hq => by cases hq; omega)
      have OE := ((unhide OF) _).far gg (fun q hq e => by have := Option.some.inj e; omega)
      exact bodyPost_ret (results_cellB (vs := [.int .i64 s, .slice a9 l1 c9]) (x := .int .i64 1) rfl Tryz.isAgg26 Tryz.sizeOf26 rfl kk rfl) rfl ⟨a9, c9, by rw [unhide HDL, unhide HC, unhide HZL], ⟨by rw [unhide HDL, unhide HZL]; exact cp_ok (unhide HUS) (unhide HOK) (OE.mono (by omega))⟩, BE⟩
    | true =>
      have HQ2 := hide q2
      rw [q2, seR_ok q2] at CS
      clear q1 q2
      by_cases q3 : sl = seO (lxW x)
      · have HQ3 := hide q3
        rw [← q3] at CS
        have z3 : (sl != sl) = false := by simp
        clear q3
        cases q4 : inB s x.le x.mo with
        | false =>
          have HC : Hid (tkC s zs (lxW x) sl = 3) := hide (rf_fits (unhide HQ1) (unhide HQ2) (unhide HQ3) q4)
          go_wp2_with fail
          rw [unhide HX0]
          clear HX0 v0w v1w v2w v3w v4w v5w
          have HDL : Hid (tkL s zs (lxW x) sl = zs) := hide (tkL_fail (unhide HC) (by decide))
          go_wp2_with (first | (go_at_call 59; refine (belQ (unhide HF) (unhide HAL) (unhide CA _)).mono ?_; rintro e _ ⟨rfl, y, rfl⟩) | (go_at_call 58; refine (belQ (unhide HF) (unhide HAL) (unhide CS _)).mono ?_; rintro e _ ⟨rfl, y, rfl⟩) | (go_at_call 60; refine (belS (l1In_is _ _ _ _ (by exact q4))).mono ?_; rintro e _ ⟨rfl, y, rfl⟩) | (go_at_call 61; refine (belQ (unhide HF) (unhide HAL) (unhide CF _ _)).mono ?_; rintro e _ ⟨rfl, y, rfl⟩) | (go_at_call 61; refine (belQ (unhide HF) (unhide HAL) (unhide CF _ 0)).mono ?_; rintro e _ ⟨rfl, y, rfl⟩) | (go_at_call 62; refine (belQ (unhide HF) (unhide HAL) (unhide CN _ _)).mono ?_; rintro e _ ⟨rfl, y, rfl⟩) | (go_at_call 62; refine (belQ (unhide HF) (unhide HAL) (unhide CN _ 0)).mono ?_; rintro e _ ⟨rfl, y, rfl⟩) | ((with_reducible show wpList _ _ _ (⟨none, .store 26 _ _, _, _, _, none⟩ :: _) _ _); refine at_storeAgg (us := [.int .i64 0, .slice none 0 0]) (vs := [.int .i64 s, .slice a9 l1 c9]) Tryz.sizeOf26 rfl rfl ((unhide KF2) _) rfl (by intro v hv; simp at hv; rcases hv with rfl | rfl <;> rfl) ?_; intro w5 kk gg))
          repeat (refine wp_region_bel (fun w' h => (unhide HAL) w' ((unhide HF _).trans (h.mono (unhide HF _).size))) (by kernel_rfl) (by kernel_rfl) ?_; (repeat (go_big_quiet_step (first | (go_at_call 61; exact belQ (unhide HF) (unhide HAL) (unhide CF _ _)) | (go_at_call 61; exact belQ (unhide HF) (unhide HAL) (unhide CF _ 0)) | (go_at_call 62; exact belQ (unhide HF) (unhide HAL) (unhide CN _ _)) | (go_at_call 62; exact belQ (unhide HF) (unhide HAL) (unhide CN _ 0))))); refine wpQuiet_nil ?_; rintro _ ⟨y, rfl⟩; (first | go_wp2_with (first | (go_at_call 59; refine (belQ (unhide HF) (unhide HAL) (unhide CA _)).mono ?_; rintro e _ ⟨rfl, y, rfl⟩) | (go_at_call 58; refine (belQ (unhide HF) (unhide HAL) (unhide CS _)).mono ?_; rintro e _ ⟨rfl, y, rfl⟩) | (go_at_call 60; refine (belS (l1In_is _ _ _ _ (by exact q4))).mono ?_; rintro e _ ⟨rfl, y, rfl⟩) | (go_at_call 61; refine (belQ (unhide HF) (unhide HAL) (unhide CF _ _)).mono ?_; rintro e _ ⟨rfl, y, rfl⟩) | (go_at_call 61; refine (belQ (unhide HF) (unhide HAL) (unhide CF _ 0)).mono ?_; rintro e _ ⟨rfl, y, rfl⟩) | (go_at_call 62; refine (belQ (unhide HF) (unhide HAL) (unhide CN _ _)).mono ?_; rintro e _ ⟨rfl, y, rfl⟩) | (go_at_call 62; refine (belQ (unhide HF) (unhide HAL) (unhide CN _ 0)).mono ?_; rintro e _ ⟨rfl, y, rfl⟩) | ((with_reducible show wpList _ _ _ (⟨none, .store 26 _ _, _, _, _, none⟩ :: _) _ _); refine at_storeAgg (us := [.int .i64 0, .slice none 0 0]) (vs := [.int .i64 s, .slice a9 l1 c9]) Tryz.sizeOf26 rfl rfl ((unhide KF2) _) rfl (by intro v hv; simp at hv; rcases hv with rfl | rfl <;> rfl) ?_; intro w5 kk gg)) | go_wp2))
          have BE : Below w.heap.size w w5 := ((unhide HBF) _).grown gg ((unhide HBF) _).size (fun q hq => by cases hq; omega)
          have OE := ((unhide OF) _).far gg (fun q hq e => by have := Option.some.inj e; omega)
          exact bodyPost_ret (results_cellB (vs := [.int .i64 s, .slice a9 l1 c9]) (x := .int .i64 3) rfl Tryz.isAgg26 Tryz.sizeOf26 rfl kk rfl) rfl ⟨a9, c9, by rw [unhide HDL, unhide HC, unhide HZL], ⟨by rw [unhide HDL, unhide HZL]; exact cp_ok (unhide HUS) (unhide HOK) (OE.mono (by omega))⟩, BE⟩
        | true =>
          have HQ4 := hide q4
          go_wp2_with fail
          rw [unhide HX0]
          clear HX0 v0w v1w v2w v3w v4w v5w
          go_wp2_with (first | (go_at_call 59; refine (belQ (unhide HF) (unhide HAL) (unhide CA _)).mono ?_; rintro e _ ⟨rfl, y, rfl⟩) | (go_at_call 58; refine (belQ (unhide HF) (unhide HAL) (unhide CS _)).mono ?_; rintro e _ ⟨rfl, y, rfl⟩) | (go_at_call 60; refine (belS (l1In_is _ _ _ _ (by exact q4))).mono ?_; rintro e _ ⟨rfl, y, rfl⟩) | (go_at_call 61; refine (belQ (unhide HF) (unhide HAL) (unhide CF _ _)).mono ?_; rintro e _ ⟨rfl, y, rfl⟩) | (go_at_call 61; refine (belQ (unhide HF) (unhide HAL) (unhide CF _ 0)).mono ?_; rintro e _ ⟨rfl, y, rfl⟩) | (go_at_call 62; refine (belQ (unhide HF) (unhide HAL) (unhide CN _ _)).mono ?_; rintro e _ ⟨rfl, y, rfl⟩) | (go_at_call 62; refine (belQ (unhide HF) (unhide HAL) (unhide CN _ 0)).mono ?_; rintro e _ ⟨rfl, y, rfl⟩))
          go_loopw [11, 12] (fun sm i wr => ∃ (k : Nat) (y : ι), sm = .int .i64 (saK zs x.p k) ∧ i = .int .i64 k ∧ k ≤ l1 ∧ wr = f y) (fun _ i _ => l1 - (intOf i).toNat)
          case atStart => exact ⟨0, _, rfl, rfl, Nat.zero_le _, rfl⟩
          case round =>
            obtain ⟨k, y9, rfl, rfl, hk, hwr⟩ := hrel
            subst hwr
            by_cases hlt : k < l1
            · have hi1 : (k : Int) < (l1 : Int) := by omega
              have hi0 : (0 : Int) ≤ (k : Int) := by omega
              obtain ⟨bb, off, ha1⟩ := (unhide HA1) (by omega)
              subst ha1
              obtain ⟨Y, hY⟩ : ∃ z, (elAt zs k).p = z := ⟨_, rfl⟩
              have m0 := fun y => ((unhide CELL) bb off rfl k hlt y).1
              rw [hY] at m0
              by_cases eq : Y = x.p
              · have NX : Hid (saK zs x.p (k + 1) = (k : Int)) := hide (by rw [saK, hY, if_pos eq])
                subst eq
                clear hY CELL HA1
                go_wp2_with fail
                refine wp_region_bel (fun w' h => (unhide HAL) w' ((unhide HF _).trans (h.mono (unhide HF _).size))) (by kernel_rfl) (by kernel_rfl) ?_; (repeat (go_big_quiet_step (first | (go_at_call 61; exact belQ (unhide HF) (unhide HAL) (unhide CF _ _)) | (go_at_call 61; exact belQ (unhide HF) (unhide HAL) (unhide CF _ 0)) | (go_at_call 62; exact belQ (unhide HF) (unhide HAL) (unhide CN _ _)) | (go_at_call 62; exact belQ (unhide HF) (unhide HAL) (unhide CN _ 0))))); refine wpQuiet_nil ?_; rintro _ ⟨y, rfl⟩
                go_wp2_with fail
                go_roundw
                case rel => exact ⟨k + 1, y, by rw [unhide NX], by go_num, by omega, rfl⟩
                case measure => simp [intOf]; omega
              · have NX : Hid (saK zs x.p (k + 1) = saK zs x.p k) := hide (by rw [saK, hY, if_neg eq])
                have d1 := txl_ne eq
                clear hY eq CELL HA1
                go_wp2_with fail
                refine wp_region_bel (fun w' h => (unhide HAL) w' ((unhide HF _).trans (h.mono (unhide HF _).size))) (by kernel_rfl) (by kernel_rfl) ?_; (repeat (go_big_quiet_step (first | (go_at_call 61; exact belQ (unhide HF) (unhide HAL) (unhide CF _ _)) | (go_at_call 61; exact belQ (unhide HF) (unhide HAL) (unhide CF _ 0)) | (go_at_call 62; exact belQ (unhide HF) (unhide HAL) (unhide CN _ _)) | (go_at_call 62; exact belQ (unhide HF) (unhide HAL) (unhide CN _ 0))))); refine wpQuiet_nil ?_; rintro _ ⟨y, rfl⟩
                go_wp2_with fail
                go_roundw
                case rel => exact ⟨k + 1, y, by rw [unhide NX], by go_num, by omega, rfl⟩
                case measure => simp [intOf]; omega
            · have hi1 : ¬ (k : Int) < (l1 : Int) := by omega
              obtain rfl : l1 = k := by omega
              have hSF : saK zs x.p l1 = saF zs x.p := by rw [saF, unhide HZL]
              rw [hSF]
              clear hSF
              rcases sa_cases zs x.p with hS | ⟨j, hj, hS⟩
              · have HS := hide hS
                rw [hS]
                clear hS
                by_cases q5 : x.ne = 0
                · have HN5 : Hid (¬ ((lxW x).ne ≠ 0 ∧ (fnF zs (lxW x).ne < 0 ∨ fnF zs (lxW x).ne = saF zs (lxW x).p))) := hide (fun h => h.1 q5)
                  have e5 : (x.ne != 0) = false := by simpa using q5
                  have e6 : decide (x.ne = 0) = true := by simpa using q5
                  clear q5
                  have HT0 : Hid (tkC s zs (lxW x) sl = tkR zs (lxW x) (-1)) := hide (by have := tk_rest (unhide HQ1) (unhide HQ2) (unhide HQ3) (unhide HQ4) (unhide HN5); rw [show saF zs (lxW x).p = -1 from unhide HS] at this; exact this)
                  rcases fnF_cases zs x.nb with ⟨hN, _⟩ | ⟨t, ht, hN, _, _⟩
                  · have HN := hide hN
                    have CF2 : Hid (∀ y, Calls Tryz.prog 61 #[.agg #[.int .i64 s, .slice a1 l1 c1], .int .i64 x.nb] (f y) fun e w' => e = .returned (.int .i64 (-1)) ∧ Below (f y).heap.size (f y) w') := hide (fun y => by have := unhide CF y x.nb; rw [hN] at this; exact this)
                    have n9 : decide ((0 : Int) ≤ fnF zs x.nb) = false := by rw [hN]; rfl
                    clear hN
                    by_cases q7 : l1 = 30
                    · have HC : Hid (tkC s zs (lxW x) sl = 6) := hide (by rw [unhide HT0, rf_n6 (unhide HN) (by rw [unhide HZL, q7])])
                      have d7 : ((l1 : Int) == 30) = true := by rw [q7]; rfl
                      have d8 : decide ((l1 : Int) = 30) = true := by rw [q7]; rfl
                      have d9 : decide (l1 = 30) = true := by rw [q7]; rfl
                      clear q7
                      have HDL : Hid (tkL s zs (lxW x) sl = zs) := hide (tkL_fail (unhide HC) (by decide))
                      go_wp2_with (first | (go_at_call 59; refine (belQ (unhide HF) (unhide HAL) (unhide CA _)).mono ?_; rintro e _ ⟨rfl, y, rfl⟩) | (go_at_call 58; refine (belQ (unhide HF) (unhide HAL) (unhide CS _)).mono ?_; rintro e _ ⟨rfl, y, rfl⟩) | (go_at_call 60; refine (belS (l1In_is _ _ _ _ (by exact q4))).mono ?_; rintro e _ ⟨rfl, y, rfl⟩) | (go_at_call 61; refine (belQ (unhide HF) (unhide HAL) (unhide CF _ _)).mono ?_; rintro e _ ⟨rfl, y, rfl⟩) | (go_at_call 61; refine (belQ (unhide HF) (unhide HAL) (unhide CF _ 0)).mono ?_; rintro e _ ⟨rfl, y, rfl⟩) | (go_at_call 62; refine (belQ (unhide HF) (unhide HAL) (unhide CN _ _)).mono ?_; rintro e _ ⟨rfl, y, rfl⟩) | (go_at_call 62; refine (belQ (unhide HF) (unhide HAL) (unhide CN _ 0)).mono ?_; rintro e _ ⟨rfl, y, rfl⟩) | ((with_reducible show wpList _ _ _ (⟨none, .store 26 _ _, _, _, _, none⟩ :: _) _ _); refine at_storeAgg (us := [.int .i64 0, .slice none 0 0]) (vs := [.int .i64 s, .slice a9 l1 c9]) Tryz.sizeOf26 rfl rfl ((unhide KF2) _) rfl (by intro v hv; simp at hv; rcases hv with rfl | rfl <;> rfl) ?_; intro w5 kk gg))
                      repeat (refine wp_region_bel (fun w' h => (unhide HAL) w' ((unhide HF _).trans (h.mono (unhide HF _).size))) (by kernel_rfl) (by kernel_rfl) ?_; (repeat (go_big_quiet_step (first | (go_at_call 61; exact belQ (unhide HF) (unhide HAL) (unhide CF _ _)) | (go_at_call 61; exact belQ (unhide HF) (unhide HAL) (unhide CF _ 0)) | (go_at_call 62; exact belQ (unhide HF) (unhide HAL) (unhide CN _ _)) | (go_at_call 62; exact belQ (unhide HF) (unhide HAL) (unhide CN _ 0))))); refine wpQuiet_nil ?_; rintro _ ⟨y, rfl⟩; (first | go_wp2_with (first | (go_at_call 59; refine (belQ (unhide HF) (unhide HAL) (unhide CA _)).mono ?_; rintro e _ ⟨rfl, y, rfl⟩) | (go_at_call 58; refine (belQ (unhide HF) (unhide HAL) (unhide CS _)).mono ?_; rintro e _ ⟨rfl, y, rfl⟩) | (go_at_call 60; refine (belS (l1In_is _ _ _ _ (by exact q4))).mono ?_; rintro e _ ⟨rfl, y, rfl⟩) | (go_at_call 61; refine (belQ (unhide HF) (unhide HAL) (unhide CF _ _)).mono ?_; rintro e _ ⟨rfl, y, rfl⟩) | (go_at_call 61; refine (belQ (unhide HF) (unhide HAL) (unhide CF _ 0)).mono ?_; rintro e _ ⟨rfl, y, rfl⟩) | (go_at_call 62; refine (belQ (unhide HF) (unhide HAL) (unhide CN _ _)).mono ?_; rintro e _ ⟨rfl, y, rfl⟩) | (go_at_call 62; refine (belQ (unhide HF) (unhide HAL) (unhide CN _ 0)).mono ?_; rintro e _ ⟨rfl, y, rfl⟩) | ((with_reducible show wpList _ _ _ (⟨none, .store 26 _ _, _, _, _, none⟩ :: _) _ _); refine at_storeAgg (us := [.int .i64 0, .slice none 0 0]) (vs := [.int .i64 s, .slice a9 l1 c9]) Tryz.sizeOf26 rfl rfl ((unhide KF2) _) rfl (by intro v hv; simp at hv; rcases hv with rfl | rfl <;> rfl) ?_; intro w5 kk gg)) | go_wp2))
                      have BE : Below w.heap.size w w5 := ((unhide HBF) _).grown gg ((unhide HBF) _).size (fun q hq => by cases hq; omega)
                      have OE := ((unhide OF) _).far gg (fun q hq e => by have := Option.some.inj e; omega)
                      exact bodyPost_ret (results_cellB (vs := [.int .i64 s, .slice a9 l1 c9]) (x := .int .i64 6) rfl Tryz.isAgg26 Tryz.sizeOf26 rfl kk rfl) rfl ⟨a9, c9, by rw [unhide HDL, unhide HC, unhide HZL], ⟨by rw [unhide HDL, unhide HZL]; exact cp_ok (unhide HUS) (unhide HOK) (OE.mono (by omega))⟩, BE⟩
                    · have HC : Hid (tkC s zs (lxW x) sl = 0) := hide (by rw [unhide HT0, rf_n0 (unhide HN) (by rw [unhide HZL]; exact q7)])
                      have d7 : ((l1 : Int) == 30) = false := by simp only [beq_eq_false_iff_ne]; omega
                      have d8 : decide ((l1 : Int) = 30) = false := by simp only [decide_eq_false_iff_not]; omega
                      have d9 : decide (l1 = 30) = false := by simp only [decide_eq_false_iff_not]; omega
                      clear q7
                      exact absurd (unhide HC) (unhide HNE)
                  · have HC : Hid (tkC s zs (lxW x) sl = 5) := hide (by rw [unhide HT0, rf_n5 (l := lxW x) (by show 0 ≤ fnF zs x.nb; omega)])
                    have n9 : decide ((0 : Int) ≤ fnF zs x.nb) = true := by rw [decide_eq_true_eq]; omega
                    clear hN
                    have HDL : Hid (tkL s zs (lxW x) sl = zs) := hide (tkL_fail (unhide HC) (by decide))
                    go_wp2_with (first | (go_at_call 59; refine (belQ (unhide HF) (unhide HAL) (unhide CA _)).mono ?_; rintro e _ ⟨rfl, y, rfl⟩) | (go_at_call 58; refine (belQ (unhide HF) (unhide HAL) (unhide CS _)).mono ?_; rintro e _ ⟨rfl, y, rfl⟩) | (go_at_call 60; refine (belS (l1In_is _ _ _ _ (by exact q4))).mono ?_; rintro e _ ⟨rfl, y, rfl⟩) | (go_at_call 61; refine (belQ (unhide HF) (unhide HAL) (unhide CF _ _)).mono ?_; rintro e _ ⟨rfl, y, rfl⟩) | (go_at_call 61; refine (belQ (unhide HF) (unhide HAL) (unhide CF _ 0)).mono ?_; rintro e _ ⟨rfl, y, rfl⟩) | (go_at_call 62; refine (belQ (unhide HF) (unhide HAL) (unhide CN _ _)).mono ?_; rintro e _ ⟨rfl, y, rfl⟩) | (go_at_call 62; refine (belQ (unhide HF) (unhide HAL) (unhide CN _ 0)).mono ?_; rintro e _ ⟨rfl, y, rfl⟩) | ((with_reducible show wpList _ _ _ (⟨none, .store 26 _ _, _, _, _, none⟩ :: _) _ _); refine at_storeAgg (us := [.int .i64 0, .slice none 0 0]) (vs := [.int .i64 s, .slice a9 l1 c9]) Tryz.sizeOf26 rfl rfl ((unhide KF2) _) rfl (by intro v hv; simp at hv; rcases hv with rfl | rfl <;> rfl) ?_; intro w5 kk gg))
                    repeat (refine wp_region_bel (fun w' h => (unhide HAL) w' ((unhide HF _).trans (h.mono (unhide HF _).size))) (by kernel_rfl) (by kernel_rfl) ?_; (repeat (go_big_quiet_step (first | (go_at_call 61; exact belQ (unhide HF) (unhide HAL) (unhide CF _ _)) | (go_at_call 61; exact belQ (unhide HF) (unhide HAL) (unhide CF _ 0)) | (go_at_call 62; exact belQ (unhide HF) (unhide HAL) (unhide CN _ _)) | (go_at_call 62; exact belQ (unhide HF) (unhide HAL) (unhide CN _ 0))))); refine wpQuiet_nil ?_; rintro _ ⟨y, rfl⟩; (first | go_wp2_with (first | (go_at_call 59; refine (belQ (unhide HF) (unhide HAL) (unhide CA _)).mono ?_; rintro e _ ⟨rfl, y, rfl⟩) | (go_at_call 58; refine (belQ (unhide HF) (unhide HAL) (unhide CS _)).mono ?_; rintro e _ ⟨rfl, y, rfl⟩) | (go_at_call 60; refine (belS (l1In_is _ _ _ _ (by exact q4))).mono ?_; rintro e _ ⟨rfl, y, rfl⟩) | (go_at_call 61; refine (belQ (unhide HF) (unhide HAL) (unhide CF _ _)).mono ?_; rintro e _ ⟨rfl, y, rfl⟩) | (go_at_call 61; refine (belQ (unhide HF) (unhide HAL) (unhide CF _ 0)).mono ?_; rintro e _ ⟨rfl, y, rfl⟩) | (go_at_call 62; refine (belQ (unhide HF) (unhide HAL) (unhide CN _ _)).mono ?_; rintro e _ ⟨rfl, y, rfl⟩) | (go_at_call 62; refine (belQ (unhide HF) (unhide HAL) (unhide CN _ 0)).mono ?_; rintro e _ ⟨rfl, y, rfl⟩) | ((with_reducible show wpList _ _ _ (⟨none, .store 26 _ _, _, _, _, none⟩ :: _) _ _); refine at_storeAgg (us := [.int .i64 0, .slice none 0 0]) (vs := [.int .i64 s, .slice a9 l1 c9]) Tryz.sizeOf26 rfl rfl ((unhide KF2) _) rfl (by intro v hv; simp at hv; rcases hv with rfl | rfl <;> rfl) ?_; intro w5 kk gg)) | go_wp2))
                    have BE : Below w.heap.size w w5 := ((unhide HBF) _).grown gg ((unhide HBF) _).size (fun q hq => by cases hq; omega)
                    have OE := ((unhide OF) _).far gg (fun q hq e => by have := Option.some.inj e; omega)
                    exact bodyPost_ret (results_cellB (vs := [.int .i64 s, .slice a9 l1 c9]) (x := .int .i64 5) rfl Tryz.isAgg26 Tryz.sizeOf26 rfl kk rfl) rfl ⟨a9, c9, by rw [unhide HDL, unhide HC, unhide HZL], ⟨by rw [unhide HDL, unhide HZL]; exact cp_ok (unhide HUS) (unhide HOK) (OE.mono (by omega))⟩, BE⟩
                · have e5 : (x.ne != 0) = true := by simpa using q5
                  have e6 : decide (x.ne = 0) = false := by simpa using q5
                  by_cases q6 : fnF zs x.ne < 0 ∨ fnF zs x.ne = -1
                  · have HC : Hid (tkC s zs (lxW x) sl = 4) := hide (tk_need (unhide HQ1) (unhide HQ2) (unhide HQ3) (unhide HQ4) ⟨q5, by show fnF zs x.ne < 0 ∨ fnF zs x.ne = saF zs x.p; rw [unhide HS]; exact q6⟩)
                    clear q5
                    by_cases q7 : fnF zs x.ne < 0
                    · have e7 : decide (fnF zs x.ne < 0) = true := by simpa using q7
                      clear q6
                      have HDL : Hid (tkL s zs (lxW x) sl = zs) := hide (tkL_fail (unhide HC) (by decide))
                      go_wp2_with (first | (go_at_call 59; refine (belQ (unhide HF) (unhide HAL) (unhide CA _)).mono ?_; rintro e _ ⟨rfl, y, rfl⟩) | (go_at_call 58; refine (belQ (unhide HF) (unhide HAL) (unhide CS _)).mono ?_; rintro e _ ⟨rfl, y, rfl⟩) | (go_at_call 60; refine (belS (l1In_is _ _ _ _ (by exact q4))).mono ?_; rintro e _ ⟨rfl, y, rfl⟩) | (go_at_call 61; refine (belQ (unhide HF) (unhide HAL) (unhide CF _ _)).mono ?_; rintro e _ ⟨rfl, y, rfl⟩) | (go_at_call 61; refine (belQ (unhide HF) (unhide HAL) (unhide CF _ 0)).mono ?_; rintro e _ ⟨rfl, y, rfl⟩) | (go_at_call 62; refine (belQ (unhide HF) (unhide HAL) (unhide CN _ _)).mono ?_; rintro e _ ⟨rfl, y, rfl⟩) | (go_at_call 62; refine (belQ (unhide HF) (unhide HAL) (unhide CN _ 0)).mono ?_; rintro e _ ⟨rfl, y, rfl⟩) | ((with_reducible show wpList _ _ _ (⟨none, .store 26 _ _, _, _, _, none⟩ :: _) _ _); refine at_storeAgg (us := [.int .i64 0, .slice none 0 0]) (vs := [.int .i64 s, .slice a9 l1 c9]) Tryz.sizeOf26 rfl rfl ((unhide KF2) _) rfl (by intro v hv; simp at hv; rcases hv with rfl | rfl <;> rfl) ?_; intro w5 kk gg))
                      repeat (refine wp_region_bel (fun w' h => (unhide HAL) w' ((unhide HF _).trans (h.mono (unhide HF _).size))) (by kernel_rfl) (by kernel_rfl) ?_; (repeat (go_big_quiet_step (first | (go_at_call 61; exact belQ (unhide HF) (unhide HAL) (unhide CF _ _)) | (go_at_call 61; exact belQ (unhide HF) (unhide HAL) (unhide CF _ 0)) | (go_at_call 62; exact belQ (unhide HF) (unhide HAL) (unhide CN _ _)) | (go_at_call 62; exact belQ (unhide HF) (unhide HAL) (unhide CN _ 0))))); refine wpQuiet_nil ?_; rintro _ ⟨y, rfl⟩; (first | go_wp2_with (first | (go_at_call 59; refine (belQ (unhide HF) (unhide HAL) (unhide CA _)).mono ?_; rintro e _ ⟨rfl, y, rfl⟩) | (go_at_call 58; refine (belQ (unhide HF) (unhide HAL) (unhide CS _)).mono ?_; rintro e _ ⟨rfl, y, rfl⟩) | (go_at_call 60; refine (belS (l1In_is _ _ _ _ (by exact q4))).mono ?_; rintro e _ ⟨rfl, y, rfl⟩) | (go_at_call 61; refine (belQ (unhide HF) (unhide HAL) (unhide CF _ _)).mono ?_; rintro e _ ⟨rfl, y, rfl⟩) | (go_at_call 61; refine (belQ (unhide HF) (unhide HAL) (unhide CF _ 0)).mono ?_; rintro e _ ⟨rfl, y, rfl⟩) | (go_at_call 62; refine (belQ (unhide HF) (unhide HAL) (unhide CN _ _)).mono ?_; rintro e _ ⟨rfl, y, rfl⟩) | (go_at_call 62; refine (belQ (unhide HF) (unhide HAL) (unhide CN _ 0)).mono ?_; rintro e _ ⟨rfl, y, rfl⟩) | ((with_reducible show wpList _ _ _ (⟨none, .store 26 _ _, _, _, _, none⟩ :: _) _ _); refine at_storeAgg (us := [.int .i64 0, .slice none 0 0]) (vs := [.int .i64 s, .slice a9 l1 c9]) Tryz.sizeOf26 rfl rfl ((unhide KF2) _) rfl (by intro v hv; simp at hv; rcases hv with rfl | rfl <;> rfl) ?_; intro w5 kk gg)) | go_wp2))
                      have BE : Below w.heap.size w w5 := ((unhide HBF) _).grown gg ((unhide HBF) _).size (fun q hq => by cases hq; omega)
                      have OE := ((unhide OF) _).far gg (fun q hq e => by have := Option.some.inj e; omega)
                      exact bodyPost_ret (results_cellB (vs := [.int .i64 s, .slice a9 l1 c9]) (x := .int .i64 4) rfl Tryz.isAgg26 Tryz.sizeOf26 rfl kk rfl) rfl ⟨a9, c9, by rw [unhide HDL, unhide HC, unhide HZL], ⟨by rw [unhide HDL, unhide HZL]; exact cp_ok (unhide HUS) (unhide HOK) (OE.mono (by omega))⟩, BE⟩
                    · have e7 : decide (fnF zs x.ne < 0) = false := by simpa using q7
                      omega
                  · have HN5 : Hid (¬ ((lxW x).ne ≠ 0 ∧ (fnF zs (lxW x).ne < 0 ∨ fnF zs (lxW x).ne = saF zs (lxW x).p))) := hide (fun h => q6 (by have := h.2; rw [show saF zs (lxW x).p = -1 from unhide HS] at this; exact this))
                    have e7 : decide (fnF zs x.ne < 0) = false := by simp only [decide_eq_false_iff_not]; omega
                    have e8 : (fnF zs x.ne == -1) = false := by simp only [beq_eq_false_iff_ne]; omega
                    have e9 : decide (fnF zs x.ne = -1) = false := by simp only [decide_eq_false_iff_not]; omega
                    clear q5 q6
                    have HT0 : Hid (tkC s zs (lxW x) sl = tkR zs (lxW x) (-1)) := hide (by have := tk_rest (unhide HQ1) (unhide HQ2) (unhide HQ3) (unhide HQ4) (unhide HN5); rw [show saF zs (lxW x).p = -1 from unhide HS] at this; exact this)
                    rcases fnF_cases zs x.nb with ⟨hN, _⟩ | ⟨t, ht, hN, _, _⟩
                    · have HN := hide hN
                      have CF2 : Hid (∀ y, Calls Tryz.prog 61 #[.agg #[.int .i64 s, .slice a1 l1 c1], .int .i64 x.nb] (f y) fun e w' => e = .returned (.int .i64 (-1)) ∧ Below (f y).heap.size (f y) w') := hide (fun y => by have := unhide CF y x.nb; rw [hN] at this; exact this)
                      have n9 : decide ((0 : Int) ≤ fnF zs x.nb) = false := by rw [hN]; rfl
                      clear hN
                      by_cases q7 : l1 = 30
                      · have HC : Hid (tkC s zs (lxW x) sl = 6) := hide (by rw [unhide HT0, rf_n6 (unhide HN) (by rw [unhide HZL, q7])])
                        have d7 : ((l1 : Int) == 30) = true := by rw [q7]; rfl
                        have d8 : decide ((l1 : Int) = 30) = true := by rw [q7]; rfl
                        have d9 : decide (l1 = 30) = true := by rw [q7]; rfl
                        clear q7
                        have HDL : Hid (tkL s zs (lxW x) sl = zs) := hide (tkL_fail (unhide HC) (by decide))
                        go_wp2_with (first | (go_at_call 59; refine (belQ (unhide HF) (unhide HAL) (unhide CA _)).mono ?_; rintro e _ ⟨rfl, y, rfl⟩) | (go_at_call 58; refine (belQ (unhide HF) (unhide HAL) (unhide CS _)).mono ?_; rintro e _ ⟨rfl, y, rfl⟩) | (go_at_call 60; refine (belS (l1In_is _ _ _ _ (by exact q4))).mono ?_; rintro e _ ⟨rfl, y, rfl⟩) | (go_at_call 61; refine (belQ (unhide HF) (unhide HAL) (unhide CF _ _)).mono ?_; rintro e _ ⟨rfl, y, rfl⟩) | (go_at_call 61; refine (belQ (unhide HF) (unhide HAL) (unhide CF _ 0)).mono ?_; rintro e _ ⟨rfl, y, rfl⟩) | (go_at_call 62; refine (belQ (unhide HF) (unhide HAL) (unhide CN _ _)).mono ?_; rintro e _ ⟨rfl, y, rfl⟩) | (go_at_call 62; refine (belQ (unhide HF) (unhide HAL) (unhide CN _ 0)).mono ?_; rintro e _ ⟨rfl, y, rfl⟩) | ((with_reducible show wpList _ _ _ (⟨none, .store 26 _ _, _, _, _, none⟩ :: _) _ _); refine at_storeAgg (us := [.int .i64 0, .slice none 0 0]) (vs := [.int .i64 s, .slice a9 l1 c9]) Tryz.sizeOf26 rfl rfl ((unhide KF2) _) rfl (by intro v hv; simp at hv; rcases hv with rfl | rfl <;> rfl) ?_; intro w5 kk gg))
                        repeat (refine wp_region_bel (fun w' h => (unhide HAL) w' ((unhide HF _).trans (h.mono (unhide HF _).size))) (by kernel_rfl) (by kernel_rfl) ?_; (repeat (go_big_quiet_step (first | (go_at_call 61; exact belQ (unhide HF) (unhide HAL) (unhide CF _ _)) | (go_at_call 61; exact belQ (unhide HF) (unhide HAL) (unhide CF _ 0)) | (go_at_call 62; exact belQ (unhide HF) (unhide HAL) (unhide CN _ _)) | (go_at_call 62; exact belQ (unhide HF) (unhide HAL) (unhide CN _ 0))))); refine wpQuiet_nil ?_; rintro _ ⟨y, rfl⟩; (first | go_wp2_with (first | (go_at_call 59; refine (belQ (unhide HF) (unhide HAL) (unhide CA _)).mono ?_; rintro e _ ⟨rfl, y, rfl⟩) | (go_at_call 58; refine (belQ (unhide HF) (unhide HAL) (unhide CS _)).mono ?_; rintro e _ ⟨rfl, y, rfl⟩) | (go_at_call 60; refine (belS (l1In_is _ _ _ _ (by exact q4))).mono ?_; rintro e _ ⟨rfl, y, rfl⟩) | (go_at_call 61; refine (belQ (unhide HF) (unhide HAL) (unhide CF _ _)).mono ?_; rintro e _ ⟨rfl, y, rfl⟩) | (go_at_call 61; refine (belQ (unhide HF) (unhide HAL) (unhide CF _ 0)).mono ?_; rintro e _ ⟨rfl, y, rfl⟩) | (go_at_call 62; refine (belQ (unhide HF) (unhide HAL) (unhide CN _ _)).mono ?_; rintro e _ ⟨rfl, y, rfl⟩) | (go_at_call 62; refine (belQ (unhide HF) (unhide HAL) (unhide CN _ 0)).mono ?_; rintro e _ ⟨rfl, y, rfl⟩) | ((with_reducible show wpList _ _ _ (⟨none, .store 26 _ _, _, _, _, none⟩ :: _) _ _); refine at_storeAgg (us := [.int .i64 0, .slice none 0 0]) (vs := [.int .i64 s, .slice a9 l1 c9]) Tryz.sizeOf26 rfl rfl ((unhide KF2) _) rfl (by intro v hv; simp at hv; rcases hv with rfl | rfl <;> rfl) ?_; intro w5 kk gg)) | go_wp2))
                        have BE : Below w.heap.size w w5 := ((unhide HBF) _).grown gg ((unhide HBF) _).size (fun q hq => by cases hq; omega)
                        have OE := ((unhide OF) _).far gg (fun q hq e => by have := Option.some.inj e; omega)
                        exact bodyPost_ret (results_cellB (vs := [.int .i64 s, .slice a9 l1 c9]) (x := .int .i64 6) rfl Tryz.isAgg26 Tryz.sizeOf26 rfl kk rfl) rfl ⟨a9, c9, by rw [unhide HDL, unhide HC, unhide HZL], ⟨by rw [unhide HDL, unhide HZL]; exact cp_ok (unhide HUS) (unhide HOK) (OE.mono (by omega))⟩, BE⟩
                      · have HC : Hid (tkC s zs (lxW x) sl = 0) := hide (by rw [unhide HT0, rf_n0 (unhide HN) (by rw [unhide HZL]; exact q7)])
                        have d7 : ((l1 : Int) == 30) = false := by simp only [beq_eq_false_iff_ne]; omega
                        have d8 : decide ((l1 : Int) = 30) = false := by simp only [decide_eq_false_iff_not]; omega
                        have d9 : decide (l1 = 30) = false := by simp only [decide_eq_false_iff_not]; omega
                        clear q7
                        exact absurd (unhide HC) (unhide HNE)
                    · have HC : Hid (tkC s zs (lxW x) sl = 5) := hide (by rw [unhide HT0, rf_n5 (l := lxW x) (by show 0 ≤ fnF zs x.nb; omega)])
                      have n9 : decide ((0 : Int) ≤ fnF zs x.nb) = true := by rw [decide_eq_true_eq]; omega
                      clear hN
                      have HDL : Hid (tkL s zs (lxW x) sl = zs) := hide (tkL_fail (unhide HC) (by decide))
                      go_wp2_with (first | (go_at_call 59; refine (belQ (unhide HF) (unhide HAL) (unhide CA _)).mono ?_; rintro e _ ⟨rfl, y, rfl⟩) | (go_at_call 58; refine (belQ (unhide HF) (unhide HAL) (unhide CS _)).mono ?_; rintro e _ ⟨rfl, y, rfl⟩) | (go_at_call 60; refine (belS (l1In_is _ _ _ _ (by exact q4))).mono ?_; rintro e _ ⟨rfl, y, rfl⟩) | (go_at_call 61; refine (belQ (unhide HF) (unhide HAL) (unhide CF _ _)).mono ?_; rintro e _ ⟨rfl, y, rfl⟩) | (go_at_call 61; refine (belQ (unhide HF) (unhide HAL) (unhide CF _ 0)).mono ?_; rintro e _ ⟨rfl, y, rfl⟩) | (go_at_call 62; refine (belQ (unhide HF) (unhide HAL) (unhide CN _ _)).mono ?_; rintro e _ ⟨rfl, y, rfl⟩) | (go_at_call 62; refine (belQ (unhide HF) (unhide HAL) (unhide CN _ 0)).mono ?_; rintro e _ ⟨rfl, y, rfl⟩) | ((with_reducible show wpList _ _ _ (⟨none, .store 26 _ _, _, _, _, none⟩ :: _) _ _); refine at_storeAgg (us := [.int .i64 0, .slice none 0 0]) (vs := [.int .i64 s, .slice a9 l1 c9]) Tryz.sizeOf26 rfl rfl ((unhide KF2) _) rfl (by intro v hv; simp at hv; rcases hv with rfl | rfl <;> rfl) ?_; intro w5 kk gg))
                      repeat (refine wp_region_bel (fun w' h => (unhide HAL) w' ((unhide HF _).trans (h.mono (unhide HF _).size))) (by kernel_rfl) (by kernel_rfl) ?_; (repeat (go_big_quiet_step (first | (go_at_call 61; exact belQ (unhide HF) (unhide HAL) (unhide CF _ _)) | (go_at_call 61; exact belQ (unhide HF) (unhide HAL) (unhide CF _ 0)) | (go_at_call 62; exact belQ (unhide HF) (unhide HAL) (unhide CN _ _)) | (go_at_call 62; exact belQ (unhide HF) (unhide HAL) (unhide CN _ 0))))); refine wpQuiet_nil ?_; rintro _ ⟨y, rfl⟩; (first | go_wp2_with (first | (go_at_call 59; refine (belQ (unhide HF) (unhide HAL) (unhide CA _)).mono ?_; rintro e _ ⟨rfl, y, rfl⟩) | (go_at_call 58; refine (belQ (unhide HF) (unhide HAL) (unhide CS _)).mono ?_; rintro e _ ⟨rfl, y, rfl⟩) | (go_at_call 60; refine (belS (l1In_is _ _ _ _ (by exact q4))).mono ?_; rintro e _ ⟨rfl, y, rfl⟩) | (go_at_call 61; refine (belQ (unhide HF) (unhide HAL) (unhide CF _ _)).mono ?_; rintro e _ ⟨rfl, y, rfl⟩) | (go_at_call 61; refine (belQ (unhide HF) (unhide HAL) (unhide CF _ 0)).mono ?_; rintro e _ ⟨rfl, y, rfl⟩) | (go_at_call 62; refine (belQ (unhide HF) (unhide HAL) (unhide CN _ _)).mono ?_; rintro e _ ⟨rfl, y, rfl⟩) | (go_at_call 62; refine (belQ (unhide HF) (unhide HAL) (unhide CN _ 0)).mono ?_; rintro e _ ⟨rfl, y, rfl⟩) | ((with_reducible show wpList _ _ _ (⟨none, .store 26 _ _, _, _, _, none⟩ :: _) _ _); refine at_storeAgg (us := [.int .i64 0, .slice none 0 0]) (vs := [.int .i64 s, .slice a9 l1 c9]) Tryz.sizeOf26 rfl rfl ((unhide KF2) _) rfl (by intro v hv; simp at hv; rcases hv with rfl | rfl <;> rfl) ?_; intro w5 kk gg)) | go_wp2))
                      have BE : Below w.heap.size w w5 := ((unhide HBF) _).grown gg ((unhide HBF) _).size (fun q hq => by cases hq; omega)
                      have OE := ((unhide OF) _).far gg (fun q hq e => by have := Option.some.inj e; omega)
                      exact bodyPost_ret (results_cellB (vs := [.int .i64 s, .slice a9 l1 c9]) (x := .int .i64 5) rfl Tryz.isAgg26 Tryz.sizeOf26 rfl kk rfl) rfl ⟨a9, c9, by rw [unhide HDL, unhide HC, unhide HZL], ⟨by rw [unhide HDL, unhide HZL]; exact cp_ok (unhide HUS) (unhide HOK) (OE.mono (by omega))⟩, BE⟩
              · have HS := hide hS
                rw [hS]
                clear hS
                have hjl : j < l1 := by have := unhide HZL; omega
                obtain ⟨bb, off, ha1⟩ := (unhide HA1) (by omega)
                subst ha1
                obtain ⟨Y, hY⟩ : ∃ z, (elAt zs j).nb = z := ⟨_, rfl⟩
                have m1 := fun y => ((unhide CELL) bb off rfl j hjl y).2
                rw [hY] at m1
                have HY := hide hY
                have hi1j : (j : Int) < (l1 : Int) := by omega
                have hi0j : (0 : Int) ≤ (j : Int) := by omega
                have nj : ¬ (j : Int) < 0 := by omega
                have nj2 : decide ((j : Int) < 0) = false := by simp only [decide_eq_false_iff_not]; omega
                clear hY CELL HA1
                by_cases q5 : x.ne = 0
                · have HN5 : Hid (¬ ((lxW x).ne ≠ 0 ∧ (fnF zs (lxW x).ne < 0 ∨ fnF zs (lxW x).ne = saF zs (lxW x).p))) := hide (fun h => h.1 q5)
                  have e5 : (x.ne != 0) = false := by simpa using q5
                  have e6 : decide (x.ne = 0) = true := by simpa using q5
                  clear q5
                  have HT0 : Hid (tkC s zs (lxW x) sl = tkR zs (lxW x) ((j : Int))) := hide (by have := tk_rest (unhide HQ1) (unhide HQ2) (unhide HQ3) (unhide HQ4) (unhide HN5); rw [show saF zs (lxW x).p = (j : Int) from unhide HS] at this; exact this)
                  cases q6 : neB zs Y with
                  | true =>
                    have HC : Hid (tkC s zs (lxW x) sl = 4) := hide (by rw [unhide HT0, rf_k4 (unhide HY) q6])
                    have CN : Hid (∀ y (_ : Int), Calls Tryz.prog 62 #[.agg #[.int .i64 s, .slice (some ⟨bb, off, none⟩) l1 c1], .int .i64 Y] (f y) fun e w' => e = .returned (.bool true) ∧ Below (f y).heap.size (f y) w') := hide (fun y _ => by have := unhide CN y Y; rw [q6] at this; exact this)
                    clear q6
                    have HDL : Hid (tkL s zs (lxW x) sl = zs) := hide (tkL_fail (unhide HC) (by decide))
                    go_wp2_with (first | (go_at_call 59; refine (belQ (unhide HF) (unhide HAL) (unhide CA _)).mono ?_; rintro e _ ⟨rfl, y, rfl⟩) | (go_at_call 58; refine (belQ (unhide HF) (unhide HAL) (unhide CS _)).mono ?_; rintro e _ ⟨rfl, y, rfl⟩) | (go_at_call 60; refine (belS (l1In_is _ _ _ _ (by exact q4))).mono ?_; rintro e _ ⟨rfl, y, rfl⟩) | (go_at_call 61; refine (belQ (unhide HF) (unhide HAL) (unhide CF _ _)).mono ?_; rintro e _ ⟨rfl, y, rfl⟩) | (go_at_call 61; refine (belQ (unhide HF) (unhide HAL) (unhide CF _ 0)).mono ?_; rintro e _ ⟨rfl, y, rfl⟩) | (go_at_call 62; refine (belQ (unhide HF) (unhide HAL) (unhide CN _ _)).mono ?_; rintro e _ ⟨rfl, y, rfl⟩) | (go_at_call 62; refine (belQ (unhide HF) (unhide HAL) (unhide CN _ 0)).mono ?_; rintro e _ ⟨rfl, y, rfl⟩) | ((with_reducible show wpList _ _ _ (⟨none, .store 26 _ _, _, _, _, none⟩ :: _) _ _); refine at_storeAgg (us := [.int .i64 0, .slice none 0 0]) (vs := [.int .i64 s, .slice a9 l1 c9]) Tryz.sizeOf26 rfl rfl ((unhide KF2) _) rfl (by intro v hv; simp at hv; rcases hv with rfl | rfl <;> rfl) ?_; intro w5 kk gg))
                    repeat (refine wp_region_bel (fun w' h => (unhide HAL) w' ((unhide HF _).trans (h.mono (unhide HF _).size))) (by kernel_rfl) (by kernel_rfl) ?_; (repeat (go_big_quiet_step (first | (go_at_call 61; exact belQ (unhide HF) (unhide HAL) (unhide CF _ _)) | (go_at_call 61; exact belQ (unhide HF) (unhide HAL) (unhide CF _ 0)) | (go_at_call 62; exact belQ (unhide HF) (unhide HAL) (unhide CN _ _)) | (go_at_call 62; exact belQ (unhide HF) (unhide HAL) (unhide CN _ 0))))); refine wpQuiet_nil ?_; rintro _ ⟨y, rfl⟩; (first | go_wp2_with (first | (go_at_call 59; refine (belQ (unhide HF) (unhide HAL) (unhide CA _)).mono ?_; rintro e _ ⟨rfl, y, rfl⟩) | (go_at_call 58; refine (belQ (unhide HF) (unhide HAL) (unhide CS _)).mono ?_; rintro e _ ⟨rfl, y, rfl⟩) | (go_at_call 60; refine (belS (l1In_is _ _ _ _ (by exact q4))).mono ?_; rintro e _ ⟨rfl, y, rfl⟩) | (go_at_call 61; refine (belQ (unhide HF) (unhide HAL) (unhide CF _ _)).mono ?_; rintro e _ ⟨rfl, y, rfl⟩) | (go_at_call 61; refine (belQ (unhide HF) (unhide HAL) (unhide CF _ 0)).mono ?_; rintro e _ ⟨rfl, y, rfl⟩) | (go_at_call 62; refine (belQ (unhide HF) (unhide HAL) (unhide CN _ _)).mono ?_; rintro e _ ⟨rfl, y, rfl⟩) | (go_at_call 62; refine (belQ (unhide HF) (unhide HAL) (unhide CN _ 0)).mono ?_; rintro e _ ⟨rfl, y, rfl⟩) | ((with_reducible show wpList _ _ _ (⟨none, .store 26 _ _, _, _, _, none⟩ :: _) _ _); refine at_storeAgg (us := [.int .i64 0, .slice none 0 0]) (vs := [.int .i64 s, .slice a9 l1 c9]) Tryz.sizeOf26 rfl rfl ((unhide KF2) _) rfl (by intro v hv; simp at hv; rcases hv with rfl | rfl <;> rfl) ?_; intro w5 kk gg)) | go_wp2))
                    have BE : Below w.heap.size w w5 := ((unhide HBF) _).grown gg ((unhide HBF) _).size (fun q hq => by cases hq; omega)
                    have OE := ((unhide OF) _).far gg (fun q hq e => by have := Option.some.inj e; omega)
                    exact bodyPost_ret (results_cellB (vs := [.int .i64 s, .slice a9 l1 c9]) (x := .int .i64 4) rfl Tryz.isAgg26 Tryz.sizeOf26 rfl kk rfl) rfl ⟨a9, c9, by rw [unhide HDL, unhide HC, unhide HZL], ⟨by rw [unhide HDL, unhide HZL]; exact cp_ok (unhide HUS) (unhide HOK) (OE.mono (by omega))⟩, BE⟩
                  | false =>
                    have HQ6 := hide q6
                    have CN : Hid (∀ y (_ : Int), Calls Tryz.prog 62 #[.agg #[.int .i64 s, .slice (some ⟨bb, off, none⟩) l1 c1], .int .i64 Y] (f y) fun e w' => e = .returned (.bool false) ∧ Below (f y).heap.size (f y) w') := hide (fun y _ => by have := unhide CN y Y; rw [q6] at this; exact this)
                    clear q6
                    by_cases q7 : x.nb ≤ Y
                    · have HC : Hid (tkC s zs (lxW x) sl = 5) := hide (by rw [unhide HT0, rf_k5 (unhide HY) (unhide HQ6) (.inl q7)])
                      have d7 : decide (x.nb ≤ Y) = true := by simpa using q7
                      have HDL : Hid (tkL s zs (lxW x) sl = zs) := hide (tkL_fail (unhide HC) (by decide))
                      go_wp2_with (first | (go_at_call 59; refine (belQ (unhide HF) (unhide HAL) (unhide CA _)).mono ?_; rintro e _ ⟨rfl, y, rfl⟩) | (go_at_call 58; refine (belQ (unhide HF) (unhide HAL) (unhide CS _)).mono ?_; rintro e _ ⟨rfl, y, rfl⟩) | (go_at_call 60; refine (belS (l1In_is _ _ _ _ (by exact q4))).mono ?_; rintro e _ ⟨rfl, y, rfl⟩) | (go_at_call 61; refine (belQ (unhide HF) (unhide HAL) (unhide CF _ _)).mono ?_; rintro e _ ⟨rfl, y, rfl⟩) | (go_at_call 61; refine (belQ (unhide HF) (unhide HAL) (unhide CF _ 0)).mono ?_; rintro e _ ⟨rfl, y, rfl⟩) | (go_at_call 62; refine (belQ (unhide HF) (unhide HAL) (unhide CN _ _)).mono ?_; rintro e _ ⟨rfl, y, rfl⟩) | (go_at_call 62; refine (belQ (unhide HF) (unhide HAL) (unhide CN _ 0)).mono ?_; rintro e _ ⟨rfl, y, rfl⟩) | ((with_reducible show wpList _ _ _ (⟨none, .store 26 _ _, _, _, _, none⟩ :: _) _ _); refine at_storeAgg (us := [.int .i64 0, .slice none 0 0]) (vs := [.int .i64 s, .slice a9 l1 c9]) Tryz.sizeOf26 rfl rfl ((unhide KF2) _) rfl (by intro v hv; simp at hv; rcases hv with rfl | rfl <;> rfl) ?_; intro w5 kk gg))
                      repeat (refine wp_region_bel (fun w' h => (unhide HAL) w' ((unhide HF _).trans (h.mono (unhide HF _).size))) (by kernel_rfl) (by kernel_rfl) ?_; (repeat (go_big_quiet_step (first | (go_at_call 61; exact belQ (unhide HF) (unhide HAL) (unhide CF _ _)) | (go_at_call 61; exact belQ (unhide HF) (unhide HAL) (unhide CF _ 0)) | (go_at_call 62; exact belQ (unhide HF) (unhide HAL) (unhide CN _ _)) | (go_at_call 62; exact belQ (unhide HF) (unhide HAL) (unhide CN _ 0))))); refine wpQuiet_nil ?_; rintro _ ⟨y, rfl⟩; (first | go_wp2_with (first | (go_at_call 59; refine (belQ (unhide HF) (unhide HAL) (unhide CA _)).mono ?_; rintro e _ ⟨rfl, y, rfl⟩) | (go_at_call 58; refine (belQ (unhide HF) (unhide HAL) (unhide CS _)).mono ?_; rintro e _ ⟨rfl, y, rfl⟩) | (go_at_call 60; refine (belS (l1In_is _ _ _ _ (by exact q4))).mono ?_; rintro e _ ⟨rfl, y, rfl⟩) | (go_at_call 61; refine (belQ (unhide HF) (unhide HAL) (unhide CF _ _)).mono ?_; rintro e _ ⟨rfl, y, rfl⟩) | (go_at_call 61; refine (belQ (unhide HF) (unhide HAL) (unhide CF _ 0)).mono ?_; rintro e _ ⟨rfl, y, rfl⟩) | (go_at_call 62; refine (belQ (unhide HF) (unhide HAL) (unhide CN _ _)).mono ?_; rintro e _ ⟨rfl, y, rfl⟩) | (go_at_call 62; refine (belQ (unhide HF) (unhide HAL) (unhide CN _ 0)).mono ?_; rintro e _ ⟨rfl, y, rfl⟩) | ((with_reducible show wpList _ _ _ (⟨none, .store 26 _ _, _, _, _, none⟩ :: _) _ _); refine at_storeAgg (us := [.int .i64 0, .slice none 0 0]) (vs := [.int .i64 s, .slice a9 l1 c9]) Tryz.sizeOf26 rfl rfl ((unhide KF2) _) rfl (by intro v hv; simp at hv; rcases hv with rfl | rfl <;> rfl) ?_; intro w5 kk gg)) | go_wp2))
                      have BE : Below w.heap.size w w5 := ((unhide HBF) _).grown gg ((unhide HBF) _).size (fun q hq => by cases hq; omega)
                      have OE := ((unhide OF) _).far gg (fun q hq e => by have := Option.some.inj e; omega)
                      exact bodyPost_ret (results_cellB (vs := [.int .i64 s, .slice a9 l1 c9]) (x := .int .i64 5) rfl Tryz.isAgg26 Tryz.sizeOf26 rfl kk rfl) rfl ⟨a9, c9, by rw [unhide HDL, unhide HC, unhide HZL], ⟨by rw [unhide HDL, unhide HZL]; exact cp_ok (unhide HUS) (unhide HOK) (OE.mono (by omega))⟩, BE⟩
                    · have d7 : decide (x.nb ≤ Y) = false := by simpa using q7
                      have HQ7 := hide q7
                      rcases fnF_cases zs x.nb with ⟨hN, _⟩ | ⟨t, ht, hN, _, _⟩
                      · have HC : Hid (tkC s zs (lxW x) sl = 0) := hide (by rw [unhide HT0, rf_k0 (unhide HY) (unhide HQ6) (unhide HQ7) hN])
                        have n9 : decide ((0 : Int) ≤ fnF zs x.nb) = false := by rw [hN]; rfl
                        clear hN
                        exact absurd (unhide HC) (unhide HNE)
                      · have HC : Hid (tkC s zs (lxW x) sl = 5) := hide (by rw [unhide HT0, rf_k5 (unhide HY) (unhide HQ6) (.inr (by show 0 ≤ fnF zs x.nb; omega))])
                        have n9 : decide ((0 : Int) ≤ fnF zs x.nb) = true := by rw [decide_eq_true_eq]; omega
                        clear hN
                        have HDL : Hid (tkL s zs (lxW x) sl = zs) := hide (tkL_fail (unhide HC) (by decide))
                        go_wp2_with (first | (go_at_call 59; refine (belQ (unhide HF) (unhide HAL) (unhide CA _)).mono ?_; rintro e _ ⟨rfl, y, rfl⟩) | (go_at_call 58; refine (belQ (unhide HF) (unhide HAL) (unhide CS _)).mono ?_; rintro e _ ⟨rfl, y, rfl⟩) | (go_at_call 60; refine (belS (l1In_is _ _ _ _ (by exact q4))).mono ?_; rintro e _ ⟨rfl, y, rfl⟩) | (go_at_call 61; refine (belQ (unhide HF) (unhide HAL) (unhide CF _ _)).mono ?_; rintro e _ ⟨rfl, y, rfl⟩) | (go_at_call 61; refine (belQ (unhide HF) (unhide HAL) (unhide CF _ 0)).mono ?_; rintro e _ ⟨rfl, y, rfl⟩) | (go_at_call 62; refine (belQ (unhide HF) (unhide HAL) (unhide CN _ _)).mono ?_; rintro e _ ⟨rfl, y, rfl⟩) | (go_at_call 62; refine (belQ (unhide HF) (unhide HAL) (unhide CN _ 0)).mono ?_; rintro e _ ⟨rfl, y, rfl⟩) | ((with_reducible show wpList _ _ _ (⟨none, .store 26 _ _, _, _, _, none⟩ :: _) _ _); refine at_storeAgg (us := [.int .i64 0, .slice none 0 0]) (vs := [.int .i64 s, .slice a9 l1 c9]) Tryz.sizeOf26 rfl rfl ((unhide KF2) _) rfl (by intro v hv; simp at hv; rcases hv with rfl | rfl <;> rfl) ?_; intro w5 kk gg))
                        repeat (refine wp_region_bel (fun w' h => (unhide HAL) w' ((unhide HF _).trans (h.mono (unhide HF _).size))) (by kernel_rfl) (by kernel_rfl) ?_; (repeat (go_big_quiet_step (first | (go_at_call 61; exact belQ (unhide HF) (unhide HAL) (unhide CF _ _)) | (go_at_call 61; exact belQ (unhide HF) (unhide HAL) (unhide CF _ 0)) | (go_at_call 62; exact belQ (unhide HF) (unhide HAL) (unhide CN _ _)) | (go_at_call 62; exact belQ (unhide HF) (unhide HAL) (unhide CN _ 0))))); refine wpQuiet_nil ?_; rintro _ ⟨y, rfl⟩; (first | go_wp2_with (first | (go_at_call 59; refine (belQ (unhide HF) (unhide HAL) (unhide CA _)).mono ?_; rintro e _ ⟨rfl, y, rfl⟩) | (go_at_call 58; refine (belQ (unhide HF) (unhide HAL) (unhide CS _)).mono ?_; rintro e _ ⟨rfl, y, rfl⟩) | (go_at_call 60; refine (belS (l1In_is _ _ _ _ (by exact q4))).mono ?_; rintro e _ ⟨rfl, y, rfl⟩) | (go_at_call 61; refine (belQ (unhide HF) (unhide HAL) (unhide CF _ _)).mono ?_; rintro e _ ⟨rfl, y, rfl⟩) | (go_at_call 61; refine (belQ (unhide HF) (unhide HAL) (unhide CF _ 0)).mono ?_; rintro e _ ⟨rfl, y, rfl⟩) | (go_at_call 62; refine (belQ (unhide HF) (unhide HAL) (unhide CN _ _)).mono ?_; rintro e _ ⟨rfl, y, rfl⟩) | (go_at_call 62; refine (belQ (unhide HF) (unhide HAL) (unhide CN _ 0)).mono ?_; rintro e _ ⟨rfl, y, rfl⟩) | ((with_reducible show wpList _ _ _ (⟨none, .store 26 _ _, _, _, _, none⟩ :: _) _ _); refine at_storeAgg (us := [.int .i64 0, .slice none 0 0]) (vs := [.int .i64 s, .slice a9 l1 c9]) Tryz.sizeOf26 rfl rfl ((unhide KF2) _) rfl (by intro v hv; simp at hv; rcases hv with rfl | rfl <;> rfl) ?_; intro w5 kk gg)) | go_wp2))
                        have BE : Below w.heap.size w w5 := ((unhide HBF) _).grown gg ((unhide HBF) _).size (fun q hq => by cases hq; omega)
                        have OE := ((unhide OF) _).far gg (fun q hq e => by have := Option.some.inj e; omega)
                        exact bodyPost_ret (results_cellB (vs := [.int .i64 s, .slice a9 l1 c9]) (x := .int .i64 5) rfl Tryz.isAgg26 Tryz.sizeOf26 rfl kk rfl) rfl ⟨a9, c9, by rw [unhide HDL, unhide HC, unhide HZL], ⟨by rw [unhide HDL, unhide HZL]; exact cp_ok (unhide HUS) (unhide HOK) (OE.mono (by omega))⟩, BE⟩
                · have e5 : (x.ne != 0) = true := by simpa using q5
                  have e6 : decide (x.ne = 0) = false := by simpa using q5
                  by_cases q6 : fnF zs x.ne < 0 ∨ fnF zs x.ne = (j : Int)
                  · have HC : Hid (tkC s zs (lxW x) sl = 4) := hide (tk_need (unhide HQ1) (unhide HQ2) (unhide HQ3) (unhide HQ4) ⟨q5, by show fnF zs x.ne < 0 ∨ fnF zs x.ne = saF zs x.p; rw [unhide HS]; exact q6⟩)
                    clear q5
                    by_cases q7 : fnF zs x.ne < 0
                    · have e7 : decide (fnF zs x.ne < 0) = true := by simpa using q7
                      clear q6
                      have HDL : Hid (tkL s zs (lxW x) sl = zs) := hide (tkL_fail (unhide HC) (by decide))
                      go_wp2_with (first | (go_at_call 59; refine (belQ (unhide HF) (unhide HAL) (unhide CA _)).mono ?_; rintro e _ ⟨rfl, y, rfl⟩) | (go_at_call 58; refine (belQ (unhide HF) (unhide HAL) (unhide CS _)).mono ?_; rintro e _ ⟨rfl, y, rfl⟩) | (go_at_call 60; refine (belS (l1In_is _ _ _ _ (by exact q4))).mono ?_; rintro e _ ⟨rfl, y, rfl⟩) | (go_at_call 61; refine (belQ (unhide HF) (unhide HAL) (unhide CF _ _)).mono ?_; rintro e _ ⟨rfl, y, rfl⟩) | (go_at_call 61; refine (belQ (unhide HF) (unhide HAL) (unhide CF _ 0)).mono ?_; rintro e _ ⟨rfl, y, rfl⟩) | (go_at_call 62; refine (belQ (unhide HF) (unhide HAL) (unhide CN _ _)).mono ?_; rintro e _ ⟨rfl, y, rfl⟩) | (go_at_call 62; refine (belQ (unhide HF) (unhide HAL) (unhide CN _ 0)).mono ?_; rintro e _ ⟨rfl, y, rfl⟩) | ((with_reducible show wpList _ _ _ (⟨none, .store 26 _ _, _, _, _, none⟩ :: _) _ _); refine at_storeAgg (us := [.int .i64 0, .slice none 0 0]) (vs := [.int .i64 s, .slice a9 l1 c9]) Tryz.sizeOf26 rfl rfl ((unhide KF2) _) rfl (by intro v hv; simp at hv; rcases hv with rfl | rfl <;> rfl) ?_; intro w5 kk gg))
                      repeat (refine wp_region_bel (fun w' h => (unhide HAL) w' ((unhide HF _).trans (h.mono (unhide HF _).size))) (by kernel_rfl) (by kernel_rfl) ?_; (repeat (go_big_quiet_step (first | (go_at_call 61; exact belQ (unhide HF) (unhide HAL) (unhide CF _ _)) | (go_at_call 61; exact belQ (unhide HF) (unhide HAL) (unhide CF _ 0)) | (go_at_call 62; exact belQ (unhide HF) (unhide HAL) (unhide CN _ _)) | (go_at_call 62; exact belQ (unhide HF) (unhide HAL) (unhide CN _ 0))))); refine wpQuiet_nil ?_; rintro _ ⟨y, rfl⟩; (first | go_wp2_with (first | (go_at_call 59; refine (belQ (unhide HF) (unhide HAL) (unhide CA _)).mono ?_; rintro e _ ⟨rfl, y, rfl⟩) | (go_at_call 58; refine (belQ (unhide HF) (unhide HAL) (unhide CS _)).mono ?_; rintro e _ ⟨rfl, y, rfl⟩) | (go_at_call 60; refine (belS (l1In_is _ _ _ _ (by exact q4))).mono ?_; rintro e _ ⟨rfl, y, rfl⟩) | (go_at_call 61; refine (belQ (unhide HF) (unhide HAL) (unhide CF _ _)).mono ?_; rintro e _ ⟨rfl, y, rfl⟩) | (go_at_call 61; refine (belQ (unhide HF) (unhide HAL) (unhide CF _ 0)).mono ?_; rintro e _ ⟨rfl, y, rfl⟩) | (go_at_call 62; refine (belQ (unhide HF) (unhide HAL) (unhide CN _ _)).mono ?_; rintro e _ ⟨rfl, y, rfl⟩) | (go_at_call 62; refine (belQ (unhide HF) (unhide HAL) (unhide CN _ 0)).mono ?_; rintro e _ ⟨rfl, y, rfl⟩) | ((with_reducible show wpList _ _ _ (⟨none, .store 26 _ _, _, _, _, none⟩ :: _) _ _); refine at_storeAgg (us := [.int .i64 0, .slice none 0 0]) (vs := [.int .i64 s, .slice a9 l1 c9]) Tryz.sizeOf26 rfl rfl ((unhide KF2) _) rfl (by intro v hv; simp at hv; rcases hv with rfl | rfl <;> rfl) ?_; intro w5 kk gg)) | go_wp2))
                      have BE : Below w.heap.size w w5 := ((unhide HBF) _).grown gg ((unhide HBF) _).size (fun q hq => by cases hq; omega)
                      have OE := ((unhide OF) _).far gg (fun q hq e => by have := Option.some.inj e; omega)
                      exact bodyPost_ret (results_cellB (vs := [.int .i64 s, .slice a9 l1 c9]) (x := .int .i64 4) rfl Tryz.isAgg26 Tryz.sizeOf26 rfl kk rfl) rfl ⟨a9, c9, by rw [unhide HDL, unhide HC, unhide HZL], ⟨by rw [unhide HDL, unhide HZL]; exact cp_ok (unhide HUS) (unhide HOK) (OE.mono (by omega))⟩, BE⟩
                    · have e7 : decide (fnF zs x.ne < 0) = false := by simpa using q7
                      have q8 : fnF zs x.ne = (j : Int) := by omega
                      have CF : Hid (∀ y (_ : Int), Calls Tryz.prog 61 #[.agg #[.int .i64 s, .slice (some ⟨bb, off, none⟩) l1 c1], .int .i64 x.ne] (f y) fun e w' => e = .returned (.int .i64 ((j : Int))) ∧ Below (f y).heap.size (f y) w') := hide (fun y _ => by have := unhide CF y x.ne; rw [q8] at this; exact this)
                      clear q6 q7 q8 e7
                      have HDL : Hid (tkL s zs (lxW x) sl = zs) := hide (tkL_fail (unhide HC) (by decide))
                      go_wp2_with (first | (go_at_call 59; refine (belQ (unhide HF) (unhide HAL) (unhide CA _)).mono ?_; rintro e _ ⟨rfl, y, rfl⟩) | (go_at_call 58; refine (belQ (unhide HF) (unhide HAL) (unhide CS _)).mono ?_; rintro e _ ⟨rfl, y, rfl⟩) | (go_at_call 60; refine (belS (l1In_is _ _ _ _ (by exact q4))).mono ?_; rintro e _ ⟨rfl, y, rfl⟩) | (go_at_call 61; refine (belQ (unhide HF) (unhide HAL) (unhide CF _ _)).mono ?_; rintro e _ ⟨rfl, y, rfl⟩) | (go_at_call 61; refine (belQ (unhide HF) (unhide HAL) (unhide CF _ 0)).mono ?_; rintro e _ ⟨rfl, y, rfl⟩) | (go_at_call 62; refine (belQ (unhide HF) (unhide HAL) (unhide CN _ _)).mono ?_; rintro e _ ⟨rfl, y, rfl⟩) | (go_at_call 62; refine (belQ (unhide HF) (unhide HAL) (unhide CN _ 0)).mono ?_; rintro e _ ⟨rfl, y, rfl⟩) | ((with_reducible show wpList _ _ _ (⟨none, .store 26 _ _, _, _, _, none⟩ :: _) _ _); refine at_storeAgg (us := [.int .i64 0, .slice none 0 0]) (vs := [.int .i64 s, .slice a9 l1 c9]) Tryz.sizeOf26 rfl rfl ((unhide KF2) _) rfl (by intro v hv; simp at hv; rcases hv with rfl | rfl <;> rfl) ?_; intro w5 kk gg))
                      repeat (refine wp_region_bel (fun w' h => (unhide HAL) w' ((unhide HF _).trans (h.mono (unhide HF _).size))) (by kernel_rfl) (by kernel_rfl) ?_; (repeat (go_big_quiet_step (first | (go_at_call 61; exact belQ (unhide HF) (unhide HAL) (unhide CF _ _)) | (go_at_call 61; exact belQ (unhide HF) (unhide HAL) (unhide CF _ 0)) | (go_at_call 62; exact belQ (unhide HF) (unhide HAL) (unhide CN _ _)) | (go_at_call 62; exact belQ (unhide HF) (unhide HAL) (unhide CN _ 0))))); refine wpQuiet_nil ?_; rintro _ ⟨y, rfl⟩; (first | go_wp2_with (first | (go_at_call 59; refine (belQ (unhide HF) (unhide HAL) (unhide CA _)).mono ?_; rintro e _ ⟨rfl, y, rfl⟩) | (go_at_call 58; refine (belQ (unhide HF) (unhide HAL) (unhide CS _)).mono ?_; rintro e _ ⟨rfl, y, rfl⟩) | (go_at_call 60; refine (belS (l1In_is _ _ _ _ (by exact q4))).mono ?_; rintro e _ ⟨rfl, y, rfl⟩) | (go_at_call 61; refine (belQ (unhide HF) (unhide HAL) (unhide CF _ _)).mono ?_; rintro e _ ⟨rfl, y, rfl⟩) | (go_at_call 61; refine (belQ (unhide HF) (unhide HAL) (unhide CF _ 0)).mono ?_; rintro e _ ⟨rfl, y, rfl⟩) | (go_at_call 62; refine (belQ (unhide HF) (unhide HAL) (unhide CN _ _)).mono ?_; rintro e _ ⟨rfl, y, rfl⟩) | (go_at_call 62; refine (belQ (unhide HF) (unhide HAL) (unhide CN _ 0)).mono ?_; rintro e _ ⟨rfl, y, rfl⟩) | ((with_reducible show wpList _ _ _ (⟨none, .store 26 _ _, _, _, _, none⟩ :: _) _ _); refine at_storeAgg (us := [.int .i64 0, .slice none 0 0]) (vs := [.int .i64 s, .slice a9 l1 c9]) Tryz.sizeOf26 rfl rfl ((unhide KF2) _) rfl (by intro v hv; simp at hv; rcases hv with rfl | rfl <;> rfl) ?_; intro w5 kk gg)) | go_wp2))
                      have BE : Below w.heap.size w w5 := ((unhide HBF) _).grown gg ((unhide HBF) _).size (fun q hq => by cases hq; omega)
                      have OE := ((unhide OF) _).far gg (fun q hq e => by have := Option.some.inj e; omega)
                      exact bodyPost_ret (results_cellB (vs := [.int .i64 s, .slice a9 l1 c9]) (x := .int .i64 4) rfl Tryz.isAgg26 Tryz.sizeOf26 rfl kk rfl) rfl ⟨a9, c9, by rw [unhide HDL, unhide HC, unhide HZL], ⟨by rw [unhide HDL, unhide HZL]; exact cp_ok (unhide HUS) (unhide HOK) (OE.mono (by omega))⟩, BE⟩
                  · have HN5 : Hid (¬ ((lxW x).ne ≠ 0 ∧ (fnF zs (lxW x).ne < 0 ∨ fnF zs (lxW x).ne = saF zs (lxW x).p))) := hide (fun h => q6 (by have := h.2; rw [show saF zs (lxW x).p = (j : Int) from unhide HS] at this; exact this))
                    have e7 : decide (fnF zs x.ne < 0) = false := by simp only [decide_eq_false_iff_not]; omega
                    have e8 : (fnF zs x.ne == (j : Int)) = false := by simp only [beq_eq_false_iff_ne]; omega
                    have e9 : decide (fnF zs x.ne = (j : Int)) = false := by simp only [decide_eq_false_iff_not]; omega
                    clear q5 q6
                    have HT0 : Hid (tkC s zs (lxW x) sl = tkR zs (lxW x) ((j : Int))) := hide (by have := tk_rest (unhide HQ1) (unhide HQ2) (unhide HQ3) (unhide HQ4) (unhide HN5); rw [show saF zs (lxW x).p = (j : Int) from unhide HS] at this; exact this)
                    cases q6 : neB zs Y with
                    | true =>
                      have HC : Hid (tkC s zs (lxW x) sl = 4) := hide (by rw [unhide HT0, rf_k4 (unhide HY) q6])
                      have CN : Hid (∀ y (_ : Int), Calls Tryz.prog 62 #[.agg #[.int .i64 s, .slice (some ⟨bb, off, none⟩) l1 c1], .int .i64 Y] (f y) fun e w' => e = .returned (.bool true) ∧ Below (f y).heap.size (f y) w') := hide (fun y _ => by have := unhide CN y Y; rw [q6] at this; exact this)
                      clear q6
                      have HDL : Hid (tkL s zs (lxW x) sl = zs) := hide (tkL_fail (unhide HC) (by decide))
                      go_wp2_with (first | (go_at_call 59; refine (belQ (unhide HF) (unhide HAL) (unhide CA _)).mono ?_; rintro e _ ⟨rfl, y, rfl⟩) | (go_at_call 58; refine (belQ (unhide HF) (unhide HAL) (unhide CS _)).mono ?_; rintro e _ ⟨rfl, y, rfl⟩) | (go_at_call 60; refine (belS (l1In_is _ _ _ _ (by exact q4))).mono ?_; rintro e _ ⟨rfl, y, rfl⟩) | (go_at_call 61; refine (belQ (unhide HF) (unhide HAL) (unhide CF _ _)).mono ?_; rintro e _ ⟨rfl, y, rfl⟩) | (go_at_call 61; refine (belQ (unhide HF) (unhide HAL) (unhide CF _ 0)).mono ?_; rintro e _ ⟨rfl, y, rfl⟩) | (go_at_call 62; refine (belQ (unhide HF) (unhide HAL) (unhide CN _ _)).mono ?_; rintro e _ ⟨rfl, y, rfl⟩) | (go_at_call 62; refine (belQ (unhide HF) (unhide HAL) (unhide CN _ 0)).mono ?_; rintro e _ ⟨rfl, y, rfl⟩) | ((with_reducible show wpList _ _ _ (⟨none, .store 26 _ _, _, _, _, none⟩ :: _) _ _); refine at_storeAgg (us := [.int .i64 0, .slice none 0 0]) (vs := [.int .i64 s, .slice a9 l1 c9]) Tryz.sizeOf26 rfl rfl ((unhide KF2) _) rfl (by intro v hv; simp at hv; rcases hv with rfl | rfl <;> rfl) ?_; intro w5 kk gg))
                      repeat (refine wp_region_bel (fun w' h => (unhide HAL) w' ((unhide HF _).trans (h.mono (unhide HF _).size))) (by kernel_rfl) (by kernel_rfl) ?_; (repeat (go_big_quiet_step (first | (go_at_call 61; exact belQ (unhide HF) (unhide HAL) (unhide CF _ _)) | (go_at_call 61; exact belQ (unhide HF) (unhide HAL) (unhide CF _ 0)) | (go_at_call 62; exact belQ (unhide HF) (unhide HAL) (unhide CN _ _)) | (go_at_call 62; exact belQ (unhide HF) (unhide HAL) (unhide CN _ 0))))); refine wpQuiet_nil ?_; rintro _ ⟨y, rfl⟩; (first | go_wp2_with (first | (go_at_call 59; refine (belQ (unhide HF) (unhide HAL) (unhide CA _)).mono ?_; rintro e _ ⟨rfl, y, rfl⟩) | (go_at_call 58; refine (belQ (unhide HF) (unhide HAL) (unhide CS _)).mono ?_; rintro e _ ⟨rfl, y, rfl⟩) | (go_at_call 60; refine (belS (l1In_is _ _ _ _ (by exact q4))).mono ?_; rintro e _ ⟨rfl, y, rfl⟩) | (go_at_call 61; refine (belQ (unhide HF) (unhide HAL) (unhide CF _ _)).mono ?_; rintro e _ ⟨rfl, y, rfl⟩) | (go_at_call 61; refine (belQ (unhide HF) (unhide HAL) (unhide CF _ 0)).mono ?_; rintro e _ ⟨rfl, y, rfl⟩) | (go_at_call 62; refine (belQ (unhide HF) (unhide HAL) (unhide CN _ _)).mono ?_; rintro e _ ⟨rfl, y, rfl⟩) | (go_at_call 62; refine (belQ (unhide HF) (unhide HAL) (unhide CN _ 0)).mono ?_; rintro e _ ⟨rfl, y, rfl⟩) | ((with_reducible show wpList _ _ _ (⟨none, .store 26 _ _, _, _, _, none⟩ :: _) _ _); refine at_storeAgg (us := [.int .i64 0, .slice none 0 0]) (vs := [.int .i64 s, .slice a9 l1 c9]) Tryz.sizeOf26 rfl rfl ((unhide KF2) _) rfl (by intro v hv; simp at hv; rcases hv with rfl | rfl <;> rfl) ?_; intro w5 kk gg)) | go_wp2))
                      have BE : Below w.heap.size w w5 := ((unhide HBF) _).grown gg ((unhide HBF) _).size (fun q hq => by cases hq; omega)
                      have OE := ((unhide OF) _).far gg (fun q hq e => by have := Option.some.inj e; omega)
                      exact bodyPost_ret (results_cellB (vs := [.int .i64 s, .slice a9 l1 c9]) (x := .int .i64 4) rfl Tryz.isAgg26 Tryz.sizeOf26 rfl kk rfl) rfl ⟨a9, c9, by rw [unhide HDL, unhide HC, unhide HZL], ⟨by rw [unhide HDL, unhide HZL]; exact cp_ok (unhide HUS) (unhide HOK) (OE.mono (by omega))⟩, BE⟩
                    | false =>
                      have HQ6 := hide q6
                      have CN : Hid (∀ y (_ : Int), Calls Tryz.prog 62 #[.agg #[.int .i64 s, .slice (some ⟨bb, off, none⟩) l1 c1], .int .i64 Y] (f y) fun e w' => e = .returned (.bool false) ∧ Below (f y).heap.size (f y) w') := hide (fun y _ => by have := unhide CN y Y; rw [q6] at this; exact this)
                      clear q6
                      by_cases q7 : x.nb ≤ Y
                      · have HC : Hid (tkC s zs (lxW x) sl = 5) := hide (by rw [unhide HT0, rf_k5 (unhide HY) (unhide HQ6) (.inl q7)])
                        have d7 : decide (x.nb ≤ Y) = true := by simpa using q7
                        have HDL : Hid (tkL s zs (lxW x) sl = zs) := hide (tkL_fail (unhide HC) (by decide))
                        go_wp2_with (first | (go_at_call 59; refine (belQ (unhide HF) (unhide HAL) (unhide CA _)).mono ?_; rintro e _ ⟨rfl, y, rfl⟩) | (go_at_call 58; refine (belQ (unhide HF) (unhide HAL) (unhide CS _)).mono ?_; rintro e _ ⟨rfl, y, rfl⟩) | (go_at_call 60; refine (belS (l1In_is _ _ _ _ (by exact q4))).mono ?_; rintro e _ ⟨rfl, y, rfl⟩) | (go_at_call 61; refine (belQ (unhide HF) (unhide HAL) (unhide CF _ _)).mono ?_; rintro e _ ⟨rfl, y, rfl⟩) | (go_at_call 61; refine (belQ (unhide HF) (unhide HAL) (unhide CF _ 0)).mono ?_; rintro e _ ⟨rfl, y, rfl⟩) | (go_at_call 62; refine (belQ (unhide HF) (unhide HAL) (unhide CN _ _)).mono ?_; rintro e _ ⟨rfl, y, rfl⟩) | (go_at_call 62; refine (belQ (unhide HF) (unhide HAL) (unhide CN _ 0)).mono ?_; rintro e _ ⟨rfl, y, rfl⟩) | ((with_reducible show wpList _ _ _ (⟨none, .store 26 _ _, _, _, _, none⟩ :: _) _ _); refine at_storeAgg (us := [.int .i64 0, .slice none 0 0]) (vs := [.int .i64 s, .slice a9 l1 c9]) Tryz.sizeOf26 rfl rfl ((unhide KF2) _) rfl (by intro v hv; simp at hv; rcases hv with rfl | rfl <;> rfl) ?_; intro w5 kk gg))
                        repeat (refine wp_region_bel (fun w' h => (unhide HAL) w' ((unhide HF _).trans (h.mono (unhide HF _).size))) (by kernel_rfl) (by kernel_rfl) ?_; (repeat (go_big_quiet_step (first | (go_at_call 61; exact belQ (unhide HF) (unhide HAL) (unhide CF _ _)) | (go_at_call 61; exact belQ (unhide HF) (unhide HAL) (unhide CF _ 0)) | (go_at_call 62; exact belQ (unhide HF) (unhide HAL) (unhide CN _ _)) | (go_at_call 62; exact belQ (unhide HF) (unhide HAL) (unhide CN _ 0))))); refine wpQuiet_nil ?_; rintro _ ⟨y, rfl⟩; (first | go_wp2_with (first | (go_at_call 59; refine (belQ (unhide HF) (unhide HAL) (unhide CA _)).mono ?_; rintro e _ ⟨rfl, y, rfl⟩) | (go_at_call 58; refine (belQ (unhide HF) (unhide HAL) (unhide CS _)).mono ?_; rintro e _ ⟨rfl, y, rfl⟩) | (go_at_call 60; refine (belS (l1In_is _ _ _ _ (by exact q4))).mono ?_; rintro e _ ⟨rfl, y, rfl⟩) | (go_at_call 61; refine (belQ (unhide HF) (unhide HAL) (unhide CF _ _)).mono ?_; rintro e _ ⟨rfl, y, rfl⟩) | (go_at_call 61; refine (belQ (unhide HF) (unhide HAL) (unhide CF _ 0)).mono ?_; rintro e _ ⟨rfl, y, rfl⟩) | (go_at_call 62; refine (belQ (unhide HF) (unhide HAL) (unhide CN _ _)).mono ?_; rintro e _ ⟨rfl, y, rfl⟩) | (go_at_call 62; refine (belQ (unhide HF) (unhide HAL) (unhide CN _ 0)).mono ?_; rintro e _ ⟨rfl, y, rfl⟩) | ((with_reducible show wpList _ _ _ (⟨none, .store 26 _ _, _, _, _, none⟩ :: _) _ _); refine at_storeAgg (us := [.int .i64 0, .slice none 0 0]) (vs := [.int .i64 s, .slice a9 l1 c9]) Tryz.sizeOf26 rfl rfl ((unhide KF2) _) rfl (by intro v hv; simp at hv; rcases hv with rfl | rfl <;> rfl) ?_; intro w5 kk gg)) | go_wp2))
                        have BE : Below w.heap.size w w5 := ((unhide HBF) _).grown gg ((unhide HBF) _).size (fun q hq => by cases hq; omega)
                        have OE := ((unhide OF) _).far gg (fun q hq e => by have := Option.some.inj e; omega)
                        exact bodyPost_ret (results_cellB (vs := [.int .i64 s, .slice a9 l1 c9]) (x := .int .i64 5) rfl Tryz.isAgg26 Tryz.sizeOf26 rfl kk rfl) rfl ⟨a9, c9, by rw [unhide HDL, unhide HC, unhide HZL], ⟨by rw [unhide HDL, unhide HZL]; exact cp_ok (unhide HUS) (unhide HOK) (OE.mono (by omega))⟩, BE⟩
                      · have d7 : decide (x.nb ≤ Y) = false := by simpa using q7
                        have HQ7 := hide q7
                        rcases fnF_cases zs x.nb with ⟨hN, _⟩ | ⟨t, ht, hN, _, _⟩
                        · have HC : Hid (tkC s zs (lxW x) sl = 0) := hide (by rw [unhide HT0, rf_k0 (unhide HY) (unhide HQ6) (unhide HQ7) hN])
                          have n9 : decide ((0 : Int) ≤ fnF zs x.nb) = false := by rw [hN]; rfl
                          clear hN
                          exact absurd (unhide HC) (unhide HNE)
                        · have HC : Hid (tkC s zs (lxW x) sl = 5) := hide (by rw [unhide HT0, rf_k5 (unhide HY) (unhide HQ6) (.inr (by show 0 ≤ fnF zs x.nb; omega))])
                          have n9 : decide ((0 : Int) ≤ fnF zs x.nb) = true := by rw [decide_eq_true_eq]; omega
                          clear hN
                          have HDL : Hid (tkL s zs (lxW x) sl = zs) := hide (tkL_fail (unhide HC) (by decide))
                          go_wp2_with (first | (go_at_call 59; refine (belQ (unhide HF) (unhide HAL) (unhide CA _)).mono ?_; rintro e _ ⟨rfl, y, rfl⟩) | (go_at_call 58; refine (belQ (unhide HF) (unhide HAL) (unhide CS _)).mono ?_; rintro e _ ⟨rfl, y, rfl⟩) | (go_at_call 60; refine (belS (l1In_is _ _ _ _ (by exact q4))).mono ?_; rintro e _ ⟨rfl, y, rfl⟩) | (go_at_call 61; refine (belQ (unhide HF) (unhide HAL) (unhide CF _ _)).mono ?_; rintro e _ ⟨rfl, y, rfl⟩) | (go_at_call 61; refine (belQ (unhide HF) (unhide HAL) (unhide CF _ 0)).mono ?_; rintro e _ ⟨rfl, y, rfl⟩) | (go_at_call 62; refine (belQ (unhide HF) (unhide HAL) (unhide CN _ _)).mono ?_; rintro e _ ⟨rfl, y, rfl⟩) | (go_at_call 62; refine (belQ (unhide HF) (unhide HAL) (unhide CN _ 0)).mono ?_; rintro e _ ⟨rfl, y, rfl⟩) | ((with_reducible show wpList _ _ _ (⟨none, .store 26 _ _, _, _, _, none⟩ :: _) _ _); refine at_storeAgg (us := [.int .i64 0, .slice none 0 0]) (vs := [.int .i64 s, .slice a9 l1 c9]) Tryz.sizeOf26 rfl rfl ((unhide KF2) _) rfl (by intro v hv; simp at hv; rcases hv with rfl | rfl <;> rfl) ?_; intro w5 kk gg))
                          repeat (refine wp_region_bel (fun w' h => (unhide HAL) w' ((unhide HF _).trans (h.mono (unhide HF _).size))) (by kernel_rfl) (by kernel_rfl) ?_; (repeat (go_big_quiet_step (first | (go_at_call 61; exact belQ (unhide HF) (unhide HAL) (unhide CF _ _)) | (go_at_call 61; exact belQ (unhide HF) (unhide HAL) (unhide CF _ 0)) | (go_at_call 62; exact belQ (unhide HF) (unhide HAL) (unhide CN _ _)) | (go_at_call 62; exact belQ (unhide HF) (unhide HAL) (unhide CN _ 0))))); refine wpQuiet_nil ?_; rintro _ ⟨y, rfl⟩; (first | go_wp2_with (first | (go_at_call 59; refine (belQ (unhide HF) (unhide HAL) (unhide CA _)).mono ?_; rintro e _ ⟨rfl, y, rfl⟩) | (go_at_call 58; refine (belQ (unhide HF) (unhide HAL) (unhide CS _)).mono ?_; rintro e _ ⟨rfl, y, rfl⟩) | (go_at_call 60; refine (belS (l1In_is _ _ _ _ (by exact q4))).mono ?_; rintro e _ ⟨rfl, y, rfl⟩) | (go_at_call 61; refine (belQ (unhide HF) (unhide HAL) (unhide CF _ _)).mono ?_; rintro e _ ⟨rfl, y, rfl⟩) | (go_at_call 61; refine (belQ (unhide HF) (unhide HAL) (unhide CF _ 0)).mono ?_; rintro e _ ⟨rfl, y, rfl⟩) | (go_at_call 62; refine (belQ (unhide HF) (unhide HAL) (unhide CN _ _)).mono ?_; rintro e _ ⟨rfl, y, rfl⟩) | (go_at_call 62; refine (belQ (unhide HF) (unhide HAL) (unhide CN _ 0)).mono ?_; rintro e _ ⟨rfl, y, rfl⟩) | ((with_reducible show wpList _ _ _ (⟨none, .store 26 _ _, _, _, _, none⟩ :: _) _ _); refine at_storeAgg (us := [.int .i64 0, .slice none 0 0]) (vs := [.int .i64 s, .slice a9 l1 c9]) Tryz.sizeOf26 rfl rfl ((unhide KF2) _) rfl (by intro v hv; simp at hv; rcases hv with rfl | rfl <;> rfl) ?_; intro w5 kk gg)) | go_wp2))
                          have BE : Below w.heap.size w w5 := ((unhide HBF) _).grown gg ((unhide HBF) _).size (fun q hq => by cases hq; omega)
                          have OE := ((unhide OF) _).far gg (fun q hq e => by have := Option.some.inj e; omega)
                          exact bodyPost_ret (results_cellB (vs := [.int .i64 s, .slice a9 l1 c9]) (x := .int .i64 5) rfl Tryz.isAgg26 Tryz.sizeOf26 rfl kk rfl) rfl ⟨a9, c9, by rw [unhide HDL, unhide HC, unhide HZL], ⟨by rw [unhide HDL, unhide HZL]; exact cp_ok (unhide HUS) (unhide HOK) (OE.mono (by omega))⟩, BE⟩
      · have HQ3 := hide q3
        have z3 : (sl != seO (lxW x)) = true := by simpa using q3
        have z4 : decide (sl = seO (lxW x)) = false := by simpa using q3
        clear q3
        have HC : Hid (tkC s zs (lxW x) sl = 2) := hide (rf_seal (unhide HQ1) (unhide HQ2) (unhide HQ3))
        go_wp2_with fail
        rw [unhide HX0]
        clear HX0 v0w v1w v2w v3w v4w v5w
        have HDL : Hid (tkL s zs (lxW x) sl = zs) := hide (tkL_fail (unhide HC) (by decide))
        go_wp2_with (first | (go_at_call 59; refine (belQ (unhide HF) (unhide HAL) (unhide CA _)).mono ?_; rintro e _ ⟨rfl, y, rfl⟩) | (go_at_call 58; refine (belQ (unhide HF) (unhide HAL) (unhide CS _)).mono ?_; rintro e _ ⟨rfl, y, rfl⟩) | (go_at_call 60; refine (belS (l1In_is _ _ _ _ (by exact q4))).mono ?_; rintro e _ ⟨rfl, y, rfl⟩) | (go_at_call 61; refine (belQ (unhide HF) (unhide HAL) (unhide CF _ _)).mono ?_; rintro e _ ⟨rfl, y, rfl⟩) | (go_at_call 61; refine (belQ (unhide HF) (unhide HAL) (unhide CF _ 0)).mono ?_; rintro e _ ⟨rfl, y, rfl⟩) | (go_at_call 62; refine (belQ (unhide HF) (unhide HAL) (unhide CN _ _)).mono ?_; rintro e _ ⟨rfl, y, rfl⟩) | (go_at_call 62; refine (belQ (unhide HF) (unhide HAL) (unhide CN _ 0)).mono ?_; rintro e _ ⟨rfl, y, rfl⟩) | ((with_reducible show wpList _ _ _ (⟨none, .store 26 _ _, _, _, _, none⟩ :: _) _ _); refine at_storeAgg (us := [.int .i64 0, .slice none 0 0]) (vs := [.int .i64 s, .slice a9 l1 c9]) Tryz.sizeOf26 rfl rfl ((unhide KF2) _) rfl (by intro v hv; simp at hv; rcases hv with rfl | rfl <;> rfl) ?_; intro w5 kk gg))
        repeat (refine wp_region_bel (fun w' h => (unhide HAL) w' ((unhide HF _).trans (h.mono (unhide HF _).size))) (by kernel_rfl) (by kernel_rfl) ?_; (repeat (go_big_quiet_step (first | (go_at_call 61; exact belQ (unhide HF) (unhide HAL) (unhide CF _ _)) | (go_at_call 61; exact belQ (unhide HF) (unhide HAL) (unhide CF _ 0)) | (go_at_call 62; exact belQ (unhide HF) (unhide HAL) (unhide CN _ _)) | (go_at_call 62; exact belQ (unhide HF) (unhide HAL) (unhide CN _ 0))))); refine wpQuiet_nil ?_; rintro _ ⟨y, rfl⟩; (first | go_wp2_with (first | (go_at_call 59; refine (belQ (unhide HF) (unhide HAL) (unhide CA _)).mono ?_; rintro e _ ⟨rfl, y, rfl⟩) | (go_at_call 58; refine (belQ (unhide HF) (unhide HAL) (unhide CS _)).mono ?_; rintro e _ ⟨rfl, y, rfl⟩) | (go_at_call 60; refine (belS (l1In_is _ _ _ _ (by exact q4))).mono ?_; rintro e _ ⟨rfl, y, rfl⟩) | (go_at_call 61; refine (belQ (unhide HF) (unhide HAL) (unhide CF _ _)).mono ?_; rintro e _ ⟨rfl, y, rfl⟩) | (go_at_call 61; refine (belQ (unhide HF) (unhide HAL) (unhide CF _ 0)).mono ?_; rintro e _ ⟨rfl, y, rfl⟩) | (go_at_call 62; refine (belQ (unhide HF) (unhide HAL) (unhide CN _ _)).mono ?_; rintro e _ ⟨rfl, y, rfl⟩) | (go_at_call 62; refine (belQ (unhide HF) (unhide HAL) (unhide CN _ 0)).mono ?_; rintro e _ ⟨rfl, y, rfl⟩) | ((with_reducible show wpList _ _ _ (⟨none, .store 26 _ _, _, _, _, none⟩ :: _) _ _); refine at_storeAgg (us := [.int .i64 0, .slice none 0 0]) (vs := [.int .i64 s, .slice a9 l1 c9]) Tryz.sizeOf26 rfl rfl ((unhide KF2) _) rfl (by intro v hv; simp at hv; rcases hv with rfl | rfl <;> rfl) ?_; intro w5 kk gg)) | go_wp2))
        have BE : Below w.heap.size w w5 := ((unhide HBF) _).grown gg ((unhide HBF) _).size (fun q hq => by cases hq; omega)
        have OE := ((unhide OF) _).far gg (fun q hq e => by have := Option.some.inj e; omega)
        exact bodyPost_ret (results_cellB (vs := [.int .i64 s, .slice a9 l1 c9]) (x := .int .i64 2) rfl Tryz.isAgg26 Tryz.sizeOf26 rfl kk rfl) rfl ⟨a9, c9, by rw [unhide HDL, unhide HC, unhide HZL], ⟨by rw [unhide HDL, unhide HZL]; exact cp_ok (unhide HUS) (unhide HOK) (OE.mono (by omega))⟩, BE⟩

end Go.Proofs.YtemodlgmjgdjpaaGreatDoor
