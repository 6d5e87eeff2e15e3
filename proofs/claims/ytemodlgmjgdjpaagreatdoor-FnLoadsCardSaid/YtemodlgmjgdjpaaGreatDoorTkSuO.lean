/-
  What the model's Take18 answers where the load is taken (O): the plain answer, in memory of its own.
-/
import Derived.Test.YtemodlgmjgdjpaaGreatDoorMDlImp
import Derived.Test.YtemodlgmjgdjpaaGreatDoorMCpSpc
import Derived.Test.YtemodlgmjgdjpaaGreatDoorAbSpec
import Derived.Test.YtemodlgmjgdjpaaGreatDoorDlSpc
import Derived.Test.YtemodlgmjgdjpaaGreatDoorRegInv
import Derived.Deep.CutRange
namespace Go.Proofs.YtemodlgmjgdjpaaGreatDoor
open Go Go.RowKit

set_option maxRecDepth 20000 in
set_option maxHeartbeats 16000000 in
theorem specTake18_sO (s : Int) (a1 : Option Addr) (l1 c1 : Nat) (zs : List Lc) (x : Lx) (sl : Int) (w : World) (hr : AbIn w a1 l1 zs) (hlz : LzB zs) (hin : LxIn w x) (hdn : x.d.n ≤ 1048576) (hc : tkC s zs (lxW x) sl = 0) (hs : saF zs x.p = -1) :
    Calls Tryz.prog 17 #[.agg #[.int .i64 s, .slice a1 l1 c1], .agg #[.string x.p, .int .i64 x.nb, .int .i64 x.le, .int .i64 x.mo, .int .i64 x.ne, .slice x.d.a x.d.n x.d.c], .int .i64 sl] w fun e w' => ∃ a9 c9, e = .returned (.tuple #[.agg #[.int .i64 s, .slice a9 (tkL s zs (lxW x) sl).length c9], .int .i64 (tkC s zs (lxW x) sl)]) ∧ AbOwn w' w.heap.size a9 (tkL s zs (lxW x) sl).length c9 (tkL s zs (lxW x) sl) ∧ Below w.heap.size w w' := by
  have HC := hide hc
  have HS := hide hs
  clear hs
  have HT := hide hr.r1
  have HZL := hide hr.r1.len_eq
  have hsm := hr.r1.small
  have HLZ := hide hlz
  have HIN := hide hin
  obtain ⟨ls, e, hl⟩ := hr.r1.ex
  have HE := hide e
  have HO := hide hl.row.six
  have HLL := hide hl.row.len_eq
  clear hr hlz hin e hl
  obtain ⟨W, hW⟩ : ∃ W, W = ((w.alloc (Obj.cells #[.int .i64 s, .slice a1 l1 c1] 26)).alloc (Obj.cells #[.string x.p, .int .i64 x.nb, .int .i64 x.le, .int .i64 x.mo, .int .i64 x.ne, .slice x.d.a x.d.n x.d.c] 32)).alloc (Obj.cells #[.int .i64 0, .slice none 0 0] 26) := ⟨_, rfl⟩
  have K0 : Hid (Blk W w.heap.size [.int .i64 s, .slice a1 l1 c1]) := hide (by rw [hW]; exact ((Blk.new _ _).alloc _).alloc _)
  have K1 : Hid (Blk W (w.heap.size + 1) [.string x.p, .int .i64 x.nb, .int .i64 x.le, .int .i64 x.mo, .int .i64 x.ne, .slice x.d.a x.d.n x.d.c]) := hide (by
    rw [hW]
    have := (Blk.new (w := (w.alloc (Obj.cells #[.int .i64 s, .slice a1 l1 c1] 26))) [.string x.p, .int .i64 x.nb, .int .i64 x.le, .int .i64 x.mo, .int .i64 x.ne, .slice x.d.a x.d.n x.d.c] 32).alloc (Obj.cells #[.int .i64 0, .slice none 0 0] 26)
    simpa using this)
  have K2 : Hid (Blk W (w.heap.size + 1 + 1) [.int .i64 0, .slice none 0 0]) := hide (by
    rw [hW]
    have := Blk.new (w := ((w.alloc (Obj.cells #[.int .i64 s, .slice a1 l1 c1] 26)).alloc (Obj.cells #[.string x.p, .int .i64 x.nb, .int .i64 x.le, .int .i64 x.mo, .int .i64 x.ne, .slice x.d.a x.d.n x.d.c] 32))) [.int .i64 0, .slice none 0 0] 26
    simpa using this)
  have B0 : Hid (Below w.heap.size w W) := hide (by rw [hW]; exact bel3 _ _ _)
  have hWs : Hid (W.heap.size = w.heap.size + 3) := hide (by rw [hW]; simp)
  have a0 : W.cell? ⟨w.heap.size, 0, none⟩ = some (.int .i64 s) := (unhide K0).c 0 (by simp)
  have a1' : W.cell? ⟨w.heap.size, 1, none⟩ = some (.slice a1 l1 c1) := (unhide K0).c 1 (by simp)
  rw [hW] at a0 a1'
  have HW := hide hW
  clear hW
  go_enter Tryz.func17, Tryz.ntmps17
  go_wp2_with fail
  rw [← unhide HW]
  clear HW a0 a1'
  refine (l18Copy_any s a1 l1 c1 zs W ((unhide HT).below (unhide B0)) (unhide HLZ)).mono ?_
  rintro e w2 ⟨⟨a9, c9, rfl, ow⟩, b2⟩
  have ow := ow.mono (base' := w.heap.size + 3) (by have := unhide hWs; omega)
  obtain ⟨us, hus, ho⟩ := ow.ex
  have HOK := hide ow.ok
  have HUS := hide hus
  have HLI : Hid (LxLies (w.heap.size + 3) w2.heap.size (.slice a9 l1 c9) us) := hide ho.lies
  have HUL : Hid (us.length = l1) := hide (ownLd_len ho)
  have ow := hide ho
  clear ho hus
  have hw2 : w.heap.size + 3 ≤ w2.heap.size := by have := b2.size; have := unhide hWs; omega
  have K0 := hide ((unhide K0).below b2)
  have K1 := hide ((unhide K1).below b2)
  have K2 := hide ((unhide K2).below b2)
  have B2 := hide ((unhide B0).trans (b2.mono (unhide B0).size))
  clear b2 B0 hWs
  obtain ⟨V, hV⟩ : ∃ V, V = w2.alloc (Obj.cells #[.int .i64 s, .slice a9 l1 c9] 26) := ⟨_, rfl⟩
  have bV : Below w2.heap.size w2 V := by rw [hV]; exact bel1 _
  have K8 : Hid (Blk V w2.heap.size [.int .i64 s, .slice a9 l1 c9]) := hide (by rw [hV]; exact Blk.new _ _)
  have K0 := hide ((unhide K0).below bV)
  have K1 := hide ((unhide K1).below bV)
  have K2 := hide ((unhide K2).below bV)
  have BV := hide ((unhide B2).trans (bV.mono (unhide B2).size))
  have OV := hide ((unhide ow).below bV)
  obtain ⟨ι, f, _, hbf, hall⟩ := belClass V
  have HF := hide hbf
  have HAL := hide hall
  have HBF : Hid (∀ y, Below w.heap.size w (f y)) := hide (fun y => (unhide BV).trans ((hbf y).mono (unhide BV).size))
  have b0 : ∀ y, (f y).cell? ⟨w.heap.size, 0, none⟩ = some (.int .i64 s) := fun y => ((unhide K0).below (hbf y)).c 0 (by simp)
  have b1 : ∀ y, (f y).cell? ⟨w.heap.size, 1, none⟩ = some (.slice a1 l1 c1) := fun y => ((unhide K0).below (hbf y)).c 1 (by simp)
  have v0 : ∀ y, (f y).cell? ⟨w.heap.size + 1, 0, none⟩ = some (.string x.p) := fun y => ((unhide K1).below (hbf y)).c 0 (by simp)
  have v1 : ∀ y, (f y).cell? ⟨w.heap.size + 1, 1, none⟩ = some (.int .i64 x.nb) := fun y => ((unhide K1).below (hbf y)).c 1 (by simp)
  have v2 : ∀ y, (f y).cell? ⟨w.heap.size + 1, 2, none⟩ = some (.int .i64 x.le) := fun y => ((unhide K1).below (hbf y)).c 2 (by simp)
  have v3 : ∀ y, (f y).cell? ⟨w.heap.size + 1, 3, none⟩ = some (.int .i64 x.mo) := fun y => ((unhide K1).below (hbf y)).c 3 (by simp)
  have v4 : ∀ y, (f y).cell? ⟨w.heap.size + 1, 4, none⟩ = some (.int .i64 x.ne) := fun y => ((unhide K1).below (hbf y)).c 4 (by simp)
  have v5 : ∀ y, (f y).cell? ⟨w.heap.size + 1, 5, none⟩ = some (.slice x.d.a x.d.n x.d.c) := fun y => ((unhide K1).below (hbf y)).c 5 (by simp)
  have p0 : ∀ y, (f y).cell? ⟨w2.heap.size, 0, none⟩ = some (.int .i64 s) := fun y => ((unhide K8).below (hbf y)).c 0 (by simp)
  have p1 : ∀ y, (f y).cell? ⟨w2.heap.size, 1, none⟩ = some (.slice a9 l1 c9) := fun y => ((unhide K8).below (hbf y)).c 1 (by simp)
  have KF1 : Hid (∀ y, Blk (f y) (w.heap.size + 1) [.string x.p, .int .i64 x.nb, .int .i64 x.le, .int .i64 x.mo, .int .i64 x.ne, .slice x.d.a x.d.n x.d.c]) := hide (fun y => (unhide K1).below (hbf y))
  have KF2 : Hid (∀ y, Blk (f y) (w.heap.size + 1 + 1) [.int .i64 0, .slice none 0 0]) := hide (fun y => (unhide K2).below (hbf y))
  have KF8 : Hid (∀ y, Blk (f y) w2.heap.size [.int .i64 s, .slice a9 l1 c9]) := hide (fun y => (unhide K8).below (hbf y))
  have OF : Hid (∀ y, OwnLd (f y) (w.heap.size + 3) (.slice a9 l1 c9) us) := hide (fun y => (unhide OV).below (hbf y))
  have CA : Hid (∀ y, Calls Tryz.prog 59 #[.agg #[.int .i64 s, .slice a1 l1 c1]] (f y) fun e w' => e = .returned (.bool (abB s zs)) ∧ Below (f y).heap.size (f y) w') := hide (fun y => specAboardOk_any s _ _ _ zs (f y) ⟨(unhide HT).below ((unhide HBF) y)⟩)
  have CS : Hid (∀ y, Calls Tryz.prog 58 #[.agg #[.string x.p, .int .i64 x.nb, .int .i64 x.le, .int .i64 x.mo, .int .i64 x.ne, .slice x.d.a x.d.n x.d.c]] (f y) fun e w' => e = .returned (.tuple #[.int .i64 (seR (lxW x)), .bool (ldB (lxW x))]) ∧ Below (f y).heap.size (f y) w') := hide (fun y => specSeal_any x.p x.nb x.le x.mo x.ne _ _ _ x.d.zs (f y) ⟨(unhide HIN).sl.row.below ((unhide HBF) y)⟩ (unhide HIN).sl.byt (unhide HIN).sz)
  have CF : Hid (∀ y n, Calls Tryz.prog 61 #[.agg #[.int .i64 s, .slice a1 l1 c1], .int .i64 n] (f y) fun e w' => e = .returned (.int .i64 (fnF zs n)) ∧ Below (f y).heap.size (f y) w') := hide (fun y n => l18Find_any s _ _ _ zs n (f y) ((unhide HT).below ((unhide HBF) y)))
  have CN : Hid (∀ y n, Calls Tryz.prog 62 #[.agg #[.int .i64 s, .slice a1 l1 c1], .int .i64 n] (f y) fun e w' => e = .returned (.bool (neB zs n)) ∧ Below (f y).heap.size (f y) w') := hide (fun y n => l18Needed_any s _ _ _ zs n (f y) ((unhide HT).below ((unhide HBF) y)))
  have CELL : Hid (∀ bb off, a1 = some ⟨bb, off, none⟩ → ∀ j, j < l1 → ∀ y, (f y).cell? ⟨bb, off + j * 6, none⟩ = some (.string (elAt zs j).p) ∧ (f y).cell? ⟨bb, off + j * 6 + 1, none⟩ = some (.int .i64 (elAt zs j).nb)) := hide (fun bb off ha j hj y => by
    rcases (unhide HO) with ⟨h0, _⟩ | ⟨b2, o2, e, _, hc⟩
    · omega
    rw [ha] at e
    simp only [Option.some.injEq, Addr.mk.injEq, and_true] at e
    obtain ⟨rfl, rfl⟩ := e
    rw [elAt_lx (unhide HE) (by have := unhide HLL; omega)]
    exact ⟨((unhide HBF y).cell (block_lt_of_cell (hc j hj).1)).trans (hc j hj).1, ((unhide HBF y).cell (block_lt_of_cell (hc j hj).2.1)).trans (hc j hj).2.1⟩)
  have HA1 : Hid (0 < l1 → ∃ bb off, a1 = some ⟨bb, off, none⟩) := hide (fun h => by
    rcases (unhide HO) with ⟨h0, _⟩ | ⟨b2, o2, e, _, _⟩
    · omega
    · exact ⟨b2, o2, e⟩)
  obtain ⟨x0, hx0⟩ := (unhide HAL) V (Below.refl _ _)
  have HX0 : Hid (w2.alloc (Obj.cells #[.int .i64 s, .slice a9 l1 c9] 26) = f x0) := hide (hV.symm.trans hx0)
  have v0w := v0 x0
  have v1w := v1 x0
  have v2w := v2 x0
  have v3w := v3 x0
  have v4w := v4 x0
  have v5w := v5 x0
  rw [← hx0, hV] at v0w v1w v2w v3w v4w v5w
  clear hbf hall hV hx0 bV K0 K1 K2 K8 BV OV ow B2 HT HO HLL
  obtain ⟨q1, q2, q3, q4', q5', q6', q7', q8'⟩ := tk_zero (unhide HC)
  have HQ1 := hide q1
  have h30 : zs.length ≤ 30 := (abB_facts q1).2.2
  have HLX : Hid (LcOk (lxW x)) := hide ⟨(unhide HIN).sz, fun i hi => (unhide HIN).sl.byt i (by have h : x.d.zs.length = x.d.n := (unhide HIN).sl.row.len_eq; have hi : i < x.d.zs.length := hi; omega)⟩
  rw [q1] at CA
  rw [q2, seR_ok q2, ← q3] at CS
  have z3 : (sl != sl) = false := by simp
  have q4 : inB s x.le x.mo = true := q4'
  have HN5 := hide q5'
  have HN6 := hide q6'
  have HN7 := hide q7'
  have HN8 := hide q8'
  clear hc q1 q2 q3 q4' q5' q6' q7' q8'
  go_wp2_with fail
  rw [unhide HX0]
  clear HX0 v0w v1w v2w v3w v4w v5w
  go_wp2_with (first | (go_at_call 59; refine (belQ (unhide HF) (unhide HAL) (unhide CA _)).mono ?_; rintro e _ ⟨rfl, y, rfl⟩) | (go_at_call 58; refine (belQ (unhide HF) (unhide HAL) (unhide CS _)).mono ?_; rintro e _ ⟨rfl, y, rfl⟩) | (go_at_call 60; refine (belS (l1In_is _ _ _ _ (by exact q4))).mono ?_; rintro e _ ⟨rfl, y, rfl⟩) | (go_at_call 61; refine (belQ (unhide HF) (unhide HAL) (unhide CF _ _)).mono ?_; rintro e _ ⟨rfl, y, rfl⟩) | (go_at_call 61; refine (belQ (unhide HF) (unhide HAL) (unhide CF _ 0)).mono ?_; rintro e _ ⟨rfl, y, rfl⟩) | (go_at_call 62; refine (belQ (unhide HF) (unhide HAL) (unhide CN _ _)).mono ?_; rintro e _ ⟨rfl, y, rfl⟩) | (go_at_call 62; refine (belQ (unhide HF) (unhide HAL) (unhide CN _ 0)).mono ?_; rintro e _ ⟨rfl, y, rfl⟩))
  go_loopw [11, 12] (fun sm i wr => ∃ (kq : Nat) (y : ι), sm = .int .i64 (saK zs x.p kq) ∧ i = .int .i64 kq ∧ kq ≤ l1 ∧ wr = f y) (fun _ i _ => l1 - (intOf i).toNat)
  case atStart => exact ⟨0, _, rfl, rfl, Nat.zero_le _, rfl⟩
  case round =>
    obtain ⟨kq, y9, rfl, rfl, hk, hwr⟩ := hrel
    subst hwr
    by_cases hlt : kq < l1
    · have hi1 : (kq : Int) < (l1 : Int) := by omega
      have hi0 : (0 : Int) ≤ (kq : Int) := by omega
      obtain ⟨bb, off, ha1⟩ := (unhide HA1) (by omega)
      subst ha1
      obtain ⟨Y, hY⟩ : ∃ z, (elAt zs kq).p = z := ⟨_, rfl⟩
      have m0 := fun y => ((unhide CELL) bb off rfl kq hlt y).1
      rw [hY] at m0
      by_cases eq : Y = x.p
      · have NX : Hid (saK zs x.p (kq + 1) = (kq : Int)) := hide (by rw [saK, hY, if_pos eq])
        subst eq
        clear hY CELL HA1
        go_wp2_with fail
        refine wp_region_bel (fun w' h => (unhide HAL) w' ((unhide HF _).trans (h.mono (unhide HF _).size))) (by kernel_rfl) (by kernel_rfl) ?_; (repeat (go_big_quiet_step (first | (go_at_call 61; exact belQ (unhide HF) (unhide HAL) (unhide CF _ _)) | (go_at_call 61; exact belQ (unhide HF) (unhide HAL) (unhide CF _ 0)) | (go_at_call 62; exact belQ (unhide HF) (unhide HAL) (unhide CN _ _)) | (go_at_call 62; exact belQ (unhide HF) (unhide HAL) (unhide CN _ 0))))); refine wpQuiet_nil ?_; rintro _ ⟨y, rfl⟩
        go_wp2_with fail
        go_roundw
        case rel => exact ⟨kq + 1, y, by rw [unhide NX], by go_num, by omega, rfl⟩
        case measure => simp [intOf]; omega
      · have NX : Hid (saK zs x.p (kq + 1) = saK zs x.p kq) := hide (by rw [saK, hY, if_neg eq])
        have d1 := txl_ne eq
        clear hY eq CELL HA1
        go_wp2_with fail
        refine wp_region_bel (fun w' h => (unhide HAL) w' ((unhide HF _).trans (h.mono (unhide HF _).size))) (by kernel_rfl) (by kernel_rfl) ?_; (repeat (go_big_quiet_step (first | (go_at_call 61; exact belQ (unhide HF) (unhide HAL) (unhide CF _ _)) | (go_at_call 61; exact belQ (unhide HF) (unhide HAL) (unhide CF _ 0)) | (go_at_call 62; exact belQ (unhide HF) (unhide HAL) (unhide CN _ _)) | (go_at_call 62; exact belQ (unhide HF) (unhide HAL) (unhide CN _ 0))))); refine wpQuiet_nil ?_; rintro _ ⟨y, rfl⟩
        go_wp2_with fail
        go_roundw
        case rel => exact ⟨kq + 1, y, by rw [unhide NX], by go_num, by omega, rfl⟩
        case measure => simp [intOf]; omega
    · have hi1 : ¬ (kq : Int) < (l1 : Int) := by omega
      obtain rfl : l1 = kq := by omega
      have hSF : saK zs x.p l1 = saF zs x.p := by rw [saF, unhide HZL]
      rw [hSF]
      clear hSF
      rw [unhide HS]
      go_upto_if 65 with fail
      go_cut [13] from 65 to 76 (fun s13 wc => ∃ y, wc = f y)
      case first =>
        by_cases q5 : x.ne = 0
        · have e5 : (x.ne != 0) = false := by simpa using q5
          have e6 : decide (x.ne = 0) = true := by simpa using q5
          clear q5
          go_wp2_with fail
          go_meet
          case rel => exact ⟨_, rfl⟩
        · have e5 : (x.ne != 0) = true := by simpa using q5
          have e6 : decide (x.ne = 0) = false := by simpa using q5
          have q6 : ¬ (fnF zs x.ne < 0 ∨ fnF zs x.ne = -1) := fun h => (unhide HN5) ⟨q5, by show fnF zs x.ne < 0 ∨ fnF zs x.ne = saF zs x.p; rw [unhide HS]; exact h⟩
          have e7 : decide (fnF zs x.ne < 0) = false := by simp only [decide_eq_false_iff_not]; omega
          have e8 : (fnF zs x.ne == -1) = false := by simp only [beq_eq_false_iff_ne]; omega
          have e9 : decide (fnF zs x.ne = -1) = false := by simp only [decide_eq_false_iff_not]; omega
          clear q5 q6
          go_wp2_with (first | (go_at_call 59; refine (belQ (unhide HF) (unhide HAL) (unhide CA _)).mono ?_; rintro e _ ⟨rfl, y, rfl⟩) | (go_at_call 58; refine (belQ (unhide HF) (unhide HAL) (unhide CS _)).mono ?_; rintro e _ ⟨rfl, y, rfl⟩) | (go_at_call 60; refine (belS (l1In_is _ _ _ _ (by exact q4))).mono ?_; rintro e _ ⟨rfl, y, rfl⟩) | (go_at_call 61; refine (belQ (unhide HF) (unhide HAL) (unhide CF _ _)).mono ?_; rintro e _ ⟨rfl, y, rfl⟩) | (go_at_call 61; refine (belQ (unhide HF) (unhide HAL) (unhide CF _ 0)).mono ?_; rintro e _ ⟨rfl, y, rfl⟩) | (go_at_call 62; refine (belQ (unhide HF) (unhide HAL) (unhide CN _ _)).mono ?_; rintro e _ ⟨rfl, y, rfl⟩) | (go_at_call 62; refine (belQ (unhide HF) (unhide HAL) (unhide CN _ 0)).mono ?_; rintro e _ ⟨rfl, y, rfl⟩))
          (repeat (refine wp_region_bel (fun w' h => (unhide HAL) w' ((unhide HF _).trans (h.mono (unhide HF _).size))) (by kernel_rfl) (by kernel_rfl) ?_; (repeat (go_big_quiet_step (first | (go_at_call 61; exact belQ (unhide HF) (unhide HAL) (unhide CF _ _)) | (go_at_call 61; exact belQ (unhide HF) (unhide HAL) (unhide CF _ 0)) | (go_at_call 62; exact belQ (unhide HF) (unhide HAL) (unhide CN _ _)) | (go_at_call 62; exact belQ (unhide HF) (unhide HAL) (unhide CN _ 0))))); refine wpQuiet_nil ?_; rintro _ ⟨y, rfl⟩; (first | go_wp2_with (first | (go_at_call 59; refine (belQ (unhide HF) (unhide HAL) (unhide CA _)).mono ?_; rintro e _ ⟨rfl, y, rfl⟩) | (go_at_call 58; refine (belQ (unhide HF) (unhide HAL) (unhide CS _)).mono ?_; rintro e _ ⟨rfl, y, rfl⟩) | (go_at_call 60; refine (belS (l1In_is _ _ _ _ (by exact q4))).mono ?_; rintro e _ ⟨rfl, y, rfl⟩) | (go_at_call 61; refine (belQ (unhide HF) (unhide HAL) (unhide CF _ _)).mono ?_; rintro e _ ⟨rfl, y, rfl⟩) | (go_at_call 61; refine (belQ (unhide HF) (unhide HAL) (unhide CF _ 0)).mono ?_; rintro e _ ⟨rfl, y, rfl⟩) | (go_at_call 62; refine (belQ (unhide HF) (unhide HAL) (unhide CN _ _)).mono ?_; rintro e _ ⟨rfl, y, rfl⟩) | (go_at_call 62; refine (belQ (unhide HF) (unhide HAL) (unhide CN _ 0)).mono ?_; rintro e _ ⟨rfl, y, rfl⟩)) | go_wp2)))
          go_meet
          case rel => exact ⟨_, rfl⟩
      case rest =>
        obtain ⟨y5, hwc⟩ := hcut
        subst hwc
        have hN : fnF zs x.nb = -1 := by
          rcases fnF_cases zs x.nb with ⟨hN, _⟩ | ⟨t, ht, hN, _, _⟩
          · exact hN
          · exact absurd (.inr (show 0 ≤ fnF zs x.nb by omega)) (unhide HN7)
        have HN := hide hN
        have CF2 : Hid (∀ y, Calls Tryz.prog 61 #[.agg #[.int .i64 s, .slice a1 l1 c1], .int .i64 x.nb] (f y) fun e w' => e = .returned (.int .i64 (-1)) ∧ Below (f y).heap.size (f y) w') := hide (fun y => by have := unhide CF y x.nb; rw [hN] at this; exact this)
        have n9 : decide ((0 : Int) ≤ fnF zs x.nb) = false := by rw [hN]; rfl
        clear hN
        go_wp2_with fail
        have q7 : ¬ l1 = 30 := fun h => (unhide HN8) ⟨by show saF zs x.p < 0; rw [unhide HS]; omega, by rw [unhide HZL]; exact h⟩
        have d7 : ((l1 : Int) == 30) = false := by simp only [beq_eq_false_iff_ne]; omega
        have d8 : decide ((l1 : Int) = 30) = false := by simp only [decide_eq_false_iff_not]; omega
        have d9 : decide (l1 = 30) = false := by simp only [decide_eq_false_iff_not]; omega
        clear q7
        (repeat (refine wp_region_bel (fun w' h => (unhide HAL) w' ((unhide HF _).trans (h.mono (unhide HF _).size))) (by kernel_rfl) (by kernel_rfl) ?_; (repeat (go_big_quiet_step (first | (go_at_call 61; exact belQ (unhide HF) (unhide HAL) (unhide CF _ _)) | (go_at_call 61; exact belQ (unhide HF) (unhide HAL) (unhide CF _ 0)) | (go_at_call 62; exact belQ (unhide HF) (unhide HAL) (unhide CN _ _)) | (go_at_call 62; exact belQ (unhide HF) (unhide HAL) (unhide CN _ 0))))); refine wpQuiet_nil ?_; rintro _ ⟨y, rfl⟩; (first | go_wp2_with (first | (go_at_call 59; refine (belQ (unhide HF) (unhide HAL) (unhide CA _)).mono ?_; rintro e _ ⟨rfl, y, rfl⟩) | (go_at_call 58; refine (belQ (unhide HF) (unhide HAL) (unhide CS _)).mono ?_; rintro e _ ⟨rfl, y, rfl⟩) | (go_at_call 60; refine (belS (l1In_is _ _ _ _ (by exact q4))).mono ?_; rintro e _ ⟨rfl, y, rfl⟩) | (go_at_call 61; refine (belQ (unhide HF) (unhide HAL) (unhide CF _ _)).mono ?_; rintro e _ ⟨rfl, y, rfl⟩) | (go_at_call 61; refine (belQ (unhide HF) (unhide HAL) (unhide CF _ 0)).mono ?_; rintro e _ ⟨rfl, y, rfl⟩) | (go_at_call 62; refine (belQ (unhide HF) (unhide HAL) (unhide CN _ _)).mono ?_; rintro e _ ⟨rfl, y, rfl⟩) | (go_at_call 62; refine (belQ (unhide HF) (unhide HAL) (unhide CN _ 0)).mono ?_; rintro e _ ⟨rfl, y, rfl⟩)) | go_wp2)))
        obtain ⟨U, hU⟩ : ∃ U, U = f y := ⟨_, rfl⟩
        rw [← hU]
        have KU1 : Hid (Blk U (w.heap.size + 1) [.string x.p, .int .i64 x.nb, .int .i64 x.le, .int .i64 x.mo, .int .i64 x.ne, .slice x.d.a x.d.n x.d.c]) := hide (by rw [hU]; exact (unhide KF1) _)
        have KU2 : Hid (Blk U (w.heap.size + 1 + 1) [.int .i64 0, .slice none 0 0]) := hide (by rw [hU]; exact (unhide KF2) _)
        have KU8 : Hid (Blk U w2.heap.size [.int .i64 s, .slice a9 l1 c9]) := hide (by rw [hU]; exact (unhide KF8) _)
        have OU : Hid (OwnLd U (w.heap.size + 3) (.slice a9 l1 c9) us) := hide (by rw [hU]; exact (unhide OF) _)
        have BU : Hid (Below w.heap.size w U) := hide (by rw [hU]; exact (unhide HBF) _)
        have HMV : Hid (us.map lxW = tkO zs x.p) := hide (by rw [tkO, if_neg (by rw [unhide HS]; omega)]; exact unhide HUS)
        have HM30 : Hid (l1 ≤ 30) := hide (by have := unhide HZL; omega)
        have HOKT : Hid (LzOk (tkO zs x.p)) := hide (by rw [tkO, if_neg (by rw [unhide HS]; omega)]; exact unhide HOK)
        have HLV : Hid (∀ i, i < us.length → ∀ q, (slV (elAt us i).d).ownBlock = some q → w.heap.size + 3 ≤ q ∧ q < w2.heap.size) := hide (unhide HLI).2
        clear b0 b1 p0 p1 KF1 KF2 KF8 OF CA CS CF CN CF2 hU HBF HF HAL v0 v1 v2 v3 v4 v5
        obtain ⟨vs, hvs⟩ : ∃ z, z = us := ⟨_, rfl⟩
        rw [← hvs] at OU HMV HUL HLV
        have HVL : Hid (vs.length = l1) := hide (unhide HUL)
        clear hvs
        obtain ⟨m, hm⟩ : ∃ z, z = l1 := ⟨_, rfl⟩
        obtain ⟨cm, hcm⟩ : ∃ z, z = c9 := ⟨_, rfl⟩
        rw [← hm] at HVL OU KU8 HM30
        rw [← hcm] at OU KU8
        clear hm hcm
        rcases (unhide OU).out.form with ⟨e, e2⟩ | ⟨G, cap0, e, _, _, hmc0, hmx0⟩
        · simp only [Value.slice.injEq] at e
          obtain ⟨rfl, rfl, rfl⟩ := e
          clear e2
          obtain ⟨P, hP⟩ : ∃ P, P = poF (tkO zs x.p) x.nb := ⟨_, rfl⟩
          have HP := hide hP
          clear hP
          have hPm : P ≤ 0 := by have h := poF_le (tkO zs x.p) x.nb; rw [← unhide HP, ← unhide HMV, List.length_map, unhide HVL] at h; exact h
          have HLT : Hid (∀ k, k < P → (elAt vs k).nb < x.nb) := hide (fun k hk => by
            have h := poF_lt (n := x.nb) (ls := tkO zs x.p) (j := k) (by rw [← unhide HP]; exact hk)
            rw [← unhide HMV, elAt_lx rfl (by rw [unhide HVL]; omega)] at h; exact h)
          have HST2 : Hid (P < 0 → ¬ (elAt vs P).nb < x.nb) := hide (fun hk => by
            have h := poF_stop (n := x.nb) (ls := tkO zs x.p) (by rw [← unhide HP, ← unhide HMV, List.length_map, unhide HVL]; exact hk)
            rw [← unhide HP, ← unhide HMV, elAt_lx rfl (by rw [unhide HVL]; omega)] at h; exact h)
          obtain ⟨κ, g, _, hbg, hallg⟩ := belClass U
          have HG := hide hbg
          have HAG := hide hallg
          have HBG : Hid (∀ y, Below w.heap.size w (g y)) := hide (fun y => (unhide BU).trans ((hbg y).mono (unhide BU).size))
          have u1 : ∀ y, (g y).cell? ⟨w2.heap.size, 1, none⟩ = some (.slice none 0 0) := fun y => ((unhide KU8).below (hbg y)).c 1 (by simp)
          have v1 : ∀ y, (g y).cell? ⟨w.heap.size + 1, 1, none⟩ = some (.int .i64 x.nb) := fun y => ((unhide KU1).below (hbg y)).c 1 (by simp)
          have KG1 : Hid (∀ y, Blk (g y) (w.heap.size + 1) [.string x.p, .int .i64 x.nb, .int .i64 x.le, .int .i64 x.mo, .int .i64 x.ne, .slice x.d.a x.d.n x.d.c]) := hide (fun y => (unhide KU1).below (hbg y))
          have KG2 : Hid (∀ y, Blk (g y) (w.heap.size + 1 + 1) [.int .i64 0, .slice none 0 0]) := hide (fun y => (unhide KU2).below (hbg y))
          have KG8 : Hid (∀ y, Blk (g y) w2.heap.size [.int .i64 s, .slice none 0 0]) := hide (fun y => (unhide KU8).below (hbg y))
          have OG : Hid (∀ y, OwnLd (g y) (w.heap.size + 3) (.slice none 0 0) vs) := hide (fun y => (unhide OU).below (hbg y))
          obtain ⟨y0g, hy0g⟩ := (unhide HAG) U (Below.refl _ _)
          rw [hy0g]
          clear hbg hallg hy0g KU1 KU2 KU8 OU BU
          go_loopw [14] (fun i wr => ∃ (k : Nat) (y : κ), i = .int .i64 k ∧ k ≤ P ∧ wr = g y) (fun i _ => 0 - (intOf i).toNat)
          case atStart => exact ⟨0, _, rfl, Nat.zero_le _, rfl⟩
          case round =>
            obtain ⟨k, y9, rfl, hk, hwr⟩ := hrel
            subst hwr
            go_upto_region 28 with fail
            go_cut [151] from 136 to 153 (fun b wc => b = .bool (decide (k < P)) ∧ ∃ y, wc = g y)
            case first =>
              have hi1 : ¬ (k : Int) < (0 : Int) := by omega
              have e : decide (k < P) = false := by rw [decide_eq_false_iff_not]; omega
              have E := hide e
              clear e
              refine wp_region_bel (fun w' h => (unhide HAG) w' ((unhide HG _).trans (h.mono (unhide HG _).size))) (by kernel_rfl) (by kernel_rfl) ?_; (repeat (go_big_quiet_step (fail))); refine wpQuiet_nil ?_; rintro _ ⟨y, rfl⟩
              go_wp2
              go_meet
              case rel => exact ⟨by rw [unhide E], _, rfl⟩
            case rest =>
              obtain ⟨rfl, y8, hwc⟩ := hcut
              subst hwc
              by_cases hkP : k < P
              · have e : decide (k < P) = true := by rw [decide_eq_true_eq]; exact hkP
                rw [e]
                go_wp2_with fail
                go_roundw
                case rel => exact ⟨k + 1, y8, by go_num, by omega, rfl⟩
                case measure => simp [intOf]; omega
              · have e : decide (k < P) = false := by rw [decide_eq_false_iff_not]; exact hkP
                rw [e]
                obtain rfl : P = k := by omega
                clear e hkP hk
                obtain ⟨U2, hU2⟩ : ∃ z, z = g y8 := ⟨_, rfl⟩
                rw [← hU2]
                have KU1 : Blk U2 (w.heap.size + 1) [.string x.p, .int .i64 x.nb, .int .i64 x.le, .int .i64 x.mo, .int .i64 x.ne, .slice x.d.a x.d.n x.d.c] := by rw [hU2]; exact (unhide KG1) _
                have KU2 : Hid (Blk U2 (w.heap.size + 1 + 1) [.int .i64 0, .slice none 0 0]) := hide (by rw [hU2]; exact (unhide KG2) _)
                have KU8 : Hid (Blk U2 w2.heap.size [.int .i64 s, .slice none 0 0]) := hide (by rw [hU2]; exact (unhide KG8) _)
                have OU : Hid (OwnLd U2 (w.heap.size + 3) (.slice none 0 0) vs) := hide (by rw [hU2]; exact (unhide OG) _)
                have BU : Hid (Below w.heap.size w U2) := hide (by rw [hU2]; exact (unhide HBG) _)
                clear hU2 KG1 KG2 KG8 OG HG HAG HBG u1 v1 HLT HST2
                obtain ⟨V2, hV2⟩ : ∃ V, V = U2.alloc (Obj.cells #[] 5) := ⟨_, rfl⟩
                have bV2 : Below U2.heap.size U2 V2 := by rw [hV2]; exact bel1 _
                have BV2 := hide bV2
                have KE2 : Hid (Blk V2 (w.heap.size + 1) [.string x.p, .int .i64 x.nb, .int .i64 x.le, .int .i64 x.mo, .int .i64 x.ne, .slice x.d.a x.d.n x.d.c]) := hide (by rw [hV2]; exact KU1.alloc _)
                have OB2 : Hid (OwnE 1 byC V2 U2.heap.size 5 (.slice (some ⟨U2.heap.size, 0, none⟩) 0 0) []) := hide (by rw [hV2]; exact ownE_none (Nat.le_refl _))
                have HR2 : Hid (RowE 1 byC V2 x.d.a x.d.n x.d.zs) := hide ((unhide HIN).sl.row.below ((unhide BU).trans (bV2.mono (unhide BU).size)))
                have m5 : V2.cell? ⟨w.heap.size + 1, 5, none⟩ = some (.slice x.d.a x.d.n x.d.c) := (unhide KE2).c 5 (by simp)
                have hlo : w.heap.size + 3 ≤ w2.heap.size := hw2
                have hU28 : w2.heap.size < U2.heap.size := (unhide KU8).lt
                have hV2s : Hid (U2.heap.size ≤ V2.heap.size) := hide bV2.size
                have HVV : Hid (V2 = U2.alloc (Obj.cells #[] 5)) := hide hV2
                have hdn2 : 0 + x.d.n ≤ 4194304 := by omega
                rw [hV2] at m5
                clear hV2 bV2 KU1
                go_upto_region 31 with (at_builtin; rw [← unhide HVV]; refine wpList_app_by rfl _ _ rfl (unhide OB2) rfl rfl _ _ _ x.d.zs rfl (unhide HR2) (by omega) (unhide hV2s) ?_; intro g8 c8 w8 o8 gr8 _; rw [Nat.zero_add] at o8 ⊢; rw [List.nil_append] at o8; have K8 : Hid (Blk w8 (w.heap.size + 1) [.string x.p, .int .i64 x.nb, .int .i64 x.le, .int .i64 x.mo, .int .i64 x.ne, .slice x.d.a x.d.n x.d.c]) := hide ((unhide KE2).apart gr8 (fun e => by have := Option.some.inj e; omega)); have B8 : Hid (Below U2.heap.size U2 w8) := hide ((unhide BV2).grown gr8 (unhide BV2).size (fun q hq => by cases hq; omega)); have O8 := hide o8; have y5 : w8.cell? ⟨w.heap.size + 1, 5, none⟩ = some (.slice x.d.a x.d.n x.d.c) := (unhide K8).c 5 (by simp); have z5 : w8.frozen? ⟨w.heap.size + 1, 5, none⟩ = false := (unhide K8).f 5 (by simp); clear o8 gr8)
                obtain ⟨U3, hU3⟩ : ∃ z, z = w8.setCell ⟨w.heap.size + 1, 5, none⟩ (.slice (some ⟨g8, 0, none⟩) x.d.n c8) := ⟨_, rfl⟩
                rw [← hU3]
                have KX : Hid (Blk U3 (w.heap.size + 1) [.string x.p, .int .i64 x.nb, .int .i64 x.le, .int .i64 x.mo, .int .i64 x.ne, .slice (some ⟨g8, 0, none⟩) x.d.n c8]) := hide (by rw [hU3]; exact (unhide K8).set 5 (by simp) _)
                have KU2 := hide (show Blk U3 (w.heap.size + 1 + 1) [.int .i64 0, .slice none 0 0] by rw [hU3]; exact ((unhide KU2).below (unhide B8)).other (by simp) _)
                have KU8 := hide (show Blk U3 w2.heap.size [.int .i64 s, .slice none 0 0] by rw [hU3]; exact ((unhide KU8).below (unhide B8)).other (by simp; omega) _)
                have BU3 : Hid (Below w.heap.size w U3) := hide (by rw [hU3]; exact ((unhide BU).trans ((unhide B8).mono (unhide BU).size)).setCell (by simp) _)
                have HLI2 : Hid (LxLies (w.heap.size + 3) U2.heap.size (.slice none 0 0) vs) := hide (unhide OU).lies
                have OU3 : Hid (OwnLd U3 (w.heap.size + 3) (.slice none 0 0) vs) := hide (by rw [hU3]; exact ((unhide OU).below (unhide B8)).set_low (by omega) _)
                have OD : Hid (OwnE 1 byC U3 U2.heap.size 5 (.slice (some ⟨g8, 0, none⟩) x.d.n c8) x.d.zs) := hide (by rw [hU3]; exact (unhide O8).set_other _ (fun e => by have := ((unhide O8).lies _ e).1; omega))
                have hU23 : U2.heap.size ≤ U3.heap.size := by rw [hU3]; have := (unhide B8).size; simpa [World.setCell] using this
                clear hU3 K8 B8 O8 y5 z5 m5 BU OU KE2 OB2 HR2 HVV hV2s BV2
                obtain ⟨d, hd0⟩ : ∃ d, d = 0 - P := ⟨_, rfl⟩
                obtain rfl : d = 0 := by omega
                obtain rfl : P = 0 := by omega
                clear hd0
                have HM2 : Hid (0 ≤ 30) := hide (by omega)
                have HDD : Hid (0 ≤ 30) := hide (by omega)
                have HLEN : Hid ((vs.drop 0).length = 0) := hide (by rw [List.drop_zero]; exact unhide HVL)
                have HRD : Hid (∀ W, RowE 6 lxC W none 0 vs → RowE 6 lxC W none 0 (vs.drop 0)) := hide (fun W h => by rw [List.drop_zero]; exact h)
                have HRF : Hid (∀ W, RowE 6 lxC W none 0 vs → RowE 6 lxC W none 0 (vs.take 0)) := hide (fun W h => by
                  rw [List.take_zero]; exact rowE_zero rfl)
                have p0 : U3.cell? ⟨w.heap.size + 1, 0, none⟩ = some (.string x.p) := (unhide KX).c 0 (by simp)
                have p1 : U3.cell? ⟨w.heap.size + 1, 1, none⟩ = some (.int .i64 x.nb) := (unhide KX).c 1 (by simp)
                have p2 : U3.cell? ⟨w.heap.size + 1, 2, none⟩ = some (.int .i64 x.le) := (unhide KX).c 2 (by simp)
                have p3 : U3.cell? ⟨w.heap.size + 1, 3, none⟩ = some (.int .i64 x.mo) := (unhide KX).c 3 (by simp)
                have p4 : U3.cell? ⟨w.heap.size + 1, 4, none⟩ = some (.int .i64 x.ne) := (unhide KX).c 4 (by simp)
                have p5 : U3.cell? ⟨w.heap.size + 1, 5, none⟩ = some (.slice (some ⟨g8, 0, none⟩) x.d.n c8) := (unhide KX).c 5 (by simp)
                have q1 : U3.cell? ⟨w2.heap.size, 1, none⟩ = some (.slice none 0 0) := (unhide KU8).c 1 (by simp)
                have q1a : ∀ o, (U3.alloc o).cell? ⟨w2.heap.size, 1, none⟩ = some (.slice none 0 0) := fun o => ((unhide KU8).alloc o).c 1 (by simp)
                have HOWN : Hid (∀ W, Below (U3.alloc (Obj.cells ([.string x.p, .int .i64 x.nb, .int .i64 x.le, .int .i64 x.mo, .int .i64 x.ne, .slice (some ⟨g8, 0, none⟩) x.d.n c8].toArray) 32)).heap.size (U3.alloc (Obj.cells ([.string x.p, .int .i64 x.nb, .int .i64 x.le, .int .i64 x.mo, .int .i64 x.ne, .slice (some ⟨g8, 0, none⟩) x.d.n c8].toArray) 32)) W → OwnE 6 lxC W U3.heap.size 32 (.slice (some ⟨U3.heap.size, 0, none⟩) 1 1) [(⟨x.p, x.nb, x.le, x.mo, x.ne, ⟨some ⟨g8, 0, none⟩, x.d.n, c8, x.d.zs⟩⟩ : Lx)]) := hide (fun W k => (ownE_one (K := 6) (cells := lxC) (x := (⟨x.p, x.nb, x.le, x.mo, x.ne, ⟨some ⟨g8, 0, none⟩, x.d.n, c8, x.d.zs⟩⟩ : Lx)) (T := 32) [.string x.p, .int .i64 x.nb, .int .i64 x.le, .int .i64 x.mo, .int .i64 x.ne, .slice (some ⟨g8, 0, none⟩) x.d.n c8] rfl (fun q hq => by rcases (by omega : q = 0 ∨ q = 1 ∨ q = 2 ∨ q = 3 ∨ q = 4 ∨ q = 5) with rfl | rfl | rfl | rfl | rfl | rfl <;> rfl) (Nat.le_refl _)).below k)
                have HBEL : Hid (∀ W, Below (U3.alloc (Obj.cells ([.string x.p, .int .i64 x.nb, .int .i64 x.le, .int .i64 x.mo, .int .i64 x.ne, .slice (some ⟨g8, 0, none⟩) x.d.n c8].toArray) 32)).heap.size (U3.alloc (Obj.cells ([.string x.p, .int .i64 x.nb, .int .i64 x.le, .int .i64 x.mo, .int .i64 x.ne, .slice (some ⟨g8, 0, none⟩) x.d.n c8].toArray) 32)) W → Below U3.heap.size U3 W) := hide (fun W k => (bel1 _).trans (k.mono (bel1 _).size))
                go_cut [15] from 159 to 165 (fun v wc => ∃ H cap, v = .slice (some ⟨H, 0, none⟩) 1 cap ∧ Hid (OwnE 6 lxC wc U3.heap.size 32 (.slice (some ⟨H, 0, none⟩) 1 cap) ([(⟨x.p, x.nb, x.le, x.mo, x.ne, ⟨some ⟨g8, 0, none⟩, x.d.n, c8, x.d.zs⟩⟩ : Lx)] ++ vs.drop 0)) ∧ Hid (Below U3.heap.size U3 wc))
                case first =>
                  go_region_law (first | (refine step_app_elsM (K := 6) (cells := lxC) rfl (.tmp 160) (.tmp 164) 24 32 rfl Tryz.underlying24 infoLx rfl (by decide) (by decide) lxC_one ((unhide HOWN) _ (by first | exact bel0d' 1 | exact bel0d' 0 | exact bel0d' 2)) (by kernel_rfl) none 0 0 (vs.drop 0) (by kernel_rfl) ((unhide HRD) _ (((unhide OU3).below ((unhide HBEL) _ (by first | exact bel0d' 1 | exact bel0d' 0 | exact bel0d' 2))).out.row)) (by simp) ((unhide HBEL) _ (by first | exact bel0d' 1 | exact bel0d' 0 | exact bel0d' 2)).size ?_; intro v9 w9 o9 gr9 nn9; have R9 : Hid (OwnE 6 lxC w9 U3.heap.size 32 v9 ([(⟨x.p, x.nb, x.le, x.mo, x.ne, ⟨some ⟨g8, 0, none⟩, x.d.n, c8, x.d.zs⟩⟩ : Lx)] ++ vs.drop 0)) := hide o9; have B9 : Hid (Below U3.heap.size U3 w9) := hide (((unhide HBEL) _ (by first | exact bel0d' 1 | exact bel0d' 0 | exact bel0d' 2)).grown gr9 ((unhide HBEL) _ (by first | exact bel0d' 1 | exact bel0d' 0 | exact bel0d' 2)).size (fun q hq => by cases hq; exact Nat.le_refl _)); have N9 : Hid (v9 = .slice none 0 0 → False) := hide (fun e => by cases nn9 e); clear o9 gr9 nn9))
                  all_goals
                    go_wp2_with fail
                    (try go_simp)
                    go_meet
                    case rel =>
                      rcases (unhide R9).form with ⟨e, _⟩ | ⟨H9, cap9, e, _⟩
                      · exact absurd e (unhide N9)
                      have hl : ([(⟨x.p, x.nb, x.le, x.mo, x.ne, ⟨some ⟨g8, 0, none⟩, x.d.n, c8, x.d.zs⟩⟩ : Lx)] ++ vs.drop 0).length = 1 := by rw [List.length_append, unhide HLEN]; rfl
                      rw [hl] at e
                      exact ⟨H9, cap9, e, hide (by rw [← e]; exact unhide R9), B9⟩
                case rest =>
                  obtain ⟨H, cap, rfl, OR, BR⟩ := hcut
                  have hUw : U3.heap.size ≤ wc.heap.size := (unhide BR).size
                  have hHlt : U3.heap.size ≤ H ∧ H < wc.heap.size := (unhide OR).lies H rfl
                  obtain ⟨V4, hV4⟩ : ∃ V, V = wc.alloc (Obj.cells #[] 32) := ⟨_, rfl⟩
                  have b4 : Below wc.heap.size wc V4 := by rw [hV4]; exact bel1 _
                  have OE0 : Hid (OwnE 6 lxC V4 wc.heap.size 32 (.slice (some ⟨wc.heap.size, 0, none⟩) 0 0) []) := hide (by rw [hV4]; exact ownE_none (Nat.le_refl _))
                  have B34 : Hid (Below U3.heap.size U3 V4) := hide ((unhide BR).trans (b4.mono (unhide BR).size))
                  have KW2 := hide ((unhide KU2).below (unhide B34))
                  have KW8 := hide ((unhide KU8).below (unhide B34))
                  have OW := hide ((unhide OU3).below (unhide B34))
                  have OR4 := hide ((unhide OR).below b4)
                  have BW := hide ((unhide BU3).trans ((unhide B34).mono (unhide BU3).size))
                  have hV4s : Hid (wc.heap.size ≤ V4.heap.size) := hide b4.size
                  have r1 : V4.cell? ⟨w2.heap.size, 1, none⟩ = some (.slice none 0 0) := (unhide KW8).c 1 (by simp)
                  have HV4 := hide hV4
                  rw [hV4] at r1
                  clear hV4 b4 p0 p1 p2 p3 p4 p5 q1 q1a HOWN HBEL BR OR
                  have HLP : Hid ((vs.take 0).length = 0) := hide (by rw [List.length_take, unhide HVL]; omega)
                  have HLI3 : Hid (([(⟨x.p, x.nb, x.le, x.mo, x.ne, ⟨some ⟨g8, 0, none⟩, x.d.n, c8, x.d.zs⟩⟩ : Lx)] ++ vs.drop 0).length = 1) := hide (by rw [List.length_append, unhide HLEN]; rfl)
                  have HINL : Hid ((insL vs 0 (⟨x.p, x.nb, x.le, x.mo, x.ne, ⟨some ⟨g8, 0, none⟩, x.d.n, c8, x.d.zs⟩⟩ : Lx)).length = 1) := hide (by rw [insL_len (k := 0) (by rw [unhide HVL]; omega), unhide HVL])
                  go_upto_region 33 with (first
                    | ((fail_if_success have := GR9); at_builtin; rw [← unhide HV4]; refine wpList_app_elsM (K := 6) (cells := lxC) (by kernel_rfl) _ _ 24 32 rfl Tryz.underlying24 infoLx rfl (by decide) (by decide) lxC_one (unhide OE0) (by kernel_rfl) none 0 0 (vs.take 0) (by kernel_rfl) ((unhide HRF) _ (unhide OW).out.row) (by simp) (unhide hV4s) ?_; intro v9 w9 o9 gr9 nn9; have o9 : OwnE 6 lxC w9 wc.heap.size 32 v9 (vs.take 0) := o9; obtain ⟨H9, cap9, e9⟩ : ∃ H9 cap9, v9 = .slice (some ⟨H9, 0, none⟩) (vs.take 0).length cap9 := (by rcases o9.form with ⟨e9, _⟩ | ⟨H9, cap9, e9, _⟩; exact absurd (nn9 e9) (by simp); exact ⟨H9, cap9, e9⟩); rw [unhide HLP] at e9; subst e9; have O9 := hide o9; have GR9 := hide gr9; have hH9 : wc.heap.size ≤ H9 := (o9.lies H9 rfl).1; have OR9 : Hid (OwnE 6 lxC w9 U3.heap.size 32 (.slice (some ⟨H, 0, none⟩) 1 cap) ([(⟨x.p, x.nb, x.le, x.mo, x.ne, ⟨some ⟨g8, 0, none⟩, x.d.n, c8, x.d.zs⟩⟩ : Lx)] ++ vs.drop 0)) := hide ((unhide OR4).far gr9 (fun q hq e => by have e1 : H = q := Option.some.inj hq; have e2 : q = wc.heap.size := Option.some.inj e; omega)); have hs9 : Hid (wc.heap.size ≤ w9.heap.size) := hide (Nat.le_trans (unhide hV4s) gr9.size); have KX8 := hide ((unhide KW8).apart gr9 (fun e => by have e : w2.heap.size = wc.heap.size := Option.some.inj e; omega)); have KX2 := hide ((unhide KW2).apart gr9 (fun e => by have e : w.heap.size + 1 + 1 = wc.heap.size := Option.some.inj e; omega)); have BX := hide ((unhide BW).grown gr9 (unhide BW).size (fun q hq => by have e : wc.heap.size = q := Option.some.inj hq; omega)); clear o9 gr9 nn9)
                    | (at_builtin; refine wpList_app_elsM (K := 6) (cells := lxC) (by kernel_rfl) _ _ 24 32 rfl Tryz.underlying24 infoLx rfl (by decide) (by decide) lxC_one (unhide O9) (by kernel_rfl) (some ⟨H, 0, none⟩) 1 cap ([(⟨x.p, x.nb, x.le, x.mo, x.ne, ⟨some ⟨g8, 0, none⟩, x.d.n, c8, x.d.zs⟩⟩ : Lx)] ++ vs.drop 0) (by kernel_rfl) (unhide OR9).row (by rw [unhide HLP]; have := unhide HDD; have := unhide HM2; omega) (unhide hs9) ?_; intro v10 w10 o10 gr10 nn10; have o10 : OwnE 6 lxC w10 wc.heap.size 32 v10 (insL vs 0 (⟨x.p, x.nb, x.le, x.mo, x.ne, ⟨some ⟨g8, 0, none⟩, x.d.n, c8, x.d.zs⟩⟩ : Lx)) := o10; obtain ⟨H10, cap10, e10⟩ : ∃ H9 cap9, v10 = .slice (some ⟨H9, 0, none⟩) (insL vs 0 (⟨x.p, x.nb, x.le, x.mo, x.ne, ⟨some ⟨g8, 0, none⟩, x.d.n, c8, x.d.zs⟩⟩ : Lx)).length cap9 := (by rcases o10.form with ⟨e9, _⟩ | ⟨H9, cap9, e9, _⟩; exact absurd (nn10 e9) (by simp); exact ⟨H9, cap9, e9⟩); rw [unhide HINL] at e10; subst e10; have O10 := hide o10; have GR10 := hide gr10; have hH10 : wc.heap.size ≤ H10 := (o10.lies H10 rfl).1; have KY8 := hide ((unhide KX8).apart gr10 (fun e => by have e : w2.heap.size = H9 := Option.some.inj e; omega)); have KY2 := hide ((unhide KX2).apart gr10 (fun e => by have e : w.heap.size + 1 + 1 = H9 := Option.some.inj e; omega)); have BY := hide ((unhide BX).grown gr10 (unhide BX).size (fun q hq => by have e : H9 = q := Option.some.inj hq; omega)); have y1 : w10.cell? ⟨w2.heap.size, 1, none⟩ = some (.slice none 0 0) := (unhide KY8).c 1 (by simp); have z1 : w10.frozen? ⟨w2.heap.size, 1, none⟩ = false := (unhide KY8).f 1 (by simp); clear o10 gr10 nn10))
                  obtain ⟨X, hX⟩ : ∃ z, z = w10.setCell ⟨w2.heap.size, 1, none⟩ (.slice (some ⟨H10, 0, none⟩) 1 cap10) := ⟨_, rfl⟩
                  rw [← hX]
                  have KZ8 : Hid (Blk X w2.heap.size [.int .i64 s, .slice (some ⟨H10, 0, none⟩) 1 cap10]) := hide (by rw [hX]; exact (unhide KY8).set 1 (by simp) _)
                  have KZ2 : Hid (Blk X (w.heap.size + 1 + 1) [.int .i64 0, .slice none 0 0]) := hide (by rw [hX]; exact (unhide KY2).other (by simp; omega) _)
                  have BZ : Hid (Below w.heap.size w X) := hide (by rw [hX]; exact (unhide BY).setCell (by show w.heap.size ≤ w2.heap.size; omega) _)
                  have HCH : Hid (∀ v zs', OwnE 1 byC U3 (w.heap.size + 3) 5 v zs' → (∀ q, v.ownBlock = some q → q ≠ w2.heap.size) → OwnE 1 byC X (w.heap.size + 3) 5 v zs') := hide (fun v zs' o hne => by
                    have hl := o.lies
                    rw [hX]
                    refine OwnE.set_other ?_ _ (fun e => hne _ e rfl)
                    refine OwnE.far ?_ (unhide GR10) (fun q hq e => by have := (hl q hq).2; have e : q = H9 := Option.some.inj e; omega)
                    exact (o.below (unhide B34)).far (unhide GR9) (fun q hq e => by have := (hl q hq).2; have e : q = wc.heap.size := Option.some.inj e; omega))
                  have OZ : Hid (OwnE 6 lxC X (w.heap.size + 3) 32 (.slice (some ⟨H10, 0, none⟩) 1 cap10) (insL vs 0 (⟨x.p, x.nb, x.le, x.mo, x.ne, ⟨some ⟨g8, 0, none⟩, x.d.n, c8, x.d.zs⟩⟩ : Lx))) := hide (by
                    rw [hX]
                    exact ((unhide O10).set_other _ (fun e => by have e : H10 = w2.heap.size := Option.some.inj e; omega)).mono (by omega))
                  have hg8 : U2.heap.size ≤ g8 ∧ g8 < U3.heap.size := (unhide OD).lies g8 rfl
                  have OX : Hid (OwnLd X (w.heap.size + 3) (.slice (some ⟨H10, 0, none⟩) 1 cap10) (insL vs 0 (⟨x.p, x.nb, x.le, x.mo, x.ne, ⟨some ⟨g8, 0, none⟩, x.d.n, c8, x.d.zs⟩⟩ : Lx))) := hide (OwnLd.ins (unhide OU3) (by rw [unhide HVL]; omega) (unhide OZ)
                    (fun i hi => (unhide HCH) _ _ ((unhide OU3).dat i hi) (fun q hq e => by have := ((unhide HLV) i hi q hq).2; omega))
                    ((unhide HCH) _ _ ((unhide OD).mono (by omega)) (fun q hq e => by have e1 : g8 = q := Option.some.inj hq; omega))
                    (fun i hi q hq e => by have := ((unhide HLV) i hi q hq).2; omega)
                    (fun q hq e => by have e1 : g8 = q := Option.some.inj hq; omega)
                    (fun i hi q hq e => by have := ((unhide HLV) i hi q hq).2; have e1 : g8 = q := Option.some.inj e; omega))
                  have a0 : X.cell? ⟨w2.heap.size, 0, none⟩ = some (.int .i64 s) := (unhide KZ8).c 0 (by simp)
                  have a1' : X.cell? ⟨w2.heap.size, 1, none⟩ = some (.slice (some ⟨H10, 0, none⟩) 1 cap10) := (unhide KZ8).c 1 (by simp)
                  have HDL : Hid (tkL s zs (lxW x) sl = insL (tkO zs x.p) 0 (lxW x)) := hide (by
                    rw [tkL, if_pos (unhide HC), inF_ins]
                    rw [show poF (tkO zs (lxW x).p) (lxW x).nb = 0 from (unhide HP).symm]
                    rfl)
                  have HML : Hid ((insL (tkO zs x.p) 0 (lxW x)).length = 1) := hide (by
                    have := congrArg List.length (insL_map (unhide HMV) 0 (⟨x.p, x.nb, x.le, x.mo, x.ne, ⟨some ⟨g8, 0, none⟩, x.d.n, c8, x.d.zs⟩⟩ : Lx))
                    rw [List.length_map, unhide HINL] at this
                    exact this.symm)
                  have hPt : 0 ≤ (tkO zs x.p).length := by rw [← unhide HMV, List.length_map, unhide HVL]; omega
                  clear hX y1 z1 r1 KX8 KX2 KY8 KY2 KW8 KW2 BX BY BW OW OR4 OR9 O9 O10 GR9 GR10 HCH OZ
                  go_wp2_with ((with_reducible show wpList _ _ _ (⟨none, .store 26 _ _, _, _, _, none⟩ :: _) _ _); refine at_storeAgg (us := [.int .i64 0, .slice none 0 0]) (vs := [.int .i64 s, .slice (some ⟨H10, 0, none⟩) 1 cap10]) Tryz.sizeOf26 rfl rfl (unhide KZ2) rfl (by intro v hv; simp at hv; rcases hv with rfl | rfl <;> rfl) ?_; intro w5 kk gg)
                  have BE : Below w.heap.size w w5 := (unhide BZ).grown gg (unhide BZ).size (fun q hq => by cases hq; omega)
                  have OE := (unhide OX).far gg (fun q hq e => by have := Option.some.inj e; omega)
                  exact bodyPost_ret (results_cellB (vs := [.int .i64 s, .slice (some ⟨H10, 0, none⟩) 1 cap10]) (x := .int .i64 0) rfl Tryz.isAgg26 Tryz.sizeOf26 rfl kk rfl) rfl ⟨some ⟨H10, 0, none⟩, cap10, by rw [unhide HDL, unhide HC, unhide HML], ⟨by rw [unhide HDL, unhide HML]; exact cp_ok (insL_map (unhide HMV) 0 (⟨x.p, x.nb, x.le, x.mo, x.ne, ⟨some ⟨g8, 0, none⟩, x.d.n, c8, x.d.zs⟩⟩ : Lx)) (lzok_ins (unhide HOKT) hPt (unhide HLX)) (OE.mono (by omega))⟩, BE⟩
        · simp only [Value.slice.injEq] at e
          obtain ⟨e1, e2, e3⟩ := e
          have hmc : m ≤ cm := by have := unhide HVL; omega
          have hcmx : cm ≤ 9223372036854775807 := by unfold maxLen at hmx0; omega
          clear hmc0 hmx0 e2 e3
          subst e1
          obtain ⟨P, hP⟩ : ∃ P, P = poF (tkO zs x.p) x.nb := ⟨_, rfl⟩
          have HP := hide hP
          clear hP
          have hPm : P ≤ m := by have h := poF_le (tkO zs x.p) x.nb; rw [← unhide HP, ← unhide HMV, List.length_map, unhide HVL] at h; exact h
          have HLT : Hid (∀ k, k < P → (elAt vs k).nb < x.nb) := hide (fun k hk => by
            have h := poF_lt (n := x.nb) (ls := tkO zs x.p) (j := k) (by rw [← unhide HP]; exact hk)
            rw [← unhide HMV, elAt_lx rfl (by rw [unhide HVL]; omega)] at h; exact h)
          have HST2 : Hid (P < m → ¬ (elAt vs P).nb < x.nb) := hide (fun hk => by
            have h := poF_stop (n := x.nb) (ls := tkO zs x.p) (by rw [← unhide HP, ← unhide HMV, List.length_map, unhide HVL]; exact hk)
            rw [← unhide HP, ← unhide HMV, elAt_lx rfl (by rw [unhide HVL]; omega)] at h; exact h)
          have HROW : Hid (∀ k, k < m → U.cell? ⟨G, k * 6 + 1, none⟩ = some (.int .i64 (elAt vs k).nb)) := hide (fun k hk => by
            obtain ⟨b, off, ha, hcell⟩ := (unhide OU).out.row.at_ k hk
            simp only [Option.some.injEq, Addr.mk.injEq, and_true] at ha
            obtain ⟨rfl, rfl⟩ := ha
            have := hcell 1 (by omega)
            rw [Nat.zero_add] at this
            exact this)
          obtain ⟨κ, g, _, hbg, hallg⟩ := belClass U
          have HG := hide hbg
          have HAG := hide hallg
          have HBG : Hid (∀ y, Below w.heap.size w (g y)) := hide (fun y => (unhide BU).trans ((hbg y).mono (unhide BU).size))
          have u1 : ∀ y, (g y).cell? ⟨w2.heap.size, 1, none⟩ = some (.slice (some ⟨G, 0, none⟩) m cm) := fun y => ((unhide KU8).below (hbg y)).c 1 (by simp)
          have v1 : ∀ y, (g y).cell? ⟨w.heap.size + 1, 1, none⟩ = some (.int .i64 x.nb) := fun y => ((unhide KU1).below (hbg y)).c 1 (by simp)
          have KG1 : Hid (∀ y, Blk (g y) (w.heap.size + 1) [.string x.p, .int .i64 x.nb, .int .i64 x.le, .int .i64 x.mo, .int .i64 x.ne, .slice x.d.a x.d.n x.d.c]) := hide (fun y => (unhide KU1).below (hbg y))
          have KG2 : Hid (∀ y, Blk (g y) (w.heap.size + 1 + 1) [.int .i64 0, .slice none 0 0]) := hide (fun y => (unhide KU2).below (hbg y))
          have KG8 : Hid (∀ y, Blk (g y) w2.heap.size [.int .i64 s, .slice (some ⟨G, 0, none⟩) m cm]) := hide (fun y => (unhide KU8).below (hbg y))
          have OG : Hid (∀ y, OwnLd (g y) (w.heap.size + 3) (.slice (some ⟨G, 0, none⟩) m cm) vs) := hide (fun y => (unhide OU).below (hbg y))
          have CG : Hid (∀ k, k < m → ∀ y, (g y).cell? ⟨G, k * 6 + 1, none⟩ = some (.int .i64 (elAt vs k).nb)) := hide (fun k hk y => ((hbg y).cell (block_lt_of_cell ((unhide HROW) k hk))).trans ((unhide HROW) k hk))
          obtain ⟨y0g, hy0g⟩ := (unhide HAG) U (Below.refl _ _)
          rw [hy0g]
          clear hbg hallg hy0g KU1 KU2 KU8 OU BU HROW
          go_loopw [14] (fun i wr => ∃ (k : Nat) (y : κ), i = .int .i64 k ∧ k ≤ P ∧ wr = g y) (fun i _ => m - (intOf i).toNat)
          case atStart => exact ⟨0, _, rfl, Nat.zero_le _, rfl⟩
          case round =>
            obtain ⟨k, y9, rfl, hk, hwr⟩ := hrel
            subst hwr
            go_upto_region 28 with fail
            go_cut [151] from 136 to 153 (fun b wc => b = .bool (decide (k < P)) ∧ ∃ y, wc = g y)
            case first =>
              by_cases hlt : k < m
              · have hi1 : (k : Int) < (m : Int) := by omega
                have hi0 : (0 : Int) ≤ (k : Int) := by omega
                obtain ⟨Y, hY⟩ : ∃ z, (elAt vs k).nb = z := ⟨_, rfl⟩
                have m1 := fun y => (unhide CG) k hlt y
                rw [hY] at m1
                by_cases lt : Y < x.nb
                · have e : decide (k < P) = true := by
                    rw [decide_eq_true_eq]
                    rcases Nat.lt_or_ge k P with h | h
                    · exact h
                    · obtain rfl : k = P := by omega
                      exact absurd (by rw [hY]; exact lt) ((unhide HST2) hlt)
                  have d : decide (Y < x.nb) = true := by simpa using lt
                  have E := hide e
                  clear hY e CG
                  refine wp_region_bel (fun w' h => (unhide HAG) w' ((unhide HG _).trans (h.mono (unhide HG _).size))) (by kernel_rfl) (by kernel_rfl) ?_; (repeat (go_big_quiet_step (fail))); refine wpQuiet_nil ?_; rintro _ ⟨y, rfl⟩
                  go_wp2
                  go_meet
                  case rel => exact ⟨by rw [unhide E], _, rfl⟩
                · have e : decide (k < P) = false := by
                    rw [decide_eq_false_iff_not]
                    intro h
                    exact lt (by rw [← hY]; exact (unhide HLT) k h)
                  have d : decide (Y < x.nb) = false := by simpa using lt
                  have E := hide e
                  clear hY e CG
                  refine wp_region_bel (fun w' h => (unhide HAG) w' ((unhide HG _).trans (h.mono (unhide HG _).size))) (by kernel_rfl) (by kernel_rfl) ?_; (repeat (go_big_quiet_step (fail))); refine wpQuiet_nil ?_; rintro _ ⟨y, rfl⟩
                  go_wp2
                  go_meet
                  case rel => exact ⟨by rw [unhide E], _, rfl⟩
              · have hi1 : ¬ (k : Int) < (m : Int) := by omega
                have e : decide (k < P) = false := by rw [decide_eq_false_iff_not]; omega
                have E := hide e
                clear e CG
                refine wp_region_bel (fun w' h => (unhide HAG) w' ((unhide HG _).trans (h.mono (unhide HG _).size))) (by kernel_rfl) (by kernel_rfl) ?_; (repeat (go_big_quiet_step (fail))); refine wpQuiet_nil ?_; rintro _ ⟨y, rfl⟩
                go_wp2
                go_meet
                case rel => exact ⟨by rw [unhide E], _, rfl⟩
            case rest =>
              obtain ⟨rfl, y8, hwc⟩ := hcut
              subst hwc
              by_cases hkP : k < P
              · have e : decide (k < P) = true := by rw [decide_eq_true_eq]; exact hkP
                rw [e]
                go_wp2_with fail
                go_roundw
                case rel => exact ⟨k + 1, y8, by go_num, by omega, rfl⟩
                case measure => simp [intOf]; omega
              · have e : decide (k < P) = false := by rw [decide_eq_false_iff_not]; exact hkP
                rw [e]
                obtain rfl : P = k := by omega
                clear e hkP hk
                obtain ⟨U2, hU2⟩ : ∃ z, z = g y8 := ⟨_, rfl⟩
                rw [← hU2]
                have KU1 : Blk U2 (w.heap.size + 1) [.string x.p, .int .i64 x.nb, .int .i64 x.le, .int .i64 x.mo, .int .i64 x.ne, .slice x.d.a x.d.n x.d.c] := by rw [hU2]; exact (unhide KG1) _
                have KU2 : Hid (Blk U2 (w.heap.size + 1 + 1) [.int .i64 0, .slice none 0 0]) := hide (by rw [hU2]; exact (unhide KG2) _)
                have KU8 : Hid (Blk U2 w2.heap.size [.int .i64 s, .slice (some ⟨G, 0, none⟩) m cm]) := hide (by rw [hU2]; exact (unhide KG8) _)
                have OU : Hid (OwnLd U2 (w.heap.size + 3) (.slice (some ⟨G, 0, none⟩) m cm) vs) := hide (by rw [hU2]; exact (unhide OG) _)
                have BU : Hid (Below w.heap.size w U2) := hide (by rw [hU2]; exact (unhide HBG) _)
                clear hU2 KG1 KG2 KG8 OG HG HAG HBG u1 v1 HLT HST2 CG
                obtain ⟨V2, hV2⟩ : ∃ V, V = U2.alloc (Obj.cells #[] 5) := ⟨_, rfl⟩
                have bV2 : Below U2.heap.size U2 V2 := by rw [hV2]; exact bel1 _
                have BV2 := hide bV2
                have KE2 : Hid (Blk V2 (w.heap.size + 1) [.string x.p, .int .i64 x.nb, .int .i64 x.le, .int .i64 x.mo, .int .i64 x.ne, .slice x.d.a x.d.n x.d.c]) := hide (by rw [hV2]; exact KU1.alloc _)
                have OB2 : Hid (OwnE 1 byC V2 U2.heap.size 5 (.slice (some ⟨U2.heap.size, 0, none⟩) 0 0) []) := hide (by rw [hV2]; exact ownE_none (Nat.le_refl _))
                have HR2 : Hid (RowE 1 byC V2 x.d.a x.d.n x.d.zs) := hide ((unhide HIN).sl.row.below ((unhide BU).trans (bV2.mono (unhide BU).size)))
                have m5 : V2.cell? ⟨w.heap.size + 1, 5, none⟩ = some (.slice x.d.a x.d.n x.d.c) := (unhide KE2).c 5 (by simp)
                have hlo : w.heap.size + 3 ≤ w2.heap.size := hw2
                have hU28 : w2.heap.size < U2.heap.size := (unhide KU8).lt
                have hV2s : Hid (U2.heap.size ≤ V2.heap.size) := hide bV2.size
                have HVV : Hid (V2 = U2.alloc (Obj.cells #[] 5)) := hide hV2
                have hdn2 : 0 + x.d.n ≤ 4194304 := by omega
                rw [hV2] at m5
                clear hV2 bV2 KU1
                go_upto_region 31 with (at_builtin; rw [← unhide HVV]; refine wpList_app_by rfl _ _ rfl (unhide OB2) rfl rfl _ _ _ x.d.zs rfl (unhide HR2) (by omega) (unhide hV2s) ?_; intro g8 c8 w8 o8 gr8 _; rw [Nat.zero_add] at o8 ⊢; rw [List.nil_append] at o8; have K8 : Hid (Blk w8 (w.heap.size + 1) [.string x.p, .int .i64 x.nb, .int .i64 x.le, .int .i64 x.mo, .int .i64 x.ne, .slice x.d.a x.d.n x.d.c]) := hide ((unhide KE2).apart gr8 (fun e => by have := Option.some.inj e; omega)); have B8 : Hid (Below U2.heap.size U2 w8) := hide ((unhide BV2).grown gr8 (unhide BV2).size (fun q hq => by cases hq; omega)); have O8 := hide o8; have y5 : w8.cell? ⟨w.heap.size + 1, 5, none⟩ = some (.slice x.d.a x.d.n x.d.c) := (unhide K8).c 5 (by simp); have z5 : w8.frozen? ⟨w.heap.size + 1, 5, none⟩ = false := (unhide K8).f 5 (by simp); clear o8 gr8)
                obtain ⟨U3, hU3⟩ : ∃ z, z = w8.setCell ⟨w.heap.size + 1, 5, none⟩ (.slice (some ⟨g8, 0, none⟩) x.d.n c8) := ⟨_, rfl⟩
                rw [← hU3]
                have KX : Hid (Blk U3 (w.heap.size + 1) [.string x.p, .int .i64 x.nb, .int .i64 x.le, .int .i64 x.mo, .int .i64 x.ne, .slice (some ⟨g8, 0, none⟩) x.d.n c8]) := hide (by rw [hU3]; exact (unhide K8).set 5 (by simp) _)
                have KU2 := hide (show Blk U3 (w.heap.size + 1 + 1) [.int .i64 0, .slice none 0 0] by rw [hU3]; exact ((unhide KU2).below (unhide B8)).other (by simp) _)
                have KU8 := hide (show Blk U3 w2.heap.size [.int .i64 s, .slice (some ⟨G, 0, none⟩) m cm] by rw [hU3]; exact ((unhide KU8).below (unhide B8)).other (by simp; omega) _)
                have BU3 : Hid (Below w.heap.size w U3) := hide (by rw [hU3]; exact ((unhide BU).trans ((unhide B8).mono (unhide BU).size)).setCell (by simp) _)
                have HLI2 : Hid (LxLies (w.heap.size + 3) U2.heap.size (.slice (some ⟨G, 0, none⟩) m cm) vs) := hide (unhide OU).lies
                have OU3 : Hid (OwnLd U3 (w.heap.size + 3) (.slice (some ⟨G, 0, none⟩) m cm) vs) := hide (by rw [hU3]; exact ((unhide OU).below (unhide B8)).set_low (by omega) _)
                have OD : Hid (OwnE 1 byC U3 U2.heap.size 5 (.slice (some ⟨g8, 0, none⟩) x.d.n c8) x.d.zs) := hide (by rw [hU3]; exact (unhide O8).set_other _ (fun e => by have := ((unhide O8).lies _ e).1; omega))
                have hU23 : U2.heap.size ≤ U3.heap.size := by rw [hU3]; have := (unhide B8).size; simpa [World.setCell] using this
                clear hU3 K8 B8 O8 y5 z5 m5 BU OU KE2 OB2 HR2 HVV hV2s BV2
                obtain ⟨d, hd0⟩ : ∃ d, m - P = d := ⟨_, rfl⟩
                obtain ⟨CB, hCB⟩ : ∃ CB, cm - P = CB := ⟨_, rfl⟩
                obtain ⟨XB, hXB⟩ : ∃ XB, (if cm = P then some (⟨G, 0, none⟩ : Addr) else some ⟨G, P * 6, none⟩) = XB := ⟨_, rfl⟩
                have HM2 : Hid (m ≤ 30) := HM30
                have HDD : Hid (d ≤ 30) := hide (by have := unhide HM30; omega)
                have HRD : Hid (∀ W, RowE 6 lxC W (some ⟨G, 0, none⟩) m vs → RowE 6 lxC W XB d (vs.drop P)) := hide (fun W h => by
                  rw [← hXB, ← hd0]
                  split
                  · have h0 : m - P = 0 := by omega
                    rw [h0]
                    exact rowE_zero (by rw [List.drop_of_length_le (by have := unhide HVL; omega)])
                  · exact rowE_drop h P (by omega))
                have HLEN : Hid ((vs.drop P).length = d) := hide (by rw [List.length_drop, unhide HVL]; exact hd0)
                have HRF : Hid (∀ W, RowE 6 lxC W (some ⟨G, 0, none⟩) m vs → RowE 6 lxC W (some ⟨G, 0, none⟩) P (vs.take P)) := hide (fun W h => rowE_take h P hPm)
                have hk0 : (0 : Int) ≤ (P : Int) := by omega
                have hki : (P : Int) ≤ (cm : Int) := by omega
                have hkc : P ≤ cm := by omega
                have hkm : (P : Int) ≤ (m : Int) := by omega
                have p0 : U3.cell? ⟨w.heap.size + 1, 0, none⟩ = some (.string x.p) := (unhide KX).c 0 (by simp)
                have p1 : U3.cell? ⟨w.heap.size + 1, 1, none⟩ = some (.int .i64 x.nb) := (unhide KX).c 1 (by simp)
                have p2 : U3.cell? ⟨w.heap.size + 1, 2, none⟩ = some (.int .i64 x.le) := (unhide KX).c 2 (by simp)
                have p3 : U3.cell? ⟨w.heap.size + 1, 3, none⟩ = some (.int .i64 x.mo) := (unhide KX).c 3 (by simp)
                have p4 : U3.cell? ⟨w.heap.size + 1, 4, none⟩ = some (.int .i64 x.ne) := (unhide KX).c 4 (by simp)
                have p5 : U3.cell? ⟨w.heap.size + 1, 5, none⟩ = some (.slice (some ⟨g8, 0, none⟩) x.d.n c8) := (unhide KX).c 5 (by simp)
                have q1 : U3.cell? ⟨w2.heap.size, 1, none⟩ = some (.slice (some ⟨G, 0, none⟩) m cm) := (unhide KU8).c 1 (by simp)
                have q1a : ∀ o, (U3.alloc o).cell? ⟨w2.heap.size, 1, none⟩ = some (.slice (some ⟨G, 0, none⟩) m cm) := fun o => ((unhide KU8).alloc o).c 1 (by simp)
                have HOWN : Hid (∀ W, Below (U3.alloc (Obj.cells ([.string x.p, .int .i64 x.nb, .int .i64 x.le, .int .i64 x.mo, .int .i64 x.ne, .slice (some ⟨g8, 0, none⟩) x.d.n c8].toArray) 32)).heap.size (U3.alloc (Obj.cells ([.string x.p, .int .i64 x.nb, .int .i64 x.le, .int .i64 x.mo, .int .i64 x.ne, .slice (some ⟨g8, 0, none⟩) x.d.n c8].toArray) 32)) W → OwnE 6 lxC W U3.heap.size 32 (.slice (some ⟨U3.heap.size, 0, none⟩) 1 1) [(⟨x.p, x.nb, x.le, x.mo, x.ne, ⟨some ⟨g8, 0, none⟩, x.d.n, c8, x.d.zs⟩⟩ : Lx)]) := hide (fun W k => (ownE_one (K := 6) (cells := lxC) (x := (⟨x.p, x.nb, x.le, x.mo, x.ne, ⟨some ⟨g8, 0, none⟩, x.d.n, c8, x.d.zs⟩⟩ : Lx)) (T := 32) [.string x.p, .int .i64 x.nb, .int .i64 x.le, .int .i64 x.mo, .int .i64 x.ne, .slice (some ⟨g8, 0, none⟩) x.d.n c8] rfl (fun q hq => by rcases (by omega : q = 0 ∨ q = 1 ∨ q = 2 ∨ q = 3 ∨ q = 4 ∨ q = 5) with rfl | rfl | rfl | rfl | rfl | rfl <;> rfl) (Nat.le_refl _)).below k)
                have HBEL : Hid (∀ W, Below (U3.alloc (Obj.cells ([.string x.p, .int .i64 x.nb, .int .i64 x.le, .int .i64 x.mo, .int .i64 x.ne, .slice (some ⟨g8, 0, none⟩) x.d.n c8].toArray) 32)).heap.size (U3.alloc (Obj.cells ([.string x.p, .int .i64 x.nb, .int .i64 x.le, .int .i64 x.mo, .int .i64 x.ne, .slice (some ⟨g8, 0, none⟩) x.d.n c8].toArray) 32)) W → Below U3.heap.size U3 W) := hide (fun W k => (bel1 _).trans (k.mono (bel1 _).size))
                go_cut [15] from 159 to 165 (fun v wc => ∃ H cap, v = .slice (some ⟨H, 0, none⟩) (1 + d) cap ∧ Hid (OwnE 6 lxC wc U3.heap.size 32 (.slice (some ⟨H, 0, none⟩) (1 + d) cap) ([(⟨x.p, x.nb, x.le, x.mo, x.ne, ⟨some ⟨g8, 0, none⟩, x.d.n, c8, x.d.zs⟩⟩ : Lx)] ++ vs.drop P)) ∧ Hid (Below U3.heap.size U3 wc))
                case first =>
                  go_region_law (first | (refine step_app_elsM (K := 6) (cells := lxC) rfl (.tmp 160) (.tmp 164) 24 32 rfl Tryz.underlying24 infoLx rfl (by decide) (by decide) lxC_one ((unhide HOWN) _ (by first | exact bel0d' 1 | exact bel0d' 0 | exact bel0d' 2)) (by kernel_rfl) XB d CB (vs.drop P) (by kernel_rfl) ((unhide HRD) _ (((unhide OU3).below ((unhide HBEL) _ (by first | exact bel0d' 1 | exact bel0d' 0 | exact bel0d' 2))).out.row)) (by have := unhide HDD; simp; omega) ((unhide HBEL) _ (by first | exact bel0d' 1 | exact bel0d' 0 | exact bel0d' 2)).size ?_; intro v9 w9 o9 gr9 nn9; have R9 : Hid (OwnE 6 lxC w9 U3.heap.size 32 v9 ([(⟨x.p, x.nb, x.le, x.mo, x.ne, ⟨some ⟨g8, 0, none⟩, x.d.n, c8, x.d.zs⟩⟩ : Lx)] ++ vs.drop P)) := hide o9; have B9 : Hid (Below U3.heap.size U3 w9) := hide (((unhide HBEL) _ (by first | exact bel0d' 1 | exact bel0d' 0 | exact bel0d' 2)).grown gr9 ((unhide HBEL) _ (by first | exact bel0d' 1 | exact bel0d' 0 | exact bel0d' 2)).size (fun q hq => by cases hq; exact Nat.le_refl _)); have N9 : Hid (v9 = .slice none 0 0 → False) := hide (fun e => by cases nn9 e); clear o9 gr9 nn9))
                  all_goals
                    go_wp2_with fail
                    (try go_simp)
                    go_meet
                    case rel =>
                      rcases (unhide R9).form with ⟨e, _⟩ | ⟨H9, cap9, e, _⟩
                      · exact absurd e (unhide N9)
                      have hl : ([(⟨x.p, x.nb, x.le, x.mo, x.ne, ⟨some ⟨g8, 0, none⟩, x.d.n, c8, x.d.zs⟩⟩ : Lx)] ++ vs.drop P).length = 1 + d := by rw [List.length_append, unhide HLEN]; rfl
                      rw [hl] at e
                      exact ⟨H9, cap9, e, hide (by rw [← e]; exact unhide R9), B9⟩
                case rest =>
                  obtain ⟨H, cap, rfl, OR, BR⟩ := hcut
                  have hUw : U3.heap.size ≤ wc.heap.size := (unhide BR).size
                  have hHlt : U3.heap.size ≤ H ∧ H < wc.heap.size := (unhide OR).lies H rfl
                  obtain ⟨V4, hV4⟩ : ∃ V, V = wc.alloc (Obj.cells #[] 32) := ⟨_, rfl⟩
                  have b4 : Below wc.heap.size wc V4 := by rw [hV4]; exact bel1 _
                  have OE0 : Hid (OwnE 6 lxC V4 wc.heap.size 32 (.slice (some ⟨wc.heap.size, 0, none⟩) 0 0) []) := hide (by rw [hV4]; exact ownE_none (Nat.le_refl _))
                  have B34 : Hid (Below U3.heap.size U3 V4) := hide ((unhide BR).trans (b4.mono (unhide BR).size))
                  have KW2 := hide ((unhide KU2).below (unhide B34))
                  have KW8 := hide ((unhide KU8).below (unhide B34))
                  have OW := hide ((unhide OU3).below (unhide B34))
                  have OR4 := hide ((unhide OR).below b4)
                  have BW := hide ((unhide BU3).trans ((unhide B34).mono (unhide BU3).size))
                  have hV4s : Hid (wc.heap.size ≤ V4.heap.size) := hide b4.size
                  have r1 : V4.cell? ⟨w2.heap.size, 1, none⟩ = some (.slice (some ⟨G, 0, none⟩) m cm) := (unhide KW8).c 1 (by simp)
                  have HV4 := hide hV4
                  rw [hV4] at r1
                  clear hV4 b4 p0 p1 p2 p3 p4 p5 q1 q1a HOWN HBEL BR OR
                  have HLP : Hid ((vs.take P).length = P) := hide (by rw [List.length_take, unhide HVL]; omega)
                  have HLI3 : Hid (([(⟨x.p, x.nb, x.le, x.mo, x.ne, ⟨some ⟨g8, 0, none⟩, x.d.n, c8, x.d.zs⟩⟩ : Lx)] ++ vs.drop P).length = 1 + d) := hide (by rw [List.length_append, unhide HLEN]; rfl)
                  have HINL : Hid ((insL vs P (⟨x.p, x.nb, x.le, x.mo, x.ne, ⟨some ⟨g8, 0, none⟩, x.d.n, c8, x.d.zs⟩⟩ : Lx)).length = m + 1) := hide (by rw [insL_len (by rw [unhide HVL]; omega), unhide HVL])
                  go_upto_region 33 with (first
                    | ((fail_if_success have := GR9); at_builtin; rw [← unhide HV4]; refine wpList_app_elsM (K := 6) (cells := lxC) (by kernel_rfl) _ _ 24 32 rfl Tryz.underlying24 infoLx rfl (by decide) (by decide) lxC_one (unhide OE0) (by kernel_rfl) (some ⟨G, 0, none⟩) P cm (vs.take P) (by kernel_rfl) ((unhide HRF) _ (unhide OW).out.row) (by have := unhide HM2; simp; omega) (unhide hV4s) ?_; intro v9 w9 o9 gr9 nn9; have o9 : OwnE 6 lxC w9 wc.heap.size 32 v9 (vs.take P) := o9; obtain ⟨H9, cap9, e9⟩ : ∃ H9 cap9, v9 = .slice (some ⟨H9, 0, none⟩) (vs.take P).length cap9 := (by rcases o9.form with ⟨e9, _⟩ | ⟨H9, cap9, e9, _⟩; exact absurd (nn9 e9) (by simp); exact ⟨H9, cap9, e9⟩); rw [unhide HLP] at e9; subst e9; have O9 := hide o9; have GR9 := hide gr9; have hH9 : wc.heap.size ≤ H9 := (o9.lies H9 rfl).1; have OR9 : Hid (OwnE 6 lxC w9 U3.heap.size 32 (.slice (some ⟨H, 0, none⟩) (1 + d) cap) ([(⟨x.p, x.nb, x.le, x.mo, x.ne, ⟨some ⟨g8, 0, none⟩, x.d.n, c8, x.d.zs⟩⟩ : Lx)] ++ vs.drop P)) := hide ((unhide OR4).far gr9 (fun q hq e => by have e1 : H = q := Option.some.inj hq; have e2 : q = wc.heap.size := Option.some.inj e; omega)); have hs9 : Hid (wc.heap.size ≤ w9.heap.size) := hide (Nat.le_trans (unhide hV4s) gr9.size); have KX8 := hide ((unhide KW8).apart gr9 (fun e => by have e : w2.heap.size = wc.heap.size := Option.some.inj e; omega)); have KX2 := hide ((unhide KW2).apart gr9 (fun e => by have e : w.heap.size + 1 + 1 = wc.heap.size := Option.some.inj e; omega)); have BX := hide ((unhide BW).grown gr9 (unhide BW).size (fun q hq => by have e : wc.heap.size = q := Option.some.inj hq; omega)); clear o9 gr9 nn9)
                    | (at_builtin; refine wpList_app_elsM (K := 6) (cells := lxC) (by kernel_rfl) _ _ 24 32 rfl Tryz.underlying24 infoLx rfl (by decide) (by decide) lxC_one (unhide O9) (by kernel_rfl) (some ⟨H, 0, none⟩) (1 + d) cap ([(⟨x.p, x.nb, x.le, x.mo, x.ne, ⟨some ⟨g8, 0, none⟩, x.d.n, c8, x.d.zs⟩⟩ : Lx)] ++ vs.drop P) (by kernel_rfl) (unhide OR9).row (by rw [unhide HLP]; have := unhide HDD; have := unhide HM2; omega) (unhide hs9) ?_; intro v10 w10 o10 gr10 nn10; have o10 : OwnE 6 lxC w10 wc.heap.size 32 v10 (insL vs P (⟨x.p, x.nb, x.le, x.mo, x.ne, ⟨some ⟨g8, 0, none⟩, x.d.n, c8, x.d.zs⟩⟩ : Lx)) := o10; obtain ⟨H10, cap10, e10⟩ : ∃ H9 cap9, v10 = .slice (some ⟨H9, 0, none⟩) (insL vs P (⟨x.p, x.nb, x.le, x.mo, x.ne, ⟨some ⟨g8, 0, none⟩, x.d.n, c8, x.d.zs⟩⟩ : Lx)).length cap9 := (by rcases o10.form with ⟨e9, _⟩ | ⟨H9, cap9, e9, _⟩; exact absurd (nn10 e9) (by simp); exact ⟨H9, cap9, e9⟩); rw [unhide HINL] at e10; subst e10; have O10 := hide o10; have GR10 := hide gr10; have hH10 : wc.heap.size ≤ H10 := (o10.lies H10 rfl).1; have KY8 := hide ((unhide KX8).apart gr10 (fun e => by have e : w2.heap.size = H9 := Option.some.inj e; omega)); have KY2 := hide ((unhide KX2).apart gr10 (fun e => by have e : w.heap.size + 1 + 1 = H9 := Option.some.inj e; omega)); have BY := hide ((unhide BX).grown gr10 (unhide BX).size (fun q hq => by have e : H9 = q := Option.some.inj hq; omega)); have y1 : w10.cell? ⟨w2.heap.size, 1, none⟩ = some (.slice (some ⟨G, 0, none⟩) m cm) := (unhide KY8).c 1 (by simp); have z1 : w10.frozen? ⟨w2.heap.size, 1, none⟩ = false := (unhide KY8).f 1 (by simp); clear o10 gr10 nn10))
                  obtain ⟨X, hX⟩ : ∃ z, z = w10.setCell ⟨w2.heap.size, 1, none⟩ (.slice (some ⟨H10, 0, none⟩) (m + 1) cap10) := ⟨_, rfl⟩
                  rw [← hX]
                  have KZ8 : Hid (Blk X w2.heap.size [.int .i64 s, .slice (some ⟨H10, 0, none⟩) (m + 1) cap10]) := hide (by rw [hX]; exact (unhide KY8).set 1 (by simp) _)
                  have KZ2 : Hid (Blk X (w.heap.size + 1 + 1) [.int .i64 0, .slice none 0 0]) := hide (by rw [hX]; exact (unhide KY2).other (by simp; omega) _)
                  have BZ : Hid (Below w.heap.size w X) := hide (by rw [hX]; exact (unhide BY).setCell (by show w.heap.size ≤ w2.heap.size; omega) _)
                  have HCH : Hid (∀ v zs', OwnE 1 byC U3 (w.heap.size + 3) 5 v zs' → (∀ q, v.ownBlock = some q → q ≠ w2.heap.size) → OwnE 1 byC X (w.heap.size + 3) 5 v zs') := hide (fun v zs' o hne => by
                    have hl := o.lies
                    rw [hX]
                    refine OwnE.set_other ?_ _ (fun e => hne _ e rfl)
                    refine OwnE.far ?_ (unhide GR10) (fun q hq e => by have := (hl q hq).2; have e : q = H9 := Option.some.inj e; omega)
                    exact (o.below (unhide B34)).far (unhide GR9) (fun q hq e => by have := (hl q hq).2; have e : q = wc.heap.size := Option.some.inj e; omega))
                  have OZ : Hid (OwnE 6 lxC X (w.heap.size + 3) 32 (.slice (some ⟨H10, 0, none⟩) (m + 1) cap10) (insL vs P (⟨x.p, x.nb, x.le, x.mo, x.ne, ⟨some ⟨g8, 0, none⟩, x.d.n, c8, x.d.zs⟩⟩ : Lx))) := hide (by
                    rw [hX]
                    exact ((unhide O10).set_other _ (fun e => by have e : H10 = w2.heap.size := Option.some.inj e; omega)).mono (by omega))
                  have hg8 : U2.heap.size ≤ g8 ∧ g8 < U3.heap.size := (unhide OD).lies g8 rfl
                  have OX : Hid (OwnLd X (w.heap.size + 3) (.slice (some ⟨H10, 0, none⟩) (m + 1) cap10) (insL vs P (⟨x.p, x.nb, x.le, x.mo, x.ne, ⟨some ⟨g8, 0, none⟩, x.d.n, c8, x.d.zs⟩⟩ : Lx))) := hide (OwnLd.ins (unhide OU3) (by rw [unhide HVL]; omega) (unhide OZ)
                    (fun i hi => (unhide HCH) _ _ ((unhide OU3).dat i hi) (fun q hq e => by have := ((unhide HLV) i hi q hq).2; omega))
                    ((unhide HCH) _ _ ((unhide OD).mono (by omega)) (fun q hq e => by have e1 : g8 = q := Option.some.inj hq; omega))
                    (fun i hi q hq e => by have := ((unhide HLV) i hi q hq).2; omega)
                    (fun q hq e => by have e1 : g8 = q := Option.some.inj hq; omega)
                    (fun i hi q hq e => by have := ((unhide HLV) i hi q hq).2; have e1 : g8 = q := Option.some.inj e; omega))
                  have a0 : X.cell? ⟨w2.heap.size, 0, none⟩ = some (.int .i64 s) := (unhide KZ8).c 0 (by simp)
                  have a1' : X.cell? ⟨w2.heap.size, 1, none⟩ = some (.slice (some ⟨H10, 0, none⟩) (m + 1) cap10) := (unhide KZ8).c 1 (by simp)
                  have HDL : Hid (tkL s zs (lxW x) sl = insL (tkO zs x.p) P (lxW x)) := hide (by
                    rw [tkL, if_pos (unhide HC), inF_ins]
                    rw [show poF (tkO zs (lxW x).p) (lxW x).nb = P from (unhide HP).symm]
                    rfl)
                  have HML : Hid ((insL (tkO zs x.p) P (lxW x)).length = m + 1) := hide (by
                    have := congrArg List.length (insL_map (unhide HMV) P (⟨x.p, x.nb, x.le, x.mo, x.ne, ⟨some ⟨g8, 0, none⟩, x.d.n, c8, x.d.zs⟩⟩ : Lx))
                    rw [List.length_map, unhide HINL] at this
                    exact this.symm)
                  have hPt : P ≤ (tkO zs x.p).length := by rw [← unhide HMV, List.length_map, unhide HVL]; omega
                  clear hX y1 z1 r1 KX8 KX2 KY8 KY2 KW8 KW2 BX BY BW OW OR4 OR9 O9 O10 GR9 GR10 HCH OZ
                  go_wp2_with ((with_reducible show wpList _ _ _ (⟨none, .store 26 _ _, _, _, _, none⟩ :: _) _ _); refine at_storeAgg (us := [.int .i64 0, .slice none 0 0]) (vs := [.int .i64 s, .slice (some ⟨H10, 0, none⟩) (m + 1) cap10]) Tryz.sizeOf26 rfl rfl (unhide KZ2) rfl (by intro v hv; simp at hv; rcases hv with rfl | rfl <;> rfl) ?_; intro w5 kk gg)
                  have BE : Below w.heap.size w w5 := (unhide BZ).grown gg (unhide BZ).size (fun q hq => by cases hq; omega)
                  have OE := (unhide OX).far gg (fun q hq e => by have := Option.some.inj e; omega)
                  exact bodyPost_ret (results_cellB (vs := [.int .i64 s, .slice (some ⟨H10, 0, none⟩) (m + 1) cap10]) (x := .int .i64 0) rfl Tryz.isAgg26 Tryz.sizeOf26 rfl kk rfl) rfl ⟨some ⟨H10, 0, none⟩, cap10, by rw [unhide HDL, unhide HC, unhide HML], ⟨by rw [unhide HDL, unhide HML]; exact cp_ok (insL_map (unhide HMV) P (⟨x.p, x.nb, x.le, x.mo, x.ne, ⟨some ⟨g8, 0, none⟩, x.d.n, c8, x.d.zs⟩⟩ : Lx)) (lzok_ins (unhide HOKT) hPt (unhide HLX)) (OE.mono (by omega))⟩, BE⟩

end Go.Proofs.YtemodlgmjgdjpaaGreatDoor
