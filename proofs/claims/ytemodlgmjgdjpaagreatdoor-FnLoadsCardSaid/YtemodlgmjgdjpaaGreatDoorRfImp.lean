/-
  Why the program refuses a load, and the code of it: the model's codes, at every argument; nothing that was there is written.
-/
import Derived.Test.YtemodlgmjgdjpaaGreatDoorMWrOrd
import Derived.Test.YtemodlgmjgdjpaaGreatDoorMAiLst
import Derived.Test.YtemodlgmjgdjpaaGreatDoorMSeSpec
import Derived.Test.YtemodlgmjgdjpaaGreatDoorAsIs
namespace Go.Proofs.YtemodlgmjgdjpaaGreatDoor
open Go Go.RowKit

/-- A refusal by its code; nil for 0. -/
def rfV (c : Int) : Value := if c = 0 then .nilIface else .iface 103 (.agg #[.int .i64 c])
theorem codeOf_any (c : Int) (w : World) (hg : ErG w) : Calls Tryz.prog 39 #[rfV c] w fun e w' => e = .returned (.int .i64 c) ∧ Below w.heap.size w w' := by
  unfold rfV
  by_cases h : c = 0
  · rw [if_pos h, h]; exact codeOf_nil w
  · rw [if_neg h]; exact codeOf_hit c w hg
set_option maxRecDepth 20000 in
set_option maxHeartbeats 8000000 in
theorem refuses_any (s : Int) (a1 : Option Addr) (l1 c1 : Nat) (zs : List Lc) (x : Lx) (sl : Int) (w : World) (hr : AbIn w a1 l1 zs) (hin : LxIn w x) :
    Calls Tryz.prog 40 #[.agg #[.int .i64 s, .slice a1 l1 c1], .agg #[.string x.p, .int .i64 x.nb, .int .i64 x.le, .int .i64 x.mo, .int .i64 x.ne, .slice x.d.a x.d.n x.d.c], .int .i64 sl] w fun e w' => e = .returned (rfV (tkC s zs (lxW x) sl)) ∧ Below w.heap.size w w' := by
  have HT := hide hr.r1
  have HZL := hide hr.r1.len_eq
  have hsm := hr.r1.small
  have HIN := hide hin
  obtain ⟨ls, e, hl⟩ := hr.r1.ex
  have HE := hide e
  have HO := hide hl.row.six
  have HLL := hide hl.row.len_eq
  clear hr hin e hl
  obtain ⟨W, hW⟩ : ∃ W, W = (w.alloc (Obj.cells #[.int .i64 s, .slice a1 l1 c1] 26)).alloc (Obj.cells #[.string x.p, .int .i64 x.nb, .int .i64 x.le, .int .i64 x.mo, .int .i64 x.ne, .slice x.d.a x.d.n x.d.c] 32) := ⟨_, rfl⟩
  have KA : Hid (Blk W w.heap.size [.int .i64 s, .slice a1 l1 c1]) := hide (by rw [hW]; exact (Blk.new _ _).alloc _)
  have KX : Hid (Blk W (w.heap.size + 1) [.string x.p, .int .i64 x.nb, .int .i64 x.le, .int .i64 x.mo, .int .i64 x.ne, .slice x.d.a x.d.n x.d.c]) := hide (by
    rw [hW]
    have := Blk.new (w := (w.alloc (Obj.cells #[.int .i64 s, .slice a1 l1 c1] 26))) [.string x.p, .int .i64 x.nb, .int .i64 x.le, .int .i64 x.mo, .int .i64 x.ne, .slice x.d.a x.d.n x.d.c] 32
    simpa using this)
  have BW : Hid (Below w.heap.size w W) := hide (by rw [hW]; exact bel2 _ _)
  obtain ⟨ι, f, _, hbf, hall⟩ := belClass W
  have HF := hide hbf
  have HAL := hide hall
  have HBF : Hid (∀ y, Below w.heap.size w (f y)) := hide (fun y => (unhide BW).trans ((hbf y).mono (unhide BW).size))
  have b0 : ∀ y, (f y).cell? ⟨w.heap.size, 0, none⟩ = some (.int .i64 s) := fun y => ((unhide KA).below (hbf y)).c 0 (by simp)
  have b1 : ∀ y, (f y).cell? ⟨w.heap.size, 1, none⟩ = some (.slice a1 l1 c1) := fun y => ((unhide KA).below (hbf y)).c 1 (by simp)
  have v0 : ∀ y, (f y).cell? ⟨w.heap.size + 1, 0, none⟩ = some (.string x.p) := fun y => ((unhide KX).below (hbf y)).c 0 (by simp)
  have v1 : ∀ y, (f y).cell? ⟨w.heap.size + 1, 1, none⟩ = some (.int .i64 x.nb) := fun y => ((unhide KX).below (hbf y)).c 1 (by simp)
  have v2 : ∀ y, (f y).cell? ⟨w.heap.size + 1, 2, none⟩ = some (.int .i64 x.le) := fun y => ((unhide KX).below (hbf y)).c 2 (by simp)
  have v3 : ∀ y, (f y).cell? ⟨w.heap.size + 1, 3, none⟩ = some (.int .i64 x.mo) := fun y => ((unhide KX).below (hbf y)).c 3 (by simp)
  have v4 : ∀ y, (f y).cell? ⟨w.heap.size + 1, 4, none⟩ = some (.int .i64 x.ne) := fun y => ((unhide KX).below (hbf y)).c 4 (by simp)
  have v5 : ∀ y, (f y).cell? ⟨w.heap.size + 1, 5, none⟩ = some (.slice x.d.a x.d.n x.d.c) := fun y => ((unhide KX).below (hbf y)).c 5 (by simp)
  have CA : Hid (∀ y, Calls Tryz.prog 11 #[.agg #[.int .i64 s, .slice a1 l1 c1]] (f y) fun e w' => e = .returned (.bool (abB s zs)) ∧ Below (f y).heap.size (f y) w') := hide (fun y => implAboardOk_any s _ _ _ zs (f y) ⟨(unhide HT).below ((unhide HBF) y)⟩)
  have CL : Hid (∀ y, Calls Tryz.prog 10 #[.agg #[.string x.p, .int .i64 x.nb, .int .i64 x.le, .int .i64 x.mo, .int .i64 x.ne, .slice x.d.a x.d.n x.d.c]] (f y) fun e w' => e = .returned (.bool (ldB (lxW x))) ∧ Below (f y).heap.size (f y) w') := hide (fun y => implLoadOk_any x.p x.nb x.le x.mo x.ne _ _ _ x.d.zs (f y) ⟨(unhide HIN).sl.row.below ((unhide HBF) y)⟩ (unhide HIN).sz)
  have CP : Hid (∀ y, Calls Tryz.prog 75 #[.agg #[.int .i64 s, .slice a1 l1 c1], .string x.p] (f y) fun e w' => e = .returned (.int .i64 (ixF (qPt x.p) zs)) ∧ Below (f y).heap.size (f y) w') := hide (fun y => placePt_any s _ _ _ zs x.p (f y) ((unhide HT).below ((unhide HBF) y)))
  have CN : Hid (∀ y, Calls Tryz.prog 77 #[.agg #[.int .i64 s, .slice a1 l1 c1], .agg #[.string x.p, .int .i64 x.nb, .int .i64 x.le, .int .i64 x.mo, .int .i64 x.ne, .slice x.d.a x.d.n x.d.c]] (f y) fun e w' => e = .returned (.bool (haB zs (lxW x))) ∧ Below (f y).heap.size (f y) w') := hide (fun y => hasNeeds_any s _ _ _ zs x (f y) ((unhide HT).below ((unhide HBF) y)))
  have CF : Hid (∀ y, Calls Tryz.prog 53 #[.agg #[.int .i64 s, .slice a1 l1 c1], .int .i64 x.nb] (f y) fun e w' => e = .returned (.int .i64 (fnF zs x.nb)) ∧ Below (f y).heap.size (f y) w') := hide (fun y => placeNb_any s _ _ _ zs x.nb (f y) ((unhide HT).below ((unhide HBF) y)))
  have CI : Hid (∀ y Y, Calls Tryz.prog 54 #[.agg #[.int .i64 s, .slice a1 l1 c1], .int .i64 Y] (f y) fun e w' => e = .returned (.bool (neB zs Y)) ∧ Below (f y).heap.size (f y) w') := hide (fun y Y => isNeeded_any s _ _ _ zs Y (f y) ((unhide HT).below ((unhide HBF) y)))
  have CELL : Hid (∀ bb off, a1 = some ⟨bb, off, none⟩ → ∀ j, j < l1 → ∀ y, (f y).cell? ⟨bb, off + j * 6 + 1, none⟩ = some (.int .i64 (elAt zs j).nb)) := hide (fun bb off ha j hj y => by
    rcases (unhide HO) with ⟨h0, _⟩ | ⟨b2, o2, e, _, hc⟩
    · omega
    rw [ha] at e
    simp only [Option.some.injEq, Addr.mk.injEq, and_true] at e
    obtain ⟨rfl, rfl⟩ := e
    have q := (hc j hj).2.1
    have := ((unhide HBF y).cell (block_lt_of_cell q)).trans q
    rw [elAt_lx (unhide HE) (by have := unhide HLL; omega)]
    exact this)
  obtain ⟨x0, hx0⟩ := (unhide HAL) W (Below.refl _ _)
  have HX0 : Hid ((w.alloc (Obj.cells #[.int .i64 s, .slice a1 l1 c1] 26)).alloc (Obj.cells #[.string x.p, .int .i64 x.nb, .int .i64 x.le, .int .i64 x.mo, .int .i64 x.ne, .slice x.d.a x.d.n x.d.c] 32) = f x0) := hide (hW.symm.trans hx0)
  have b0w := b0 x0
  have b1w := b1 x0
  rw [← hx0, hW] at b0w b1w
  have HA1 : Hid (0 < l1 → ∃ bb off, a1 = some ⟨bb, off, none⟩) := hide (fun h => by
    rcases (unhide HO) with ⟨h0, _⟩ | ⟨b2, o2, e, _, _⟩
    · omega
    · exact ⟨b2, o2, e⟩)
  clear hbf hall hW hx0 KA KX BW HT HO
  cases q1 : abB s zs with
  | false =>
    rw [q1] at CA
    have HR : Hid (rfV (tkC s zs (lxW x) sl) = .iface 103 (.agg #[.int .i64 1])) := hide (by rw [rf_bad (.inl q1)]; rfl)
    go_enter Tryz.func40, Tryz.ntmps40
    go_wp2_with fail
    rw [unhide HX0]
    clear HX0 b0w b1w
    go_wp2_with (first | (go_at_call 11; refine (belQ (unhide HF) (unhide HAL) (unhide CA _)).mono ?_; rintro e _ ⟨rfl, y, rfl⟩) | (go_at_call 10; refine (belQ (unhide HF) (unhide HAL) (unhide CL _)).mono ?_; rintro e _ ⟨rfl, y, rfl⟩) | (go_at_call 75; refine (belQ (unhide HF) (unhide HAL) (unhide CP _)).mono ?_; rintro e _ ⟨rfl, y, rfl⟩) | (go_at_call 37; refine (belQ (unhide HF) (unhide HAL) (unhide CS _)).mono ?_; rintro e _ ⟨rfl, y, rfl⟩) | (go_at_call 76; refine (belQ (unhide HF) (unhide HAL) (hasF_is _ _ _ _ (by exact q4))).mono ?_; rintro e _ ⟨rfl, y, rfl⟩) | (go_at_call 77; refine (belQ (unhide HF) (unhide HAL) (unhide CN _)).mono ?_; rintro e _ ⟨rfl, y, rfl⟩) | (go_at_call 53; refine (belQ (unhide HF) (unhide HAL) (unhide CF _)).mono ?_; rintro e _ ⟨rfl, y, rfl⟩) | (go_at_call 54; refine (belQ (unhide HF) (unhide HAL) (unhide CI _ Y)).mono ?_; rintro e _ ⟨rfl, y, rfl⟩))
    repeat (refine wp_region_bel (fun w' h => (unhide HAL) w' ((unhide HF _).trans (h.mono (unhide HF _).size))) (by kernel_rfl) (by kernel_rfl) ?_; (repeat (go_big_quiet_step (first | (go_at_call 54; exact belQ (unhide HF) (unhide HAL) (unhide CI _ Y))))); refine wpQuiet_nil ?_; rintro _ ⟨y, rfl⟩; (first | go_wp2_with (first | (go_at_call 11; refine (belQ (unhide HF) (unhide HAL) (unhide CA _)).mono ?_; rintro e _ ⟨rfl, y, rfl⟩) | (go_at_call 10; refine (belQ (unhide HF) (unhide HAL) (unhide CL _)).mono ?_; rintro e _ ⟨rfl, y, rfl⟩) | (go_at_call 75; refine (belQ (unhide HF) (unhide HAL) (unhide CP _)).mono ?_; rintro e _ ⟨rfl, y, rfl⟩) | (go_at_call 37; refine (belQ (unhide HF) (unhide HAL) (unhide CS _)).mono ?_; rintro e _ ⟨rfl, y, rfl⟩) | (go_at_call 76; refine (belQ (unhide HF) (unhide HAL) (hasF_is _ _ _ _ (by exact q4))).mono ?_; rintro e _ ⟨rfl, y, rfl⟩) | (go_at_call 77; refine (belQ (unhide HF) (unhide HAL) (unhide CN _)).mono ?_; rintro e _ ⟨rfl, y, rfl⟩) | (go_at_call 53; refine (belQ (unhide HF) (unhide HAL) (unhide CF _)).mono ?_; rintro e _ ⟨rfl, y, rfl⟩) | (go_at_call 54; refine (belQ (unhide HF) (unhide HAL) (unhide CI _ Y)).mono ?_; rintro e _ ⟨rfl, y, rfl⟩)) | go_wp2))
    go_ret
    exact ⟨congrArg Ending.returned (unhide HR).symm, unhide HBF _⟩
  | true =>
    have HQ1 := hide q1
    rw [q1] at CA
    cases q2 : ldB (lxW x) with
    | false =>
      rw [q2] at CL
      have HR : Hid (rfV (tkC s zs (lxW x) sl) = .iface 103 (.agg #[.int .i64 1])) := hide (by rw [rf_bad (.inr q2)]; rfl)
      go_enter Tryz.func40, Tryz.ntmps40
      go_wp2_with fail
      rw [unhide HX0]
      clear HX0 b0w b1w
      go_wp2_with (first | (go_at_call 11; refine (belQ (unhide HF) (unhide HAL) (unhide CA _)).mono ?_; rintro e _ ⟨rfl, y, rfl⟩) | (go_at_call 10; refine (belQ (unhide HF) (unhide HAL) (unhide CL _)).mono ?_; rintro e _ ⟨rfl, y, rfl⟩) | (go_at_call 75; refine (belQ (unhide HF) (unhide HAL) (unhide CP _)).mono ?_; rintro e _ ⟨rfl, y, rfl⟩) | (go_at_call 37; refine (belQ (unhide HF) (unhide HAL) (unhide CS _)).mono ?_; rintro e _ ⟨rfl, y, rfl⟩) | (go_at_call 76; refine (belQ (unhide HF) (unhide HAL) (hasF_is _ _ _ _ (by exact q4))).mono ?_; rintro e _ ⟨rfl, y, rfl⟩) | (go_at_call 77; refine (belQ (unhide HF) (unhide HAL) (unhide CN _)).mono ?_; rintro e _ ⟨rfl, y, rfl⟩) | (go_at_call 53; refine (belQ (unhide HF) (unhide HAL) (unhide CF _)).mono ?_; rintro e _ ⟨rfl, y, rfl⟩) | (go_at_call 54; refine (belQ (unhide HF) (unhide HAL) (unhide CI _ Y)).mono ?_; rintro e _ ⟨rfl, y, rfl⟩))
      repeat (refine wp_region_bel (fun w' h => (unhide HAL) w' ((unhide HF _).trans (h.mono (unhide HF _).size))) (by kernel_rfl) (by kernel_rfl) ?_; (repeat (go_big_quiet_step (first | (go_at_call 54; exact belQ (unhide HF) (unhide HAL) (unhide CI _ Y))))); refine wpQuiet_nil ?_; rintro _ ⟨y, rfl⟩; (first | go_wp2_with (first | (go_at_call 11; refine (belQ (unhide HF) (unhide HAL) (unhide CA _)).mono ?_; rintro e _ ⟨rfl, y, rfl⟩) | (go_at_call 10; refine (belQ (unhide HF) (unhide HAL) (unhide CL _)).mono ?_; rintro e _ ⟨rfl, y, rfl⟩) | (go_at_call 75; refine (belQ (unhide HF) (unhide HAL) (unhide CP _)).mono ?_; rintro e _ ⟨rfl, y, rfl⟩) | (go_at_call 37; refine (belQ (unhide HF) (unhide HAL) (unhide CS _)).mono ?_; rintro e _ ⟨rfl, y, rfl⟩) | (go_at_call 76; refine (belQ (unhide HF) (unhide HAL) (hasF_is _ _ _ _ (by exact q4))).mono ?_; rintro e _ ⟨rfl, y, rfl⟩) | (go_at_call 77; refine (belQ (unhide HF) (unhide HAL) (unhide CN _)).mono ?_; rintro e _ ⟨rfl, y, rfl⟩) | (go_at_call 53; refine (belQ (unhide HF) (unhide HAL) (unhide CF _)).mono ?_; rintro e _ ⟨rfl, y, rfl⟩) | (go_at_call 54; refine (belQ (unhide HF) (unhide HAL) (unhide CI _ Y)).mono ?_; rintro e _ ⟨rfl, y, rfl⟩)) | go_wp2))
      go_ret
      exact ⟨congrArg Ending.returned (unhide HR).symm, unhide HBF _⟩
    | true =>
      have HQ2 := hide q2
      rw [q2] at CL
      have CS : Hid (∀ y, Calls Tryz.prog 37 #[.agg #[.string x.p, .int .i64 x.nb, .int .i64 x.le, .int .i64 x.mo, .int .i64 x.ne, .slice x.d.a x.d.n x.d.c]] (f y) fun e w' => e = .returned (.int .i64 (seO (lxW x))) ∧ Below (f y).heap.size (f y) w') := hide (fun y => seal_is x.p x.nb x.le x.mo x.ne _ _ _ x.d.zs (f y) ⟨(unhide HIN).sl.row.below ((unhide HBF) y)⟩ (unhide HIN).sl.byt (unhide HQ2))
      clear q1 q2
      by_cases q3 : sl = seO (lxW x)
      · have HQ3 := hide q3
        rw [← q3] at CS
        have z3 : (sl != sl) = false := by simp
        clear q3
        cases q4 : inB s x.le x.mo with
        | false =>
          clear CN CF CI
          have HR : Hid (rfV (tkC s zs (lxW x) sl) = .iface 103 (.agg #[.int .i64 3])) := hide (by rw [rf_fits (unhide HQ1) (unhide HQ2) (unhide HQ3) q4]; rfl)
          go_enter Tryz.func40, Tryz.ntmps40
          go_wp2_with fail
          rw [unhide HX0]
          clear HX0 b0w b1w
          go_wp2_with (first | (go_at_call 11; refine (belQ (unhide HF) (unhide HAL) (unhide CA _)).mono ?_; rintro e _ ⟨rfl, y, rfl⟩) | (go_at_call 10; refine (belQ (unhide HF) (unhide HAL) (unhide CL _)).mono ?_; rintro e _ ⟨rfl, y, rfl⟩) | (go_at_call 75; refine (belQ (unhide HF) (unhide HAL) (unhide CP _)).mono ?_; rintro e _ ⟨rfl, y, rfl⟩) | (go_at_call 37; refine (belQ (unhide HF) (unhide HAL) (unhide CS _)).mono ?_; rintro e _ ⟨rfl, y, rfl⟩) | (go_at_call 76; refine (belQ (unhide HF) (unhide HAL) (hasF_is _ _ _ _ (by exact q4))).mono ?_; rintro e _ ⟨rfl, y, rfl⟩) | (go_at_call 77; refine (belQ (unhide HF) (unhide HAL) (unhide CN _)).mono ?_; rintro e _ ⟨rfl, y, rfl⟩) | (go_at_call 53; refine (belQ (unhide HF) (unhide HAL) (unhide CF _)).mono ?_; rintro e _ ⟨rfl, y, rfl⟩) | (go_at_call 54; refine (belQ (unhide HF) (unhide HAL) (unhide CI _ Y)).mono ?_; rintro e _ ⟨rfl, y, rfl⟩))
          repeat (refine wp_region_bel (fun w' h => (unhide HAL) w' ((unhide HF _).trans (h.mono (unhide HF _).size))) (by kernel_rfl) (by kernel_rfl) ?_; (repeat (go_big_quiet_step (first | (go_at_call 54; exact belQ (unhide HF) (unhide HAL) (unhide CI _ Y))))); refine wpQuiet_nil ?_; rintro _ ⟨y, rfl⟩; (first | go_wp2_with (first | (go_at_call 11; refine (belQ (unhide HF) (unhide HAL) (unhide CA _)).mono ?_; rintro e _ ⟨rfl, y, rfl⟩) | (go_at_call 10; refine (belQ (unhide HF) (unhide HAL) (unhide CL _)).mono ?_; rintro e _ ⟨rfl, y, rfl⟩) | (go_at_call 75; refine (belQ (unhide HF) (unhide HAL) (unhide CP _)).mono ?_; rintro e _ ⟨rfl, y, rfl⟩) | (go_at_call 37; refine (belQ (unhide HF) (unhide HAL) (unhide CS _)).mono ?_; rintro e _ ⟨rfl, y, rfl⟩) | (go_at_call 76; refine (belQ (unhide HF) (unhide HAL) (hasF_is _ _ _ _ (by exact q4))).mono ?_; rintro e _ ⟨rfl, y, rfl⟩) | (go_at_call 77; refine (belQ (unhide HF) (unhide HAL) (unhide CN _)).mono ?_; rintro e _ ⟨rfl, y, rfl⟩) | (go_at_call 53; refine (belQ (unhide HF) (unhide HAL) (unhide CF _)).mono ?_; rintro e _ ⟨rfl, y, rfl⟩) | (go_at_call 54; refine (belQ (unhide HF) (unhide HAL) (unhide CI _ Y)).mono ?_; rintro e _ ⟨rfl, y, rfl⟩)) | go_wp2))
          go_ret
          exact ⟨congrArg Ending.returned (unhide HR).symm, unhide HBF _⟩
        | true =>
          have HQ4 := hide q4
          cases q5 : haB zs (lxW x) with
          | false =>
            rw [q5] at CN
            have HR : Hid (rfV (tkC s zs (lxW x) sl) = .iface 103 (.agg #[.int .i64 4])) := hide (by rw [rf_need (unhide HQ1) (unhide HQ2) (unhide HQ3) (unhide HQ4) q5]; rfl)
            go_enter Tryz.func40, Tryz.ntmps40
            go_wp2_with fail
            rw [unhide HX0]
            clear HX0 b0w b1w
            go_wp2_with (first | (go_at_call 11; refine (belQ (unhide HF) (unhide HAL) (unhide CA _)).mono ?_; rintro e _ ⟨rfl, y, rfl⟩) | (go_at_call 10; refine (belQ (unhide HF) (unhide HAL) (unhide CL _)).mono ?_; rintro e _ ⟨rfl, y, rfl⟩) | (go_at_call 75; refine (belQ (unhide HF) (unhide HAL) (unhide CP _)).mono ?_; rintro e _ ⟨rfl, y, rfl⟩) | (go_at_call 37; refine (belQ (unhide HF) (unhide HAL) (unhide CS _)).mono ?_; rintro e _ ⟨rfl, y, rfl⟩) | (go_at_call 76; refine (belQ (unhide HF) (unhide HAL) (hasF_is _ _ _ _ (by exact q4))).mono ?_; rintro e _ ⟨rfl, y, rfl⟩) | (go_at_call 77; refine (belQ (unhide HF) (unhide HAL) (unhide CN _)).mono ?_; rintro e _ ⟨rfl, y, rfl⟩) | (go_at_call 53; refine (belQ (unhide HF) (unhide HAL) (unhide CF _)).mono ?_; rintro e _ ⟨rfl, y, rfl⟩) | (go_at_call 54; refine (belQ (unhide HF) (unhide HAL) (unhide CI _ Y)).mono ?_; rintro e _ ⟨rfl, y, rfl⟩))
            repeat (refine wp_region_bel (fun w' h => (unhide HAL) w' ((unhide HF _).trans (h.mono (unhide HF _).size))) (by kernel_rfl) (by kernel_rfl) ?_; (repeat (go_big_quiet_step (first | (go_at_call 54; exact belQ (unhide HF) (unhide HAL) (unhide CI _ Y))))); refine wpQuiet_nil ?_; rintro _ ⟨y, rfl⟩; (first | go_wp2_with (first | (go_at_call 11; refine (belQ (unhide HF) (unhide HAL) (unhide CA _)).mono ?_; rintro e _ ⟨rfl, y, rfl⟩) | (go_at_call 10; refine (belQ (unhide HF) (unhide HAL) (unhide CL _)).mono ?_; rintro e _ ⟨rfl, y, rfl⟩) | (go_at_call 75; refine (belQ (unhide HF) (unhide HAL) (unhide CP _)).mono ?_; rintro e _ ⟨rfl, y, rfl⟩) | (go_at_call 37; refine (belQ (unhide HF) (unhide HAL) (unhide CS _)).mono ?_; rintro e _ ⟨rfl, y, rfl⟩) | (go_at_call 76; refine (belQ (unhide HF) (unhide HAL) (hasF_is _ _ _ _ (by exact q4))).mono ?_; rintro e _ ⟨rfl, y, rfl⟩) | (go_at_call 77; refine (belQ (unhide HF) (unhide HAL) (unhide CN _)).mono ?_; rintro e _ ⟨rfl, y, rfl⟩) | (go_at_call 53; refine (belQ (unhide HF) (unhide HAL) (unhide CF _)).mono ?_; rintro e _ ⟨rfl, y, rfl⟩) | (go_at_call 54; refine (belQ (unhide HF) (unhide HAL) (unhide CI _ Y)).mono ?_; rintro e _ ⟨rfl, y, rfl⟩)) | go_wp2))
            go_ret
            exact ⟨congrArg Ending.returned (unhide HR).symm, unhide HBF _⟩
          | true =>
            have HQ5 := hide q5
            rw [q5] at CN
            clear q5
            have HT0 : Hid (tkC s zs (lxW x) sl = tkR zs (lxW x) (ixF (qPt x.p) zs)) := hide (rf_rest (unhide HQ1) (unhide HQ2) (unhide HQ3) (unhide HQ4) (unhide HQ5))
            rcases ixF_cases (qPt x.p) zs with ⟨hP, _⟩ | ⟨k, hk, hP, _, _⟩
            · rw [hP] at HT0 CP
              clear hP
              rcases fnF_cases zs x.nb with ⟨hN, _⟩ | ⟨j, hj, hN, _, _⟩
              · have HN := hide hN
                rw [hN] at CF
                clear hN
                by_cases q7 : l1 = 30
                · have HZ : Hid (zs.length = 30) := hide (by rw [unhide HZL, q7])
                  have d7 : ((l1 : Int) == 30) = true := by rw [q7]; rfl
                  have d8 : decide ((l1 : Int) = 30) = true := by rw [q7]; rfl
                  have d9 : decide (l1 = 30) = true := by rw [q7]; rfl
                  clear q7
                  have HR : Hid (rfV (tkC s zs (lxW x) sl) = .iface 103 (.agg #[.int .i64 6])) := hide (by rw [unhide HT0, rf_n6 (unhide HN) (unhide HZ)]; rfl)
                  go_enter Tryz.func40, Tryz.ntmps40
                  go_wp2_with fail
                  rw [unhide HX0]
                  clear HX0 b0w b1w
                  go_wp2_with (first | (go_at_call 11; refine (belQ (unhide HF) (unhide HAL) (unhide CA _)).mono ?_; rintro e _ ⟨rfl, y, rfl⟩) | (go_at_call 10; refine (belQ (unhide HF) (unhide HAL) (unhide CL _)).mono ?_; rintro e _ ⟨rfl, y, rfl⟩) | (go_at_call 75; refine (belQ (unhide HF) (unhide HAL) (unhide CP _)).mono ?_; rintro e _ ⟨rfl, y, rfl⟩) | (go_at_call 37; refine (belQ (unhide HF) (unhide HAL) (unhide CS _)).mono ?_; rintro e _ ⟨rfl, y, rfl⟩) | (go_at_call 76; refine (belQ (unhide HF) (unhide HAL) (hasF_is _ _ _ _ (by exact q4))).mono ?_; rintro e _ ⟨rfl, y, rfl⟩) | (go_at_call 77; refine (belQ (unhide HF) (unhide HAL) (unhide CN _)).mono ?_; rintro e _ ⟨rfl, y, rfl⟩) | (go_at_call 53; refine (belQ (unhide HF) (unhide HAL) (unhide CF _)).mono ?_; rintro e _ ⟨rfl, y, rfl⟩) | (go_at_call 54; refine (belQ (unhide HF) (unhide HAL) (unhide CI _ Y)).mono ?_; rintro e _ ⟨rfl, y, rfl⟩))
                  repeat (refine wp_region_bel (fun w' h => (unhide HAL) w' ((unhide HF _).trans (h.mono (unhide HF _).size))) (by kernel_rfl) (by kernel_rfl) ?_; (repeat (go_big_quiet_step (first | (go_at_call 54; exact belQ (unhide HF) (unhide HAL) (unhide CI _ Y))))); refine wpQuiet_nil ?_; rintro _ ⟨y, rfl⟩; (first | go_wp2_with (first | (go_at_call 11; refine (belQ (unhide HF) (unhide HAL) (unhide CA _)).mono ?_; rintro e _ ⟨rfl, y, rfl⟩) | (go_at_call 10; refine (belQ (unhide HF) (unhide HAL) (unhide CL _)).mono ?_; rintro e _ ⟨rfl, y, rfl⟩) | (go_at_call 75; refine (belQ (unhide HF) (unhide HAL) (unhide CP _)).mono ?_; rintro e _ ⟨rfl, y, rfl⟩) | (go_at_call 37; refine (belQ (unhide HF) (unhide HAL) (unhide CS _)).mono ?_; rintro e _ ⟨rfl, y, rfl⟩) | (go_at_call 76; refine (belQ (unhide HF) (unhide HAL) (hasF_is _ _ _ _ (by exact q4))).mono ?_; rintro e _ ⟨rfl, y, rfl⟩) | (go_at_call 77; refine (belQ (unhide HF) (unhide HAL) (unhide CN _)).mono ?_; rintro e _ ⟨rfl, y, rfl⟩) | (go_at_call 53; refine (belQ (unhide HF) (unhide HAL) (unhide CF _)).mono ?_; rintro e _ ⟨rfl, y, rfl⟩) | (go_at_call 54; refine (belQ (unhide HF) (unhide HAL) (unhide CI _ Y)).mono ?_; rintro e _ ⟨rfl, y, rfl⟩)) | go_wp2))
                  go_ret
                  exact ⟨congrArg Ending.returned (unhide HR).symm, unhide HBF _⟩
                · have HZ : Hid (¬ zs.length = 30) := hide (by rw [unhide HZL]; exact q7)
                  have d7 : ((l1 : Int) == 30) = false := by simp only [beq_eq_false_iff_ne]; omega
                  have d8 : decide ((l1 : Int) = 30) = false := by simp only [decide_eq_false_iff_not]; omega
                  have d9 : decide (l1 = 30) = false := by simp only [decide_eq_false_iff_not]; omega
                  clear q7
                  have HR : Hid (rfV (tkC s zs (lxW x) sl) = .nilIface) := hide (by rw [unhide HT0, rf_n0 (unhide HN) (unhide HZ)]; rfl)
                  go_enter Tryz.func40, Tryz.ntmps40
                  go_wp2_with fail
                  rw [unhide HX0]
                  clear HX0 b0w b1w
                  go_wp2_with (first | (go_at_call 11; refine (belQ (unhide HF) (unhide HAL) (unhide CA _)).mono ?_; rintro e _ ⟨rfl, y, rfl⟩) | (go_at_call 10; refine (belQ (unhide HF) (unhide HAL) (unhide CL _)).mono ?_; rintro e _ ⟨rfl, y, rfl⟩) | (go_at_call 75; refine (belQ (unhide HF) (unhide HAL) (unhide CP _)).mono ?_; rintro e _ ⟨rfl, y, rfl⟩) | (go_at_call 37; refine (belQ (unhide HF) (unhide HAL) (unhide CS _)).mono ?_; rintro e _ ⟨rfl, y, rfl⟩) | (go_at_call 76; refine (belQ (unhide HF) (unhide HAL) (hasF_is _ _ _ _ (by exact q4))).mono ?_; rintro e _ ⟨rfl, y, rfl⟩) | (go_at_call 77; refine (belQ (unhide HF) (unhide HAL) (unhide CN _)).mono ?_; rintro e _ ⟨rfl, y, rfl⟩) | (go_at_call 53; refine (belQ (unhide HF) (unhide HAL) (unhide CF _)).mono ?_; rintro e _ ⟨rfl, y, rfl⟩) | (go_at_call 54; refine (belQ (unhide HF) (unhide HAL) (unhide CI _ Y)).mono ?_; rintro e _ ⟨rfl, y, rfl⟩))
                  repeat (refine wp_region_bel (fun w' h => (unhide HAL) w' ((unhide HF _).trans (h.mono (unhide HF _).size))) (by kernel_rfl) (by kernel_rfl) ?_; (repeat (go_big_quiet_step (first | (go_at_call 54; exact belQ (unhide HF) (unhide HAL) (unhide CI _ Y))))); refine wpQuiet_nil ?_; rintro _ ⟨y, rfl⟩; (first | go_wp2_with (first | (go_at_call 11; refine (belQ (unhide HF) (unhide HAL) (unhide CA _)).mono ?_; rintro e _ ⟨rfl, y, rfl⟩) | (go_at_call 10; refine (belQ (unhide HF) (unhide HAL) (unhide CL _)).mono ?_; rintro e _ ⟨rfl, y, rfl⟩) | (go_at_call 75; refine (belQ (unhide HF) (unhide HAL) (unhide CP _)).mono ?_; rintro e _ ⟨rfl, y, rfl⟩) | (go_at_call 37; refine (belQ (unhide HF) (unhide HAL) (unhide CS _)).mono ?_; rintro e _ ⟨rfl, y, rfl⟩) | (go_at_call 76; refine (belQ (unhide HF) (unhide HAL) (hasF_is _ _ _ _ (by exact q4))).mono ?_; rintro e _ ⟨rfl, y, rfl⟩) | (go_at_call 77; refine (belQ (unhide HF) (unhide HAL) (unhide CN _)).mono ?_; rintro e _ ⟨rfl, y, rfl⟩) | (go_at_call 53; refine (belQ (unhide HF) (unhide HAL) (unhide CF _)).mono ?_; rintro e _ ⟨rfl, y, rfl⟩) | (go_at_call 54; refine (belQ (unhide HF) (unhide HAL) (unhide CI _ Y)).mono ?_; rintro e _ ⟨rfl, y, rfl⟩)) | go_wp2))
                  go_ret
                  exact ⟨congrArg Ending.returned (unhide HR).symm, unhide HBF _⟩
              · have HN : Hid (0 ≤ fnF zs x.nb) := hide (by omega)
                rw [hN] at CF
                have n1 : ((j : Int) != -1) = true := by simp only [bne_iff_ne, ne_eq]; omega
                have n2 : decide ((j : Int) = -1) = false := by simp only [decide_eq_false_iff_not]; omega
                clear hN
                have HR : Hid (rfV (tkC s zs (lxW x) sl) = .iface 103 (.agg #[.int .i64 5])) := hide (by rw [unhide HT0, rf_n5 (l := lxW x) (unhide HN)]; rfl)
                go_enter Tryz.func40, Tryz.ntmps40
                go_wp2_with fail
                rw [unhide HX0]
                clear HX0 b0w b1w
                go_wp2_with (first | (go_at_call 11; refine (belQ (unhide HF) (unhide HAL) (unhide CA _)).mono ?_; rintro e _ ⟨rfl, y, rfl⟩) | (go_at_call 10; refine (belQ (unhide HF) (unhide HAL) (unhide CL _)).mono ?_; rintro e _ ⟨rfl, y, rfl⟩) | (go_at_call 75; refine (belQ (unhide HF) (unhide HAL) (unhide CP _)).mono ?_; rintro e _ ⟨rfl, y, rfl⟩) | (go_at_call 37; refine (belQ (unhide HF) (unhide HAL) (unhide CS _)).mono ?_; rintro e _ ⟨rfl, y, rfl⟩) | (go_at_call 76; refine (belQ (unhide HF) (unhide HAL) (hasF_is _ _ _ _ (by exact q4))).mono ?_; rintro e _ ⟨rfl, y, rfl⟩) | (go_at_call 77; refine (belQ (unhide HF) (unhide HAL) (unhide CN _)).mono ?_; rintro e _ ⟨rfl, y, rfl⟩) | (go_at_call 53; refine (belQ (unhide HF) (unhide HAL) (unhide CF _)).mono ?_; rintro e _ ⟨rfl, y, rfl⟩) | (go_at_call 54; refine (belQ (unhide HF) (unhide HAL) (unhide CI _ Y)).mono ?_; rintro e _ ⟨rfl, y, rfl⟩))
                repeat (refine wp_region_bel (fun w' h => (unhide HAL) w' ((unhide HF _).trans (h.mono (unhide HF _).size))) (by kernel_rfl) (by kernel_rfl) ?_; (repeat (go_big_quiet_step (first | (go_at_call 54; exact belQ (unhide HF) (unhide HAL) (unhide CI _ Y))))); refine wpQuiet_nil ?_; rintro _ ⟨y, rfl⟩; (first | go_wp2_with (first | (go_at_call 11; refine (belQ (unhide HF) (unhide HAL) (unhide CA _)).mono ?_; rintro e _ ⟨rfl, y, rfl⟩) | (go_at_call 10; refine (belQ (unhide HF) (unhide HAL) (unhide CL _)).mono ?_; rintro e _ ⟨rfl, y, rfl⟩) | (go_at_call 75; refine (belQ (unhide HF) (unhide HAL) (unhide CP _)).mono ?_; rintro e _ ⟨rfl, y, rfl⟩) | (go_at_call 37; refine (belQ (unhide HF) (unhide HAL) (unhide CS _)).mono ?_; rintro e _ ⟨rfl, y, rfl⟩) | (go_at_call 76; refine (belQ (unhide HF) (unhide HAL) (hasF_is _ _ _ _ (by exact q4))).mono ?_; rintro e _ ⟨rfl, y, rfl⟩) | (go_at_call 77; refine (belQ (unhide HF) (unhide HAL) (unhide CN _)).mono ?_; rintro e _ ⟨rfl, y, rfl⟩) | (go_at_call 53; refine (belQ (unhide HF) (unhide HAL) (unhide CF _)).mono ?_; rintro e _ ⟨rfl, y, rfl⟩) | (go_at_call 54; refine (belQ (unhide HF) (unhide HAL) (unhide CI _ Y)).mono ?_; rintro e _ ⟨rfl, y, rfl⟩)) | go_wp2))
                go_ret
                exact ⟨congrArg Ending.returned (unhide HR).symm, unhide HBF _⟩
            · rw [hP] at HT0 CP
              clear hP
              have hkl : k < l1 := by have := unhide HZL; omega
              obtain ⟨bb, off, ha1⟩ := (unhide HA1) (by omega)
              subst ha1
              obtain ⟨Y, hY⟩ : ∃ z, (elAt zs k).nb = z := ⟨_, rfl⟩
              have m1 := (unhide CELL) bb off rfl k hkl
              rw [hY] at m1
              have HY := hide hY
              have hi1 : (k : Int) < (l1 : Int) := by omega
              have hi0 : (0 : Int) ≤ (k : Int) := by omega
              have n1 : ((k : Int) != -1) = true := by simp only [bne_iff_ne, ne_eq]; omega
              have n2 : decide ((k : Int) = -1) = false := by simp only [decide_eq_false_iff_not]; omega
              clear hY CELL HA1 hk
              cases q6 : neB zs Y with
              | true =>
                have HQ6 := hide q6
                have CI : Hid (∀ y (_ : Int), Calls Tryz.prog 54 #[.agg #[.int .i64 s, .slice (some ⟨bb, off, none⟩) l1 c1], .int .i64 Y] (f y) fun e w' => e = .returned (.bool true) ∧ Below (f y).heap.size (f y) w') := hide (fun y _ => by have := unhide CI y Y; rw [q6] at this; exact this)
                clear q6
                have HR : Hid (rfV (tkC s zs (lxW x) sl) = .iface 103 (.agg #[.int .i64 4])) := hide (by rw [unhide HT0, rf_k4 (unhide HY) (unhide HQ6)]; rfl)
                go_enter Tryz.func40, Tryz.ntmps40
                go_wp2_with fail
                rw [unhide HX0]
                clear HX0 b0w b1w
                go_wp2_with (first | (go_at_call 11; refine (belQ (unhide HF) (unhide HAL) (unhide CA _)).mono ?_; rintro e _ ⟨rfl, y, rfl⟩) | (go_at_call 10; refine (belQ (unhide HF) (unhide HAL) (unhide CL _)).mono ?_; rintro e _ ⟨rfl, y, rfl⟩) | (go_at_call 75; refine (belQ (unhide HF) (unhide HAL) (unhide CP _)).mono ?_; rintro e _ ⟨rfl, y, rfl⟩) | (go_at_call 37; refine (belQ (unhide HF) (unhide HAL) (unhide CS _)).mono ?_; rintro e _ ⟨rfl, y, rfl⟩) | (go_at_call 76; refine (belQ (unhide HF) (unhide HAL) (hasF_is _ _ _ _ (by exact q4))).mono ?_; rintro e _ ⟨rfl, y, rfl⟩) | (go_at_call 77; refine (belQ (unhide HF) (unhide HAL) (unhide CN _)).mono ?_; rintro e _ ⟨rfl, y, rfl⟩) | (go_at_call 53; refine (belQ (unhide HF) (unhide HAL) (unhide CF _)).mono ?_; rintro e _ ⟨rfl, y, rfl⟩) | (go_at_call 54; refine (belQ (unhide HF) (unhide HAL) (unhide CI _ Y)).mono ?_; rintro e _ ⟨rfl, y, rfl⟩))
                repeat (refine wp_region_bel (fun w' h => (unhide HAL) w' ((unhide HF _).trans (h.mono (unhide HF _).size))) (by kernel_rfl) (by kernel_rfl) ?_; (repeat (go_big_quiet_step (first | (go_at_call 54; exact belQ (unhide HF) (unhide HAL) (unhide CI _ Y))))); refine wpQuiet_nil ?_; rintro _ ⟨y, rfl⟩; (first | go_wp2_with (first | (go_at_call 11; refine (belQ (unhide HF) (unhide HAL) (unhide CA _)).mono ?_; rintro e _ ⟨rfl, y, rfl⟩) | (go_at_call 10; refine (belQ (unhide HF) (unhide HAL) (unhide CL _)).mono ?_; rintro e _ ⟨rfl, y, rfl⟩) | (go_at_call 75; refine (belQ (unhide HF) (unhide HAL) (unhide CP _)).mono ?_; rintro e _ ⟨rfl, y, rfl⟩) | (go_at_call 37; refine (belQ (unhide HF) (unhide HAL) (unhide CS _)).mono ?_; rintro e _ ⟨rfl, y, rfl⟩) | (go_at_call 76; refine (belQ (unhide HF) (unhide HAL) (hasF_is _ _ _ _ (by exact q4))).mono ?_; rintro e _ ⟨rfl, y, rfl⟩) | (go_at_call 77; refine (belQ (unhide HF) (unhide HAL) (unhide CN _)).mono ?_; rintro e _ ⟨rfl, y, rfl⟩) | (go_at_call 53; refine (belQ (unhide HF) (unhide HAL) (unhide CF _)).mono ?_; rintro e _ ⟨rfl, y, rfl⟩) | (go_at_call 54; refine (belQ (unhide HF) (unhide HAL) (unhide CI _ Y)).mono ?_; rintro e _ ⟨rfl, y, rfl⟩)) | go_wp2))
                go_ret
                exact ⟨congrArg Ending.returned (unhide HR).symm, unhide HBF _⟩
              | false =>
                have HQ6 := hide q6
                have CI : Hid (∀ y (_ : Int), Calls Tryz.prog 54 #[.agg #[.int .i64 s, .slice (some ⟨bb, off, none⟩) l1 c1], .int .i64 Y] (f y) fun e w' => e = .returned (.bool false) ∧ Below (f y).heap.size (f y) w') := hide (fun y _ => by have := unhide CI y Y; rw [q6] at this; exact this)
                clear q6
                by_cases q7 : x.nb ≤ Y
                · have HQ7 := hide q7
                  have d7 : decide (x.nb ≤ Y) = true := by simpa using q7
                  have HR : Hid (rfV (tkC s zs (lxW x) sl) = .iface 103 (.agg #[.int .i64 5])) := hide (by rw [unhide HT0, rf_k5 (unhide HY) (unhide HQ6) (.inl (unhide HQ7))]; rfl)
                  go_enter Tryz.func40, Tryz.ntmps40
                  go_wp2_with fail
                  rw [unhide HX0]
                  clear HX0 b0w b1w
                  go_wp2_with (first | (go_at_call 11; refine (belQ (unhide HF) (unhide HAL) (unhide CA _)).mono ?_; rintro e _ ⟨rfl, y, rfl⟩) | (go_at_call 10; refine (belQ (unhide HF) (unhide HAL) (unhide CL _)).mono ?_; rintro e _ ⟨rfl, y, rfl⟩) | (go_at_call 75; refine (belQ (unhide HF) (unhide HAL) (unhide CP _)).mono ?_; rintro e _ ⟨rfl, y, rfl⟩) | (go_at_call 37; refine (belQ (unhide HF) (unhide HAL) (unhide CS _)).mono ?_; rintro e _ ⟨rfl, y, rfl⟩) | (go_at_call 76; refine (belQ (unhide HF) (unhide HAL) (hasF_is _ _ _ _ (by exact q4))).mono ?_; rintro e _ ⟨rfl, y, rfl⟩) | (go_at_call 77; refine (belQ (unhide HF) (unhide HAL) (unhide CN _)).mono ?_; rintro e _ ⟨rfl, y, rfl⟩) | (go_at_call 53; refine (belQ (unhide HF) (unhide HAL) (unhide CF _)).mono ?_; rintro e _ ⟨rfl, y, rfl⟩) | (go_at_call 54; refine (belQ (unhide HF) (unhide HAL) (unhide CI _ Y)).mono ?_; rintro e _ ⟨rfl, y, rfl⟩))
                  repeat (refine wp_region_bel (fun w' h => (unhide HAL) w' ((unhide HF _).trans (h.mono (unhide HF _).size))) (by kernel_rfl) (by kernel_rfl) ?_; (repeat (go_big_quiet_step (first | (go_at_call 54; exact belQ (unhide HF) (unhide HAL) (unhide CI _ Y))))); refine wpQuiet_nil ?_; rintro _ ⟨y, rfl⟩; (first | go_wp2_with (first | (go_at_call 11; refine (belQ (unhide HF) (unhide HAL) (unhide CA _)).mono ?_; rintro e _ ⟨rfl, y, rfl⟩) | (go_at_call 10; refine (belQ (unhide HF) (unhide HAL) (unhide CL _)).mono ?_; rintro e _ ⟨rfl, y, rfl⟩) | (go_at_call 75; refine (belQ (unhide HF) (unhide HAL) (unhide CP _)).mono ?_; rintro e _ ⟨rfl, y, rfl⟩) | (go_at_call 37; refine (belQ (unhide HF) (unhide HAL) (unhide CS _)).mono ?_; rintro e _ ⟨rfl, y, rfl⟩) | (go_at_call 76; refine (belQ (unhide HF) (unhide HAL) (hasF_is _ _ _ _ (by exact q4))).mono ?_; rintro e _ ⟨rfl, y, rfl⟩) | (go_at_call 77; refine (belQ (unhide HF) (unhide HAL) (unhide CN _)).mono ?_; rintro e _ ⟨rfl, y, rfl⟩) | (go_at_call 53; refine (belQ (unhide HF) (unhide HAL) (unhide CF _)).mono ?_; rintro e _ ⟨rfl, y, rfl⟩) | (go_at_call 54; refine (belQ (unhide HF) (unhide HAL) (unhide CI _ Y)).mono ?_; rintro e _ ⟨rfl, y, rfl⟩)) | go_wp2))
                  go_ret
                  exact ⟨congrArg Ending.returned (unhide HR).symm, unhide HBF _⟩
                · have HQ7 := hide q7
                  have d7 : decide (x.nb ≤ Y) = false := by simpa using q7
                  rcases fnF_cases zs x.nb with ⟨hN, _⟩ | ⟨j, hj, hN, _, _⟩
                  · have HN := hide hN
                    rw [hN] at CF
                    clear hN
                    have HR : Hid (rfV (tkC s zs (lxW x) sl) = .nilIface) := hide (by rw [unhide HT0, rf_k0 (unhide HY) (unhide HQ6) (unhide HQ7) (unhide HN)]; rfl)
                    go_enter Tryz.func40, Tryz.ntmps40
                    go_wp2_with fail
                    rw [unhide HX0]
                    clear HX0 b0w b1w
                    go_wp2_with (first | (go_at_call 11; refine (belQ (unhide HF) (unhide HAL) (unhide CA _)).mono ?_; rintro e _ ⟨rfl, y, rfl⟩) | (go_at_call 10; refine (belQ (unhide HF) (unhide HAL) (unhide CL _)).mono ?_; rintro e _ ⟨rfl, y, rfl⟩) | (go_at_call 75; refine (belQ (unhide HF) (unhide HAL) (unhide CP _)).mono ?_; rintro e _ ⟨rfl, y, rfl⟩) | (go_at_call 37; refine (belQ (unhide HF) (unhide HAL) (unhide CS _)).mono ?_; rintro e _ ⟨rfl, y, rfl⟩) | (go_at_call 76; refine (belQ (unhide HF) (unhide HAL) (hasF_is _ _ _ _ (by exact q4))).mono ?_; rintro e _ ⟨rfl, y, rfl⟩) | (go_at_call 77; refine (belQ (unhide HF) (unhide HAL) (unhide CN _)).mono ?_; rintro e _ ⟨rfl, y, rfl⟩) | (go_at_call 53; refine (belQ (unhide HF) (unhide HAL) (unhide CF _)).mono ?_; rintro e _ ⟨rfl, y, rfl⟩) | (go_at_call 54; refine (belQ (unhide HF) (unhide HAL) (unhide CI _ Y)).mono ?_; rintro e _ ⟨rfl, y, rfl⟩))
                    repeat (refine wp_region_bel (fun w' h => (unhide HAL) w' ((unhide HF _).trans (h.mono (unhide HF _).size))) (by kernel_rfl) (by kernel_rfl) ?_; (repeat (go_big_quiet_step (first | (go_at_call 54; exact belQ (unhide HF) (unhide HAL) (unhide CI _ Y))))); refine wpQuiet_nil ?_; rintro _ ⟨y, rfl⟩; (first | go_wp2_with (first | (go_at_call 11; refine (belQ (unhide HF) (unhide HAL) (unhide CA _)).mono ?_; rintro e _ ⟨rfl, y, rfl⟩) | (go_at_call 10; refine (belQ (unhide HF) (unhide HAL) (unhide CL _)).mono ?_; rintro e _ ⟨rfl, y, rfl⟩) | (go_at_call 75; refine (belQ (unhide HF) (unhide HAL) (unhide CP _)).mono ?_; rintro e _ ⟨rfl, y, rfl⟩) | (go_at_call 37; refine (belQ (unhide HF) (unhide HAL) (unhide CS _)).mono ?_; rintro e _ ⟨rfl, y, rfl⟩) | (go_at_call 76; refine (belQ (unhide HF) (unhide HAL) (hasF_is _ _ _ _ (by exact q4))).mono ?_; rintro e _ ⟨rfl, y, rfl⟩) | (go_at_call 77; refine (belQ (unhide HF) (unhide HAL) (unhide CN _)).mono ?_; rintro e _ ⟨rfl, y, rfl⟩) | (go_at_call 53; refine (belQ (unhide HF) (unhide HAL) (unhide CF _)).mono ?_; rintro e _ ⟨rfl, y, rfl⟩) | (go_at_call 54; refine (belQ (unhide HF) (unhide HAL) (unhide CI _ Y)).mono ?_; rintro e _ ⟨rfl, y, rfl⟩)) | go_wp2))
                    go_ret
                    exact ⟨congrArg Ending.returned (unhide HR).symm, unhide HBF _⟩
                  · have HN : Hid (0 ≤ fnF zs x.nb) := hide (by omega)
                    rw [hN] at CF
                    have n3 : ((j : Int) != -1) = true := by simp only [bne_iff_ne, ne_eq]; omega
                    have n4 : decide ((j : Int) = -1) = false := by simp only [decide_eq_false_iff_not]; omega
                    clear hN
                    have HR : Hid (rfV (tkC s zs (lxW x) sl) = .iface 103 (.agg #[.int .i64 5])) := hide (by rw [unhide HT0, rf_k5 (unhide HY) (unhide HQ6) (.inr (unhide HN))]; rfl)
                    go_enter Tryz.func40, Tryz.ntmps40
                    go_wp2_with fail
                    rw [unhide HX0]
                    clear HX0 b0w b1w
                    go_wp2_with (first | (go_at_call 11; refine (belQ (unhide HF) (unhide HAL) (unhide CA _)).mono ?_; rintro e _ ⟨rfl, y, rfl⟩) | (go_at_call 10; refine (belQ (unhide HF) (unhide HAL) (unhide CL _)).mono ?_; rintro e _ ⟨rfl, y, rfl⟩) | (go_at_call 75; refine (belQ (unhide HF) (unhide HAL) (unhide CP _)).mono ?_; rintro e _ ⟨rfl, y, rfl⟩) | (go_at_call 37; refine (belQ (unhide HF) (unhide HAL) (unhide CS _)).mono ?_; rintro e _ ⟨rfl, y, rfl⟩) | (go_at_call 76; refine (belQ (unhide HF) (unhide HAL) (hasF_is _ _ _ _ (by exact q4))).mono ?_; rintro e _ ⟨rfl, y, rfl⟩) | (go_at_call 77; refine (belQ (unhide HF) (unhide HAL) (unhide CN _)).mono ?_; rintro e _ ⟨rfl, y, rfl⟩) | (go_at_call 53; refine (belQ (unhide HF) (unhide HAL) (unhide CF _)).mono ?_; rintro e _ ⟨rfl, y, rfl⟩) | (go_at_call 54; refine (belQ (unhide HF) (unhide HAL) (unhide CI _ Y)).mono ?_; rintro e _ ⟨rfl, y, rfl⟩))
                    repeat (refine wp_region_bel (fun w' h => (unhide HAL) w' ((unhide HF _).trans (h.mono (unhide HF _).size))) (by kernel_rfl) (by kernel_rfl) ?_; (repeat (go_big_quiet_step (first | (go_at_call 54; exact belQ (unhide HF) (unhide HAL) (unhide CI _ Y))))); refine wpQuiet_nil ?_; rintro _ ⟨y, rfl⟩; (first | go_wp2_with (first | (go_at_call 11; refine (belQ (unhide HF) (unhide HAL) (unhide CA _)).mono ?_; rintro e _ ⟨rfl, y, rfl⟩) | (go_at_call 10; refine (belQ (unhide HF) (unhide HAL) (unhide CL _)).mono ?_; rintro e _ ⟨rfl, y, rfl⟩) | (go_at_call 75; refine (belQ (unhide HF) (unhide HAL) (unhide CP _)).mono ?_; rintro e _ ⟨rfl, y, rfl⟩) | (go_at_call 37; refine (belQ (unhide HF) (unhide HAL) (unhide CS _)).mono ?_; rintro e _ ⟨rfl, y, rfl⟩) | (go_at_call 76; refine (belQ (unhide HF) (unhide HAL) (hasF_is _ _ _ _ (by exact q4))).mono ?_; rintro e _ ⟨rfl, y, rfl⟩) | (go_at_call 77; refine (belQ (unhide HF) (unhide HAL) (unhide CN _)).mono ?_; rintro e _ ⟨rfl, y, rfl⟩) | (go_at_call 53; refine (belQ (unhide HF) (unhide HAL) (unhide CF _)).mono ?_; rintro e _ ⟨rfl, y, rfl⟩) | (go_at_call 54; refine (belQ (unhide HF) (unhide HAL) (unhide CI _ Y)).mono ?_; rintro e _ ⟨rfl, y, rfl⟩)) | go_wp2))
                    go_ret
                    exact ⟨congrArg Ending.returned (unhide HR).symm, unhide HBF _⟩
      · have HQ3 := hide q3
        have z3 : (sl != seO (lxW x)) = true := by simpa using q3
        have z4 : decide (sl = seO (lxW x)) = false := by simpa using q3
        clear q3 CN CF CI
        have HR : Hid (rfV (tkC s zs (lxW x) sl) = .iface 103 (.agg #[.int .i64 2])) := hide (by rw [rf_seal (unhide HQ1) (unhide HQ2) (unhide HQ3)]; rfl)
        go_enter Tryz.func40, Tryz.ntmps40
        go_wp2_with fail
        rw [unhide HX0]
        clear HX0 b0w b1w
        go_wp2_with (first | (go_at_call 11; refine (belQ (unhide HF) (unhide HAL) (unhide CA _)).mono ?_; rintro e _ ⟨rfl, y, rfl⟩) | (go_at_call 10; refine (belQ (unhide HF) (unhide HAL) (unhide CL _)).mono ?_; rintro e _ ⟨rfl, y, rfl⟩) | (go_at_call 75; refine (belQ (unhide HF) (unhide HAL) (unhide CP _)).mono ?_; rintro e _ ⟨rfl, y, rfl⟩) | (go_at_call 37; refine (belQ (unhide HF) (unhide HAL) (unhide CS _)).mono ?_; rintro e _ ⟨rfl, y, rfl⟩) | (go_at_call 76; refine (belQ (unhide HF) (unhide HAL) (hasF_is _ _ _ _ (by exact q4))).mono ?_; rintro e _ ⟨rfl, y, rfl⟩) | (go_at_call 77; refine (belQ (unhide HF) (unhide HAL) (unhide CN _)).mono ?_; rintro e _ ⟨rfl, y, rfl⟩) | (go_at_call 53; refine (belQ (unhide HF) (unhide HAL) (unhide CF _)).mono ?_; rintro e _ ⟨rfl, y, rfl⟩) | (go_at_call 54; refine (belQ (unhide HF) (unhide HAL) (unhide CI _ Y)).mono ?_; rintro e _ ⟨rfl, y, rfl⟩))
        repeat (refine wp_region_bel (fun w' h => (unhide HAL) w' ((unhide HF _).trans (h.mono (unhide HF _).size))) (by kernel_rfl) (by kernel_rfl) ?_; (repeat (go_big_quiet_step (first | (go_at_call 54; exact belQ (unhide HF) (unhide HAL) (unhide CI _ Y))))); refine wpQuiet_nil ?_; rintro _ ⟨y, rfl⟩; (first | go_wp2_with (first | (go_at_call 11; refine (belQ (unhide HF) (unhide HAL) (unhide CA _)).mono ?_; rintro e _ ⟨rfl, y, rfl⟩) | (go_at_call 10; refine (belQ (unhide HF) (unhide HAL) (unhide CL _)).mono ?_; rintro e _ ⟨rfl, y, rfl⟩) | (go_at_call 75; refine (belQ (unhide HF) (unhide HAL) (unhide CP _)).mono ?_; rintro e _ ⟨rfl, y, rfl⟩) | (go_at_call 37; refine (belQ (unhide HF) (unhide HAL) (unhide CS _)).mono ?_; rintro e _ ⟨rfl, y, rfl⟩) | (go_at_call 76; refine (belQ (unhide HF) (unhide HAL) (hasF_is _ _ _ _ (by exact q4))).mono ?_; rintro e _ ⟨rfl, y, rfl⟩) | (go_at_call 77; refine (belQ (unhide HF) (unhide HAL) (unhide CN _)).mono ?_; rintro e _ ⟨rfl, y, rfl⟩) | (go_at_call 53; refine (belQ (unhide HF) (unhide HAL) (unhide CF _)).mono ?_; rintro e _ ⟨rfl, y, rfl⟩) | (go_at_call 54; refine (belQ (unhide HF) (unhide HAL) (unhide CI _ Y)).mono ?_; rintro e _ ⟨rfl, y, rfl⟩)) | go_wp2))
        go_ret
        exact ⟨congrArg Ending.returned (unhide HR).symm, unhide HBF _⟩

end Go.Proofs.YtemodlgmjgdjpaaGreatDoor
