/-
  What the model's Take18 answers: the plain answer, in memory of its own; nothing that was there is written. At lists of at most 1048576.
  Where a load goes among those aboard: how many of the first have a lesser number. Nothing that was there is written.
-/
import Derived.Test.YtemodlgmjgdjpaaGreatDoorTsFail
import Derived.Test.YtemodlgmjgdjpaaGreatDoorTkSuO
import Derived.Test.YtemodlgmjgdjpaaGreatDoorTkSuK
import Derived.Test.YtemodlgmjgdjpaaGreatDoorMDlImp
import Derived.Test.YtemodlgmjgdjpaaGreatDoorMAiLst
import Derived.Deep.CutRange

namespace Go.Proofs.YtemodlgmjgdjpaaGreatDoor
open Go Go.RowKit

theorem specTake18_any (s : Int) (a1 : Option Addr) (l1 c1 : Nat) (zs : List Lc) (x : Lx) (sl : Int) (w : World) (hr : AbIn w a1 l1 zs) (hlz : LzB zs) (hin : LxIn w x) (hdn : x.d.n ≤ 1048576) :
    Calls Tryz.prog 17 #[.agg #[.int .i64 s, .slice a1 l1 c1], .agg #[.string x.p, .int .i64 x.nb, .int .i64 x.le, .int .i64 x.mo, .int .i64 x.ne, .slice x.d.a x.d.n x.d.c], .int .i64 sl] w fun e w' => ∃ a9 c9, e = .returned (.tuple #[.agg #[.int .i64 s, .slice a9 (tkL s zs (lxW x) sl).length c9], .int .i64 (tkC s zs (lxW x) sl)]) ∧ AbOwn w' w.heap.size a9 (tkL s zs (lxW x) sl).length c9 (tkL s zs (lxW x) sl) ∧ Below w.heap.size w w' := by
  by_cases hc : tkC s zs (lxW x) sl = 0
  · rcases sa_cases zs x.p with h | ⟨k, hk, h⟩
    · exact specTake18_sO s a1 l1 c1 zs x sl w hr hlz hin hdn hc h
    · exact specTake18_sK s a1 l1 c1 zs x sl w hr hlz hin hdn hc k hk h
  · exact specTake18_fail s a1 l1 c1 zs x sl w hr hlz hin hdn hc

end Go.Proofs.YtemodlgmjgdjpaaGreatDoor

namespace Go.Proofs.YtemodlgmjgdjpaaGreatDoor
open Go Go.RowKit

set_option maxRecDepth 20000 in
set_option maxHeartbeats 8000000 in
theorem placeFor_any (s : Int) (a1 : Option Addr) (l1 c1 : Nat) (zs : List Lc) (x : Int) (w : World) (hr : AbIn w a1 l1 zs) :
    Calls Tryz.prog 44 #[.agg #[.int .i64 s, .slice a1 l1 c1], .int .i64 x] w fun e w' => e = .returned (.int .i64 (poF zs x)) ∧ Below w.heap.size w w' := by
  have HZL := hide hr.r1.len_eq
  have hsm := hr.r1.small
  obtain ⟨ls, e, hl⟩ := hr.r1.ex
  have HE := hide e
  have HO := hide hl.row.six
  have HLL := hide hl.row.len_eq
  clear hr e hl
  obtain ⟨W, hW⟩ : ∃ W, W = (w.alloc (Obj.cells #[.int .i64 s, .slice a1 l1 c1] 26)) := ⟨_, rfl⟩
  have K0 : Hid (Blk W w.heap.size [.int .i64 s, .slice a1 l1 c1]) := hide (by rw [hW]; exact Blk.new _ _)
  have B0 : Hid (Below w.heap.size w W) := hide (by rw [hW]; exact bel1 _)
  obtain ⟨ι, f, _, hbf, hall⟩ := belClass W
  have HF := hide hbf
  have HAL := hide hall
  have HBF : Hid (∀ y, Below w.heap.size w (f y)) := hide (fun y => (unhide B0).trans ((hbf y).mono (unhide B0).size))
  have b1 : ∀ y, (f y).cell? ⟨w.heap.size, 1, none⟩ = some (.slice a1 l1 c1) := fun y => ((unhide K0).below (hbf y)).c 1 (by simp)
  have CELL : Hid (∀ bb off, a1 = some ⟨bb, off, none⟩ → ∀ j, j < l1 → ∀ y, (f y).cell? ⟨bb, off + j * 6 + 1, none⟩ = some (.int .i64 (elAt zs j).nb)) := hide (fun bb off ha j hj y => by
    rcases (unhide HO) with ⟨h0, _⟩ | ⟨b2, o2, e, _, hc⟩
    · omega
    rw [ha] at e
    simp only [Option.some.injEq, Addr.mk.injEq, and_true] at e
    obtain ⟨rfl, rfl⟩ := e
    rw [elAt_lx (unhide HE) (by have := unhide HLL; omega)]
    exact ((unhide HBF y).cell (block_lt_of_cell (hc j hj).2.1)).trans (hc j hj).2.1)
  have HA1 : Hid (0 < l1 → ∃ bb off, a1 = some ⟨bb, off, none⟩) := hide (fun h => by
    rcases (unhide HO) with ⟨h0, _⟩ | ⟨b2, o2, e, _, _⟩
    · omega
    · exact ⟨b2, o2, e⟩)
  obtain ⟨x0, hx0⟩ := (unhide HAL) W (Below.refl _ _)
  have HX0 : Hid ((w.alloc (Obj.cells #[.int .i64 s, .slice a1 l1 c1] 26)) = f x0) := hide (hW.symm.trans hx0)
  obtain ⟨P, hP⟩ : ∃ P, P = poF zs x := ⟨_, rfl⟩
  rw [← hP]
  have HP := hide hP
  have hPl : P ≤ l1 := by have := poF_le zs x; rw [← hP, unhide HZL] at this; exact this
  clear hbf hall hW hx0 K0 B0 HO HLL hP
  go_enter Tryz.func44, Tryz.ntmps44
  go_wp2_with fail
  rw [unhide HX0]
  clear HX0
  go_loopw [5] (fun i wr => ∃ (k : Nat) (y : ι), i = .int .i64 k ∧ k ≤ P ∧ wr = f y) (fun i _ => l1 - (intOf i).toNat)
  case atStart => exact ⟨0, _, rfl, Nat.zero_le _, rfl⟩
  case round =>
    obtain ⟨k, y9, rfl, hk, hwr⟩ := hrel
    subst hwr
    go_upto_region 2 with fail
    go_cut [20] from 6 to 22 (fun b wc => b = .bool (decide (k < P)) ∧ ∃ y, wc = f y)
    case first =>
      by_cases hlt : k < l1
      · have hi1 : (k : Int) < (l1 : Int) := by omega
        have hi0 : (0 : Int) ≤ (k : Int) := by omega
        obtain ⟨bb, off, ha1⟩ := (unhide HA1) (by omega)
        subst ha1
        obtain ⟨Y, hY⟩ : ∃ z, (elAt zs k).nb = z := ⟨_, rfl⟩
        have m1 := fun y => (unhide CELL) bb off rfl k hlt y
        rw [hY] at m1
        by_cases lt : Y < x
        · have e : decide (k < P) = true := by
            rw [decide_eq_true_eq]
            rcases Nat.lt_or_ge k P with h | h
            · exact h
            · obtain rfl : k = P := by omega
              have h2 := poF_stop (n := x) (ls := zs) (by rw [← unhide HP, unhide HZL]; exact hlt)
              rw [← unhide HP, hY] at h2
              exact absurd lt h2
          have d : decide (Y < x) = true := by simpa using lt
          have E := hide e
          clear hY e CELL HA1
          go_wp2_with fail
          go_meet
          case rel => exact ⟨by rw [unhide E], _, rfl⟩
        · have e : decide (k < P) = false := by
            rw [decide_eq_false_iff_not]
            intro h
            have h2 := poF_lt (n := x) (ls := zs) (j := k) (by rw [← unhide HP]; exact h)
            rw [hY] at h2
            exact lt h2
          have d : decide (Y < x) = false := by simpa using lt
          have E := hide e
          clear hY e CELL HA1
          go_wp2_with fail
          go_meet
          case rel => exact ⟨by rw [unhide E], _, rfl⟩
      · have hi1 : ¬ (k : Int) < (l1 : Int) := by omega
        have e : decide (k < P) = false := by rw [decide_eq_false_iff_not]; omega
        have E := hide e
        clear e CELL HA1
        go_wp2_with fail
        go_meet
        case rel => exact ⟨by rw [unhide E], _, rfl⟩
    case rest =>
      obtain ⟨rfl, y8, hwc⟩ := hcut
      subst hwc
      by_cases hkP : k < P
      · have e : decide (k < P) = true := by rw [decide_eq_true_eq]; exact hkP
        rw [e]
        go_wp2_with fail
        go_roundw
        case rel => exact ⟨k + 1, y8, by go_num, by omega, rfl⟩
        case measure => simp [intOf]; omega
      · have e : decide (k < P) = false := by rw [decide_eq_false_iff_not]; exact hkP
        rw [e]
        obtain rfl : P = k := by omega
        go_wp2_with fail
        go_ret
        exact ⟨rfl, (unhide HBF) _⟩

end Go.Proofs.YtemodlgmjgdjpaaGreatDoor
