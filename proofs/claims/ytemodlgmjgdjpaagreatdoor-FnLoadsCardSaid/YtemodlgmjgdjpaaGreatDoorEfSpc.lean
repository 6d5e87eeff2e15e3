/-
  What the model's Effective answers: the plain answer, in memory of its own; nothing that was there is written. At lists of at most 1048576.
-/
import Derived.Test.YtemodlgmjgdjpaaGreatDoorMTkSpc
import Derived.Test.YtemodlgmjgdjpaaGreatDoorMTkQ
import Derived.Deep.CutRange
import Derived.Deep.RegionLaw
namespace Go.Proofs.YtemodlgmjgdjpaaGreatDoor
open Go Go.RowKit

set_option maxRecDepth 20000 in
set_option maxHeartbeats 16000000 in
theorem specEffective_any (s : Int) (a1 : Option Addr) (l1 c1 : Nat) (zs : List Lc) (b1 : Option Addr) (n1 d1 : Nat) (ms : List Lc) (w : World) (hr : AbIn w a1 l1 zs) (hlz : LzB zs) (hm : LsT w b1 n1 ms) (hmz : LzB ms) :
    Calls Tryz.prog 26 #[.agg #[.int .i64 s, .slice a1 l1 c1], .slice b1 n1 d1] w fun e w' => EfP w s zs ms e w' := by
  have HR := hide hr
  have HLZ := hide hlz
  have HMZ := hide hmz
  have HML := hide hm.len_eq
  obtain ⟨ls, e, hl⟩ := hm.ex
  have hz := hl.row.len_eq
  have HO := hide hl.row.six
  have HEL := hide hl.el
  have hsm := hl.row.small
  have HE := hide e
  subst hz
  clear hr hlz hm hmz hl e
  obtain ⟨W, hW⟩ : ∃ W, W = w.alloc (Obj.cells #[.int .i64 s, .slice a1 l1 c1] 26) := ⟨_, rfl⟩
  have bW : Below w.heap.size w W := by rw [hW]; exact bel1 _
  have K0 : Hid (Blk W w.heap.size [.int .i64 s, .slice a1 l1 c1]) := hide (by rw [hW]; exact Blk.new _ _)
  have hWs : w.heap.size + 1 ≤ W.heap.size := by rw [hW]; simp
  have CA := specAboardOk_any s a1 l1 c1 zs W ((unhide HR).below bW)
  have BW := hide bW
  have a0 : W.cell? ⟨w.heap.size, 0, none⟩ = some (.int .i64 s) := (unhide K0).c 0 (by simp)
  have a1' : W.cell? ⟨w.heap.size, 1, none⟩ = some (.slice a1 l1 c1) := (unhide K0).c 1 (by simp)
  have HW := hide hW
  rw [hW] at a0 a1'
  clear hW bW
  have CAH := hide CA
  clear CA
  cases q1 : abB s zs with
  | false =>
    have HF : Hid (efB s zs ms = false) := hide (ef_ab q1)
    rw [q1] at CAH
    clear q1
    go_enter Tryz.func26, Tryz.ntmps26
    go_wp2_with (go_at_call 59; rw [← unhide HW]; refine (unhide CAH).mono ?_; rintro e w1 ⟨rfl, b9⟩; have B9 := hide b9; clear b9)
    go_ret2
    exact EfP.no (unhide HF) ((ownI_none (w := w1) (w1 := w1) (Nat.le_refl _)).mono (by have := (unhide B9).size; omega)) ((unhide BW).trans (((unhide B9).trans ((bel1 _).mono (unhide B9).size)).mono (unhide BW).size))
  | true =>
    have HQ1 := hide q1
    rw [q1] at CAH
    clear q1
    by_cases hmany : ls.length ≤ 30
    · have hmi : ¬ (30 : Int) < (ls.length : Int) := by omega
      have hmd : decide ((30 : Int) < (ls.length : Int)) = false := by simp only [decide_eq_false_iff_not]; omega
      go_enter Tryz.func26, Tryz.ntmps26
      go_wp2_with (go_at_call 59; rw [← unhide HW]; refine (unhide CAH).mono ?_; rintro e w1 ⟨rfl, b9⟩; have B9 := hide b9; clear b9)
      have O0 : Hid (OwnI (w1.alloc (Obj.cells #[] 3)) (w.heap.size + 1) (.slice (some ⟨w1.heap.size, 0, none⟩) 0 0) []) := hide ((ownI_none (w := w1) (w1 := w1) (Nat.le_refl _)).mono (by have := (unhide B9).size; omega))
      have BX : Hid (Below w.heap.size w (w1.alloc (Obj.cells #[] 3))) := hide ((unhide BW).trans (((unhide B9).trans ((bel1 _).mono (unhide B9).size)).mono (unhide BW).size))
      have KX : Hid (Blk (w1.alloc (Obj.cells #[] 3)) w.heap.size [.int .i64 s, .slice a1 l1 c1]) := hide (((unhide K0).below (unhide B9)).alloc _)
      clear K0 B9 a0 a1' CAH BW
      go_loopw [6, 7] (fun o i wr => ∃ (k n c : Nat) (a : Option Addr), o = .slice a n c ∧ i = .int .i64 k ∧ k ≤ ls.length ∧ n ≤ k ∧ Hid ((efK s zs ms k).length = n) ∧ Hid (OwnI wr (w.heap.size + 1) (.slice a n c) (efK s zs ms k)) ∧ Hid (Blk wr w.heap.size [.int .i64 s, .slice a1 l1 c1]) ∧ Hid (Below w.heap.size w wr) ∧ Hid (∀ j, j < k → ldB (elAt ms j) = true)) (fun _ i _ => ls.length - (intOf i).toNat)
      case atStart => exact ⟨0, 0, 0, _, rfl, rfl, Nat.zero_le _, Nat.le_refl _, hide rfl, O0, KX, BX, hide (fun j hj => by omega)⟩
      case round =>
        clear O0 KX BX
        obtain ⟨k, n, c, a, rfl, rfl, hk, hnk, HN, OI, KR, BR, AL⟩ := hrel
        by_cases hlt : k < ls.length
        · rcases (unhide HO) with ⟨h0, _⟩ | ⟨bb, off, rfl, _, hc⟩
          · omega
          obtain ⟨x, hx⟩ : ∃ x, elAt ls k = x := ⟨_, rfl⟩
          have el : elAt ms k = lxW x := by rw [← hx]; exact elAt_lx (unhide HE) hlt
          have hin := (unhide HEL) k hlt
          have q := hc k hlt
          rw [hx] at hin q
          have cl := fun {p : Addr} {v : Value} (h : w.cell? p = some v) => ((unhide BR).cell (p := p) (block_lt_of_cell h)).trans h
          have s0 := cl q.1
          have s1 := cl q.2.1
          have s2 := cl q.2.2.1
          have s3 := cl q.2.2.2.1
          have s4 := cl q.2.2.2.2.1
          have s5 := cl q.2.2.2.2.2
          have hi1 : (k : Int) < (ls.length : Int) := by omega
          have hi0 : (0 : Int) ≤ (k : Int) := by omega
          have hdn : x.d.n ≤ 1048576 := by
            have h2 := (unhide HMZ).2 k (by have := unhide HML; omega)
            rw [el] at h2
            have h3 := hin.sl.row.len_eq
            have h2 : x.d.zs.length ≤ 1048576 := h2
            omega
          have HIN := hide hin
          have HEK := hide el
          have HQ := hide q
          clear q cl hx hc hin el
          have CS : Hid (Calls Tryz.prog 58 #[.agg #[.string x.p, .int .i64 x.nb, .int .i64 x.le, .int .i64 x.mo, .int .i64 x.ne, .slice x.d.a x.d.n x.d.c]] wr fun e w' => e = .returned (.tuple #[.int .i64 (seR (lxW x)), .bool (ldB (lxW x))]) ∧ Below wr.heap.size wr w') := hide (specSeal_any x.p x.nb x.le x.mo x.ne _ _ _ x.d.zs wr ⟨(unhide HIN).sl.row.below (unhide BR)⟩ (unhide HIN).sl.byt (unhide HIN).sz)
          cases q2 : ldB (lxW x) with
          | false =>
            have HF : Hid (efB s zs ms = false) := hide (efB_no (i := k) (by have := unhide HML; omega) (by rw [unhide HEK]; exact q2))
            rw [q2] at CS
            clear AL q2
            go_wp2_with (go_at_call 58; refine (unhide CS).mono ?_; rintro e w2 ⟨rfl, b2⟩; have B2 := hide b2; clear b2)
            go_ret2
            exact EfP.no (unhide HF) ((ownI_none (w := w2) (w1 := w2) (Nat.le_refl _)).mono (by have := (unhide B2).size; have := (unhide BR).size; omega)) ((unhide BR).trans (((unhide B2).trans ((bel1 _).mono (unhide B2).size)).mono (unhide BR).size))
          | true =>
            have AL2 : Hid (∀ j, j < k + 1 → ldB (elAt ms j) = true) := hide (fun i hi => by
              by_cases e3 : i = k
              · rw [e3, unhide HEK]; exact q2
              · exact (unhide AL) i (by omega))
            rw [q2, seR_ok q2] at CS
            clear AL q2
            go_upto_region 10 with (go_at_call 58; refine (unhide CS).mono ?_; rintro e w2 ⟨rfl, b2⟩; have B2 := hide b2; clear b2)
            have BR2 := hide ((unhide BR).trans ((unhide B2).mono (unhide BR).size))
            have KR2 := hide ((unhide KR).below (unhide B2))
            have OI2 := hide ((unhide OI).below (unhide B2))
            clear s0 s1 s2 s3 s4 s5 CS BR KR OI B2
            have cl := fun {p : Addr} {v : Value} (h : w.cell? p = some v) => ((unhide BR2).cell (p := p) (block_lt_of_cell h)).trans h
            have s0 := cl (unhide HQ).1
            have s1 := cl (unhide HQ).2.1
            have s2 := cl (unhide HQ).2.2.1
            have s3 := cl (unhide HQ).2.2.2.1
            have s4 := cl (unhide HQ).2.2.2.2.1
            have s5 := cl (unhide HQ).2.2.2.2.2
            clear cl
            have b0 : w2.cell? ⟨w.heap.size, 0, none⟩ = some (.int .i64 s) := (unhide KR2).c 0 (by simp)
            have b1' : w2.cell? ⟨w.heap.size, 1, none⟩ = some (.slice a1 l1 c1) := (unhide KR2).c 1 (by simp)
            have s0a : ∀ o, (w2.alloc o).cell? ⟨bb, off + k * 6, none⟩ = some (lxC x 0) := fun o => ((bel1 o).cell (p := ⟨bb, off + k * 6, none⟩) (block_lt_of_cell s0)).trans s0
            have s1a : ∀ o, (w2.alloc o).cell? ⟨bb, off + k * 6 + 1, none⟩ = some (lxC x 1) := fun o => ((bel1 o).cell (p := ⟨bb, off + k * 6 + 1, none⟩) (block_lt_of_cell s1)).trans s1
            have s2a : ∀ o, (w2.alloc o).cell? ⟨bb, off + k * 6 + 2, none⟩ = some (lxC x 2) := fun o => ((bel1 o).cell (p := ⟨bb, off + k * 6 + 2, none⟩) (block_lt_of_cell s2)).trans s2
            have s3a : ∀ o, (w2.alloc o).cell? ⟨bb, off + k * 6 + 3, none⟩ = some (lxC x 3) := fun o => ((bel1 o).cell (p := ⟨bb, off + k * 6 + 3, none⟩) (block_lt_of_cell s3)).trans s3
            have s4a : ∀ o, (w2.alloc o).cell? ⟨bb, off + k * 6 + 4, none⟩ = some (lxC x 4) := fun o => ((bel1 o).cell (p := ⟨bb, off + k * 6 + 4, none⟩) (block_lt_of_cell s4)).trans s4
            have s5a : ∀ o, (w2.alloc o).cell? ⟨bb, off + k * 6 + 5, none⟩ = some (lxC x 5) := fun o => ((bel1 o).cell (p := ⟨bb, off + k * 6 + 5, none⟩) (block_lt_of_cell s5)).trans s5
            have b0a : ∀ o, (w2.alloc o).cell? ⟨w.heap.size, 0, none⟩ = some (.int .i64 s) := fun o => ((unhide KR2).alloc o).c 0 (by simp)
            have b1a : ∀ o, (w2.alloc o).cell? ⟨w.heap.size, 1, none⟩ = some (.slice a1 l1 c1) := fun o => ((unhide KR2).alloc o).c 1 (by simp)
            simp only [lxC] at s0a s1a s2a s3a s4a s5a
            have CT : Hid (∀ V, Below w2.heap.size w2 V → Calls Tryz.prog 17 #[.agg #[.int .i64 s, .slice a1 l1 c1], .agg #[.string x.p, .int .i64 x.nb, .int .i64 x.le, .int .i64 x.mo, .int .i64 x.ne, .slice x.d.a x.d.n x.d.c], .int .i64 (seO (lxW x))] V fun e w' => (∃ a9 n9 c9, e = .returned (.tuple #[.agg #[.int .i64 s, .slice a9 n9 c9], .int .i64 (tkC s zs (lxW x) (seO (lxW x)))])) ∧ Below V.heap.size V w' ∧ Below w2.heap.size w2 w') := hide (fun V bV => (specTake18_any s a1 l1 c1 zs x (seO (lxW x)) V ((unhide HR).below ((unhide BR2).trans (bV.mono (unhide BR2).size))) (unhide HLZ) ⟨(unhide HIN).sl.below ((unhide BR2).trans (bV.mono (unhide BR2).size)), (unhide HIN).sz⟩ hdn).mono (fun e w' ⟨a9, c9, he, _, hb⟩ => ⟨⟨a9, _, c9, he⟩, hb, bV.trans (hb.mono bV.size)⟩))
            have HALL : Hid (∀ q u, Below ((w2.alloc (Obj.cells #[.int .i64 0, .slice none 0 0] 26)).drewN q).heap.size ((w2.alloc (Obj.cells #[.int .i64 0, .slice none 0 0] 26)).drewN q) u → Blk u w2.heap.size [.int .i64 0, .slice none 0 0]) := hide (fun q u b => ((Blk.new (w := w2) [.int .i64 0, .slice none 0 0] 26).below (bel0d' q)).below b)
            obtain ⟨TC, hTC⟩ : ∃ z, tkC s zs (lxW x) (seO (lxW x)) = z := ⟨_, rfl⟩
            rw [hTC] at CT
            have HTC := hide hTC
            obtain ⟨SL, hSL⟩ : ∃ z, seO (lxW x) = z := ⟨_, rfl⟩
            rw [hSL] at CT
            rw [hSL]
            clear hTC hSL
            go_cut [11] from 22 to 54 (fun v wc => v = .int .i64 TC ∧ Below w2.heap.size w2 wc)
            case first =>
              go_region_law (first
                | ((fail_if_success have := D1); go_simp; go_wp2_with (go_at_call 17; refine ((unhide CT) _ (by repeat (first | exact Below.refl _ _ | refine Below.alloc ?_ (by first | omega | (simp; omega) | (simp; done)) _ | refine Below.trans ?_ (bel0d' _) | refine Below.drew ?_))).mono ?_; rintro e u1 ⟨⟨a9, n9, c9, rfl⟩, b5, bb6⟩; have D1 := hide b5; have z5 := bb6.size; (first | (have KN := (unhide HALL) 0 _ b5; have r0 : u1.cell? ⟨w2.heap.size, 0, none⟩ = some (.int .i64 0) := KN.c 0 (by simp); have r1 : u1.cell? ⟨w2.heap.size, 1, none⟩ = some (.slice none 0 0) := KN.c 1 (by simp); have r2 : u1.frozen? ⟨w2.heap.size, 0, none⟩ = false := KN.f 0 (by simp); have r3 : u1.frozen? ⟨w2.heap.size, 1, none⟩ = false := KN.f 1 (by simp); have r4 := KN.lt; clear KN) | (have KN := (unhide HALL) 1 _ b5; have r0 : u1.cell? ⟨w2.heap.size, 0, none⟩ = some (.int .i64 0) := KN.c 0 (by simp); have r1 : u1.cell? ⟨w2.heap.size, 1, none⟩ = some (.slice none 0 0) := KN.c 1 (by simp); have r2 : u1.frozen? ⟨w2.heap.size, 0, none⟩ = false := KN.f 0 (by simp); have r3 : u1.frozen? ⟨w2.heap.size, 1, none⟩ = false := KN.f 1 (by simp); have r4 := KN.lt; clear KN) | (have KN := (unhide HALL) 2 _ b5; have r0 : u1.cell? ⟨w2.heap.size, 0, none⟩ = some (.int .i64 0) := KN.c 0 (by simp); have r1 : u1.cell? ⟨w2.heap.size, 1, none⟩ = some (.slice none 0 0) := KN.c 1 (by simp); have r2 : u1.frozen? ⟨w2.heap.size, 0, none⟩ = false := KN.f 0 (by simp); have r3 : u1.frozen? ⟨w2.heap.size, 1, none⟩ = false := KN.f 1 (by simp); have r4 := KN.lt; clear KN) | (have KN := (unhide HALL) 3 _ b5; have r0 : u1.cell? ⟨w2.heap.size, 0, none⟩ = some (.int .i64 0) := KN.c 0 (by simp); have r1 : u1.cell? ⟨w2.heap.size, 1, none⟩ = some (.slice none 0 0) := KN.c 1 (by simp); have r2 : u1.frozen? ⟨w2.heap.size, 0, none⟩ = false := KN.f 0 (by simp); have r3 : u1.frozen? ⟨w2.heap.size, 1, none⟩ = false := KN.f 1 (by simp); have r4 := KN.lt; clear KN) | skip); clear b5)))
              all_goals
                go_wp2_with fail
                go_meet
                case rel => exact ⟨rfl, by repeat (first | exact bb6 | exact Below.refl _ _ | refine Below.setCell ?_ (by first | omega | (simp; omega) | (simp; done)) _ | refine Below.alloc ?_ (by first | omega | (simp; omega) | (simp; done)) _ | refine Below.trans ?_ (bel0d' _))⟩
            case rest =>
              obtain ⟨rfl, hbc⟩ := hcut
              have BR3 := hide ((unhide BR2).trans (hbc.mono (unhide BR2).size))
              have KR3 := hide ((unhide KR2).below hbc)
              have OI3 := hide ((unhide OI2).below hbc)
              have hsz3 : w.heap.size + 1 ≤ wc.heap.size := (unhide KR3).lt
              clear hbc BR2 KR2 OI2 s0 s1 s2 s3 s4 s5 b0 b1' CT s0a s1a s2a s3a s4a s5a b0a b1a
              by_cases h0 : TC = 0
              · have EK : Hid (efK s zs ms (k + 1) = efK s zs ms k ++ [(k : Int)]) := hide (efK_in (by rw [unhide HEK, unhide HTC]; exact h0))
                have e0 : (TC == 0) = true := by simpa using h0
                have e1 : decide (TC = 0) = true := by simpa using h0
                clear h0
                go_wp2_with (at_builtin; refine wpList_app_int rfl _ _ rfl (n := n) (k : Int) (unhide OI3) (unhide HN) rfl rfl rfl hsz3 (by omega) (by omega) ?_; intro g9 c9 w9 o9 gr9; have O9 : Hid (OwnI w9 (w.heap.size + 1) (.slice (some ⟨g9, 0, none⟩) (n + 1) c9) (efK s zs ms (k + 1))) := hide (by rw [unhide EK]; exact o9); have K9 := hide ((unhide KR3).apart gr9 (fun e => by have := ((unhide OI3).lies _ e.symm).1; omega)); have B9 := hide ((unhide BR3).grown gr9 (unhide BR3).size (fun q hq => by have := ((unhide OI3).lies _ hq).1; omega)); clear o9 gr9)
                have HN9 : Hid ((efK s zs ms (k + 1)).length = n + 1) := hide (by rw [unhide EK, List.length_append, unhide HN]; rfl)
                go_roundw
                case rel => exact ⟨k + 1, n + 1, c9, _, rfl, by go_num, by omega, by omega, HN9, O9, K9, B9, AL2⟩
                case measure => simp [intOf]; omega
              · have EK : Hid (efK s zs ms (k + 1) = efK s zs ms k) := hide (efK_out (by rw [unhide HEK, unhide HTC]; exact h0))
                have e0 : (TC == 0) = false := by simpa using h0
                have e1 : decide (TC = 0) = false := by simpa using h0
                clear h0
                go_wp2_with fail
                have HN9 : Hid ((efK s zs ms (k + 1)).length = n) := hide (by rw [unhide EK]; exact unhide HN)
                have O9 : Hid (OwnI wc (w.heap.size + 1) (.slice a n c) (efK s zs ms (k + 1))) := hide (by rw [unhide EK]; exact unhide OI3)
                go_roundw
                case rel => exact ⟨k + 1, n, c, _, rfl, by go_num, by omega, by omega, HN9, O9, KR3, BR3, AL2⟩
                case measure => simp [intOf]; omega
        · have hi1 : ¬ (k : Int) < (ls.length : Int) := by omega
          obtain rfl : k = ls.length := by omega
          have HT : Hid (efB s zs ms = true) := hide (ef_all (unhide HQ1) (by have := unhide HML; omega) (fun i hi => (unhide AL) i (by have := unhide HML; omega)))
          go_wp2_with fail
          go_ret2
          exact EfP.yes (unhide HT) (unhide HML) (unhide HN) ((unhide OI).mono (by omega)) (unhide BR)
    · have hmi : (30 : Int) < (ls.length : Int) := by omega
      have hmd : decide ((30 : Int) < (ls.length : Int)) = true := by simp only [decide_eq_true_eq]; omega
      have HF : Hid (efB s zs ms = false) := hide (ef_many (by have := unhide HML; omega))
      go_enter Tryz.func26, Tryz.ntmps26
      go_wp2_with (go_at_call 59; rw [← unhide HW]; refine (unhide CAH).mono ?_; rintro e w1 ⟨rfl, b9⟩; have B9 := hide b9; clear b9)
      go_ret2
      exact EfP.no (unhide HF) ((ownI_none (w := w1) (w1 := w1) (Nat.le_refl _)).mono (by have := (unhide B9).size; omega)) ((unhide BW).trans (((unhide B9).trans ((bel1 _).mono (unhide B9).size)).mono (unhide BW).size))

end Go.Proofs.YtemodlgmjgdjpaaGreatDoor
