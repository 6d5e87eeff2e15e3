/-
  What the model's AboardOk answers: the plain answer, at every argument; nothing that was there is written.
-/
import Derived.Test.YtemodlgmjgdjpaaGreatDoorMAbTo
import Derived.Test.YtemodlgmjgdjpaaGreatDoorMLdSpec
namespace Go.Proofs.YtemodlgmjgdjpaaGreatDoor
open Go Go.RowKit

theorem txl_ne {x y : ByteArray} (h : ¬ x = y) : (x.toList == y.toList) = false := by
  rw [beq_eq_false_iff_ne]
  intro e
  rw [ByteArray.toList_eq, ByteArray.toList_eq] at e
  exact h (by cases x; cases y; simp only [ByteArray.mk.injEq]; exact Array.toList_inj.1 e)
theorem abI_is (s : Int) (zs : List Lc) (k : Nat) (b1 b2 b3 b4 b5 : Bool) (h1 : ldB (elAt zs k) = b1) (h2 : decide (0 < k → (elAt zs (k - 1)).nb < (elAt zs k).nb) = b2) (h3 : inB s (elAt zs k).le (elAt zs k).mo = b3) (h4 : decide ((elAt zs k).ne ≠ 0 → (elAt zs k).ne ≠ (elAt zs k).nb ∧ 0 ≤ fnF zs (elAt zs k).ne) = b4) (h5 : decide (∀ i, i < k → (elAt zs i).p ≠ (elAt zs k).p) = b5) : abI s zs k = (b1 && b2 && b3 && b4 && b5) := by
  unfold abI; rw [h1, h2, h3, h4, h5]
theorem abI_no1 {s : Int} {zs : List Lc} {k : Nat} (h : ldB (elAt zs k) = false) : abI s zs k = false := by simp [abI, h]
theorem abI_no2 {s : Int} {zs : List Lc} {k : Nat} (h0 : 0 < k) (h : (elAt zs k).nb ≤ (elAt zs (k - 1)).nb) : abI s zs k = false := by
  have : decide (0 < k → (elAt zs (k - 1)).nb < (elAt zs k).nb) = false := by simp only [decide_eq_false_iff_not]; intro q; have := q h0; omega
  simp only [abI, this, Bool.and_false, Bool.false_and]
theorem abI_no3 {s : Int} {zs : List Lc} {k : Nat} (h : inB s (elAt zs k).le (elAt zs k).mo = false) : abI s zs k = false := by simp [abI, h]
theorem abI_no4 {s : Int} {zs : List Lc} {k : Nat} (h0 : (elAt zs k).ne ≠ 0) (h : (elAt zs k).ne = (elAt zs k).nb ∨ fnF zs (elAt zs k).ne < 0) : abI s zs k = false := by
  have : decide ((elAt zs k).ne ≠ 0 → (elAt zs k).ne ≠ (elAt zs k).nb ∧ 0 ≤ fnF zs (elAt zs k).ne) = false := by
    simp only [decide_eq_false_iff_not]; intro q; have := q h0; omega
  simp only [abI, this, Bool.and_false, Bool.false_and]
theorem abI_no5 {s : Int} {zs : List Lc} {k j : Nat} (h0 : j < k) (h : (elAt zs j).p = (elAt zs k).p) : abI s zs k = false := by
  have : decide (∀ i, i < k → (elAt zs i).p ≠ (elAt zs k).p) = false := by
    simp only [decide_eq_false_iff_not]; intro q; exact q j h0 h
  simp only [abI, this, Bool.and_false]
theorem abI_yes {s : Int} {zs : List Lc} {k : Nat} (h1 : ldB (elAt zs k) = true) (h2 : 0 < k → (elAt zs (k - 1)).nb < (elAt zs k).nb) (h3 : inB s (elAt zs k).le (elAt zs k).mo = true) (h4 : (elAt zs k).ne ≠ 0 → (elAt zs k).ne ≠ (elAt zs k).nb ∧ 0 ≤ fnF zs (elAt zs k).ne) (h5 : ∀ i, i < k → (elAt zs i).p ≠ (elAt zs k).p) : abI s zs k = true := by
  rw [abI_is s zs k true true true true true h1 (decide_eq_true h2) h3 (decide_eq_true h4) (decide_eq_true h5)]; rfl

set_option maxRecDepth 20000 in
set_option maxHeartbeats 8000000 in
theorem specAboardOk_any (s : Int) (a1 : Option Addr) (l1 c1 : Nat) (zs : List Lc) (w : World) (hr : AbIn w a1 l1 zs) :
    Calls Tryz.prog 59 #[.agg #[.int .i64 s, .slice a1 l1 c1]] w fun e w' => e = .returned (.bool (abB s zs)) ∧ Below w.heap.size w w' := by
  have HT := hide hr.r1
  have hzl := hr.r1.len_eq
  obtain ⟨ls, e, hl⟩ := hr.r1.ex
  have hz := hl.row.len_eq
  have HO := hide hl.row.six
  have HEL := hide hl.el
  have hsm := hl.row.small
  have HE := hide e
  subst hz
  obtain ⟨W, hW⟩ : ∃ W, W = w.alloc (Obj.cells #[.int .i64 s, .slice a1 ls.length c1] 26) := ⟨_, rfl⟩
  have KB0 : Hid (Blk W w.heap.size [.int .i64 s, .slice a1 ls.length c1]) := hide (by rw [hW]; exact Blk.new _ _)
  have BW0 : Hid (Below w.heap.size w W) := hide (by rw [hW]; exact bel1 _)
  have HW := hide hW
  have HZL := hide hzl
  clear hr hl e hW hzl
  go_enter Tryz.func59, Tryz.ntmps59
  go_wp2_with fail
  rw [← unhide HW]
  clear HW
  go_loopw [3] (fun i wr => ∃ k : Nat, i = .int .i64 k ∧ k ≤ ls.length ∧ Hid (Blk wr w.heap.size [.int .i64 s, .slice a1 ls.length c1]) ∧ Hid (Below w.heap.size w wr) ∧ Hid (∀ j, j < k → abI s zs j = true)) (fun i _ => ls.length - (intOf i).toNat)
  case atStart => exact ⟨0, rfl, Nat.zero_le _, KB0, BW0, hide (fun j hj => by omega)⟩
  case round =>
    clear KB0 BW0
    obtain ⟨k, rfl, hk, KB, BW, AL⟩ := hrel
    have g1 : wr.cell? ⟨w.heap.size, 1, none⟩ = some (.slice a1 ls.length c1) := (unhide KB).c 1 (by simp)
    by_cases hlt : k < ls.length
    · rcases (unhide HO) with ⟨h0, _⟩ | ⟨bb, off, rfl, _, hc⟩
      · omega
      have HC := hide hc
      obtain ⟨x, hx⟩ : ∃ x, elAt ls k = x := ⟨_, rfl⟩
      have el : elAt zs k = lxW x := by rw [← hx]; exact elAt_lx (unhide HE) hlt
      have hin := (unhide HEL) k hlt
      have q := hc k hlt
      rw [hx] at hin q
      have cl := fun {p : Addr} {v : Value} (h : w.cell? p = some v) => ((unhide BW).cell (p := p) (block_lt_of_cell h)).trans h
      have s0 := cl q.1
      have s1 := cl q.2.1
      have s2 := cl q.2.2.1
      have s3 := cl q.2.2.2.1
      have s4 := cl q.2.2.2.2.1
      have s5 := cl q.2.2.2.2.2
      have hi1 : (k : Int) < (ls.length : Int) := by omega
      have hi0 : (0 : Int) ≤ (k : Int) := by omega
      have HIN := hide hin
      have HEK := hide el
      clear q cl hx hc hin el
      go_wp2_with fail
      obtain ⟨V, hV⟩ : ∃ V, V = wr.alloc (Obj.cells #[.string x.p, .int .i64 x.nb, .int .i64 x.le, .int .i64 x.mo, .int .i64 x.ne, .slice x.d.a x.d.n x.d.c] 32) := ⟨_, rfl⟩
      have KV : Hid (Blk V wr.heap.size [.string x.p, .int .i64 x.nb, .int .i64 x.le, .int .i64 x.mo, .int .i64 x.ne, .slice x.d.a x.d.n x.d.c]) := hide (by rw [hV]; exact Blk.new _ _)
      have bV : Below wr.heap.size wr V := by rw [hV]; exact bel1 _
      rw [← hV]
      have KBV := hide ((unhide KB).below bV)
      have BV := hide ((unhide BW).trans (bV.mono (unhide BW).size))
      clear hV bV s0 s1 s2 s3 s4 s5 g1 KB BW
      obtain ⟨ι, f, _, hbf, hall⟩ := belClass V
      have HF := hide hbf
      have HAL := hide hall
      have HBF : Hid (∀ y, Below w.heap.size w (f y)) := hide (fun y => (unhide BV).trans ((hbf y).mono (unhide BV).size))
      have v0 : ∀ y, (f y).cell? ⟨wr.heap.size, 0, none⟩ = some (.string x.p) := fun y => ((unhide KV).below (hbf y)).c 0 (by simp)
      have v1 : ∀ y, (f y).cell? ⟨wr.heap.size, 1, none⟩ = some (.int .i64 x.nb) := fun y => ((unhide KV).below (hbf y)).c 1 (by simp)
      have v2 : ∀ y, (f y).cell? ⟨wr.heap.size, 2, none⟩ = some (.int .i64 x.le) := fun y => ((unhide KV).below (hbf y)).c 2 (by simp)
      have v3 : ∀ y, (f y).cell? ⟨wr.heap.size, 3, none⟩ = some (.int .i64 x.mo) := fun y => ((unhide KV).below (hbf y)).c 3 (by simp)
      have v4 : ∀ y, (f y).cell? ⟨wr.heap.size, 4, none⟩ = some (.int .i64 x.ne) := fun y => ((unhide KV).below (hbf y)).c 4 (by simp)
      have v5 : ∀ y, (f y).cell? ⟨wr.heap.size, 5, none⟩ = some (.slice x.d.a x.d.n x.d.c) := fun y => ((unhide KV).below (hbf y)).c 5 (by simp)
      have b0 : ∀ y, (f y).cell? ⟨w.heap.size, 0, none⟩ = some (.int .i64 s) := fun y => ((unhide KBV).below (hbf y)).c 0 (by simp)
      have b1 : ∀ y, (f y).cell? ⟨w.heap.size, 1, none⟩ = some (.slice (some ⟨bb, off, none⟩) ls.length c1) := fun y => ((unhide KBV).below (hbf y)).c 1 (by simp)
      have CF : Hid (∀ y, Calls Tryz.prog 61 #[.agg #[.int .i64 s, .slice (some ⟨bb, off, none⟩) ls.length c1], .int .i64 x.ne] (f y) fun e w' => e = .returned (.int .i64 (fnF zs x.ne)) ∧ Below (f y).heap.size (f y) w') := hide (fun y => l18Find_any s _ _ c1 zs x.ne (f y) ((unhide HT).below ((unhide HBF) y)))
      have CL0 : Hid (∀ y, Calls Tryz.prog 88 #[.agg #[.string x.p, .int .i64 x.nb, .int .i64 x.le, .int .i64 x.mo, .int .i64 x.ne, .slice x.d.a x.d.n x.d.c]] (f y) fun e w' => e = .returned (.bool (ldB (lxW x))) ∧ Below (f y).heap.size (f y) w') := hide (fun y => specLoadOk_any x.p x.nb x.le x.mo x.ne _ _ _ x.d.zs (f y) ⟨(unhide HIN).sl.row.below ((unhide HBF) y)⟩ (unhide HIN).sz)
      have CELL : Hid (∀ j, j < ls.length → ∀ y, (f y).cell? ⟨bb, off + j * 6, none⟩ = some (.string (elAt ls j).p) ∧ (f y).cell? ⟨bb, off + j * 6 + 1, none⟩ = some (.int .i64 (elAt ls j).nb)) := hide (fun j hj y => ⟨((unhide HBF y).cell (block_lt_of_cell ((unhide HC) j hj).1)).trans ((unhide HC) j hj).1, ((unhide HBF y).cell (block_lt_of_cell ((unhide HC) j hj).2.1)).trans ((unhide HC) j hj).2.1⟩)
      clear hbf hall
      obtain ⟨x0, hx0⟩ := (unhide HAL) V (Below.refl _ _)
      rw [hx0]
      clear hx0
      cases q1 : ldB (lxW x) with
      | false =>
        have CL : Hid (∀ y, Calls Tryz.prog 88 #[.agg #[.string x.p, .int .i64 x.nb, .int .i64 x.le, .int .i64 x.mo, .int .i64 x.ne, .slice x.d.a x.d.n x.d.c]] (f y) fun e w' => e = .returned (.bool false) ∧ Below (f y).heap.size (f y) w') := hide (fun y => by have := unhide CL0 y; rw [q1] at this; exact this)
        clear CL0
        have HR : Hid (abB s zs = false) := hide (abB_no (i := k) (by have := unhide HZL; omega) (abI_no1 (by rw [unhide HEK]; exact q1)))
        clear AL
        refine wp_region_bel (fun w' h => (unhide HAL) w' ((unhide HF _).trans (h.mono (unhide HF _).size))) (by kernel_rfl) (by kernel_rfl) ?_
        repeat (go_big_quiet_step (first | (go_at_call 88; exact belQ (unhide HF) (unhide HAL) (unhide CL _)) | (go_at_call 60; exact belS (l1In_is _ _ _ _ rfl)) | (go_at_call 61; exact belQ (unhide HF) (unhide HAL) (unhide CF _))))
        refine wpQuiet_nil ?_
        rintro _ ⟨y, rfl⟩
        go_wp2_with fail
        go_ret
        exact ⟨ret_bool (unhide HR).symm, unhide HBF y⟩
      | true =>
        have CL : Hid (∀ y, Calls Tryz.prog 88 #[.agg #[.string x.p, .int .i64 x.nb, .int .i64 x.le, .int .i64 x.mo, .int .i64 x.ne, .slice x.d.a x.d.n x.d.c]] (f y) fun e w' => e = .returned (.bool true) ∧ Below (f y).heap.size (f y) w') := hide (fun y => by have := unhide CL0 y; rw [q1] at this; exact this)
        clear CL0
        by_cases k0 : k = 0
        · have K00 := hide k0
          clear k0
          have dk : decide ((0 : Int) < (k : Int)) = false := by have := unhide K00; simp only [decide_eq_false_iff_not]; omega
          have dkn : decide (0 < k) = false := by have := unhide K00; simp only [decide_eq_false_iff_not]; omega
          cases q3 : inB s x.le x.mo with
          | false =>
            have HR : Hid (abB s zs = false) := hide (abB_no (i := k) (by have := unhide HZL; omega) (abI_no3 (by rw [unhide HEK]; exact q3)))
            clear AL
            refine wp_region_bel (fun w' h => (unhide HAL) w' ((unhide HF _).trans (h.mono (unhide HF _).size))) (by kernel_rfl) (by kernel_rfl) ?_
            repeat (go_big_quiet_step (first | (go_at_call 88; exact belQ (unhide HF) (unhide HAL) (unhide CL _)) | (go_at_call 60; exact belS (l1In_is _ _ _ _ (by exact q3))) | (go_at_call 61; exact belQ (unhide HF) (unhide HAL) (unhide CF _))))
            refine wpQuiet_nil ?_
            rintro _ ⟨y, rfl⟩
            go_wp2_with fail
            go_ret
            exact ⟨ret_bool (unhide HR).symm, unhide HBF y⟩
          | true =>
            by_cases q4 : x.ne = 0
            · have d4 : (x.ne != 0) = false := by simpa using q4
              have d4e : decide (x.ne = 0) = true := by simpa using q4
              have Q4 := hide q4
              clear q4
              have HG : Hid ((∀ i, i < k → (elAt zs i).p ≠ (elAt zs k).p) → abI s zs k = true) := hide (fun h5 => abI_yes (by rw [unhide HEK]; exact q1) (fun h => by have := unhide K00; omega) (by rw [unhide HEK]; exact q3) (by rw [unhide HEK]; intro q; exact absurd (unhide Q4) q) h5)
              refine wp_region_bel (fun w' h => (unhide HAL) w' ((unhide HF _).trans (h.mono (unhide HF _).size))) (by kernel_rfl) (by kernel_rfl) ?_
              repeat (go_big_quiet_step (first | (go_at_call 88; exact belQ (unhide HF) (unhide HAL) (unhide CL _)) | (go_at_call 60; exact belS (l1In_is _ _ _ _ (by exact q3))) | (go_at_call 61; exact belQ (unhide HF) (unhide HAL) (unhide CF _))))
              refine wpQuiet_nil ?_
              rintro _ ⟨y, rfl⟩
              go_wp2_with fail
              go_loopw [5] (fun i wq => ∃ (j : Nat) (y : ι), i = .int .i64 j ∧ j ≤ k ∧ wq = f y ∧ Hid (∀ i, i < j → (elAt zs i).p ≠ (elAt zs k).p)) (fun i _ => k - (intOf i).toNat)
              case atStart => exact ⟨0, y, rfl, Nat.zero_le _, rfl, hide (fun i hi => by omega)⟩
              case round =>
                obtain ⟨j, y2, rfl, hj, hwq, AP⟩ := hrel
                subst hwq
                by_cases hjl : j < k
                · have hji : (j : Int) < (k : Int) := by omega
                  have hj0 : (0 : Int) ≤ (j : Int) := by omega
                  have hjn : (j : Int) < (ls.length : Int) := by omega
                  obtain ⟨Y, hY⟩ : ∃ z, (elAt ls j).p = z := ⟨_, rfl⟩
                  have ej : (elAt zs j).p = Y := by rw [elAt_lx (unhide HE) (by omega), ← hY]; rfl
                  have ek : (elAt zs k).p = x.p := by rw [unhide HEK]; rfl
                  have m0 := fun y => ((unhide CELL) j (by omega) y).1
                  rw [hY] at m0
                  clear hY
                  by_cases eq : Y = x.p
                  · have HR : Hid (abB s zs = false) := hide (abB_no (i := k) (by have := unhide HZL; omega) (abI_no5 hjl (by rw [ej, ek]; exact eq)))
                    clear AP AL ej ek HG
                    subst eq
                    go_wp2_with fail
                    refine wp_region_bel (fun w' h => (unhide HAL) w' ((unhide HF _).trans (h.mono (unhide HF _).size))) (by kernel_rfl) (by kernel_rfl) ?_
                    repeat (go_big_quiet_step (fail))
                    refine wpQuiet_nil ?_
                    rintro _ ⟨y, rfl⟩
                    go_wp2_with fail
                    go_ret
                    exact ⟨ret_bool (unhide HR).symm, unhide HBF y⟩
                  · have d1 := txl_ne eq
                    have AP2 : Hid (∀ i, i < j + 1 → (elAt zs i).p ≠ (elAt zs k).p) := hide (fun i hi => by
                      by_cases e3 : i = j
                      · rw [e3, ej, ek]; exact eq
                      · exact (unhide AP) i (by omega))
                    clear AP ej ek
                    go_wp2_with fail
                    refine wp_region_bel (fun w' h => (unhide HAL) w' ((unhide HF _).trans (h.mono (unhide HF _).size))) (by kernel_rfl) (by kernel_rfl) ?_
                    repeat (go_big_quiet_step (fail))
                    refine wpQuiet_nil ?_
                    rintro _ ⟨y, rfl⟩
                    go_wp2_with fail
                    go_roundw
                    case rel => exact ⟨j + 1, y, by go_num, by omega, rfl, AP2⟩
                    case measure => simp [intOf]; omega
                · have hji : ¬ (j : Int) < (k : Int) := by omega
                  have AL2 : Hid (∀ j, j < k + 1 → abI s zs j = true) := hide (fun i hi => by
                    by_cases e3 : i = k
                    · rw [e3]; exact (unhide HG) (fun i hi => (unhide AP) i (by omega))
                    · exact (unhide AL) i (by omega))
                  have KB2 := hide ((unhide KBV).below (unhide HF y2))
                  have BW2 := hide ((unhide HBF) y2)
                  go_wp2_with fail
                  go_roundw
                  case rel => exact ⟨k + 1, by go_num, by omega, KB2, BW2, AL2⟩
                  case measure => simp [intOf]; omega
            · have d4 : (x.ne != 0) = true := by simpa using q4
              have d4e : decide (x.ne = 0) = false := by simpa using q4
              by_cases q5 : x.ne = x.nb
              · have d5 : (x.ne == x.nb) = true := by simpa using q5
                have d5' : decide (x.ne = x.nb) = true := by simpa using q5
                have Q5 := hide q5
                clear q5
                have HR : Hid (abB s zs = false) := hide (abB_no (i := k) (by have := unhide HZL; omega) (abI_no4 (by rw [unhide HEK]; exact q4) (by rw [unhide HEK]; exact .inl (unhide Q5))))
                clear AL
                refine wp_region_bel (fun w' h => (unhide HAL) w' ((unhide HF _).trans (h.mono (unhide HF _).size))) (by kernel_rfl) (by kernel_rfl) ?_
                repeat (go_big_quiet_step (first | (go_at_call 88; exact belQ (unhide HF) (unhide HAL) (unhide CL _)) | (go_at_call 60; exact belS (l1In_is _ _ _ _ (by exact q3))) | (go_at_call 61; exact belQ (unhide HF) (unhide HAL) (unhide CF _))))
                refine wpQuiet_nil ?_
                rintro _ ⟨y, rfl⟩
                go_wp2_with fail
                go_ret
                exact ⟨ret_bool (unhide HR).symm, unhide HBF y⟩
              · have d5 : (x.ne == x.nb) = false := by simpa using q5
                have d5' : decide (x.ne = x.nb) = false := by simpa using q5
                by_cases q6 : fnF zs x.ne < 0
                · have d6 : decide (fnF zs x.ne < 0) = true := by simpa using q6
                  have HR : Hid (abB s zs = false) := hide (abB_no (i := k) (by have := unhide HZL; omega) (abI_no4 (by rw [unhide HEK]; exact q4) (by rw [unhide HEK]; exact .inr q6)))
                  clear AL
                  refine wp_region_bel (fun w' h => (unhide HAL) w' ((unhide HF _).trans (h.mono (unhide HF _).size))) (by kernel_rfl) (by kernel_rfl) ?_
                  repeat (go_big_quiet_step (first | (go_at_call 88; exact belQ (unhide HF) (unhide HAL) (unhide CL _)) | (go_at_call 60; exact belS (l1In_is _ _ _ _ (by exact q3))) | (go_at_call 61; exact belQ (unhide HF) (unhide HAL) (unhide CF _))))
                  refine wpQuiet_nil ?_
                  rintro _ ⟨y, rfl⟩
                  go_wp2_with fail
                  go_ret
                  exact ⟨ret_bool (unhide HR).symm, unhide HBF y⟩
                · have d6 : decide (fnF zs x.ne < 0) = false := by simpa using q6
                  have HG : Hid ((∀ i, i < k → (elAt zs i).p ≠ (elAt zs k).p) → abI s zs k = true) := hide (fun h5 => abI_yes (by rw [unhide HEK]; exact q1) (fun h => by have := unhide K00; omega) (by rw [unhide HEK]; exact q3) (by rw [unhide HEK]; intro _; exact ⟨q5, by show 0 ≤ fnF zs x.ne; omega⟩) h5)
                  refine wp_region_bel (fun w' h => (unhide HAL) w' ((unhide HF _).trans (h.mono (unhide HF _).size))) (by kernel_rfl) (by kernel_rfl) ?_
                  repeat (go_big_quiet_step (first | (go_at_call 88; exact belQ (unhide HF) (unhide HAL) (unhide CL _)) | (go_at_call 60; exact belS (l1In_is _ _ _ _ (by exact q3))) | (go_at_call 61; exact belQ (unhide HF) (unhide HAL) (unhide CF _))))
                  refine wpQuiet_nil ?_
                  rintro _ ⟨y, rfl⟩
                  go_wp2_with fail
                  go_loopw [5] (fun i wq => ∃ (j : Nat) (y : ι), i = .int .i64 j ∧ j ≤ k ∧ wq = f y ∧ Hid (∀ i, i < j → (elAt zs i).p ≠ (elAt zs k).p)) (fun i _ => k - (intOf i).toNat)
                  case atStart => exact ⟨0, y, rfl, Nat.zero_le _, rfl, hide (fun i hi => by omega)⟩
                  case round =>
                    obtain ⟨j, y2, rfl, hj, hwq, AP⟩ := hrel
                    subst hwq
                    by_cases hjl : j < k
                    · have hji : (j : Int) < (k : Int) := by omega
                      have hj0 : (0 : Int) ≤ (j : Int) := by omega
                      have hjn : (j : Int) < (ls.length : Int) := by omega
                      obtain ⟨Y, hY⟩ : ∃ z, (elAt ls j).p = z := ⟨_, rfl⟩
                      have ej : (elAt zs j).p = Y := by rw [elAt_lx (unhide HE) (by omega), ← hY]; rfl
                      have ek : (elAt zs k).p = x.p := by rw [unhide HEK]; rfl
                      have m0 := fun y => ((unhide CELL) j (by omega) y).1
                      rw [hY] at m0
                      clear hY
                      by_cases eq : Y = x.p
                      · have HR : Hid (abB s zs = false) := hide (abB_no (i := k) (by have := unhide HZL; omega) (abI_no5 hjl (by rw [ej, ek]; exact eq)))
                        clear AP AL ej ek HG
                        subst eq
                        go_wp2_with fail
                        refine wp_region_bel (fun w' h => (unhide HAL) w' ((unhide HF _).trans (h.mono (unhide HF _).size))) (by kernel_rfl) (by kernel_rfl) ?_
                        repeat (go_big_quiet_step (fail))
                        refine wpQuiet_nil ?_
                        rintro _ ⟨y, rfl⟩
                        go_wp2_with fail
                        go_ret
                        exact ⟨ret_bool (unhide HR).symm, unhide HBF y⟩
                      · have d1 := txl_ne eq
                        have AP2 : Hid (∀ i, i < j + 1 → (elAt zs i).p ≠ (elAt zs k).p) := hide (fun i hi => by
                          by_cases e3 : i = j
                          · rw [e3, ej, ek]; exact eq
                          · exact (unhide AP) i (by omega))
                        clear AP ej ek
                        go_wp2_with fail
                        refine wp_region_bel (fun w' h => (unhide HAL) w' ((unhide HF _).trans (h.mono (unhide HF _).size))) (by kernel_rfl) (by kernel_rfl) ?_
                        repeat (go_big_quiet_step (fail))
                        refine wpQuiet_nil ?_
                        rintro _ ⟨y, rfl⟩
                        go_wp2_with fail
                        go_roundw
                        case rel => exact ⟨j + 1, y, by go_num, by omega, rfl, AP2⟩
                        case measure => simp [intOf]; omega
                    · have hji : ¬ (j : Int) < (k : Int) := by omega
                      have AL2 : Hid (∀ j, j < k + 1 → abI s zs j = true) := hide (fun i hi => by
                        by_cases e3 : i = k
                        · rw [e3]; exact (unhide HG) (fun i hi => (unhide AP) i (by omega))
                        · exact (unhide AL) i (by omega))
                      have KB2 := hide ((unhide KBV).below (unhide HF y2))
                      have BW2 := hide ((unhide HBF) y2)
                      go_wp2_with fail
                      go_roundw
                      case rel => exact ⟨k + 1, by go_num, by omega, KB2, BW2, AL2⟩
                      case measure => simp [intOf]; omega
        · obtain ⟨m, hm⟩ : ∃ m, m + 1 = k := ⟨k - 1, by omega⟩
          have dk : decide ((0 : Int) < (k : Int)) = true := by simp only [decide_eq_true_eq]; omega
          have dkn : decide (0 < k) = true := by simp only [decide_eq_true_eq]; omega
          have hsub : (k : Int) - 1 = (m : Int) := by omega
          have hm1 : (m : Int) < (ls.length : Int) := by omega
          have hm0 : (0 : Int) ≤ (m : Int) := by omega
          obtain ⟨P, hP⟩ : ∃ z, (elAt ls m).nb = z := ⟨_, rfl⟩
          have ep : (elAt zs (k - 1)).nb = P := by rw [show k - 1 = m by omega, elAt_lx (unhide HE) (by omega), ← hP]; rfl
          have m1 := fun y => ((unhide CELL) m (by omega) y).2
          rw [hP] at m1
          have HEP := hide ep
          have HMK := hide hm
          clear hP ep hm
          by_cases q2 : x.nb ≤ P
          · have d2 : decide (x.nb ≤ P) = true := by simpa using q2
            have HR : Hid (abB s zs = false) := hide (abB_no (i := k) (by have := unhide HZL; omega) (abI_no2 (by omega) (by rw [unhide HEK, unhide HEP]; exact q2)))
            clear AL
            refine wp_region_bel (fun w' h => (unhide HAL) w' ((unhide HF _).trans (h.mono (unhide HF _).size))) (by kernel_rfl) (by kernel_rfl) ?_
            repeat (go_big_quiet_step (first | (go_at_call 88; exact belQ (unhide HF) (unhide HAL) (unhide CL _)) | (go_at_call 60; exact belS (l1In_is _ _ _ _ rfl)) | (go_at_call 61; exact belQ (unhide HF) (unhide HAL) (unhide CF _))))
            refine wpQuiet_nil ?_
            rintro _ ⟨y, rfl⟩
            go_wp2_with fail
            go_ret
            exact ⟨ret_bool (unhide HR).symm, unhide HBF y⟩
          · have d2 : decide (x.nb ≤ P) = false := by simpa using q2
            cases q3 : inB s x.le x.mo with
            | false =>
              have HR : Hid (abB s zs = false) := hide (abB_no (i := k) (by have := unhide HZL; omega) (abI_no3 (by rw [unhide HEK]; exact q3)))
              clear AL
              refine wp_region_bel (fun w' h => (unhide HAL) w' ((unhide HF _).trans (h.mono (unhide HF _).size))) (by kernel_rfl) (by kernel_rfl) ?_
              repeat (go_big_quiet_step (first | (go_at_call 88; exact belQ (unhide HF) (unhide HAL) (unhide CL _)) | (go_at_call 60; exact belS (l1In_is _ _ _ _ (by exact q3))) | (go_at_call 61; exact belQ (unhide HF) (unhide HAL) (unhide CF _))))
              refine wpQuiet_nil ?_
              rintro _ ⟨y, rfl⟩
              go_wp2_with fail
              go_ret
              exact ⟨ret_bool (unhide HR).symm, unhide HBF y⟩
            | true =>
              by_cases q4 : x.ne = 0
              · have d4 : (x.ne != 0) = false := by simpa using q4
                have d4e : decide (x.ne = 0) = true := by simpa using q4
                have Q4 := hide q4
                clear q4
                have HG : Hid ((∀ i, i < k → (elAt zs i).p ≠ (elAt zs k).p) → abI s zs k = true) := hide (fun h5 => abI_yes (by rw [unhide HEK]; exact q1) (fun h => by rw [unhide HEK, unhide HEP]; show P < x.nb; omega) (by rw [unhide HEK]; exact q3) (by rw [unhide HEK]; intro q; exact absurd (unhide Q4) q) h5)
                refine wp_region_bel (fun w' h => (unhide HAL) w' ((unhide HF _).trans (h.mono (unhide HF _).size))) (by kernel_rfl) (by kernel_rfl) ?_
                repeat (go_big_quiet_step (first | (go_at_call 88; exact belQ (unhide HF) (unhide HAL) (unhide CL _)) | (go_at_call 60; exact belS (l1In_is _ _ _ _ (by exact q3))) | (go_at_call 61; exact belQ (unhide HF) (unhide HAL) (unhide CF _))))
                refine wpQuiet_nil ?_
                rintro _ ⟨y, rfl⟩
                go_wp2_with fail
                go_loopw [5] (fun i wq => ∃ (j : Nat) (y : ι), i = .int .i64 j ∧ j ≤ k ∧ wq = f y ∧ Hid (∀ i, i < j → (elAt zs i).p ≠ (elAt zs k).p)) (fun i _ => k - (intOf i).toNat)
                case atStart => exact ⟨0, y, rfl, Nat.zero_le _, rfl, hide (fun i hi => by omega)⟩
                case round =>
                  obtain ⟨j, y2, rfl, hj, hwq, AP⟩ := hrel
                  subst hwq
                  by_cases hjl : j < k
                  · have hji : (j : Int) < (k : Int) := by omega
                    have hj0 : (0 : Int) ≤ (j : Int) := by omega
                    have hjn : (j : Int) < (ls.length : Int) := by omega
                    obtain ⟨Y, hY⟩ : ∃ z, (elAt ls j).p = z := ⟨_, rfl⟩
                    have ej : (elAt zs j).p = Y := by rw [elAt_lx (unhide HE) (by omega), ← hY]; rfl
                    have ek : (elAt zs k).p = x.p := by rw [unhide HEK]; rfl
                    have m0 := fun y => ((unhide CELL) j (by omega) y).1
                    rw [hY] at m0
                    clear hY
                    by_cases eq : Y = x.p
                    · have HR : Hid (abB s zs = false) := hide (abB_no (i := k) (by have := unhide HZL; omega) (abI_no5 hjl (by rw [ej, ek]; exact eq)))
                      clear AP AL ej ek HG
                      subst eq
                      go_wp2_with fail
                      refine wp_region_bel (fun w' h => (unhide HAL) w' ((unhide HF _).trans (h.mono (unhide HF _).size))) (by kernel_rfl) (by kernel_rfl) ?_
                      repeat (go_big_quiet_step (fail))
                      refine wpQuiet_nil ?_
                      rintro _ ⟨y, rfl⟩
                      go_wp2_with fail
                      go_ret
                      exact ⟨ret_bool (unhide HR).symm, unhide HBF y⟩
                    · have d1 := txl_ne eq
                      have AP2 : Hid (∀ i, i < j + 1 → (elAt zs i).p ≠ (elAt zs k).p) := hide (fun i hi => by
                        by_cases e3 : i = j
                        · rw [e3, ej, ek]; exact eq
                        · exact (unhide AP) i (by omega))
                      clear AP ej ek
                      go_wp2_with fail
                      refine wp_region_bel (fun w' h => (unhide HAL) w' ((unhide HF _).trans (h.mono (unhide HF _).size))) (by kernel_rfl) (by kernel_rfl) ?_
                      repeat (go_big_quiet_step (fail))
                      refine wpQuiet_nil ?_
                      rintro _ ⟨y, rfl⟩
                      go_wp2_with fail
                      go_roundw
                      case rel => exact ⟨j + 1, y, by go_num, by omega, rfl, AP2⟩
                      case measure => simp [intOf]; omega
                  · have hji : ¬ (j : Int) < (k : Int) := by omega
                    have AL2 : Hid (∀ j, j < k + 1 → abI s zs j = true) := hide (fun i hi => by
                      by_cases e3 : i = k
                      · rw [e3]; exact (unhide HG) (fun i hi => (unhide AP) i (by omega))
                      · exact (unhide AL) i (by omega))
                    have KB2 := hide ((unhide KBV).below (unhide HF y2))
                    have BW2 := hide ((unhide HBF) y2)
                    go_wp2_with fail
                    go_roundw
                    case rel => exact ⟨k + 1, by go_num, by omega, KB2, BW2, AL2⟩
                    case measure => simp [intOf]; omega
              · have d4 : (x.ne != 0) = true := by simpa using q4
                have d4e : decide (x.ne = 0) = false := by simpa using q4
                by_cases q5 : x.ne = x.nb
                · have d5 : (x.ne == x.nb) = true := by simpa using q5
                  have d5' : decide (x.ne = x.nb) = true := by simpa using q5
                  have Q5 := hide q5
                  clear q5
                  have HR : Hid (abB s zs = false) := hide (abB_no (i := k) (by have := unhide HZL; omega) (abI_no4 (by rw [unhide HEK]; exact q4) (by rw [unhide HEK]; exact .inl (unhide Q5))))
                  clear AL
                  refine wp_region_bel (fun w' h => (unhide HAL) w' ((unhide HF _).trans (h.mono (unhide HF _).size))) (by kernel_rfl) (by kernel_rfl) ?_
                  repeat (go_big_quiet_step (first | (go_at_call 88; exact belQ (unhide HF) (unhide HAL) (unhide CL _)) | (go_at_call 60; exact belS (l1In_is _ _ _ _ (by exact q3))) | (go_at_call 61; exact belQ (unhide HF) (unhide HAL) (unhide CF _))))
                  refine wpQuiet_nil ?_
                  rintro _ ⟨y, rfl⟩
                  go_wp2_with fail
                  go_ret
                  exact ⟨ret_bool (unhide HR).symm, unhide HBF y⟩
                · have d5 : (x.ne == x.nb) = false := by simpa using q5
                  have d5' : decide (x.ne = x.nb) = false := by simpa using q5
                  by_cases q6 : fnF zs x.ne < 0
                  · have d6 : decide (fnF zs x.ne < 0) = true := by simpa using q6
                    have HR : Hid (abB s zs = false) := hide (abB_no (i := k) (by have := unhide HZL; omega) (abI_no4 (by rw [unhide HEK]; exact q4) (by rw [unhide HEK]; exact .inr q6)))
                    clear AL
                    refine wp_region_bel (fun w' h => (unhide HAL) w' ((unhide HF _).trans (h.mono (unhide HF _).size))) (by kernel_rfl) (by kernel_rfl) ?_
                    repeat (go_big_quiet_step (first | (go_at_call 88; exact belQ (unhide HF) (unhide HAL) (unhide CL _)) | (go_at_call 60; exact belS (l1In_is _ _ _ _ (by exact q3))) | (go_at_call 61; exact belQ (unhide HF) (unhide HAL) (unhide CF _))))
                    refine wpQuiet_nil ?_
                    rintro _ ⟨y, rfl⟩
                    go_wp2_with fail
                    go_ret
                    exact ⟨ret_bool (unhide HR).symm, unhide HBF y⟩
                  · have d6 : decide (fnF zs x.ne < 0) = false := by simpa using q6
                    have HG : Hid ((∀ i, i < k → (elAt zs i).p ≠ (elAt zs k).p) → abI s zs k = true) := hide (fun h5 => abI_yes (by rw [unhide HEK]; exact q1) (fun h => by rw [unhide HEK, unhide HEP]; show P < x.nb; omega) (by rw [unhide HEK]; exact q3) (by rw [unhide HEK]; intro _; exact ⟨q5, by show 0 ≤ fnF zs x.ne; omega⟩) h5)
                    refine wp_region_bel (fun w' h => (unhide HAL) w' ((unhide HF _).trans (h.mono (unhide HF _).size))) (by kernel_rfl) (by kernel_rfl) ?_
                    repeat (go_big_quiet_step (first | (go_at_call 88; exact belQ (unhide HF) (unhide HAL) (unhide CL _)) | (go_at_call 60; exact belS (l1In_is _ _ _ _ (by exact q3))) | (go_at_call 61; exact belQ (unhide HF) (unhide HAL) (unhide CF _))))
                    refine wpQuiet_nil ?_
                    rintro _ ⟨y, rfl⟩
                    go_wp2_with fail
                    go_loopw [5] (fun i wq => ∃ (j : Nat) (y : ι), i = .int .i64 j ∧ j ≤ k ∧ wq = f y ∧ Hid (∀ i, i < j → (elAt zs i).p ≠ (elAt zs k).p)) (fun i _ => k - (intOf i).toNat)
                    case atStart => exact ⟨0, y, rfl, Nat.zero_le _, rfl, hide (fun i hi => by omega)⟩
                    case round =>
                      obtain ⟨j, y2, rfl, hj, hwq, AP⟩ := hrel
                      subst hwq
                      by_cases hjl : j < k
                      · have hji : (j : Int) < (k : Int) := by omega
                        have hj0 : (0 : Int) ≤ (j : Int) := by omega
                        have hjn : (j : Int) < (ls.length : Int) := by omega
                        obtain ⟨Y, hY⟩ : ∃ z, (elAt ls j).p = z := ⟨_, rfl⟩
                        have ej : (elAt zs j).p = Y := by rw [elAt_lx (unhide HE) (by omega), ← hY]; rfl
                        have ek : (elAt zs k).p = x.p := by rw [unhide HEK]; rfl
                        have m0 := fun y => ((unhide CELL) j (by omega) y).1
                        rw [hY] at m0
                        clear hY
                        by_cases eq : Y = x.p
                        · have HR : Hid (abB s zs = false) := hide (abB_no (i := k) (by have := unhide HZL; omega) (abI_no5 hjl (by rw [ej, ek]; exact eq)))
                          clear AP AL ej ek HG
                          subst eq
                          go_wp2_with fail
                          refine wp_region_bel (fun w' h => (unhide HAL) w' ((unhide HF _).trans (h.mono (unhide HF _).size))) (by kernel_rfl) (by kernel_rfl) ?_
                          repeat (go_big_quiet_step (fail))
                          refine wpQuiet_nil ?_
                          rintro _ ⟨y, rfl⟩
                          go_wp2_with fail
                          go_ret
                          exact ⟨ret_bool (unhide HR).symm, unhide HBF y⟩
                        · have d1 := txl_ne eq
                          have AP2 : Hid (∀ i, i < j + 1 → (elAt zs i).p ≠ (elAt zs k).p) := hide (fun i hi => by
                            by_cases e3 : i = j
                            · rw [e3, ej, ek]; exact eq
                            · exact (unhide AP) i (by omega))
                          clear AP ej ek
                          go_wp2_with fail
                          refine wp_region_bel (fun w' h => (unhide HAL) w' ((unhide HF _).trans (h.mono (unhide HF _).size))) (by kernel_rfl) (by kernel_rfl) ?_
                          repeat (go_big_quiet_step (fail))
                          refine wpQuiet_nil ?_
                          rintro _ ⟨y, rfl⟩
                          go_wp2_with fail
                          go_roundw
                          case rel => exact ⟨j + 1, y, by go_num, by omega, rfl, AP2⟩
                          case measure => simp [intOf]; omega
                      · have hji : ¬ (j : Int) < (k : Int) := by omega
                        have AL2 : Hid (∀ j, j < k + 1 → abI s zs j = true) := hide (fun i hi => by
                          by_cases e3 : i = k
                          · rw [e3]; exact (unhide HG) (fun i hi => (unhide AP) i (by omega))
                          · exact (unhide AL) i (by omega))
                        have KB2 := hide ((unhide KBV).below (unhide HF y2))
                        have BW2 := hide ((unhide HBF) y2)
                        go_wp2_with fail
                        go_roundw
                        case rel => exact ⟨k + 1, by go_num, by omega, KB2, BW2, AL2⟩
                        case measure => simp [intOf]; omega
    · have hi1 : ¬ (k : Int) < (ls.length : Int) := by omega
      have HA2 := hide (abB_all (s := s) (ls := zs) (fun i hi => (unhide AL) i (by have := unhide HZL; omega)))
      have g0 : wr.cell? ⟨w.heap.size, 0, none⟩ = some (.int .i64 s) := (unhide KB).c 0 (by simp)
      have HZ2 : Hid (decide (zs.length ≤ 30) = decide ((ls.length : Int) ≤ 30)) := hide (by have := unhide HZL; simp only [decide_eq_decide]; omega)
      cases q1 : inB s 1 1000000 with
      | false =>
        go_wp2_with (go_at_call 60; refine (l1In_is _ _ _ _ (by exact q1)).mono ?_; rintro e w' ⟨rfl, hw⟩; subst w')
        go_ret
        exact ⟨ret_bool (by rw [unhide HA2, q1]; rfl), unhide BW⟩
      | true =>
        go_wp2_with (go_at_call 60; refine (l1In_is _ _ _ _ (by exact q1)).mono ?_; rintro e w' ⟨rfl, hw⟩; subst w')
        go_ret
        exact ⟨ret_bool (by rw [unhide HA2, unhide HZ2, q1, Bool.true_and]), unhide BW⟩

end Go.Proofs.YtemodlgmjgdjpaaGreatDoor
