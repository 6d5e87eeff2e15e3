/-
  Whether what a load needs is aboard, whether each load belongs, whether loads are sound, and AboardOk, in the program: plain answers; nothing that was there is written.
  Whether loads are sound, and AboardOk, in the program: plain answers; nothing that was there is written.
  The program's Drop18: the plain answer, in memory of its own; nothing that was there is written. At lists of at most 1048576.
-/
import Derived.Test.YtlpomplldgmkmbaAi1
import Derived.Test.YtlpomplldgmkmbaAiLst
import Derived.Test.YtlpomplldgmkmbaLdAny
import Derived.Test.YtlpomplldgmkmbaTa1
import Derived.Test.YtlpomplldgmkmbaDl1

namespace Go.Proofs.Ytlpomplldgmkmba
open Go Go.RowKit

theorem haB_zero {zs : List Lc} {l : Lc} (h : l.ne = 0) : haB zs l = true := by simp [haB, h]
theorem haB_none {zs : List Lc} {l : Lc} (h : ¬ l.ne = 0) (h2 : fnF zs l.ne = -1) : haB zs l = false := by simp [haB, h, h2]
theorem haB_at {zs : List Lc} {l : Lc} {k : Nat} {b : Bool} (h : ¬ l.ne = 0) (h2 : fnF zs l.ne = (k : Int)) (h3 : decide ((elAt zs k).p ≠ l.p) = b) : haB zs l = b := by
  unfold haB
  rw [decide_eq_false h, h2, decide_eq_true (by omega : (k : Int) ≠ -1), Int.toNat_natCast, h3]; simp
set_option maxRecDepth 20000 in
set_option maxHeartbeats 4000000 in
theorem hasNeeds_any (s : Int) (a1 : Option Addr) (l1 c1 : Nat) (zs : List Lc) (x : Lx) (w : World) (hr : LsT w a1 l1 zs) :
    Calls Try.prog 82 #[.agg #[.int .i64 s, .slice a1 l1 c1], .agg #[.string x.p, .int .i64 x.nb, .int .i64 x.le, .int .i64 x.mo, .int .i64 x.ne, .slice x.d.a x.d.n x.d.c]] w fun e w' => e = .returned (.bool (haB zs (lxW x))) ∧ Below w.heap.size w w' := by
  have hzl := hr.len_eq
  obtain ⟨ls, e, hl⟩ := hr.ex
  have hz := hl.row.len_eq
  have HO := hide hl.row.six
  have HEL := hide hl.el
  have hsm := hl.row.small
  have HE := hide e
  have HZL := hide hzl
  have HT := hide hr
  subst hz
  clear hr hl e hzl
  obtain ⟨W, hW⟩ : ∃ W, W = (w.alloc (Obj.cells #[.int .i64 s, .slice a1 ls.length c1] 57)).alloc (Obj.cells #[.string x.p, .int .i64 x.nb, .int .i64 x.le, .int .i64 x.mo, .int .i64 x.ne, .slice x.d.a x.d.n x.d.c] 44) := ⟨_, rfl⟩
  have KA : Hid (Blk W w.heap.size [.int .i64 s, .slice a1 ls.length c1]) := hide (by rw [hW]; exact (Blk.new _ _).alloc _)
  have KX : Hid (Blk W (w.heap.size + 1) [.string x.p, .int .i64 x.nb, .int .i64 x.le, .int .i64 x.mo, .int .i64 x.ne, .slice x.d.a x.d.n x.d.c]) := hide (by
    rw [hW]
    have := Blk.new (w := (w.alloc (Obj.cells #[.int .i64 s, .slice a1 ls.length c1] 57))) [.string x.p, .int .i64 x.nb, .int .i64 x.le, .int .i64 x.mo, .int .i64 x.ne, .slice x.d.a x.d.n x.d.c] 44
    simpa using this)
  have BW : Hid (Below w.heap.size w W) := hide (by rw [hW]; exact bel2 _ _)
  have a0 : W.cell? ⟨w.heap.size, 0, none⟩ = some (.int .i64 s) := (unhide KA).c 0 (by simp)
  have a1' : W.cell? ⟨w.heap.size, 1, none⟩ = some (.slice a1 ls.length c1) := (unhide KA).c 1 (by simp)
  have x4 : W.cell? ⟨w.heap.size + 1, 4, none⟩ = some (.int .i64 x.ne) := (unhide KX).c 4 (by simp)
  have HW := hide hW
  have a0s := a0
  have a1s := a1'
  have x4s := x4
  rw [hW] at a0s a1s x4s
  clear hW
  by_cases q0 : x.ne = 0
  · have d0 : decide (x.ne = 0) = true := by simpa using q0
    have d1 : (x.ne == 0) = true := by simpa using q0
    have HR : Hid (haB zs (lxW x) = true) := hide (haB_zero q0)
    clear q0
    go_enter Try.func82, Try.ntmps82
    go_wp2_with fail
    go_ret
    exact ⟨ret_bool (unhide HR).symm, by have := unhide BW; rw [unhide HW] at this; exact this⟩
  · have d0 : decide (x.ne = 0) = false := by simpa using q0
    have d1 : (x.ne == 0) = false := by simpa using q0
    have CF : Hid (∀ F, fnF zs x.ne = F → Calls Try.prog 65 #[.agg #[.int .i64 s, .slice a1 ls.length c1], .int .i64 x.ne] W fun e w' => e = .returned (.int .i64 F) ∧ Below W.heap.size W w') := hide (fun F hF => by have := placeNb_any s a1 ls.length c1 zs x.ne W ((unhide HT).below (unhide BW)); rw [hF] at this; exact this)
    rcases fnF_cases zs x.ne with ⟨hF, _⟩ | ⟨k, hk, hF, _, _⟩
    · have HR : Hid (haB zs (lxW x) = false) := hide (haB_none q0 hF)
      have HFF := hide hF
      clear hF q0
      go_enter Try.func82, Try.ntmps82
      go_wp2_with fail
      rw [← unhide HW]
      clear HW a0s a1s x4s
      refine (unhide CF _ (unhide HFF)).mono ?_
      rintro e w2 ⟨rfl, b2⟩
      have HW2 := hide ((unhide BW).trans (b2.mono (unhide BW).size))
      have KA2 := hide ((unhide KA).below b2)
      have KX2 := hide ((unhide KX).below b2)
      clear b2 a0 a1' x4
      obtain ⟨ι, f, _, hbf, hall⟩ := belClass w2
      have HF := hide hbf
      have HAL := hide hall
      have HBF : Hid (∀ y, Below w.heap.size w (f y)) := hide (fun y => (unhide HW2).trans ((hbf y).mono (unhide HW2).size))
      have b1 : ∀ y, (f y).cell? ⟨w.heap.size, 1, none⟩ = some (.slice a1 ls.length c1) := fun y => ((unhide KA2).below (hbf y)).c 1 (by simp)
      have p0 : ∀ y, (f y).cell? ⟨w.heap.size + 1, 0, none⟩ = some (.string x.p) := fun y => ((unhide KX2).below (hbf y)).c 0 (by simp)
      clear hbf hall
      obtain ⟨x0, hx0⟩ := (unhide HAL) w2 (Below.refl _ _)
      rw [hx0]
      clear hx0
      go_wp2_with fail
      refine wp_region_bel (fun w' h => (unhide HAL) w' ((unhide HF _).trans (h.mono (unhide HF _).size))) (by kernel_rfl) (by kernel_rfl) ?_
      repeat (go_big_quiet_step (fail))
      refine wpQuiet_nil ?_
      rintro _ ⟨y, rfl⟩
      go_wp2_with fail
      go_ret
      exact ⟨ret_bool (unhide HR).symm, unhide HBF y⟩
    · have hlt : k < ls.length := by have := unhide HZL; omega
      rcases (unhide HO) with ⟨h0, _⟩ | ⟨bb, off, rfl, _, hc⟩
      · omega
      have hi1 : (k : Int) < (ls.length : Int) := by omega
      have hi0 : (0 : Int) ≤ (k : Int) := by omega
      have n1 : ((k : Int) != -1) = true := by simp only [bne_iff_ne, ne_eq]; omega
      have n2 : decide ((k : Int) = -1) = false := by simp only [decide_eq_false_iff_not]; omega
      obtain ⟨Y, hY⟩ : ∃ z, (elAt ls k).p = z := ⟨_, rfl⟩
      have ej : (elAt zs k).p = Y := by rw [elAt_lx (unhide HE) hlt, ← hY]; rfl
      have m0 := (hc k hlt).1
      rw [hY] at m0
      have HM := hide m0
      have HFF := hide hF
      clear hY hc m0
      by_cases e : Y = x.p
      · have HR : Hid (haB zs (lxW x) = false) := hide (haB_at q0 hF (by rw [ej, e]; simp [lxW]))
        subst e
        clear hF q0 ej
        go_enter Try.func82, Try.ntmps82
        go_wp2_with fail
        rw [← unhide HW]
        clear HW a0s a1s x4s
        refine (unhide CF _ (unhide HFF)).mono ?_
        rintro e w2 ⟨rfl, b2⟩
        have HW2 := hide ((unhide BW).trans (b2.mono (unhide BW).size))
        have KA2 := hide ((unhide KA).below b2)
        have KX2 := hide ((unhide KX).below b2)
        clear b2 a0 a1' x4
        obtain ⟨ι, f, _, hbf, hall⟩ := belClass w2
        have HF := hide hbf
        have HAL := hide hall
        have HBF : Hid (∀ y, Below w.heap.size w (f y)) := hide (fun y => (unhide HW2).trans ((hbf y).mono (unhide HW2).size))
        have b1 : ∀ y, (f y).cell? ⟨w.heap.size, 1, none⟩ = some (.slice (some ⟨bb, off, none⟩) ls.length c1) := fun y => ((unhide KA2).below (hbf y)).c 1 (by simp)
        have p0 : ∀ y, (f y).cell? ⟨w.heap.size + 1, 0, none⟩ = some (.string x.p) := fun y => ((unhide KX2).below (hbf y)).c 0 (by simp)
        have m0 : ∀ y, (f y).cell? ⟨bb, off + k * 6, none⟩ = some (.string x.p) := fun y => ((unhide HBF y).cell (block_lt_of_cell (unhide HM))).trans (unhide HM)
        clear hbf hall
        obtain ⟨x0, hx0⟩ := (unhide HAL) w2 (Below.refl _ _)
        rw [hx0]
        clear hx0
        go_wp2_with fail
        refine wp_region_bel (fun w' h => (unhide HAL) w' ((unhide HF _).trans (h.mono (unhide HF _).size))) (by kernel_rfl) (by kernel_rfl) ?_
        repeat (go_big_quiet_step (fail))
        refine wpQuiet_nil ?_
        rintro _ ⟨y, rfl⟩
        go_wp2_with fail
        go_ret
        exact ⟨ret_bool (unhide HR).symm, unhide HBF y⟩
      · have HR : Hid (haB zs (lxW x) = true) := hide (haB_at q0 hF (by rw [ej]; exact decide_eq_true e))
        have d2 := txl_ne' e
        clear hF q0 ej e
        go_enter Try.func82, Try.ntmps82
        go_wp2_with fail
        rw [← unhide HW]
        clear HW a0s a1s x4s
        refine (unhide CF _ (unhide HFF)).mono ?_
        rintro e w2 ⟨rfl, b2⟩
        have HW2 := hide ((unhide BW).trans (b2.mono (unhide BW).size))
        have KA2 := hide ((unhide KA).below b2)
        have KX2 := hide ((unhide KX).below b2)
        clear b2 a0 a1' x4
        obtain ⟨ι, f, _, hbf, hall⟩ := belClass w2
        have HF := hide hbf
        have HAL := hide hall
        have HBF : Hid (∀ y, Below w.heap.size w (f y)) := hide (fun y => (unhide HW2).trans ((hbf y).mono (unhide HW2).size))
        have b1 : ∀ y, (f y).cell? ⟨w.heap.size, 1, none⟩ = some (.slice (some ⟨bb, off, none⟩) ls.length c1) := fun y => ((unhide KA2).below (hbf y)).c 1 (by simp)
        have p0 : ∀ y, (f y).cell? ⟨w.heap.size + 1, 0, none⟩ = some (.string x.p) := fun y => ((unhide KX2).below (hbf y)).c 0 (by simp)
        have m0 : ∀ y, (f y).cell? ⟨bb, off + k * 6, none⟩ = some (.string Y) := fun y => ((unhide HBF y).cell (block_lt_of_cell (unhide HM))).trans (unhide HM)
        clear hbf hall
        obtain ⟨x0, hx0⟩ := (unhide HAL) w2 (Below.refl _ _)
        rw [hx0]
        clear hx0
        go_wp2_with fail
        refine wp_region_bel (fun w' h => (unhide HAL) w' ((unhide HF _).trans (h.mono (unhide HF _).size))) (by kernel_rfl) (by kernel_rfl) ?_
        repeat (go_big_quiet_step (fail))
        refine wpQuiet_nil ?_
        rintro _ ⟨y, rfl⟩
        go_wp2_with fail
        go_ret
        exact ⟨ret_bool (unhide HR).symm, unhide HBF y⟩
set_option maxRecDepth 20000 in
set_option maxHeartbeats 4000000 in
theorem eachBelongs_any (s : Int) (a1 : Option Addr) (l1 c1 : Nat) (zs : List Lc) (w : World) (hr : LsT w a1 l1 zs) :
    Calls Try.prog 60 #[.agg #[.int .i64 s, .slice a1 l1 c1]] w fun e w' => e = .returned (.bool (ebB s zs)) ∧ Below w.heap.size w w' := by
  have hzl := hr.len_eq
  obtain ⟨ls, e, hl⟩ := hr.ex
  have hz := hl.row.len_eq
  have HO := hide hl.row.six
  have HEL := hide hl.el
  have hsm := hl.row.small
  have HE := hide e
  have HZL := hide hzl
  have HT := hide hr
  subst hz
  clear hr hl e hzl
  obtain ⟨W, hW⟩ : ∃ W, W = (w.alloc (Obj.cells #[.int .i64 s, .slice a1 ls.length c1] 57)) := ⟨_, rfl⟩
  have K0 : Hid (Blk W w.heap.size [.int .i64 s, .slice a1 ls.length c1]) := hide (by rw [hW]; exact Blk.new _ _)
  have B0 : Hid (Below w.heap.size w W) := hide (by rw [hW]; exact bel1 _)
  have HW := hide hW
  clear hW
  go_enter Try.func60, Try.ntmps60
  go_wp2_with fail
  rw [← unhide HW]
  clear HW
  go_loopw [8] (fun i wr => ∃ k : Nat, i = .int .i64 k ∧ k ≤ ls.length ∧ Hid (Blk wr w.heap.size [.int .i64 s, .slice a1 ls.length c1]) ∧ Hid (Below w.heap.size w wr) ∧ Hid (∀ j, j < k → (inB s (elAt zs j).le (elAt zs j).mo && haB zs (elAt zs j)) = true)) (fun i _ => ls.length - (intOf i).toNat)
  case atStart => exact ⟨0, rfl, Nat.zero_le _, K0, B0, hide (fun j hj => by omega)⟩
  case round =>
    clear K0 B0
    obtain ⟨k, rfl, hk, KB, BW, AL⟩ := hrel
    by_cases hlt : k < ls.length
    · rcases (unhide HO) with ⟨h0, _⟩ | ⟨bb, off, rfl, _, hc⟩
      · omega
      have HC := hide hc
      obtain ⟨x, hx⟩ : ∃ x, elAt ls k = x := ⟨_, rfl⟩
      have el : elAt zs k = lxW x := by rw [← hx]; exact elAt_lx (unhide HE) hlt
      have hin := (unhide HEL) k hlt
      have q := hc k hlt
      rw [hx] at hin q
      have cl := fun {p : Addr} {v : Value} (h : w.cell? p = some v) => ((unhide BW).cell (p := p) (block_lt_of_cell h)).trans h
      have s0 := cl q.1
      have s1 := cl q.2.1
      have s2 := cl q.2.2.1
      have s3 := cl q.2.2.2.1
      have s4 := cl q.2.2.2.2.1
      have s5 := cl q.2.2.2.2.2
      have hi1 : (k : Int) < (ls.length : Int) := by omega
      have hi0 : (0 : Int) ≤ (k : Int) := by omega
      have HIN := hide hin
      have HEK := hide el
      clear q cl hx hc hin el
      have g0 : wr.cell? ⟨w.heap.size, 0, none⟩ = some (.int .i64 s) := (unhide KB).c 0 (by simp)
      obtain ⟨V, hV⟩ : ∃ V, V = wr.alloc (Obj.cells #[.string x.p, .int .i64 x.nb, .int .i64 x.le, .int .i64 x.mo, .int .i64 x.ne, .slice x.d.a x.d.n x.d.c] 44) := ⟨_, rfl⟩
      have KV : Hid (Blk V wr.heap.size [.string x.p, .int .i64 x.nb, .int .i64 x.le, .int .i64 x.mo, .int .i64 x.ne, .slice x.d.a x.d.n x.d.c]) := hide (by rw [hV]; exact Blk.new _ _)
      have bV : Below wr.heap.size wr V := by rw [hV]; exact bel1 _
      have KBV := hide ((unhide KB).below bV)
      have BV := hide ((unhide BW).trans (bV.mono (unhide BW).size))
      have c0v : V.cell? ⟨w.heap.size, 0, none⟩ = some (.int .i64 s) := (unhide KBV).c 0 (by simp)
      rw [hV] at c0v
      obtain ⟨ι, f, _, hbf, hall⟩ := belClass V
      have HF := hide hbf
      have HAL := hide hall
      have HBF : Hid (∀ y, Below w.heap.size w (f y)) := hide (fun y => (unhide BV).trans ((hbf y).mono (unhide BV).size))
      have v0 : ∀ y, (f y).cell? ⟨wr.heap.size, 0, none⟩ = some (.string x.p) := fun y => ((unhide KV).below (hbf y)).c 0 (by simp)
      have v1 : ∀ y, (f y).cell? ⟨wr.heap.size, 1, none⟩ = some (.int .i64 x.nb) := fun y => ((unhide KV).below (hbf y)).c 1 (by simp)
      have v2 : ∀ y, (f y).cell? ⟨wr.heap.size, 2, none⟩ = some (.int .i64 x.le) := fun y => ((unhide KV).below (hbf y)).c 2 (by simp)
      have v3 : ∀ y, (f y).cell? ⟨wr.heap.size, 3, none⟩ = some (.int .i64 x.mo) := fun y => ((unhide KV).below (hbf y)).c 3 (by simp)
      have v4 : ∀ y, (f y).cell? ⟨wr.heap.size, 4, none⟩ = some (.int .i64 x.ne) := fun y => ((unhide KV).below (hbf y)).c 4 (by simp)
      have v5 : ∀ y, (f y).cell? ⟨wr.heap.size, 5, none⟩ = some (.slice x.d.a x.d.n x.d.c) := fun y => ((unhide KV).below (hbf y)).c 5 (by simp)
      have b0 : ∀ y, (f y).cell? ⟨w.heap.size, 0, none⟩ = some (.int .i64 s) := fun y => ((unhide KBV).below (hbf y)).c 0 (by simp)
      have b1 : ∀ y, (f y).cell? ⟨w.heap.size, 1, none⟩ = some (.slice (some ⟨bb, off, none⟩) ls.length c1) := fun y => ((unhide KBV).below (hbf y)).c 1 (by simp)
      clear hbf hall bV KB BW
      obtain ⟨x0, hx0⟩ := (unhide HAL) V (Below.refl _ _)
      have HX0 : Hid (wr.alloc (Obj.cells #[.string x.p, .int .i64 x.nb, .int .i64 x.le, .int .i64 x.mo, .int .i64 x.ne, .slice x.d.a x.d.n x.d.c] 44) = f x0) := hide (hV.symm.trans hx0)
      clear hV hx0 KV
      go_wp2_with fail
      rw [unhide HX0]
      clear HX0 s0 s1 s2 s3 s4 s5 g0 c0v
      have CH : Hid (∀ y, Calls Try.prog 82 #[.agg #[.int .i64 s, .slice (some ⟨bb, off, none⟩) ls.length c1], .agg #[.string x.p, .int .i64 x.nb, .int .i64 x.le, .int .i64 x.mo, .int .i64 x.ne, .slice x.d.a x.d.n x.d.c]] (f y) fun e w' => e = .returned (.bool (haB zs (lxW x))) ∧ Below (f y).heap.size (f y) w') := hide (fun y => hasNeeds_any s _ _ c1 zs x (f y) ((unhide HT).below ((unhide HBF) y)))
      rcases two (inB s x.le x.mo) (haB zs (lxW x)) with ⟨q1, hv⟩ | ⟨q1, q2, hv⟩ | ⟨q1, q2, hv⟩
      · have HR : Hid (ebB s zs = false) := hide (ebB_no (i := k) (by have := unhide HZL; omega) (by rw [unhide HEK]; exact hv))
        clear hv AL CH
        go_wp2_with (go_at_call 81; refine (belQ (unhide HF) (unhide HAL) (hasF_is _ _ _ _ (by exact q1))).mono ?_; rintro e _ ⟨rfl, y, rfl⟩)
        go_ret
        exact ⟨ret_bool (unhide HR).symm, unhide HBF _⟩
      · have HR : Hid (ebB s zs = false) := hide (ebB_no (i := k) (by have := unhide HZL; omega) (by rw [unhide HEK]; exact hv))
        rw [q2] at CH
        clear hv AL q2
        go_wp2_with (first | (go_at_call 81; refine (belQ (unhide HF) (unhide HAL) (hasF_is _ _ _ _ (by exact q1))).mono ?_; rintro e _ ⟨rfl, y, rfl⟩) | (go_at_call 82; refine (belQ (unhide HF) (unhide HAL) (unhide CH _)).mono ?_; rintro e _ ⟨rfl, y, rfl⟩))
        go_ret
        exact ⟨ret_bool (unhide HR).symm, unhide HBF _⟩
      · have AL2 : Hid (∀ j, j < k + 1 → (inB s (elAt zs j).le (elAt zs j).mo && haB zs (elAt zs j)) = true) := hide (fun i hi => by
          by_cases e3 : i = k
          · rw [e3, unhide HEK]; exact hv
          · exact (unhide AL) i (by omega))
        rw [q2] at CH
        clear hv AL q2
        go_wp2_with (first | (go_at_call 81; refine (belQ (unhide HF) (unhide HAL) (hasF_is _ _ _ _ (by exact q1))).mono ?_; rintro e _ ⟨rfl, y, rfl⟩) | (go_at_call 82; refine (belQ (unhide HF) (unhide HAL) (unhide CH _)).mono ?_; rintro e _ ⟨rfl, y2, rfl⟩))
        go_roundw
        case rel => exact ⟨k + 1, by go_num, by omega, hide ((unhide KBV).below (unhide HF _)), hide ((unhide HBF) _), AL2⟩
        case measure => simp [intOf]; omega
    · have hi1 : ¬ (k : Int) < (ls.length : Int) := by omega
      have HR : Hid (ebB s zs = true) := hide (ebB_yes (fun i hi => (unhide AL) i (by have := unhide HZL; omega)))
      go_wp2_with fail
      go_ret
      exact ⟨ret_bool (unhide HR).symm, unhide BW⟩

end Go.Proofs.Ytlpomplldgmkmba

namespace Go.Proofs.Ytlpomplldgmkmba
open Go Go.RowKit

set_option maxRecDepth 20000 in
set_option maxHeartbeats 4000000 in
theorem loadsOk_any (a1 : Option Addr) (l1 c1 : Nat) (zs : List Lc) (w : World) (hr : LsT w a1 l1 zs) :
    Calls Try.prog 57 #[.slice a1 l1 c1] w fun e w' => e = .returned (.bool (lsB zs)) ∧ Below w.heap.size w w' := by
  have hzl := hr.len_eq
  obtain ⟨ls, e, hl⟩ := hr.ex
  have hz := hl.row.len_eq
  have HO := hide hl.row.six
  have HEL := hide hl.el
  have hsm := hl.row.small
  have HE := hide e
  have HZL := hide hzl
  have HT := hide hr
  subst hz
  clear hr hl e hzl
  by_cases hm : ls.length ≤ 30
  · have hmi : ¬ (30 : Int) < (ls.length : Int) := by omega
    go_enter Try.func57, Try.ntmps57
    go_wp2_with fail
    go_loopw [10] (fun i wr => ∃ k : Nat, i = .int .i64 k ∧ k ≤ ls.length ∧ Hid (Below w.heap.size w wr) ∧ Hid (∀ j, j < k → ldB (elAt zs j) = true)) (fun i _ => ls.length - (intOf i).toNat)
    case atStart => exact ⟨0, rfl, Nat.zero_le _, hide (Below.refl _ _), hide (fun j hj => by omega)⟩
    case round =>
      obtain ⟨k, rfl, hk, BW, AL⟩ := hrel
      by_cases hlt : k < ls.length
      · rcases (unhide HO) with ⟨h0, _⟩ | ⟨bb, off, rfl, _, hc⟩
        · omega
        have HC := hide hc
        obtain ⟨x, hx⟩ : ∃ x, elAt ls k = x := ⟨_, rfl⟩
        have el : elAt zs k = lxW x := by rw [← hx]; exact elAt_lx (unhide HE) hlt
        have hin := (unhide HEL) k hlt
        have q := hc k hlt
        rw [hx] at hin q
        have cl := fun {p : Addr} {v : Value} (h : w.cell? p = some v) => ((unhide BW).cell (p := p) (block_lt_of_cell h)).trans h
        have s0 := cl q.1
        have s1 := cl q.2.1
        have s2 := cl q.2.2.1
        have s3 := cl q.2.2.2.1
        have s4 := cl q.2.2.2.2.1
        have s5 := cl q.2.2.2.2.2
        have hi1 : (k : Int) < (ls.length : Int) := by omega
        have hi0 : (0 : Int) ≤ (k : Int) := by omega
        have HIN := hide hin
        have HEK := hide el
        clear q cl hx hc hin el
        have bV := bel1 (w := wr) (Obj.cells #[.string x.p, .int .i64 x.nb, .int .i64 x.le, .int .i64 x.mo, .int .i64 x.ne, .slice x.d.a x.d.n x.d.c] 44)
        have BV := hide ((unhide BW).trans (bV.mono (unhide BW).size))
        have CL : Hid (Calls Try.prog 18 #[.agg #[.string x.p, .int .i64 x.nb, .int .i64 x.le, .int .i64 x.mo, .int .i64 x.ne, .slice x.d.a x.d.n x.d.c]] (wr.alloc (Obj.cells #[.string x.p, .int .i64 x.nb, .int .i64 x.le, .int .i64 x.mo, .int .i64 x.ne, .slice x.d.a x.d.n x.d.c] 44)) fun e w' => e = .returned (.bool (ldB (lxW x))) ∧ Below (wr.alloc (Obj.cells #[.string x.p, .int .i64 x.nb, .int .i64 x.le, .int .i64 x.mo, .int .i64 x.ne, .slice x.d.a x.d.n x.d.c] 44)).heap.size (wr.alloc (Obj.cells #[.string x.p, .int .i64 x.nb, .int .i64 x.le, .int .i64 x.mo, .int .i64 x.ne, .slice x.d.a x.d.n x.d.c] 44)) w') := hide (implLoadOk_any x.p x.nb x.le x.mo x.ne _ _ _ x.d.zs _ ⟨(unhide HIN).sl.row.below (unhide BV)⟩ (unhide HIN).sz)
        cases q1 : ldB (lxW x) with
        | false =>
          have HR : Hid (lsB zs = false) := hide (lsB_no (i := k) (by have := unhide HZL; omega) (by rw [unhide HEK]; exact q1))
          rw [q1] at CL
          clear AL bV q1
          go_wp2_with (go_at_call 18; refine (unhide CL).mono ?_; rintro e w2 ⟨rfl, b2⟩; have B2 := hide ((unhide BV).trans (b2.mono (unhide BV).size)); clear b2)
          go_ret
          exact ⟨ret_bool (unhide HR).symm, unhide B2⟩
        | true =>
          have AL2 : Hid (∀ j, j < k + 1 → ldB (elAt zs j) = true) := hide (fun i hi => by
            by_cases e3 : i = k
            · rw [e3, unhide HEK]; exact q1
            · exact (unhide AL) i (by omega))
          rw [q1] at CL
          clear AL bV q1
          go_wp2_with (go_at_call 18; refine (unhide CL).mono ?_; rintro e w2 ⟨rfl, b2⟩; have B2 := hide ((unhide BV).trans (b2.mono (unhide BV).size)); clear b2)
          go_roundw
          case rel => exact ⟨k + 1, by go_num, by omega, B2, AL2⟩
          case measure => simp [intOf]; omega
      · have hi1 : ¬ (k : Int) < (ls.length : Int) := by omega
        have HR : Hid (lsB zs = true) := hide (lsB_yes (by have := unhide HZL; omega) (fun i hi => (unhide AL) i (by have := unhide HZL; omega)))
        go_wp2_with fail
        go_ret
        exact ⟨ret_bool (unhide HR).symm, unhide BW⟩
  · have hmi : (30 : Int) < (ls.length : Int) := by omega
    have HR : Hid (lsB zs = false) := hide (lsB_many (by have := unhide HZL; omega))
    go_enter Try.func57, Try.ntmps57
    go_wp2_with fail
    go_ret
    exact ⟨ret_bool (unhide HR).symm, Below.refl _ _⟩
set_option maxRecDepth 20000 in
set_option maxHeartbeats 4000000 in
theorem implAboardOk_any (s : Int) (a1 : Option Addr) (l1 c1 : Nat) (zs : List Lc) (w : World) (hr : AbIn w a1 l1 zs) :
    Calls Try.prog 25 #[.agg #[.int .i64 s, .slice a1 l1 c1]] w fun e w' => e = .returned (.bool (abB s zs)) ∧ Below w.heap.size w w' := by
  have HT := hide hr.r1
  have HQ := hide (aqB_is s zs)
  clear hr
  obtain ⟨W, hW⟩ : ∃ W, W = (w.alloc (Obj.cells #[.int .i64 s, .slice a1 l1 c1] 57)) := ⟨_, rfl⟩
  have K0 : Hid (Blk W w.heap.size [.int .i64 s, .slice a1 l1 c1]) := hide (by rw [hW]; exact Blk.new _ _)
  have B0 : Hid (Below w.heap.size w W) := hide (by rw [hW]; exact bel1 _)
  obtain ⟨ι, f, _, hbf, hall⟩ := belClass W
  have HF := hide hbf
  have HAL := hide hall
  have HBF : Hid (∀ y, Below w.heap.size w (f y)) := hide (fun y => (unhide B0).trans ((hbf y).mono (unhide B0).size))
  have b0 : ∀ y, (f y).cell? ⟨w.heap.size, 0, none⟩ = some (.int .i64 s) := fun y => ((unhide K0).below (hbf y)).c 0 (by simp)
  have b1 : ∀ y, (f y).cell? ⟨w.heap.size, 1, none⟩ = some (.slice a1 l1 c1) := fun y => ((unhide K0).below (hbf y)).c 1 (by simp)
  obtain ⟨x0, hx0⟩ := (unhide HAL) W (Below.refl _ _)
  have b0w := b0 x0
  rw [← hx0, hW] at b0w
  have HX0 : Hid ((w.alloc (Obj.cells #[.int .i64 s, .slice a1 l1 c1] 57)) = f x0) := hide (hW.symm.trans hx0)
  have C2 : Hid (∀ y, Calls Try.prog 57 #[.slice a1 l1 c1] (f y) fun e w' => e = .returned (.bool (lsB zs)) ∧ Below (f y).heap.size (f y) w') := hide (fun y => loadsOk_any _ _ _ zs (f y) ((unhide HT).below ((unhide HBF) y)))
  have C5 : Hid (∀ y, Calls Try.prog 60 #[.agg #[.int .i64 s, .slice a1 l1 c1]] (f y) fun e w' => e = .returned (.bool (ebB s zs)) ∧ Below (f y).heap.size (f y) w') := hide (fun y => eachBelongs_any s _ _ _ zs (f y) ((unhide HT).below ((unhide HBF) y)))
  clear hbf hall hW hx0 K0 B0
  rcases five (inB s 1 1000000) (lsB zs) (riseB (nbL zs)) (dfB zs) (ebB s zs) with ⟨q1, hv⟩ | ⟨q1, q2, hv⟩ | ⟨q1, q2, q3, hv⟩ | ⟨q1, q2, q3, q4, hv⟩ | ⟨q1, q2, q3, q4, q5, hv⟩ | ⟨q1, q2, q3, q4, q5, hv⟩
  all_goals
    have HE := hide ((show aqB s zs = _ from hv).symm.trans (unhide HQ))
    clear hv HQ
    try (have C3 : Hid (∀ y, Calls Try.prog 58 #[.agg #[.int .i64 s, .slice a1 l1 c1]] (f y) fun e w' => e = .returned (.bool (riseB (nbL zs))) ∧ Below (f y).heap.size (f y) w') := hide (fun y => numbersAscend_any s _ _ _ zs (f y) ((unhide HT).below ((unhide HBF) y)) q2))
    try (have C4 : Hid (∀ y, Calls Try.prog 59 #[.agg #[.int .i64 s, .slice a1 l1 c1]] (f y) fun e w' => e = .returned (.bool (dfB zs)) ∧ Below (f y).heap.size (f y) w') := hide (fun y => partsDiffer_any s _ _ _ zs (f y) ((unhide HT).below ((unhide HBF) y)) q2))
    try rw [q2] at C2
    try rw [q3] at C3
    try rw [q4] at C4
    try rw [q5] at C5
    try clear q2
    try clear q3
    try clear q4
    try clear q5
    go_enter Try.func25, Try.ntmps25
    go_wp2_with fail
    rw [unhide HX0]
    clear HX0 b0w
    go_wp2_with (first | (go_at_call 49; refine (belS (within_is _ _ _ _ (by exact q1))).mono ?_; rintro e _ ⟨rfl, y, rfl⟩) | (go_at_call 57; refine (belQ (unhide HF) (unhide HAL) (unhide C2 _)).mono ?_; rintro e _ ⟨rfl, y, rfl⟩) | (go_at_call 58; refine (belQ (unhide HF) (unhide HAL) (unhide C3 _)).mono ?_; rintro e _ ⟨rfl, y, rfl⟩) | (go_at_call 59; refine (belQ (unhide HF) (unhide HAL) (unhide C4 _)).mono ?_; rintro e _ ⟨rfl, y, rfl⟩) | (go_at_call 60; refine (belQ (unhide HF) (unhide HAL) (unhide C5 _)).mono ?_; rintro e _ ⟨rfl, y, rfl⟩))
    go_ret
    exact ⟨ret_bool (unhide HE), unhide HBF _⟩

end Go.Proofs.Ytlpomplldgmkmba

namespace Go.Proofs.Ytlpomplldgmkmba
open Go Go.RowKit

theorem OwnLd.set_out {w : World} {base b u S o : Nat} {v : Value} {us : List Lx} (h : OwnLd w base v us) (hl : LxLies b u v us) (hS : u ≤ S) (x : Value) : OwnLd (w.setCell ⟨S, o, none⟩ x) base v us :=
  ⟨h.out.set_other x (fun e => by have := (hl.1 S e).2; omega), fun i hi => (h.dat i hi).set_other x (fun e => by have := (hl.2 i hi S e).2; omega), h.apt, h.par⟩
theorem LxLies.del {b u k : Nat} {v v' : Value} {us : List Lx} (h : LxLies b u v us) (hk : k < us.length) (hv : ∀ q, v'.ownBlock = some q → b ≤ q ∧ q < u) : LxLies b u v' (dlL us k) := by
  refine ⟨hv, fun i hi q hq => ?_⟩
  rw [dlL_len hk] at hi
  rw [dlL_at hk hi] at hq
  refine h.2 _ ?_ q hq
  split <;> omega
theorem lzok_del {zs : List Lc} {k : Nat} (h : LzOk zs) (hk : k < zs.length) : LzOk (zs.take k ++ zs.drop (k + 1)) := by
  intro i hi
  have hi2 : i < (dlL zs k).length := hi
  rw [dlL_len hk] at hi2
  rw [show zs.take k ++ zs.drop (k + 1) = dlL zs k from rfl, dlL_at hk hi2]
  refine h _ ?_
  split <;> omega
set_option maxRecDepth 20000 in
set_option maxHeartbeats 4000000 in
theorem implDrop18_any (s : Int) (a1 : Option Addr) (l1 c1 : Nat) (zs : List Lc) (n : Int) (w : World) (hr : AbIn w a1 l1 zs) (hlz : LzB zs) :
    Calls Try.prog 28 #[.agg #[.int .i64 s, .slice a1 l1 c1], .int .i64 n] w fun e w' => ∃ a9 c9, e = .returned (.tuple #[.agg #[.int .i64 s, .slice a9 (drL s zs n).length c9], .bool (drB s zs n)]) ∧ AbOwn w' w.heap.size a9 (drL s zs n).length c9 (drL s zs n) ∧ Below w.heap.size w w' := by
  have HT := hide hr.r1
  have HZL := hide hr.r1.len_eq
  have hsm := hr.r1.small
  have HLZ := hide hlz
  clear hr hlz
  obtain ⟨W, hW⟩ : ∃ W, W = (w.alloc (Obj.cells #[.int .i64 s, .slice a1 l1 c1] 57)).alloc (Obj.cells #[.int .i64 0, .slice none 0 0] 57) := ⟨_, rfl⟩
  have K0 : Hid (Blk W w.heap.size [.int .i64 s, .slice a1 l1 c1]) := hide (by rw [hW]; exact (Blk.new _ _).alloc _)
  have K1 : Hid (Blk W (w.heap.size + 1) [.int .i64 0, .slice none 0 0]) := hide (by
    rw [hW]
    have := Blk.new (w := (w.alloc (Obj.cells #[.int .i64 s, .slice a1 l1 c1] 57))) [.int .i64 0, .slice none 0 0] 57
    simpa using this)
  have B0 : Hid (Below w.heap.size w W) := hide (by rw [hW]; exact bel2 _ _)
  have hWs : Hid (W.heap.size = w.heap.size + 2) := hide (by rw [hW]; simp)
  have a0 : W.cell? ⟨w.heap.size, 0, none⟩ = some (.int .i64 s) := (unhide K0).c 0 (by simp)
  have a1' : W.cell? ⟨w.heap.size, 1, none⟩ = some (.slice a1 l1 c1) := (unhide K0).c 1 (by simp)
  rw [hW] at a0 a1'
  have HW := hide hW
  clear hW
  go_enter Try.func28, Try.ntmps28
  go_wp2_with fail
  rw [← unhide HW]
  clear HW a0 a1'
  refine (copiedA_any s a1 l1 c1 zs W ((unhide HT).below (unhide B0)) (unhide HLZ)).mono ?_
  rintro e w2 ⟨⟨g9, c9, rfl, ow⟩, b2⟩
  have ow := ow.mono (base' := w.heap.size + 2) (by have := unhide hWs; omega)
  obtain ⟨us, hus, ho⟩ := ow.ex
  have HOK := hide ow.ok
  have HUS := hide hus
  have HLI : Hid (LxLies (w.heap.size + 2) w2.heap.size (.slice (some ⟨g9, 0, none⟩) l1 c9) us) := hide ho.lies
  have HUL : Hid (us.length = l1) := hide (ownLd_len ho)
  have ow := hide ho
  clear ho hus
  have hw2 : w.heap.size + 2 ≤ w2.heap.size := by have := b2.size; have := unhide hWs; omega
  have K0 := hide ((unhide K0).below b2)
  have K1 := hide ((unhide K1).below b2)
  have B2 := hide ((unhide B0).trans (b2.mono (unhide B0).size))
  clear b2 B0 hWs
  obtain ⟨V, hV⟩ : ∃ V, V = w2.alloc (Obj.cells #[.int .i64 s, .slice (some ⟨g9, 0, none⟩) l1 c9] 57) := ⟨_, rfl⟩
  have bV : Below w2.heap.size w2 V := by rw [hV]; exact bel1 _
  have K6 : Hid (Blk V w2.heap.size [.int .i64 s, .slice (some ⟨g9, 0, none⟩) l1 c9]) := hide (by rw [hV]; exact Blk.new _ _)
  have K0 := hide ((unhide K0).below bV)
  have K1 := hide ((unhide K1).below bV)
  have BV := hide ((unhide B2).trans (bV.mono (unhide B2).size))
  have OV := hide ((unhide ow).below bV)
  obtain ⟨ι, f, _, hbf, hall⟩ := belClass V
  have HF := hide hbf
  have HAL := hide hall
  have HBF : Hid (∀ y, Below w.heap.size w (f y)) := hide (fun y => (unhide BV).trans ((hbf y).mono (unhide BV).size))
  have b0 : ∀ y, (f y).cell? ⟨w.heap.size, 0, none⟩ = some (.int .i64 s) := fun y => ((unhide K0).below (hbf y)).c 0 (by simp)
  have b1 : ∀ y, (f y).cell? ⟨w.heap.size, 1, none⟩ = some (.slice a1 l1 c1) := fun y => ((unhide K0).below (hbf y)).c 1 (by simp)
  have p0 : ∀ y, (f y).cell? ⟨w2.heap.size, 0, none⟩ = some (.int .i64 s) := fun y => ((unhide K6).below (hbf y)).c 0 (by simp)
  have p1 : ∀ y, (f y).cell? ⟨w2.heap.size, 1, none⟩ = some (.slice (some ⟨g9, 0, none⟩) l1 c9) := fun y => ((unhide K6).below (hbf y)).c 1 (by simp)
  have KF1 : Hid (∀ y, Blk (f y) (w.heap.size + 1) [.int .i64 0, .slice none 0 0]) := hide (fun y => (unhide K1).below (hbf y))
  have KF6 : Hid (∀ y, Blk (f y) w2.heap.size [.int .i64 s, .slice (some ⟨g9, 0, none⟩) l1 c9]) := hide (fun y => (unhide K6).below (hbf y))
  have OF : Hid (∀ y, OwnLd (f y) (w.heap.size + 2) (.slice (some ⟨g9, 0, none⟩) l1 c9) us) := hide (fun y => (unhide OV).below (hbf y))
  have CA : Hid (∀ y, Calls Try.prog 25 #[.agg #[.int .i64 s, .slice a1 l1 c1]] (f y) fun e w' => e = .returned (.bool (abB s zs)) ∧ Below (f y).heap.size (f y) w') := hide (fun y => implAboardOk_any s _ _ _ zs (f y) ⟨(unhide HT).below ((unhide HBF) y)⟩)
  have CF : Hid (∀ y, Calls Try.prog 65 #[.agg #[.int .i64 s, .slice a1 l1 c1], .int .i64 n] (f y) fun e w' => e = .returned (.int .i64 (fnF zs n)) ∧ Below (f y).heap.size (f y) w') := hide (fun y => placeNb_any s _ _ _ zs n (f y) ((unhide HT).below ((unhide HBF) y)))
  have CN : Hid (∀ y, Calls Try.prog 66 #[.agg #[.int .i64 s, .slice a1 l1 c1], .int .i64 n] (f y) fun e w' => e = .returned (.bool (neB zs n)) ∧ Below (f y).heap.size (f y) w') := hide (fun y => isNeeded_any s _ _ _ zs n (f y) ((unhide HT).below ((unhide HBF) y)))
  obtain ⟨x0, hx0⟩ := (unhide HAL) V (Below.refl _ _)
  have HX0 : Hid (w2.alloc (Obj.cells #[.int .i64 s, .slice (some ⟨g9, 0, none⟩) l1 c9] 57) = f x0) := hide (hV.symm.trans hx0)
  have b0w := b0 x0
  have b1w := b1 x0
  rw [← hx0, hV] at b0w b1w
  clear hbf hall hV hx0 bV K0 K1 K6 BV OV ow B2 HT
  have HB3 : Hid (drB s zs n = (abB s zs && decide (0 ≤ fnF zs n) && !neB zs n)) := hide rfl
  cases qa : abB s zs with
  | false =>
    rw [qa] at CA HB3
    have HDB : Hid (drB s zs n = false) := hide (by rw [unhide HB3]; rfl)
    have HDL : Hid (drL s zs n = zs) := hide (by rw [drL, unhide HDB]; simp)
    go_wp2_with fail
    rw [unhide HX0]
    clear HX0 b0w b1w
    go_wp2_with (first | (go_at_call 65; refine (belQ (unhide HF) (unhide HAL) (unhide CF _)).mono ?_; rintro e _ ⟨rfl, y, rfl⟩) | (go_at_call 25; refine (belQ (unhide HF) (unhide HAL) (unhide CA _)).mono ?_; rintro e _ ⟨rfl, y1, rfl⟩) | (go_at_call 66; refine (belQ (unhide HF) (unhide HAL) (unhide CN _)).mono ?_; rintro e _ ⟨rfl, y2, rfl⟩) | ((with_reducible show wpList _ _ _ (⟨none, .store 57 _ _, _, _, _, none⟩ :: _) _ _); refine at_storeAgg (us := [.int .i64 0, .slice none 0 0]) (vs := [.int .i64 s, .slice (some ⟨g9, 0, none⟩) l1 c9]) Try.sizeOf57 rfl rfl ((unhide KF1) _) rfl (by intro v hv; simp at hv; rcases hv with rfl | rfl <;> rfl) ?_; intro w5 kk gg))
    have BE : Below w.heap.size w w5 := ((unhide HBF) _).grown gg ((unhide HBF) _).size (fun q hq => by cases hq; omega)
    have OE := ((unhide OF) _).far gg (fun q hq e => by have := Option.some.inj e; omega)
    exact bodyPost_ret (results_cellB (vs := [.int .i64 s, .slice (some ⟨g9, 0, none⟩) l1 c9]) (x := .bool false) rfl Try.isAgg57 Try.sizeOf57 rfl kk rfl) rfl ⟨(some ⟨g9, 0, none⟩), c9, by rw [unhide HDL, unhide HDB, unhide HZL], ⟨by rw [unhide HDL, unhide HZL]; exact cp_ok (unhide HUS) (unhide HOK) (OE.mono (by omega))⟩, BE⟩
  | true =>
    rw [qa] at CA HB3
    rcases fnF_cases zs n with ⟨hF, _⟩ | ⟨k, hk, hF, _, _⟩
    · rw [hF] at CF HB3
      have HDB : Hid (drB s zs n = false) := hide (by rw [unhide HB3]; rfl)
      have HDL : Hid (drL s zs n = zs) := hide (by rw [drL, unhide HDB]; simp)
      clear hF
      go_wp2_with fail
      rw [unhide HX0]
      clear HX0 b0w b1w
      go_wp2_with (first | (go_at_call 65; refine (belQ (unhide HF) (unhide HAL) (unhide CF _)).mono ?_; rintro e _ ⟨rfl, y, rfl⟩) | (go_at_call 25; refine (belQ (unhide HF) (unhide HAL) (unhide CA _)).mono ?_; rintro e _ ⟨rfl, y1, rfl⟩) | (go_at_call 66; refine (belQ (unhide HF) (unhide HAL) (unhide CN _)).mono ?_; rintro e _ ⟨rfl, y2, rfl⟩) | ((with_reducible show wpList _ _ _ (⟨none, .store 57 _ _, _, _, _, none⟩ :: _) _ _); refine at_storeAgg (us := [.int .i64 0, .slice none 0 0]) (vs := [.int .i64 s, .slice (some ⟨g9, 0, none⟩) l1 c9]) Try.sizeOf57 rfl rfl ((unhide KF1) _) rfl (by intro v hv; simp at hv; rcases hv with rfl | rfl <;> rfl) ?_; intro w5 kk gg))
      have BE : Below w.heap.size w w5 := ((unhide HBF) _).grown gg ((unhide HBF) _).size (fun q hq => by cases hq; omega)
      have OE := ((unhide OF) _).far gg (fun q hq e => by have := Option.some.inj e; omega)
      exact bodyPost_ret (results_cellB (vs := [.int .i64 s, .slice (some ⟨g9, 0, none⟩) l1 c9]) (x := .bool false) rfl Try.isAgg57 Try.sizeOf57 rfl kk rfl) rfl ⟨(some ⟨g9, 0, none⟩), c9, by rw [unhide HDL, unhide HDB, unhide HZL], ⟨by rw [unhide HDL, unhide HZL]; exact cp_ok (unhide HUS) (unhide HOK) (OE.mono (by omega))⟩, BE⟩
    · have HFK := hide hF
      rw [hF] at CF HB3
      clear hF
      have n1 : ((k : Int) == -1) = false := by simp only [beq_eq_false_iff_ne]; omega
      have n2 : decide ((k : Int) = -1) = false := by simp only [decide_eq_false_iff_not]; omega
      have n3 : ¬ ((k : Int) < 0) := by omega
      have n4 : decide ((k : Int) < 0) = false := by simp only [decide_eq_false_iff_not]; omega
      cases qn : neB zs n with
      | true =>
        rw [qn] at CN HB3
        have HDB : Hid (drB s zs n = false) := hide (by rw [unhide HB3]; simp)
        have HDL : Hid (drL s zs n = zs) := hide (by rw [drL, unhide HDB]; simp)
        clear hk
        go_wp2_with fail
        rw [unhide HX0]
        clear HX0 b0w b1w
        go_wp2_with (first | (go_at_call 65; refine (belQ (unhide HF) (unhide HAL) (unhide CF _)).mono ?_; rintro e _ ⟨rfl, y, rfl⟩) | (go_at_call 25; refine (belQ (unhide HF) (unhide HAL) (unhide CA _)).mono ?_; rintro e _ ⟨rfl, y1, rfl⟩) | (go_at_call 66; refine (belQ (unhide HF) (unhide HAL) (unhide CN _)).mono ?_; rintro e _ ⟨rfl, y2, rfl⟩) | ((with_reducible show wpList _ _ _ (⟨none, .store 57 _ _, _, _, _, none⟩ :: _) _ _); refine at_storeAgg (us := [.int .i64 0, .slice none 0 0]) (vs := [.int .i64 s, .slice (some ⟨g9, 0, none⟩) l1 c9]) Try.sizeOf57 rfl rfl ((unhide KF1) _) rfl (by intro v hv; simp at hv; rcases hv with rfl | rfl <;> rfl) ?_; intro w5 kk gg))
        have BE : Below w.heap.size w w5 := ((unhide HBF) _).grown gg ((unhide HBF) _).size (fun q hq => by cases hq; omega)
        have OE := ((unhide OF) _).far gg (fun q hq e => by have := Option.some.inj e; omega)
        exact bodyPost_ret (results_cellB (vs := [.int .i64 s, .slice (some ⟨g9, 0, none⟩) l1 c9]) (x := .bool false) rfl Try.isAgg57 Try.sizeOf57 rfl kk rfl) rfl ⟨(some ⟨g9, 0, none⟩), c9, by rw [unhide HDL, unhide HDB, unhide HZL], ⟨by rw [unhide HDL, unhide HZL]; exact cp_ok (unhide HUS) (unhide HOK) (OE.mono (by omega))⟩, BE⟩
      | false =>
        rw [qn] at CN HB3
        have HDB : Hid (drB s zs n = true) := hide (by rw [unhide HB3]; simp)
        have HDL : Hid (drL s zs n = zs.take k ++ zs.drop (k + 1)) := hide (by rw [drL, unhide HDB, unhide HFK]; simp)
        obtain ⟨m, hm⟩ : ∃ m, l1 = m + 1 := ⟨l1 - 1, by have := unhide HZL; omega⟩
        have h30 : l1 ≤ 30 := by have := (abB_facts qa).2.2; have := unhide HZL; omega
        have HML : Hid ((zs.take k ++ zs.drop (k + 1)).length = m) := hide (by have := dlL_len hk; rw [dlL, unhide HZL] at this; rw [this]; omega)
        have HKB := hide hk
        have CD : Hid (∀ y, Calls Try.prog 67 #[.slice (some ⟨g9, 0, none⟩) l1 c9, .int .i64 (k : Int), .int .i64 ((k : Int) + 1)] (f y) fun e w' => e = .returned (.slice (some ⟨g9, 0, none⟩) m c9) ∧ OwnLd w' (w.heap.size + 2) (.slice (some ⟨g9, 0, none⟩) m c9) (dlL us k) ∧ (f y).grownBy w' (some g9)) := hide (fun y => by
          have hd := del_any (w.heap.size + 2) g9 l1 m c9 k (k + 1) us (f y) ((unhide OF) y) (unhide HUL) hm rfl (by omega) (by have := unhide HZL; have := unhide HKB; omega)
          rw [show ((k + 1 : Nat) : Int) = (k : Int) + 1 from by omega] at hd
          exact hd)
        have HLD : Hid (LxLies (w.heap.size + 2) w2.heap.size (.slice (some ⟨g9, 0, none⟩) m c9) (dlL us k)) := hide ((unhide HLI).del (by have := unhide HZL; have := unhide HUL; have := unhide HKB; omega) (fun q hq => (unhide HLI).1 q hq))
        have hg9 := (unhide HLI).1 g9 rfl
        have hki : (k : Int) + 1 ≤ 31 := by have := unhide HZL; omega
        have hk0 : (0 : Int) ≤ (k : Int) := by omega
        clear hk hm qa
        go_wp2_with fail
        rw [unhide HX0]
        clear HX0 b0w b1w
        go_wp2_with (first | (go_at_call 65; refine (belQ (unhide HF) (unhide HAL) (unhide CF _)).mono ?_; rintro e _ ⟨rfl, y, rfl⟩) | (go_at_call 25; refine (belQ (unhide HF) (unhide HAL) (unhide CA _)).mono ?_; rintro e _ ⟨rfl, y1, rfl⟩) | (go_at_call 66; refine (belQ (unhide HF) (unhide HAL) (unhide CN _)).mono ?_; rintro e _ ⟨rfl, y2, rfl⟩) | (go_at_call 67; refine (unhide CD _).mono ?_; rintro e w9 ⟨rfl, o9, gr9⟩; have k6 : Blk w9 w2.heap.size [.int .i64 s, .slice (some ⟨g9, 0, none⟩) l1 c9] := ((unhide KF6) _).apart gr9 (fun e => by have := Option.some.inj e; omega); have k1 : Blk w9 (w.heap.size + 1) [.int .i64 0, .slice none 0 0] := ((unhide KF1) _).apart gr9 (fun e => by have := Option.some.inj e; omega); have b9 : Below w.heap.size w w9 := ((unhide HBF) _).grown gr9 ((unhide HBF) _).size (fun q hq => by cases hq; omega); have y1' : w9.cell? ⟨w2.heap.size, 1, none⟩ = some (.slice (some ⟨g9, 0, none⟩) l1 c9) := k6.c 1 (by simp); have f1' : w9.frozen? ⟨w2.heap.size, 1, none⟩ = false := k6.f 1 (by simp); have kA : Blk (w9.setCell ⟨w2.heap.size, 1, none⟩ (.slice (some ⟨g9, 0, none⟩) m c9)) w2.heap.size [.int .i64 s, .slice (some ⟨g9, 0, none⟩) m c9] := k6.set 1 (by simp) _; have z0' : (w9.setCell ⟨w2.heap.size, 1, none⟩ (.slice (some ⟨g9, 0, none⟩) m c9)).cell? ⟨w2.heap.size, 0, none⟩ = some (.int .i64 s) := kA.c 0 (by simp); have z1' : (w9.setCell ⟨w2.heap.size, 1, none⟩ (.slice (some ⟨g9, 0, none⟩) m c9)).cell? ⟨w2.heap.size, 1, none⟩ = some (.slice (some ⟨g9, 0, none⟩) m c9) := kA.c 1 (by simp); have KE : Hid (Blk (w9.setCell ⟨w2.heap.size, 1, none⟩ (.slice (some ⟨g9, 0, none⟩) m c9)) (w.heap.size + 1) [.int .i64 0, .slice none 0 0]) := hide (k1.other (by simp; omega) _); have BE9 : Hid (Below w.heap.size w (w9.setCell ⟨w2.heap.size, 1, none⟩ (.slice (some ⟨g9, 0, none⟩) m c9))) := hide (b9.setCell (by simp; omega) _); have OE9 : Hid (OwnLd (w9.setCell ⟨w2.heap.size, 1, none⟩ (.slice (some ⟨g9, 0, none⟩) m c9)) (w.heap.size + 2) (.slice (some ⟨g9, 0, none⟩) m c9) (dlL us k)) := hide (o9.set_out (unhide HLD) (Nat.le_refl _) _); clear k6 k1 b9 kA o9 gr9) | ((with_reducible show wpList _ _ _ (⟨none, .store 57 _ _, _, _, _, none⟩ :: _) _ _); refine at_storeAgg (us := [.int .i64 0, .slice none 0 0]) (vs := [.int .i64 s, .slice (some ⟨g9, 0, none⟩) m c9]) Try.sizeOf57 rfl rfl (unhide KE) rfl (by intro v hv; simp at hv; rcases hv with rfl | rfl <;> rfl) ?_; intro w5 kk gg))
        have BE : Below w.heap.size w w5 := (unhide BE9).grown gg (unhide BE9).size (fun q hq => by cases hq; omega)
        have OE := (unhide OE9).far gg (fun q hq e => by have := Option.some.inj e; omega)
        exact bodyPost_ret (results_cellB (vs := [.int .i64 s, .slice (some ⟨g9, 0, none⟩) m c9]) (x := .bool true) rfl Try.isAgg57 Try.sizeOf57 rfl kk rfl) rfl ⟨some ⟨g9, 0, none⟩, c9, by rw [unhide HDL, unhide HDB, unhide HML], ⟨by rw [unhide HDL, unhide HML]; exact cp_ok (dlL_map (unhide HUS) k) (lzok_del (unhide HOK) (unhide HKB)) (OE.mono (by omega))⟩, BE⟩

end Go.Proofs.Ytlpomplldgmkmba
