/-
  What the program's Take18 answers where the load is refused: what was aboard, in memory of its own, and the code.
  What the program's Effective answers: the plain answer, in memory of its own; nothing that was there is written.
-/
import Derived.Test.YtemodlgmjgdjpaaGreatDoorTsPure
import Derived.Test.YtemodlgmjgdjpaaGreatDoorRfImp
import Derived.Test.YtemodlgmjgdjpaaGreatDoorMCpPure
import Derived.Test.YtemodlgmjgdjpaaGreatDoorMDlImp
import Derived.Test.YtemodlgmjgdjpaaGreatDoorMTkQ
import Derived.Test.YtemodlgmjgdjpaaGreatDoorMAiLst

namespace Go.Proofs.YtemodlgmjgdjpaaGreatDoor
open Go Go.RowKit

set_option maxRecDepth 20000 in
set_option maxHeartbeats 16000000 in
theorem implTake18_fail (s : Int) (a1 : Option Addr) (l1 c1 : Nat) (zs : List Lc) (x : Lx) (sl : Int) (w : World) (hr : AbIn w a1 l1 zs) (hlz : LzB zs) (hin : LxIn w x) (hg : ErG w) (hne : tkC s zs (lxW x) sl ≠ 0) :
    Calls Tryz.prog 9 #[.agg #[.int .i64 s, .slice a1 l1 c1], .agg #[.string x.p, .int .i64 x.nb, .int .i64 x.le, .int .i64 x.mo, .int .i64 x.ne, .slice x.d.a x.d.n x.d.c], .int .i64 sl] w fun e w' => ∃ a9 c9, e = .returned (.tuple #[.agg #[.int .i64 s, .slice a9 (tkL s zs (lxW x) sl).length c9], .int .i64 (tkC s zs (lxW x) sl)]) ∧ AbOwn w' w.heap.size a9 (tkL s zs (lxW x) sl).length c9 (tkL s zs (lxW x) sl) ∧ Below w.heap.size w w' := by
  have HNE := hide hne
  have HG := hide hg
  clear hne hg
  have HT := hide hr.r1
  have HZL := hide hr.r1.len_eq
  have hsm := hr.r1.small
  have HLZ := hide hlz
  have HIN := hide hin
  obtain ⟨ls, e, hl⟩ := hr.r1.ex
  have HE := hide e
  have HO := hide hl.row.six
  have HLL := hide hl.row.len_eq
  clear hr hlz hin e hl
  obtain ⟨W, hW⟩ : ∃ W, W = ((w.alloc (Obj.cells #[.int .i64 s, .slice a1 l1 c1] 26)).alloc (Obj.cells #[.string x.p, .int .i64 x.nb, .int .i64 x.le, .int .i64 x.mo, .int .i64 x.ne, .slice x.d.a x.d.n x.d.c] 32)).alloc (Obj.cells #[.int .i64 0, .slice none 0 0] 26) := ⟨_, rfl⟩
  have K0 : Hid (Blk W w.heap.size [.int .i64 s, .slice a1 l1 c1]) := hide (by rw [hW]; exact ((Blk.new _ _).alloc _).alloc _)
  have K1 : Hid (Blk W (w.heap.size + 1) [.string x.p, .int .i64 x.nb, .int .i64 x.le, .int .i64 x.mo, .int .i64 x.ne, .slice x.d.a x.d.n x.d.c]) := hide (by
    rw [hW]
    have := (Blk.new (w := (w.alloc (Obj.cells #[.int .i64 s, .slice a1 l1 c1] 26))) [.string x.p, .int .i64 x.nb, .int .i64 x.le, .int .i64 x.mo, .int .i64 x.ne, .slice x.d.a x.d.n x.d.c] 32).alloc (Obj.cells #[.int .i64 0, .slice none 0 0] 26)
    simpa using this)
  have K2 : Hid (Blk W (w.heap.size + 1 + 1) [.int .i64 0, .slice none 0 0]) := hide (by
    rw [hW]
    have := Blk.new (w := ((w.alloc (Obj.cells #[.int .i64 s, .slice a1 l1 c1] 26)).alloc (Obj.cells #[.string x.p, .int .i64 x.nb, .int .i64 x.le, .int .i64 x.mo, .int .i64 x.ne, .slice x.d.a x.d.n x.d.c] 32))) [.int .i64 0, .slice none 0 0] 26
    simpa using this)
  have B0 : Hid (Below w.heap.size w W) := hide (by rw [hW]; exact bel3 _ _ _)
  have hWs : Hid (W.heap.size = w.heap.size + 3) := hide (by rw [hW]; simp)
  have a0 : W.cell? ⟨w.heap.size, 0, none⟩ = some (.int .i64 s) := (unhide K0).c 0 (by simp)
  have a1' : W.cell? ⟨w.heap.size, 1, none⟩ = some (.slice a1 l1 c1) := (unhide K0).c 1 (by simp)
  rw [hW] at a0 a1'
  have HW := hide hW
  clear hW
  go_enter Tryz.func9, Tryz.ntmps9
  go_wp2_with fail
  rw [← unhide HW]
  clear HW a0 a1'
  refine (copiedA_any s a1 l1 c1 zs W ((unhide HT).below (unhide B0)) (unhide HLZ)).mono ?_
  rintro e w2 ⟨⟨ga, c9, rfl, ow⟩, b2⟩
  have ow := ow.mono (base' := w.heap.size + 3) (by have := unhide hWs; omega)
  obtain ⟨us, hus, ho⟩ := ow.ex
  have HOK := hide ow.ok
  have HUS := hide hus
  have HLI : Hid (LxLies (w.heap.size + 3) w2.heap.size (.slice (some ⟨ga, 0, none⟩) l1 c9) us) := hide ho.lies
  have HUL : Hid (us.length = l1) := hide (ownLd_len ho)
  have ow := hide ho
  clear ho hus
  have hw2 : w.heap.size + 3 ≤ w2.heap.size := by have := b2.size; have := unhide hWs; omega
  have K0 := hide ((unhide K0).below b2)
  have K1 := hide ((unhide K1).below b2)
  have K2 := hide ((unhide K2).below b2)
  have B2 := hide ((unhide B0).trans (b2.mono (unhide B0).size))
  clear b2 B0 hWs
  obtain ⟨V, hV⟩ : ∃ V, V = w2.alloc (Obj.cells #[.int .i64 s, .slice (some ⟨ga, 0, none⟩) l1 c9] 26) := ⟨_, rfl⟩
  have bV : Below w2.heap.size w2 V := by rw [hV]; exact bel1 _
  have K8 : Hid (Blk V w2.heap.size [.int .i64 s, .slice (some ⟨ga, 0, none⟩) l1 c9]) := hide (by rw [hV]; exact Blk.new _ _)
  have K0 := hide ((unhide K0).below bV)
  have K1 := hide ((unhide K1).below bV)
  have K2 := hide ((unhide K2).below bV)
  have BV := hide ((unhide B2).trans (bV.mono (unhide B2).size))
  have OV := hide ((unhide ow).below bV)
  obtain ⟨ι, f, _, hbf, hall⟩ := belClass V
  have HF := hide hbf
  have HAL := hide hall
  have HBF : Hid (∀ y, Below w.heap.size w (f y)) := hide (fun y => (unhide BV).trans ((hbf y).mono (unhide BV).size))
  have b0 : ∀ y, (f y).cell? ⟨w.heap.size, 0, none⟩ = some (.int .i64 s) := fun y => ((unhide K0).below (hbf y)).c 0 (by simp)
  have b1 : ∀ y, (f y).cell? ⟨w.heap.size, 1, none⟩ = some (.slice a1 l1 c1) := fun y => ((unhide K0).below (hbf y)).c 1 (by simp)
  have v0 : ∀ y, (f y).cell? ⟨w.heap.size + 1, 0, none⟩ = some (.string x.p) := fun y => ((unhide K1).below (hbf y)).c 0 (by simp)
  have v1 : ∀ y, (f y).cell? ⟨w.heap.size + 1, 1, none⟩ = some (.int .i64 x.nb) := fun y => ((unhide K1).below (hbf y)).c 1 (by simp)
  have v2 : ∀ y, (f y).cell? ⟨w.heap.size + 1, 2, none⟩ = some (.int .i64 x.le) := fun y => ((unhide K1).below (hbf y)).c 2 (by simp)
  have v3 : ∀ y, (f y).cell? ⟨w.heap.size + 1, 3, none⟩ = some (.int .i64 x.mo) := fun y => ((unhide K1).below (hbf y)).c 3 (by simp)
  have v4 : ∀ y, (f y).cell? ⟨w.heap.size + 1, 4, none⟩ = some (.int .i64 x.ne) := fun y => ((unhide K1).below (hbf y)).c 4 (by simp)
  have v5 : ∀ y, (f y).cell? ⟨w.heap.size + 1, 5, none⟩ = some (.slice x.d.a x.d.n x.d.c) := fun y => ((unhide K1).below (hbf y)).c 5 (by simp)
  have p0 : ∀ y, (f y).cell? ⟨w2.heap.size, 0, none⟩ = some (.int .i64 s) := fun y => ((unhide K8).below (hbf y)).c 0 (by simp)
  have p1 : ∀ y, (f y).cell? ⟨w2.heap.size, 1, none⟩ = some (.slice (some ⟨ga, 0, none⟩) l1 c9) := fun y => ((unhide K8).below (hbf y)).c 1 (by simp)
  have KF1 : Hid (∀ y, Blk (f y) (w.heap.size + 1) [.string x.p, .int .i64 x.nb, .int .i64 x.le, .int .i64 x.mo, .int .i64 x.ne, .slice x.d.a x.d.n x.d.c]) := hide (fun y => (unhide K1).below (hbf y))
  have KF2 : Hid (∀ y, Blk (f y) (w.heap.size + 1 + 1) [.int .i64 0, .slice none 0 0]) := hide (fun y => (unhide K2).below (hbf y))
  have KF8 : Hid (∀ y, Blk (f y) w2.heap.size [.int .i64 s, .slice (some ⟨ga, 0, none⟩) l1 c9]) := hide (fun y => (unhide K8).below (hbf y))
  have OF : Hid (∀ y, OwnLd (f y) (w.heap.size + 3) (.slice (some ⟨ga, 0, none⟩) l1 c9) us) := hide (fun y => (unhide OV).below (hbf y))
  have CRF : Hid (∀ y, Calls Tryz.prog 40 #[.agg #[.int .i64 s, .slice a1 l1 c1], .agg #[.string x.p, .int .i64 x.nb, .int .i64 x.le, .int .i64 x.mo, .int .i64 x.ne, .slice x.d.a x.d.n x.d.c], .int .i64 sl] (f y) fun e w' => e = .returned (rfV (tkC s zs (lxW x) sl)) ∧ Below (f y).heap.size (f y) w') := hide (fun y => refuses_any s a1 l1 c1 zs x sl (f y) ⟨(unhide HT).below ((unhide HBF) y)⟩ ⟨(unhide HIN).sl.below ((unhide HBF) y), (unhide HIN).sz⟩)
  have CCO : Hid (∀ y, Calls Tryz.prog 39 #[rfV (tkC s zs (lxW x) sl)] (f y) fun e w' => e = .returned (.int .i64 (tkC s zs (lxW x) sl)) ∧ Below (f y).heap.size (f y) w') := hide (fun y => codeOf_any _ (f y) ((unhide HG).below ((unhide HBF) y)))
  have HDL : Hid (tkL s zs (lxW x) sl = zs) := hide (by rw [tkL, if_neg (unhide HNE)])
  have e0 : (tkC s zs (lxW x) sl != 0) = true := by simpa using unhide HNE
  have e1 : decide (tkC s zs (lxW x) sl = 0) = false := by simpa using unhide HNE
  have e2 : (tkC s zs (lxW x) sl == 0) = false := by simpa using unhide HNE
  obtain ⟨TC, hTC⟩ : ∃ z, tkC s zs (lxW x) sl = z := ⟨_, rfl⟩
  rw [hTC] at CRF CCO e0 e1 e2
  have HTC := hide hTC
  clear hTC
  obtain ⟨x0, hx0⟩ := (unhide HAL) V (Below.refl _ _)
  have HX0 : Hid (w2.alloc (Obj.cells #[.int .i64 s, .slice (some ⟨ga, 0, none⟩) l1 c9] 26) = f x0) := hide (hV.symm.trans hx0)
  have b0w := b0 x0
  have b1w := b1 x0
  have v0w := v0 x0
  have v1w := v1 x0
  have v2w := v2 x0
  have v3w := v3 x0
  have v4w := v4 x0
  have v5w := v5 x0
  rw [← hx0, hV] at b0w b1w v0w v1w v2w v3w v4w v5w
  clear hbf hall hV hx0 bV K0 K1 K2 K8 BV OV ow B2 HT HO HLL
  go_wp2_with fail
  rw [unhide HX0]
  clear HX0 b0w b1w v0w v1w v2w v3w v4w v5w
  go_wp2_with (first | (go_at_call 40; refine (belQ (unhide HF) (unhide HAL) (unhide CRF _)).mono ?_; rintro e _ ⟨rfl, y, rfl⟩) | (go_at_call 39; refine (belQ (unhide HF) (unhide HAL) (unhide CCO _)).mono ?_; rintro e _ ⟨rfl, y, rfl⟩) | ((with_reducible show wpList _ _ _ (⟨none, .store 26 _ _, _, _, _, none⟩ :: _) _ _); refine at_storeAgg (us := [.int .i64 0, .slice none 0 0]) (vs := [.int .i64 s, .slice (some ⟨ga, 0, none⟩) l1 c9]) Tryz.sizeOf26 rfl rfl ((unhide KF2) _) rfl (by intro v hv; simp at hv; rcases hv with rfl | rfl <;> rfl) ?_; intro w5 kk gg))
  have BE : Below w.heap.size w w5 := ((unhide HBF) _).grown gg ((unhide HBF) _).size (fun q hq => by cases hq; omega)
  have OE := ((unhide OF) _).far gg (fun q hq e => by have := Option.some.inj e; omega)
  exact bodyPost_ret (results_cellB (vs := [.int .i64 s, .slice (some ⟨ga, 0, none⟩) l1 c9]) (x := .int .i64 TC) rfl Tryz.isAgg26 Tryz.sizeOf26 rfl kk rfl) rfl ⟨some ⟨ga, 0, none⟩, c9, by rw [unhide HDL, unhide HZL, unhide HTC], ⟨by rw [unhide HDL, unhide HZL]; exact cp_ok (unhide HUS) (unhide HOK) (OE.mono (by omega))⟩, BE⟩

end Go.Proofs.YtemodlgmjgdjpaaGreatDoor

namespace Go.Proofs.YtemodlgmjgdjpaaGreatDoor
open Go Go.RowKit

theorem ef_ls {s : Int} {zs ms : List Lc} (h : lsB ms = false) : efB s zs ms = false := by
  cases e : efB s zs ms with
  | false => rfl
  | true =>
    simp only [efB, Bool.and_eq_true, decide_eq_true_eq] at e
    rw [lsB_yes e.1.2 e.2] at h; cases h
set_option maxRecDepth 20000 in
set_option maxHeartbeats 16000000 in
theorem implEffective_any (s : Int) (a1 : Option Addr) (l1 c1 : Nat) (zs : List Lc) (b1 : Option Addr) (n1 d1 : Nat) (ms : List Lc) (w : World) (hr : AbIn w a1 l1 zs) (hm : LsT w b1 n1 ms) (hg : ErG w) :
    Calls Tryz.prog 12 #[.agg #[.int .i64 s, .slice a1 l1 c1], .slice b1 n1 d1] w fun e w' => EfP w s zs ms e w' := by
  have HR := hide hr
  have HG := hide hg
  have HMT := hide hm
  have HML := hide hm.len_eq
  obtain ⟨ls, e, hl⟩ := hm.ex
  have hz := hl.row.len_eq
  have HO := hide hl.row.six
  have HEL := hide hl.el
  have hsm := hl.row.small
  have HE := hide e
  subst hz
  clear hr hm hl e hg
  obtain ⟨W, hW⟩ : ∃ W, W = (w.alloc (Obj.cells #[.int .i64 s, .slice a1 l1 c1] 26)).alloc (Obj.cells #[] 3) := ⟨_, rfl⟩
  have bW : Below w.heap.size w W := by rw [hW]; exact bel2 _ _
  have K0 : Hid (Blk W w.heap.size [.int .i64 s, .slice a1 l1 c1]) := hide (by rw [hW]; exact (Blk.new _ _).alloc _)
  have O0 : Hid (OwnI W (w.heap.size + 1) (.slice (some ⟨w.heap.size + 1, 0, none⟩) 0 0) []) := hide (by
    rw [hW]
    have := ownI_none (w := w.alloc (Obj.cells #[.int .i64 s, .slice a1 l1 c1] 26)) (w1 := w.alloc (Obj.cells #[.int .i64 s, .slice a1 l1 c1] 26)) (Nat.le_refl _)
    simpa using this)
  have CAH := hide (implAboardOk_any s a1 l1 c1 zs W ((unhide HR).below bW))
  have BW := hide bW
  have a0 : W.cell? ⟨w.heap.size, 0, none⟩ = some (.int .i64 s) := (unhide K0).c 0 (by simp)
  have a1' : W.cell? ⟨w.heap.size, 1, none⟩ = some (.slice a1 l1 c1) := (unhide K0).c 1 (by simp)
  have HW := hide hW
  rw [hW] at a0 a1'
  clear hW bW
  cases q1 : abB s zs with
  | false =>
    have HF : Hid (efB s zs ms = false) := hide (ef_ab q1)
    rw [q1] at CAH
    clear q1
    go_enter Tryz.func12, Tryz.ntmps12
    go_wp2_with (go_at_call 11; rw [← unhide HW]; refine (unhide CAH).mono ?_; rintro e w1 ⟨rfl, b9⟩; have B9 := hide b9; clear b9)
    go_ret2
    exact EfP.no (unhide HF) (((unhide O0).below (unhide B9)).mono (by omega)) ((unhide BW).trans ((unhide B9).mono (unhide BW).size))
  | true =>
    have HQ1 := hide q1
    rw [q1] at CAH
    clear q1
    cases q2 : lsB ms with
    | false =>
      have HF : Hid (efB s zs ms = false) := hide (ef_ls q2)
      have CL : Hid (∀ V, Below w.heap.size w V → Calls Tryz.prog 49 #[.slice b1 ls.length d1] V fun e w' => e = .returned (.bool false) ∧ Below V.heap.size V w') := hide (fun V bV => by have := loadsOk_any b1 ls.length d1 ms V ((unhide HMT).below bV); rw [q2] at this; exact this)
      clear q2
      go_enter Tryz.func12, Tryz.ntmps12
      go_wp2_with (first
        | (go_at_call 11; rw [← unhide HW]; refine (unhide CAH).mono ?_; rintro e w1 ⟨rfl, b9⟩; have B9 := hide b9; have BX := hide ((unhide BW).trans (b9.mono (unhide BW).size)); clear b9)
        | (go_at_call 49; refine ((unhide CL) _ (unhide BX)).mono ?_; rintro e w2 ⟨rfl, b9⟩; have C9 := hide b9; clear b9))
      go_ret2
      exact EfP.no (unhide HF) ((((unhide O0).below (unhide B9)).below (unhide C9)).mono (by omega)) ((unhide BX).trans ((unhide C9).mono (unhide BX).size))
    | true =>
      have HLS := hide (lsB_facts q2)
      have CL : Hid (∀ V, Below w.heap.size w V → Calls Tryz.prog 49 #[.slice b1 ls.length d1] V fun e w' => e = .returned (.bool true) ∧ Below V.heap.size V w') := hide (fun V bV => by have := loadsOk_any b1 ls.length d1 ms V ((unhide HMT).below bV); rw [q2] at this; exact this)
      have h30 : ls.length ≤ 30 := by have := (unhide HLS).1; have := unhide HML; omega
      clear q2
      go_enter Tryz.func12, Tryz.ntmps12
      go_wp2_with (first
        | (go_at_call 11; rw [← unhide HW]; refine (unhide CAH).mono ?_; rintro e w1 ⟨rfl, b9⟩; have B9 := hide b9; have BX := hide ((unhide BW).trans (b9.mono (unhide BW).size)); clear b9)
        | (go_at_call 49; refine ((unhide CL) _ (unhide BX)).mono ?_; rintro e w2 ⟨rfl, b9⟩; have C9 := hide b9; clear b9))
      have O2 := hide (((unhide O0).below (unhide B9)).below (unhide C9))
      have K2 := hide (((unhide K0).below (unhide B9)).below (unhide C9))
      have BY := hide ((unhide BX).trans ((unhide C9).mono (unhide BX).size))
      clear K0 B9 C9 BX O0 a0 a1' CAH BW CL
      go_loopw [6, 21] (fun o i wr => ∃ (k n c : Nat) (a : Option Addr), o = .slice a n c ∧ i = .int .i64 k ∧ k ≤ ls.length ∧ n ≤ k ∧ Hid ((efK s zs ms k).length = n) ∧ Hid (OwnI wr (w.heap.size + 1) (.slice a n c) (efK s zs ms k)) ∧ Hid (Blk wr w.heap.size [.int .i64 s, .slice a1 l1 c1]) ∧ Hid (Below w.heap.size w wr)) (fun _ i _ => ls.length - (intOf i).toNat)
      case atStart => exact ⟨0, 0, 0, _, rfl, rfl, Nat.zero_le _, Nat.le_refl _, hide rfl, O2, K2, BY⟩
      case round =>
        clear O2 K2 BY
        obtain ⟨k, n, c, a, rfl, rfl, hk, hnk, HN, OI, KR, BR⟩ := hrel
        by_cases hlt : k < ls.length
        · rcases (unhide HO) with ⟨h0, _⟩ | ⟨bb, off, rfl, _, hc⟩
          · omega
          obtain ⟨x, hx⟩ : ∃ x, elAt ls k = x := ⟨_, rfl⟩
          have el : elAt ms k = lxW x := by rw [← hx]; exact elAt_lx (unhide HE) hlt
          have hin := (unhide HEL) k hlt
          have q := hc k hlt
          rw [hx] at hin q
          have cl := fun {p : Addr} {v : Value} (h : w.cell? p = some v) => ((unhide BR).cell (p := p) (block_lt_of_cell h)).trans h
          have s0 := cl q.1
          have s1 := cl q.2.1
          have s2 := cl q.2.2.1
          have s3 := cl q.2.2.2.1
          have s4 := cl q.2.2.2.2.1
          have s5 := cl q.2.2.2.2.2
          have hi1 : (k : Int) < (ls.length : Int) := by omega
          have hi0 : (0 : Int) ≤ (k : Int) := by omega
          have q2 : ldB (lxW x) = true := by rw [← el]; exact (unhide HLS).2 k (by have := unhide HML; omega)
          have HQ2 := hide q2
          have HIN := hide hin
          have HEK := hide el
          clear q cl hx hc hin el q2
          obtain ⟨TC, hTC⟩ : ∃ z, tkC s zs (lxW x) (seO (lxW x)) = z := ⟨_, rfl⟩
          obtain ⟨SL, hSL⟩ : ∃ z, seO (lxW x) = z := ⟨_, rfl⟩
          have HSL := hide hSL
          have HTC := hide hTC
          clear hTC hSL
          obtain ⟨V, hV⟩ : ∃ V, V = wr.alloc (Obj.cells #[.string x.p, .int .i64 x.nb, .int .i64 x.le, .int .i64 x.mo, .int .i64 x.ne, .slice x.d.a x.d.n x.d.c] 32) := ⟨_, rfl⟩
          have bV : Below wr.heap.size wr V := by rw [hV]; exact bel1 _
          have KN : Hid (Blk V wr.heap.size [.string x.p, .int .i64 x.nb, .int .i64 x.le, .int .i64 x.mo, .int .i64 x.ne, .slice x.d.a x.d.n x.d.c]) := hide (by rw [hV]; exact Blk.new _ _)
          have KV := hide ((unhide KR).below bV)
          have OV := hide ((unhide OI).below bV)
          have BV := hide ((unhide BR).trans (bV.mono (unhide BR).size))
          have HV := hide hV
          clear hV bV
          go_upto_region 7 with fail
          rw [← unhide HV]
          clear HV s0 s1 s2 s3 s4 s5 KR OI BR
          obtain ⟨ι, f, _, hbf, hall⟩ := belClass V
          have HF := hide hbf
          have HAL := hide hall
          have HBF : Hid (∀ y, Below w.heap.size w (f y)) := hide (fun y => (unhide BV).trans ((hbf y).mono (unhide BV).size))
          have b0 : ∀ y, (f y).cell? ⟨w.heap.size, 0, none⟩ = some (.int .i64 s) := fun y => ((unhide KV).below (hbf y)).c 0 (by simp)
          have b1 : ∀ y, (f y).cell? ⟨w.heap.size, 1, none⟩ = some (.slice a1 l1 c1) := fun y => ((unhide KV).below (hbf y)).c 1 (by simp)
          have t0 : ∀ y, (f y).cell? ⟨wr.heap.size, 0, none⟩ = some (.string x.p) := fun y => ((unhide KN).below (hbf y)).c 0 (by simp)
          have t1 : ∀ y, (f y).cell? ⟨wr.heap.size, 1, none⟩ = some (.int .i64 x.nb) := fun y => ((unhide KN).below (hbf y)).c 1 (by simp)
          have t2 : ∀ y, (f y).cell? ⟨wr.heap.size, 2, none⟩ = some (.int .i64 x.le) := fun y => ((unhide KN).below (hbf y)).c 2 (by simp)
          have t3 : ∀ y, (f y).cell? ⟨wr.heap.size, 3, none⟩ = some (.int .i64 x.mo) := fun y => ((unhide KN).below (hbf y)).c 3 (by simp)
          have t4 : ∀ y, (f y).cell? ⟨wr.heap.size, 4, none⟩ = some (.int .i64 x.ne) := fun y => ((unhide KN).below (hbf y)).c 4 (by simp)
          have t5 : ∀ y, (f y).cell? ⟨wr.heap.size, 5, none⟩ = some (.slice x.d.a x.d.n x.d.c) := fun y => ((unhide KN).below (hbf y)).c 5 (by simp)
          have KF : Hid (∀ y, Blk (f y) w.heap.size [.int .i64 s, .slice a1 l1 c1]) := hide (fun y => (unhide KV).below (hbf y))
          have OF : Hid (∀ y, OwnI (f y) (w.heap.size + 1) (.slice a n c) (efK s zs ms k)) := hide (fun y => (unhide OV).below (hbf y))
          have CSE : Hid (∀ y, Calls Tryz.prog 37 #[.agg #[.string x.p, .int .i64 x.nb, .int .i64 x.le, .int .i64 x.mo, .int .i64 x.ne, .slice x.d.a x.d.n x.d.c]] (f y) fun e w' => e = .returned (.int .i64 SL) ∧ Below (f y).heap.size (f y) w') := hide (fun y => by have := seal_is x.p x.nb x.le x.mo x.ne x.d.a x.d.n x.d.c x.d.zs (f y) ⟨(unhide HIN).sl.row.below ((unhide HBF) y)⟩ (unhide HIN).sl.byt (unhide HQ2); rw [show seO ⟨x.p, x.nb, x.le, x.mo, x.ne, x.d.zs⟩ = SL from unhide HSL] at this; exact this)
          have CRF : Hid (∀ y, Calls Tryz.prog 40 #[.agg #[.int .i64 s, .slice a1 l1 c1], .agg #[.string x.p, .int .i64 x.nb, .int .i64 x.le, .int .i64 x.mo, .int .i64 x.ne, .slice x.d.a x.d.n x.d.c], .int .i64 SL] (f y) fun e w' => e = .returned (rfV TC) ∧ Below (f y).heap.size (f y) w') := hide (fun y => by have := refuses_any s a1 l1 c1 zs x SL (f y) ((unhide HR).below ((unhide HBF) y)) ⟨(unhide HIN).sl.below ((unhide HBF) y), (unhide HIN).sz⟩; rw [show tkC s zs (lxW x) SL = TC by rw [← unhide HSL]; exact unhide HTC] at this; exact this)
          have CCO : Hid (∀ y, Calls Tryz.prog 39 #[rfV TC] (f y) fun e w' => e = .returned (.int .i64 TC) ∧ Below (f y).heap.size (f y) w') := hide (fun y => codeOf_any TC (f y) ((unhide HG).below ((unhide HBF) y)))
          obtain ⟨x0, hx0⟩ := (unhide HAL) V (Below.refl _ _)
          rw [hx0]
          clear hbf hall hx0 KN KV OV BV
          refine wp_region_bel (fun w' h => (unhide HAL) w' ((unhide HF _).trans (h.mono (unhide HF _).size))) (by kernel_rfl) (by kernel_rfl) ?_
          (repeat (go_big_quiet_step (first | (go_at_call 37; exact belQ (unhide HF) (unhide HAL) (unhide CSE _)) | (go_at_call 40; exact belQ (unhide HF) (unhide HAL) (unhide CRF _)) | (go_at_call 39; exact belQ (unhide HF) (unhide HAL) (unhide CCO _)))))
          refine wpQuiet_nil ?_
          rintro _ ⟨y, rfl⟩
          obtain ⟨wc, hwc⟩ : ∃ z, z = f y := ⟨_, rfl⟩
          rw [← hwc]
          have BR3 : Hid (Below w.heap.size w wc) := hide (by rw [hwc]; exact (unhide HBF) _)
          have KR3 : Hid (Blk wc w.heap.size [.int .i64 s, .slice a1 l1 c1]) := hide (by rw [hwc]; exact (unhide KF) _)
          have OI3 : Hid (OwnI wc (w.heap.size + 1) (.slice a n c) (efK s zs ms k)) := hide (by rw [hwc]; exact (unhide OF) _)
          have hsz3 : w.heap.size + 1 ≤ wc.heap.size := (unhide KR3).lt
          clear hwc b0 b1 t0 t1 t2 t3 t4 t5 KF OF CSE CRF CCO HF HAL HBF
          by_cases h0 : TC = 0
          · have EK : Hid (efK s zs ms (k + 1) = efK s zs ms k ++ [(k : Int)]) := hide (efK_in (by rw [unhide HEK, unhide HTC]; exact h0))
            have e0 : (TC == 0) = true := by simpa using h0
            have e1 : decide (TC = 0) = true := by simpa using h0
            clear h0
            go_wp2_with (at_builtin; refine wpList_app_int rfl _ _ rfl (n := n) (k : Int) (unhide OI3) (unhide HN) rfl rfl rfl hsz3 (by omega) (by omega) ?_; intro g9 c9 w9 o9 gr9; have O9 : Hid (OwnI w9 (w.heap.size + 1) (.slice (some ⟨g9, 0, none⟩) (n + 1) c9) (efK s zs ms (k + 1))) := hide (by rw [unhide EK]; exact o9); have K9 := hide ((unhide KR3).apart gr9 (fun e => by have := ((unhide OI3).lies _ e.symm).1; omega)); have B9 := hide ((unhide BR3).grown gr9 (unhide BR3).size (fun q hq => by have := ((unhide OI3).lies _ hq).1; omega)); clear o9 gr9)
            have HN9 : Hid ((efK s zs ms (k + 1)).length = n + 1) := hide (by rw [unhide EK, List.length_append, unhide HN]; rfl)
            go_roundw
            case rel => exact ⟨k + 1, n + 1, c9, _, rfl, by go_num, by omega, by omega, HN9, O9, K9, B9⟩
            case measure => simp [intOf]; omega
          · have EK : Hid (efK s zs ms (k + 1) = efK s zs ms k) := hide (efK_out (by rw [unhide HEK, unhide HTC]; exact h0))
            have e0 : (TC == 0) = false := by simpa using h0
            have e1 : decide (TC = 0) = false := by simpa using h0
            clear h0
            go_wp2_with fail
            have HN9 : Hid ((efK s zs ms (k + 1)).length = n) := hide (by rw [unhide EK]; exact unhide HN)
            have O9 : Hid (OwnI wc (w.heap.size + 1) (.slice a n c) (efK s zs ms (k + 1))) := hide (by rw [unhide EK]; exact unhide OI3)
            go_roundw
            case rel => exact ⟨k + 1, n, c, _, rfl, by go_num, by omega, by omega, HN9, O9, KR3, BR3⟩
            case measure => simp [intOf]; omega
        · have hi1 : ¬ (k : Int) < (ls.length : Int) := by omega
          obtain rfl : k = ls.length := by omega
          have HT : Hid (efB s zs ms = true) := hide (ef_all (unhide HQ1) (unhide HLS).1 (unhide HLS).2)
          go_wp2_with fail
          go_ret2
          exact EfP.yes (unhide HT) (unhide HML) (unhide HN) ((unhide OI).mono (by omega)) (unhide BR)

end Go.Proofs.YtemodlgmjgdjpaaGreatDoor
