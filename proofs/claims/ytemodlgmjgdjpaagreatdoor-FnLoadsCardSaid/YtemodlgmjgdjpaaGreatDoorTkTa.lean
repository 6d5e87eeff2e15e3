/-
  What the program's Take18 answers where the load is taken: what is aboard then, in memory of its own, and 0.
-/
import Derived.Test.YtemodlgmjgdjpaaGreatDoorTsPure
import Derived.Test.YtemodlgmjgdjpaaGreatDoorRfImp
import Derived.Test.YtemodlgmjgdjpaaGreatDoorMCpPure
import Derived.Test.YtemodlgmjgdjpaaGreatDoorMDlImp
import Derived.Test.YtemodlgmjgdjpaaGreatDoorMTkQ
import Derived.Test.YtemodlgmjgdjpaaGreatDoorMTkSpc
import Derived.Test.YtemodlgmjgdjpaaGreatDoorDlSpc
namespace Go.Proofs.YtemodlgmjgdjpaaGreatDoor
open Go Go.RowKit

set_option maxRecDepth 20000 in
set_option maxHeartbeats 16000000 in
theorem implTake18_take (s : Int) (a1 : Option Addr) (l1 c1 : Nat) (zs : List Lc) (x : Lx) (sl : Int) (w : World) (hr : AbIn w a1 l1 zs) (hlz : LzB zs) (hin : LxIn w x) (hdn : x.d.n ≤ 1048576) (hg : ErG w) (hz : tkC s zs (lxW x) sl = 0) :
    Calls Tryz.prog 9 #[.agg #[.int .i64 s, .slice a1 l1 c1], .agg #[.string x.p, .int .i64 x.nb, .int .i64 x.le, .int .i64 x.mo, .int .i64 x.ne, .slice x.d.a x.d.n x.d.c], .int .i64 sl] w fun e w' => ∃ a9 c9, e = .returned (.tuple #[.agg #[.int .i64 s, .slice a9 (tkL s zs (lxW x) sl).length c9], .int .i64 (tkC s zs (lxW x) sl)]) ∧ AbOwn w' w.heap.size a9 (tkL s zs (lxW x) sl).length c9 (tkL s zs (lxW x) sl) ∧ Below w.heap.size w w' := by
  have HNE := hide hz
  have HG := hide hg
  have HAQ := hide (tk_zero hz).1
  have HNS := hide hdn
  clear hz hg hdn
  have HT := hide hr.r1
  have HZL := hide hr.r1.len_eq
  have hsm := hr.r1.small
  have HLZ := hide hlz
  have HIN := hide hin
  obtain ⟨ls, e, hl⟩ := hr.r1.ex
  have HE := hide e
  have HO := hide hl.row.six
  have HLL := hide hl.row.len_eq
  clear hr hlz hin e hl
  obtain ⟨W, hW⟩ : ∃ W, W = ((w.alloc (Obj.cells #[.int .i64 s, .slice a1 l1 c1] 26)).alloc (Obj.cells #[.string x.p, .int .i64 x.nb, .int .i64 x.le, .int .i64 x.mo, .int .i64 x.ne, .slice x.d.a x.d.n x.d.c] 32)).alloc (Obj.cells #[.int .i64 0, .slice none 0 0] 26) := ⟨_, rfl⟩
  have K0 : Hid (Blk W w.heap.size [.int .i64 s, .slice a1 l1 c1]) := hide (by rw [hW]; exact ((Blk.new _ _).alloc _).alloc _)
  have K1 : Hid (Blk W (w.heap.size + 1) [.string x.p, .int .i64 x.nb, .int .i64 x.le, .int .i64 x.mo, .int .i64 x.ne, .slice x.d.a x.d.n x.d.c]) := hide (by
    rw [hW]
    have := (Blk.new (w := (w.alloc (Obj.cells #[.int .i64 s, .slice a1 l1 c1] 26))) [.string x.p, .int .i64 x.nb, .int .i64 x.le, .int .i64 x.mo, .int .i64 x.ne, .slice x.d.a x.d.n x.d.c] 32).alloc (Obj.cells #[.int .i64 0, .slice none 0 0] 26)
    simpa using this)
  have K2 : Hid (Blk W (w.heap.size + 1 + 1) [.int .i64 0, .slice none 0 0]) := hide (by
    rw [hW]
    have := Blk.new (w := ((w.alloc (Obj.cells #[.int .i64 s, .slice a1 l1 c1] 26)).alloc (Obj.cells #[.string x.p, .int .i64 x.nb, .int .i64 x.le, .int .i64 x.mo, .int .i64 x.ne, .slice x.d.a x.d.n x.d.c] 32))) [.int .i64 0, .slice none 0 0] 26
    simpa using this)
  have B0 : Hid (Below w.heap.size w W) := hide (by rw [hW]; exact bel3 _ _ _)
  have hWs : Hid (W.heap.size = w.heap.size + 3) := hide (by rw [hW]; simp)
  have a0 : W.cell? ⟨w.heap.size, 0, none⟩ = some (.int .i64 s) := (unhide K0).c 0 (by simp)
  have a1' : W.cell? ⟨w.heap.size, 1, none⟩ = some (.slice a1 l1 c1) := (unhide K0).c 1 (by simp)
  rw [hW] at a0 a1'
  have HW := hide hW
  clear hW
  go_enter Tryz.func9, Tryz.ntmps9
  go_wp2_with fail
  rw [← unhide HW]
  clear HW a0 a1'
  refine (copiedA_any s a1 l1 c1 zs W ((unhide HT).below (unhide B0)) (unhide HLZ)).mono ?_
  rintro e w2 ⟨⟨ga, c9, rfl, ow⟩, b2⟩
  have ow := ow.mono (base' := w.heap.size + 3) (by have := unhide hWs; omega)
  obtain ⟨us, hus, ho⟩ := ow.ex
  have HOK := hide ow.ok
  have HUS := hide hus
  have HLI : Hid (LxLies (w.heap.size + 3) w2.heap.size (.slice (some ⟨ga, 0, none⟩) l1 c9) us) := hide ho.lies
  have HUL : Hid (us.length = l1) := hide (ownLd_len ho)
  have ow := hide ho
  clear ho hus
  have hw2 : w.heap.size + 3 ≤ w2.heap.size := by have := b2.size; have := unhide hWs; omega
  have K0 := hide ((unhide K0).below b2)
  have K1 := hide ((unhide K1).below b2)
  have K2 := hide ((unhide K2).below b2)
  have B2 := hide ((unhide B0).trans (b2.mono (unhide B0).size))
  clear b2 B0 hWs
  obtain ⟨V, hV⟩ : ∃ V, V = w2.alloc (Obj.cells #[.int .i64 s, .slice (some ⟨ga, 0, none⟩) l1 c9] 26) := ⟨_, rfl⟩
  have bV : Below w2.heap.size w2 V := by rw [hV]; exact bel1 _
  have K8 : Hid (Blk V w2.heap.size [.int .i64 s, .slice (some ⟨ga, 0, none⟩) l1 c9]) := hide (by rw [hV]; exact Blk.new _ _)
  have K0 := hide ((unhide K0).below bV)
  have K1 := hide ((unhide K1).below bV)
  have K2 := hide ((unhide K2).below bV)
  have BV := hide ((unhide B2).trans (bV.mono (unhide B2).size))
  have OV := hide ((unhide ow).below bV)
  obtain ⟨ι, f, _, hbf, hall⟩ := belClass V
  have HF := hide hbf
  have HAL := hide hall
  have HBF : Hid (∀ y, Below w.heap.size w (f y)) := hide (fun y => (unhide BV).trans ((hbf y).mono (unhide BV).size))
  have b0 : ∀ y, (f y).cell? ⟨w.heap.size, 0, none⟩ = some (.int .i64 s) := fun y => ((unhide K0).below (hbf y)).c 0 (by simp)
  have b1 : ∀ y, (f y).cell? ⟨w.heap.size, 1, none⟩ = some (.slice a1 l1 c1) := fun y => ((unhide K0).below (hbf y)).c 1 (by simp)
  have v0 : ∀ y, (f y).cell? ⟨w.heap.size + 1, 0, none⟩ = some (.string x.p) := fun y => ((unhide K1).below (hbf y)).c 0 (by simp)
  have v1 : ∀ y, (f y).cell? ⟨w.heap.size + 1, 1, none⟩ = some (.int .i64 x.nb) := fun y => ((unhide K1).below (hbf y)).c 1 (by simp)
  have v2 : ∀ y, (f y).cell? ⟨w.heap.size + 1, 2, none⟩ = some (.int .i64 x.le) := fun y => ((unhide K1).below (hbf y)).c 2 (by simp)
  have v3 : ∀ y, (f y).cell? ⟨w.heap.size + 1, 3, none⟩ = some (.int .i64 x.mo) := fun y => ((unhide K1).below (hbf y)).c 3 (by simp)
  have v4 : ∀ y, (f y).cell? ⟨w.heap.size + 1, 4, none⟩ = some (.int .i64 x.ne) := fun y => ((unhide K1).below (hbf y)).c 4 (by simp)
  have v5 : ∀ y, (f y).cell? ⟨w.heap.size + 1, 5, none⟩ = some (.slice x.d.a x.d.n x.d.c) := fun y => ((unhide K1).below (hbf y)).c 5 (by simp)
  have p0 : ∀ y, (f y).cell? ⟨w2.heap.size, 0, none⟩ = some (.int .i64 s) := fun y => ((unhide K8).below (hbf y)).c 0 (by simp)
  have p1 : ∀ y, (f y).cell? ⟨w2.heap.size, 1, none⟩ = some (.slice (some ⟨ga, 0, none⟩) l1 c9) := fun y => ((unhide K8).below (hbf y)).c 1 (by simp)
  have KF1 : Hid (∀ y, Blk (f y) (w.heap.size + 1) [.string x.p, .int .i64 x.nb, .int .i64 x.le, .int .i64 x.mo, .int .i64 x.ne, .slice x.d.a x.d.n x.d.c]) := hide (fun y => (unhide K1).below (hbf y))
  have KF2 : Hid (∀ y, Blk (f y) (w.heap.size + 1 + 1) [.int .i64 0, .slice none 0 0]) := hide (fun y => (unhide K2).below (hbf y))
  have KF8 : Hid (∀ y, Blk (f y) w2.heap.size [.int .i64 s, .slice (some ⟨ga, 0, none⟩) l1 c9]) := hide (fun y => (unhide K8).below (hbf y))
  have OF : Hid (∀ y, OwnLd (f y) (w.heap.size + 3) (.slice (some ⟨ga, 0, none⟩) l1 c9) us) := hide (fun y => (unhide OV).below (hbf y))
  have CRF : Hid (∀ y, Calls Tryz.prog 40 #[.agg #[.int .i64 s, .slice a1 l1 c1], .agg #[.string x.p, .int .i64 x.nb, .int .i64 x.le, .int .i64 x.mo, .int .i64 x.ne, .slice x.d.a x.d.n x.d.c], .int .i64 sl] (f y) fun e w' => e = .returned (rfV (tkC s zs (lxW x) sl)) ∧ Below (f y).heap.size (f y) w') := hide (fun y => refuses_any s a1 l1 c1 zs x sl (f y) ⟨(unhide HT).below ((unhide HBF) y)⟩ ⟨(unhide HIN).sl.below ((unhide HBF) y), (unhide HIN).sz⟩)
  have CCO : Hid (∀ y, Calls Tryz.prog 39 #[rfV (tkC s zs (lxW x) sl)] (f y) fun e w' => e = .returned (.int .i64 (tkC s zs (lxW x) sl)) ∧ Below (f y).heap.size (f y) w') := hide (fun y => codeOf_any _ (f y) ((unhide HG).below ((unhide HBF) y)))
  have HDL : Hid (tkL s zs (lxW x) sl = insL (tkO zs x.p) (poF (tkO zs x.p) x.nb) (lxW x)) := hide (by rw [tkL, if_pos (unhide HNE), inF_ins]; rfl)
  have HGA : Hid (w.heap.size + 3 ≤ ga ∧ ga < w2.heap.size) := hide ((unhide HLI).1 ga rfl)
  have e0 : (tkC s zs (lxW x) sl != 0) = false := by simpa using unhide HNE
  have e1 : decide (tkC s zs (lxW x) sl = 0) = true := by simpa using unhide HNE
  have e2 : (tkC s zs (lxW x) sl == 0) = true := by simpa using unhide HNE
  obtain ⟨TC, hTC⟩ : ∃ z, tkC s zs (lxW x) sl = z := ⟨_, rfl⟩
  rw [hTC] at CRF CCO e0 e1 e2
  have HTC := hide hTC
  clear hTC
  obtain ⟨x0, hx0⟩ := (unhide HAL) V (Below.refl _ _)
  have HX0 : Hid (w2.alloc (Obj.cells #[.int .i64 s, .slice (some ⟨ga, 0, none⟩) l1 c9] 26) = f x0) := hide (hV.symm.trans hx0)
  have b0w := b0 x0
  have b1w := b1 x0
  have v0w := v0 x0
  have v1w := v1 x0
  have v2w := v2 x0
  have v3w := v3 x0
  have v4w := v4 x0
  have v5w := v5 x0
  rw [← hx0, hV] at b0w b1w v0w v1w v2w v3w v4w v5w
  clear hbf hall hV hx0 bV K0 K1 K2 K8 BV OV ow B2 HT HO HLL
  go_upto_region 2 with fail
  rw [unhide HX0]
  clear HX0 b0w b1w v0w v1w v2w v3w v4w v5w
  go_upto_region 5 with (first | (go_at_call 40; refine (belQ (unhide HF) (unhide HAL) (unhide CRF _)).mono ?_; rintro e _ ⟨rfl, y, rfl⟩) | (go_at_call 39; refine (belQ (unhide HF) (unhide HAL) (unhide CCO _)).mono ?_; rintro e _ ⟨rfl, y, rfl⟩))
  obtain ⟨M, hM⟩ : ∃ M, M = f y := ⟨_, rfl⟩
  have BM : Hid (Below w.heap.size w M) := hide (by rw [hM]; exact (unhide HBF) y)
  have KM1 : Hid (Blk M (w.heap.size + 1) [.string x.p, .int .i64 x.nb, .int .i64 x.le, .int .i64 x.mo, .int .i64 x.ne, .slice x.d.a x.d.n x.d.c]) := hide (by rw [hM]; exact (unhide KF1) y)
  have KM2 : Hid (Blk M (w.heap.size + 1 + 1) [.int .i64 0, .slice none 0 0]) := hide (by rw [hM]; exact (unhide KF2) y)
  have KM8 : Hid (Blk M w2.heap.size [.int .i64 s, .slice (some ⟨ga, 0, none⟩) l1 c9]) := hide (by rw [hM]; exact (unhide KF8) y)
  have OM : Hid (OwnLd M (w.heap.size + 3) (.slice (some ⟨ga, 0, none⟩) l1 c9) us) := hide (by rw [hM]; exact (unhide OF) y)
  have m0 : M.cell? ⟨w2.heap.size, 0, none⟩ = some (.int .i64 s) := (unhide KM8).c 0 (by simp)
  have m1 : M.cell? ⟨w2.heap.size, 1, none⟩ = some (.slice (some ⟨ga, 0, none⟩) l1 c9) := (unhide KM8).c 1 (by simp)
  rw [← hM]
  clear b0 b1 v0 v1 v2 v3 v4 v5 p0 p1 KF1 KF2 KF8 OF CRF CCO HF HAL HBF hM
  go_upto_region 6 with (go_at_call 41; refine (delF_any (w.heap.size + 3) ga l1 c9 (w.heap.size + 1) us s x.p _ M (by rw [unhide HUS]; exact unhide HOK) (unhide OM) (unhide HUL) (by have := (abB_facts (unhide HAQ)).2.2; have := unhide HZL; omega) (by rw [unhide HUS]; exact unhide HAQ) (unhide KM1) (by have := unhide HGA; omega)).mono ?_; rintro e w9 ⟨m, us', rfl, o9, hm9, hl9, hle9, hs9, gr9⟩; have HGN := unhide HGA; have K91 := hide ((unhide KM1).apart gr9 (by simp; omega)); have K92 := hide ((unhide KM2).apart gr9 (by simp; omega)); have K98 := hide ((unhide KM8).apart gr9 (by simp; omega)); have B9 := hide ((unhide BM).grown gr9 (unhide BM).size (fun q hq => by simp at hq; omega)); have O9 := hide o9; have HM9 := hide hm9; have HL9 := hide hl9; have HE9 := hide hle9; have HS9 := hide hs9; have y1 : w9.cell? ⟨w2.heap.size, 1, none⟩ = some (.slice (some ⟨ga, 0, none⟩) l1 c9) := (unhide K98).c 1 (by simp); have y2 : w9.frozen? ⟨w2.heap.size, 1, none⟩ = false := (unhide K98).f 1 (by simp); have HS : Hid (w2.heap.size < w9.heap.size) := hide (unhide K98).lt; clear o9 hm9 hl9 hle9 hs9 gr9 HGN)
  obtain ⟨U, hU⟩ : ∃ U, U = w9.setCell ⟨w2.heap.size, 1, none⟩ (.slice (some ⟨ga, 0, none⟩) m c9) := ⟨_, rfl⟩
  have KT : Hid (Blk U (w.heap.size + 1) [.string x.p, .int .i64 x.nb, .int .i64 x.le, .int .i64 x.mo, .int .i64 x.ne, .slice x.d.a x.d.n x.d.c]) := hide (by rw [hU]; exact (unhide K91).other (p := ⟨w2.heap.size, 1, none⟩) (by show w2.heap.size ≠ w.heap.size + 1; omega) _)
  have KR : Hid (Blk U (w.heap.size + 1 + 1) [.int .i64 0, .slice none 0 0]) := hide (by rw [hU]; exact (unhide K92).other (p := ⟨w2.heap.size, 1, none⟩) (by show w2.heap.size ≠ w.heap.size + 1 + 1; omega) _)
  have KQ : Hid (Blk U w2.heap.size [.int .i64 s, .slice (some ⟨ga, 0, none⟩) m c9]) := hide (by rw [hU]; exact (unhide K98).set 1 (by simp) _)
  have BU : Hid (Below w.heap.size w U) := hide (by rw [hU]; exact (unhide B9).setCell (p := ⟨w2.heap.size, 1, none⟩) (by show w.heap.size ≤ w2.heap.size; omega) _)
  have HLI2 : Hid (LxLies (w.heap.size + 3) w2.heap.size (.slice (some ⟨ga, 0, none⟩) m c9) us') := hide ⟨fun q hq => (unhide HLI).1 q hq, fun i hi q hq => by
    obtain ⟨j, hj, e⟩ := (unhide HS9) i (by have := unhide HL9; omega)
    rw [e] at hq
    exact (unhide HLI).2 j (by have := unhide HUL; omega) q hq⟩
  have OU : Hid (OwnLd U (w.heap.size + 3) (.slice (some ⟨ga, 0, none⟩) m c9) us') := hide (by rw [hU]; exact (unhide O9).far_out (unhide HLI2) (Nat.le_refl _) (grown_set (grown_refl w9 _) 1 _))
  have HUS2 : Hid (w2.heap.size < U.heap.size) := hide (by rw [hU]; simpa using unhide HS)
  have HZ9 : Hid (us'.map lxW = tkO zs x.p) := hide (by rw [unhide HM9, unhide HUS])
  have HOKZ : Hid (LzOk (tkO zs x.p)) := hide (fun i hi => by
    have e := unhide HZ9
    have hi' : i < us'.length := by rw [← e] at hi; simpa using hi
    rw [elAt_lx e hi']
    obtain ⟨j, hj, e2⟩ := (unhide HS9) i (by have := unhide HL9; omega)
    rw [e2]
    have hj' : j < us.length := by have := unhide HUL; omega
    have h := (unhide HOK) j (by rw [← unhide HUS]; simpa using hj')
    rw [elAt_lx (unhide HUS) hj'] at h
    exact h)
  have HAB : Hid (AbIn U (some ⟨ga, 0, none⟩) m (tkO zs x.p)) := hide ⟨(OwnLT.mk ⟨us', unhide HZ9, unhide OU⟩ (unhide HOKZ)).row⟩
  have HINX : Hid (LxIn U x) := hide ⟨(unhide HIN).sl.below (unhide BU), (unhide HIN).sz⟩
  have HO := hide (unhide OU).out
  have HML : Hid (m ≤ 30) := hide (by have := (abB_facts (unhide HAQ)).2.2; have := unhide HZL; have := unhide HE9; omega)
  rw [← hU]
  clear hU y1 y2 m0 m1 K91 K92 K98 B9 O9 HM9 HS9 HE9 HS BM KM1 KM2 KM8 OM HLI HE HLZ HG
  obtain ⟨k, hk⟩ : ∃ k, poF (tkO zs x.p) x.nb = k := ⟨_, rfl⟩
  have HKM : Hid (k ≤ m) := hide (by
    have h1 := poF_le (tkO zs x.p) x.nb
    have h2 : (tkO zs x.p).length = m := by rw [← unhide HZ9]; simpa using unhide HL9
    omega)
  have HSZ : Hid (w.heap.size + 3 ≤ ga ∧ ga < w2.heap.size ∧ w2.heap.size < U.heap.size ∧ m ≤ 30 ∧ k ≤ m) := hide ⟨(unhide HGA).1, (unhide HGA).2, unhide HUS2, unhide HML, unhide HKM⟩
  have HDL2 : Hid (tkL s zs (lxW x) sl = insL (tkO zs x.p) k (lxW x)) := hide (by rw [unhide HDL, hk])
  have HK := hide hk
  have HUL := HL9
  clear hk HGA HUS2 HML HKM HDL
  refine wp_region_flagsA (by kernel_rfl) (by kernel_rfl) (TkQJ U s x (w.heap.size + 1) w2.heap.size ga m c9 (w.heap.size + 3) us' k) ?_ ?_ ?_
  · exact TkQJ.mk (v0 := undef) (v1 := undef) (v2 := undef) (v3 := undef) (v4 := undef) (v5 := undef) (v6 := undef) (v7 := undef) (v8 := undef) (v9 := undef) (v10 := undef) ⟨(fun _ => (bel0d' 1 : Below U.heap.size U (U.drewN 1))), (fun h => by cases h), (fun h => by cases h), (fun h => by cases h), (fun h => by cases h), (fun h => by cases h), (fun h => by cases h), (fun h => by cases h), (fun h => by cases h), (fun h => by cases h), (fun h => by cases h), (fun h => by cases h), (fun h => by cases h), (fun h => by cases h), (fun h => by cases h), (fun h => by cases h), (fun h => by cases h), (fun h => by cases h), (fun h => by cases h), (fun h => by cases h), (fun h => by cases h)⟩ (by kernel_rfl)
  rotate_left 1
  · rintro l a W i o ho hl hd ⟨v0, v1, v2, v3, v4, v5, v6, v7, v8, v9, v10, rfl, K⟩
    have hi : i < 12 := (Array.getElem?_eq_some_iff.1 ho).1
    rcases (show i = 0 ∨ i = 1 ∨ i = 2 ∨ i = 3 ∨ i = 4 ∨ i = 5 ∨ i = 6 ∨ i = 7 ∨ i = 8 ∨ i = 9 ∨ i = 10 ∨ i = 11 from by omega) with rfl | rfl | rfl | rfl | rfl | rfl | rfl | rfl | rfl | rfl | rfl | rfl
    · simp at ho
      subst ho
      have HK : Hid (TkQ U s x (w.heap.size + 1) w2.heap.size ga m c9 (w.heap.size + 3) us' k true (l 1) (l 2) (l 3) (l 4) (l 5) (l 6) (l 7) (l 8) (l 9) (l 10) (l 11) (.pointer (some ⟨w2.heap.size, 1, none⟩)) v1 v2 v3 v4 v5 v6 v7 v8 v9 v10 W) := hide ⟨(K.be), (fun _ => rfl), (K.e1), (K.e2), (K.e3), (K.e4), (K.e5), (K.e6), (K.e7), (K.e8), (K.e9), (K.e10), (K.e11), (K.c5a), (K.c5b), (K.c7), (K.c8), (K.c9a), (K.c9b), (K.c9c), (K.c11)⟩
      clear K hd hl
      go_wp2_with fail
      exact ⟨rfl, TkQJ.mk (unhide HK) (by kernel_rfl)⟩
    · simp at ho
      subst ho
      have d0 : l 0 = true := hd ⟨0, .data⟩ (by simp) rfl
      have x0 := K.e0 d0
      subst x0
      have z9 : l 9 = false := by cases c : l 9; rfl; have := K.c9a c; rw [hl] at this; cases this
      have cb := (unhide KQ).below (K.be z9)
      have yy0 : W.cell? ⟨w2.heap.size, 0, none⟩ = some (.int .i64 s) := cb.c 0 (by simp)
      have yy1 : W.cell? ⟨w2.heap.size, 1, none⟩ = some (.slice (some ⟨ga, 0, none⟩) m c9) := cb.c 1 (by simp)
      have HK : Hid (TkQ U s x (w.heap.size + 1) w2.heap.size ga m c9 (w.heap.size + 3) us' k (l 0) true (l 2) (l 3) (l 4) (l 5) (l 6) (l 7) (l 8) (l 9) (l 10) (l 11) (.pointer (some ⟨w2.heap.size, 1, none⟩)) (.slice (some ⟨ga, 0, none⟩) m c9) v2 v3 v4 v5 v6 v7 v8 v9 v10 W) := hide ⟨(K.be), (K.e0), (fun _ => rfl), (K.e2), (K.e3), (K.e4), (K.e5), (K.e6), (K.e7), (K.e8), (K.e9), (K.e10), (K.e11), (K.c5a), (K.c5b), (K.c7), (K.c8), (fun _ => rfl), (K.c9b), (K.c9c), (K.c11)⟩
      clear K hd hl cb z9
      go_wp2_with fail
      exact ⟨rfl, TkQJ.mk (unhide HK) (by kernel_rfl)⟩
    · simp at ho
      subst ho
      have z9 : l 9 = false := by cases c : l 9; rfl; have := K.c5a (K.c9b c); rw [hl] at this; cases this
      have cb := (unhide KQ).below (K.be z9)
      have yy0 : W.cell? ⟨w2.heap.size, 0, none⟩ = some (.int .i64 s) := cb.c 0 (by simp)
      have yy1 : W.cell? ⟨w2.heap.size, 1, none⟩ = some (.slice (some ⟨ga, 0, none⟩) m c9) := cb.c 1 (by simp)
      have HK : Hid (TkQ U s x (w.heap.size + 1) w2.heap.size ga m c9 (w.heap.size + 3) us' k (l 0) (l 1) true (l 3) (l 4) (l 5) (l 6) (l 7) (l 8) (l 9) (l 10) (l 11) v0 v1 (.agg #[.int .i64 s, .slice (some ⟨ga, 0, none⟩) m c9]) v3 v4 v5 v6 v7 v8 v9 v10 W) := hide ⟨(K.be), (K.e0), (K.e1), (fun _ => rfl), (K.e3), (K.e4), (K.e5), (K.e6), (K.e7), (K.e8), (K.e9), (K.e10), (K.e11), (fun _ => rfl), (K.c5b), (K.c7), (K.c8), (K.c9a), (K.c9b), (K.c9c), (K.c11)⟩
      clear K hd hl cb z9
      go_wp2_with fail
      exact ⟨rfl, TkQJ.mk (unhide HK) (by kernel_rfl)⟩
    · simp at ho
      subst ho
      have HK : Hid (TkQ U s x (w.heap.size + 1) w2.heap.size ga m c9 (w.heap.size + 3) us' k (l 0) (l 1) (l 2) true (l 4) (l 5) (l 6) (l 7) (l 8) (l 9) (l 10) (l 11) v0 v1 v2 (.pointer (some ⟨(w.heap.size + 1), 1, none⟩)) v4 v5 v6 v7 v8 v9 v10 W) := hide ⟨(K.be), (K.e0), (K.e1), (K.e2), (fun _ => rfl), (K.e4), (K.e5), (K.e6), (K.e7), (K.e8), (K.e9), (K.e10), (K.e11), (K.c5a), (K.c5b), (K.c7), (K.c8), (K.c9a), (K.c9b), (K.c9c), (K.c11)⟩
      clear K hd hl
      go_wp2_with fail
      exact ⟨rfl, TkQJ.mk (unhide HK) (by kernel_rfl)⟩
    · simp at ho
      subst ho
      have d3 : l 3 = true := hd ⟨3, .data⟩ (by simp) rfl
      have x3 := K.e3 d3
      subst x3
      have z9 : l 9 = false := by cases c : l 9; rfl; have := K.c5b (K.c9b c); rw [hl] at this; cases this
      have cb := (unhide KT).below (K.be z9)
      have yy0 : W.cell? ⟨(w.heap.size + 1), 0, none⟩ = some (.string x.p) := cb.c 0 (by simp)
      have yy1 : W.cell? ⟨(w.heap.size + 1), 1, none⟩ = some (.int .i64 x.nb) := cb.c 1 (by simp)
      have yy2 : W.cell? ⟨(w.heap.size + 1), 2, none⟩ = some (.int .i64 x.le) := cb.c 2 (by simp)
      have yy3 : W.cell? ⟨(w.heap.size + 1), 3, none⟩ = some (.int .i64 x.mo) := cb.c 3 (by simp)
      have yy4 : W.cell? ⟨(w.heap.size + 1), 4, none⟩ = some (.int .i64 x.ne) := cb.c 4 (by simp)
      have yy5 : W.cell? ⟨(w.heap.size + 1), 5, none⟩ = some (.slice x.d.a x.d.n x.d.c) := cb.c 5 (by simp)
      have HK : Hid (TkQ U s x (w.heap.size + 1) w2.heap.size ga m c9 (w.heap.size + 3) us' k (l 0) (l 1) (l 2) (l 3) true (l 5) (l 6) (l 7) (l 8) (l 9) (l 10) (l 11) v0 v1 v2 (.pointer (some ⟨(w.heap.size + 1), 1, none⟩)) (.int .i64 x.nb) v5 v6 v7 v8 v9 v10 W) := hide ⟨(K.be), (K.e0), (K.e1), (K.e2), (K.e3), (fun _ => rfl), (K.e5), (K.e6), (K.e7), (K.e8), (K.e9), (K.e10), (K.e11), (K.c5a), (fun _ => rfl), (K.c7), (K.c8), (K.c9a), (K.c9b), (K.c9c), (K.c11)⟩
      clear K hd hl cb z9
      go_wp2_with fail
      exact ⟨rfl, TkQJ.mk (unhide HK) (by kernel_rfl)⟩
    · simp at ho
      subst ho
      have d2 : l 2 = true := hd ⟨2, .data⟩ (by simp) rfl
      have d4 : l 4 = true := hd ⟨4, .data⟩ (by simp) rfl
      have x2 := K.e2 d2
      subst x2
      have x4 := K.e4 d4
      subst x4
      have z9 : l 9 = false := by cases c : l 9; rfl; have := K.c9b c; rw [hl] at this; cases this
      have HK0 := hide K
      have HB := hide (K.be z9)
      have HZ := hide z9
      have D2 := hide d2
      have D4 := hide d4
      clear K hd hl z9 d2 d4
      go_wp2_with (go_at_call 44; refine (placeFor_any _ _ _ _ _ _ _ ((unhide HAB).below (unhide HB))).mono ?_; rintro e u1 ⟨rfl, b5⟩; rw [unhide HK]; have d2 := unhide D2; have d4 := unhide D4; have K := (unhide HK0).below (unhide HZ) b5; have HKN : Hid (TkQ U s x (w.heap.size + 1) w2.heap.size ga m c9 (w.heap.size + 3) us' k (l 0) (l 1) (l 2) (l 3) (l 4) true (l 6) (l 7) (l 8) (l 9) (l 10) (l 11) v0 v1 (.agg #[.int .i64 s, .slice (some ⟨ga, 0, none⟩) m c9]) v3 (.int .i64 x.nb) (.int .i64 (k : Int)) v6 v7 v8 v9 v10 u1) := hide ⟨(K.be), (K.e0), (K.e1), (K.e2), (K.e3), (K.e4), (fun _ => rfl), (K.e6), (K.e7), (K.e8), (K.e9), (K.e10), (K.e11), (fun _ => d2), (fun _ => d4), (K.c7), (K.c8), (K.c9a), (fun _ => rfl), (K.c9c), (K.c11)⟩; clear K d2 d4)
      exact ⟨rfl, TkQJ.mk (unhide HKN) (by kernel_rfl)⟩
    · simp at ho
      subst ho
      have z9 : l 9 = false := by cases c : l 9; rfl; have := K.c7 (K.c8 (K.c9c c)); rw [hl] at this; cases this
      have cb := (unhide KT).below (K.be z9)
      have yy0 : W.cell? ⟨(w.heap.size + 1), 0, none⟩ = some (.string x.p) := cb.c 0 (by simp)
      have yy1 : W.cell? ⟨(w.heap.size + 1), 1, none⟩ = some (.int .i64 x.nb) := cb.c 1 (by simp)
      have yy2 : W.cell? ⟨(w.heap.size + 1), 2, none⟩ = some (.int .i64 x.le) := cb.c 2 (by simp)
      have yy3 : W.cell? ⟨(w.heap.size + 1), 3, none⟩ = some (.int .i64 x.mo) := cb.c 3 (by simp)
      have yy4 : W.cell? ⟨(w.heap.size + 1), 4, none⟩ = some (.int .i64 x.ne) := cb.c 4 (by simp)
      have yy5 : W.cell? ⟨(w.heap.size + 1), 5, none⟩ = some (.slice x.d.a x.d.n x.d.c) := cb.c 5 (by simp)
      have HK : Hid (TkQ U s x (w.heap.size + 1) w2.heap.size ga m c9 (w.heap.size + 3) us' k (l 0) (l 1) (l 2) (l 3) (l 4) (l 5) true (l 7) (l 8) (l 9) (l 10) (l 11) v0 v1 v2 v3 v4 v5 (.agg #[.string x.p, .int .i64 x.nb, .int .i64 x.le, .int .i64 x.mo, .int .i64 x.ne, .slice x.d.a x.d.n x.d.c]) v7 v8 v9 v10 W) := hide ⟨(K.be), (K.e0), (K.e1), (K.e2), (K.e3), (K.e4), (K.e5), (fun _ => rfl), (K.e7), (K.e8), (K.e9), (K.e10), (K.e11), (K.c5a), (K.c5b), (fun _ => rfl), (K.c8), (K.c9a), (K.c9b), (K.c9c), (K.c11)⟩
      clear K hd hl cb z9
      go_wp2_with fail
      exact ⟨rfl, TkQJ.mk (unhide HK) (by kernel_rfl)⟩
    · simp at ho
      subst ho
      have d6 : l 6 = true := hd ⟨6, .data⟩ (by simp) rfl
      have x6 := K.e6 d6
      subst x6
      have z9 : l 9 = false := by cases c : l 9; rfl; have := K.c8 (K.c9c c); rw [hl] at this; cases this
      have z8 : l 8 = false := by cases c : l 8; rfl; have := K.c8 c; rw [hl] at this; cases this
      have HZ8 := hide z8
      have HK0 := hide K
      have HB := hide (K.be z9)
      have HZ := hide z9
      have D6 := hide d6
      clear K hd hl z9 z8 d6
      go_wp2_with (go_at_call 45; refine (copiedL_any x _ ⟨(unhide HINX).sl.below (unhide HB), (unhide HINX).sz⟩ (unhide HNS)).mono ?_; rintro e u1 ⟨⟨G, rfl, oc⟩, b5⟩; have d6 := unhide D6; have K := (unhide HK0).below (unhide HZ) b5; have HKN : Hid (TkQ U s x (w.heap.size + 1) w2.heap.size ga m c9 (w.heap.size + 3) us' k (l 0) (l 1) (l 2) (l 3) (l 4) (l 5) (l 6) true (l 8) (l 9) (l 10) (l 11) v0 v1 v2 v3 v4 v5 (.agg #[.string x.p, .int .i64 x.nb, .int .i64 x.le, .int .i64 x.mo, .int .i64 x.ne, .slice x.d.a x.d.n x.d.c]) (.agg #[.string x.p, .int .i64 x.nb, .int .i64 x.le, .int .i64 x.mo, .int .i64 x.ne, .slice (some ⟨G, 0, none⟩) x.d.n x.d.n]) v8 v9 v10 u1) := hide ⟨(K.be), (K.e0), (K.e1), (K.e2), (K.e3), (K.e4), (K.e5), (K.e6), (fun _ _ => ⟨G, rfl, oc.mono (unhide HB).size⟩), (fun h => by cases (unhide HZ8).symm.trans h), (K.e9), (K.e10), (K.e11), (K.c5a), (K.c5b), (fun _ => d6), (fun _ => rfl), (K.c9a), (K.c9b), (K.c9c), (K.c11)⟩; clear K d6 oc)
      exact ⟨rfl, TkQJ.mk (unhide HKN) (by kernel_rfl)⟩
    · simp at ho
      subst ho
      have d7 : l 7 = true := hd ⟨7, .data⟩ (by simp) rfl
      have z9 : l 9 = false := by cases c : l 9; rfl; have := K.c9c c; rw [hl] at this; cases this
      obtain ⟨G, x7, o7⟩ := K.e7 d7 hl
      subst x7
      have bw : Below W.heap.size W (W.alloc (Obj.cells #[.string x.p, .int .i64 x.nb, .int .i64 x.le, .int .i64 x.mo, .int .i64 x.ne, .slice (some ⟨G, 0, none⟩) x.d.n x.d.n] 32)) := bel1 _
      have K2 := K.below z9 bw
      have HK : Hid (TkQ U s x (w.heap.size + 1) w2.heap.size ga m c9 (w.heap.size + 3) us' k (l 0) (l 1) (l 2) (l 3) (l 4) (l 5) (l 6) (l 7) true (l 9) (l 10) (l 11) v0 v1 v2 v3 v4 v5 v6 (.agg #[.string x.p, .int .i64 x.nb, .int .i64 x.le, .int .i64 x.mo, .int .i64 x.ne, .slice (some ⟨G, 0, none⟩) x.d.n x.d.n]) (.slice (some ⟨W.heap.size, 0, none⟩) 1 1) v9 v10 (W.alloc (Obj.cells #[.string x.p, .int .i64 x.nb, .int .i64 x.le, .int .i64 x.mo, .int .i64 x.ne, .slice (some ⟨G, 0, none⟩) x.d.n x.d.n] 32))) := hide ⟨(K2.be), (K2.e0), (K2.e1), (K2.e2), (K2.e3), (K2.e4), (K2.e5), (K2.e6), (fun _ h => by cases h), (fun _ _ => ⟨G, W.heap.size, rfl, (K.be z9).size, heap_alloc_new _ _, o7.below bw⟩), (K2.e9), (K2.e10), (K2.e11), (K2.c5a), (K2.c5b), (K2.c7), (fun _ => d7), (K2.c9a), (K2.c9b), (fun _ => rfl), (K2.c11)⟩
      clear K K2 bw o7 hd hl z9 d7
      go_wp2_with fail
      exact ⟨rfl, TkQJ.mk (unhide HK) (by kernel_rfl)⟩
    · simp at ho
      subst ho
      have d1 : l 1 = true := hd ⟨1, .data⟩ (by simp) rfl
      have d5 : l 5 = true := hd ⟨5, .data⟩ (by simp) rfl
      have d8 : l 8 = true := hd ⟨8, .data⟩ (by simp) rfl
      have x1 := K.e1 d1
      subst x1
      have x5 := K.e5 d5
      subst x5
      obtain ⟨G, B, x8, hB, hv, oc⟩ := K.e8 d8 hl
      subst x8
      have z11 : l 11 = false := by cases c : l 11; rfl; have := K.c11 c; rw [hl] at this; cases this
      have HB := hide (K.be hl)
      have HGB := hide hB
      have HV := hide hv
      have HOC := hide oc
      have HK0 := hide K
      have D1 := hide d1
      have D5 := hide d5
      have D8 := hide d8
      have HZ11 := hide z11
      clear K hd hl hB hv oc d1 d5 d8 z11
      go_wp2_with (go_at_call 43; refine (insX_is (w.heap.size + 3) ga m c9 B k us' (xG x G) _ ((unhide HO).below (unhide HB)) (unhide HUL) (by have := unhide HSZ; omega) (by have := (unhide HB).size; have := unhide HSZ; omega) (by have := unhide HSZ; omega) (by have := unhide HGB; have := unhide HSZ; omega) (unhide HV)).mono ?_; rintro e u1 ⟨g', cp', rfl, o, gr⟩; have HKN : Hid (TkQ U s x (w.heap.size + 1) w2.heap.size ga m c9 (w.heap.size + 3) us' k (l 0) (l 1) (l 2) (l 3) (l 4) (l 5) (l 6) (l 7) (l 8) true (l 10) (l 11) v0 (.slice (some ⟨ga, 0, none⟩) m c9) v2 v3 v4 (.int .i64 (k : Int)) v6 v7 (.slice (some ⟨B, 0, none⟩) 1 1) (.slice (some ⟨g', 0, none⟩) (m + 1) cp') v10 u1) := hide ⟨(fun h => by cases h), ((unhide HK0).e0), ((unhide HK0).e1), ((unhide HK0).e2), ((unhide HK0).e3), ((unhide HK0).e4), ((unhide HK0).e5), ((unhide HK0).e6), (fun _ h => by cases (unhide D8).symm.trans h), (fun _ h => by cases h), (fun _ _ => ⟨G, g', cp', rfl, (by have h1 := (unhide HOC).lies G rfl; omega), (unhide HOC).far gr (fun q hq e => by have h1 := (unhide HOC).lies q hq; have h2 := Option.some.inj e; have h3 := (unhide HSZ); omega), o, grown_trans (grownTk (unhide HB) _) gr⟩), ((unhide HK0).e10), (fun h => by cases (unhide HZ11).symm.trans h), ((unhide HK0).c5a), ((unhide HK0).c5b), ((unhide HK0).c7), ((unhide HK0).c8), (fun _ => unhide D1), (fun _ => unhide D5), (fun _ => unhide D8), (fun _ => rfl)⟩; clear o gr)
      exact ⟨rfl, TkQJ.mk (unhide HKN) (by kernel_rfl)⟩
    · simp at ho
      subst ho
      have HK : Hid (TkQ U s x (w.heap.size + 1) w2.heap.size ga m c9 (w.heap.size + 3) us' k (l 0) (l 1) (l 2) (l 3) (l 4) (l 5) (l 6) (l 7) (l 8) (l 9) true (l 11) v0 v1 v2 v3 v4 v5 v6 v7 v8 v9 (.pointer (some ⟨w2.heap.size, 1, none⟩)) W) := hide ⟨(K.be), (K.e0), (K.e1), (K.e2), (K.e3), (K.e4), (K.e5), (K.e6), (K.e7), (K.e8), (K.e9), (fun _ => rfl), (K.e11), (K.c5a), (K.c5b), (K.c7), (K.c8), (K.c9a), (K.c9b), (K.c9c), (K.c11)⟩
      clear K hd hl
      go_wp2_with fail
      exact ⟨rfl, TkQJ.mk (unhide HK) (by kernel_rfl)⟩
    · simp at ho
      subst ho
      have d9 : l 9 = true := hd ⟨9, .data⟩ (by simp) rfl
      have d10 : l 10 = true := hd ⟨10, .data⟩ (by simp) rfl
      have x10 := K.e10 d10
      subst x10
      obtain ⟨G, g', cp', x9, hG, oc, o, gr⟩ := K.e9 d9 hl
      subst x9
      have cb := (unhide KQ).apart gr (by have := unhide HSZ; simp; omega)
      have yy1 : W.cell? ⟨w2.heap.size, 1, none⟩ = some (.slice (some ⟨ga, 0, none⟩) m c9) := cb.c 1 (by simp)
      have ff1 : W.frozen? ⟨w2.heap.size, 1, none⟩ = false := cb.f 1 (by simp)
      have HK : Hid (TkQ U s x (w.heap.size + 1) w2.heap.size ga m c9 (w.heap.size + 3) us' k (l 0) (l 1) (l 2) (l 3) (l 4) (l 5) (l 6) (l 7) (l 8) (l 9) (l 10) true v0 v1 v2 v3 v4 v5 v6 v7 v8 (.slice (some ⟨g', 0, none⟩) (m + 1) cp') (.pointer (some ⟨w2.heap.size, 1, none⟩)) (W.setCell ⟨w2.heap.size, 1, none⟩ (.slice (some ⟨g', 0, none⟩) (m + 1) cp'))) := hide ⟨(fun h => by cases d9.symm.trans h), (K.e0), (K.e1), (K.e2), (K.e3), (K.e4), (K.e5), (K.e6), (fun _ h => by cases (K.c9c d9).symm.trans h), (fun _ h => by cases d9.symm.trans h), (fun _ h => by cases h), (K.e10), (fun _ => ⟨G, g', cp', W, rfl, hG, oc, o, gr⟩), (K.c5a), (K.c5b), (K.c7), (K.c8), (K.c9a), (K.c9b), (K.c9c), (fun _ => d9)⟩
      clear K hd hl cb gr oc o hG d9 d10
      go_wp2_with fail
      exact ⟨rfl, TkQJ.mk (unhide HK) (by kernel_rfl)⟩
  rintro l a W hall ⟨v0, v1, v2, v3, v4, v5, v6, v7, v8, v9, v10, rfl, K⟩
  obtain ⟨G, g', cp', W0, hW0, hG, oc, ol, gr⟩ := K.e11 (hall 11 (by decide))
  have HS0 := unhide HSZ
  have hgq : g' ≠ w2.heap.size := by
    intro e
    have h1 := (ol.here (by rw [insL_len (by have := unhide HUL; omega), unhide HUL]) 0 (by omega) 0 (by omega)).1
    have h2 : W0.cell? ⟨w2.heap.size, 0, none⟩ = some (.int .i64 s) := ((unhide KQ).apart gr (by simp; omega)).c 0 (by simp)
    rw [e] at h1
    have h3 := Option.some.inj (h1.symm.trans h2)
    have h4 : (Value.string (elAt (insL us' k (xG x G)) 0).p) = .int .i64 s := h3
    cases h4
  have KE8 : Hid (Blk W w2.heap.size [.int .i64 s, .slice (some ⟨g', 0, none⟩) (m + 1) cp']) := hide (by rw [hW0]; exact ((unhide KQ).apart gr (by simp; omega)).set 1 (by simp) _)
  have KER : Hid (Blk W (w.heap.size + 1 + 1) [.int .i64 0, .slice none 0 0]) := hide (by rw [hW0]; exact ((unhide KR).apart gr (by simp; omega)).other (p := ⟨w2.heap.size, 1, none⟩) (by show w2.heap.size ≠ w.heap.size + 1 + 1; omega) _)
  have BE : Hid (Below w.heap.size w W) := hide (by rw [hW0]; exact ((unhide BU).grown gr (unhide BU).size (fun q hq => by simp at hq; omega)).setCell (p := ⟨w2.heap.size, 1, none⟩) (by show w.heap.size ≤ w2.heap.size; omega) _)
  have OE : Hid (OwnE 6 lxC W (w.heap.size + 3) 32 (.slice (some ⟨g', 0, none⟩) (m + 1) cp') (insL us' k (xG x G))) := hide (by rw [hW0]; exact ol.set_other _ (by simp [Value.ownBlock]; exact hgq))
  have OC : Hid (OwnE 1 byC W (w.heap.size + 3) 5 (.slice (some ⟨G, 0, none⟩) x.d.n x.d.n) x.d.zs) := hide (by rw [hW0]; exact (oc.set_other _ (by simp [Value.ownBlock]; omega)).mono (by omega))
  have OD : Hid (∀ i, i < us'.length → OwnE 1 byC W (w.heap.size + 3) 5 (slV (elAt us' i).d) (elAt us' i).d.zs) := hide (fun i hi => by
    rw [hW0]
    refine (((unhide OU).dat i hi).far gr (fun q hq e => (unhide OU).apt i hi q hq (by simpa [Value.ownBlock] using e.symm))).set_other _ (fun e => ?_)
    have := ((unhide HLI2).2 i hi _ e).2
    omega)
  have OWN : Hid (OwnLd W (w.heap.size + 3) (.slice (some ⟨g', 0, none⟩) (m + 1) cp') (insL us' k (xG x G))) := hide (OwnLd.ins (unhide OU) (by have := unhide HUL; omega) (unhide OE) (unhide OD) (unhide OC)
    (fun i hi q hq e => ownE_types ((unhide OD) i hi) (unhide OE) (by decide) q hq (by simp [Value.ownBlock]; exact e.symm))
    (fun q hq e => ownE_types (unhide OC) (unhide OE) (by decide) q hq (by simp [Value.ownBlock]; exact e.symm))
    (fun i hi q hq e => by
      have h1 := ((unhide HLI2).2 i hi q hq).2
      have h2 : G = q := by simpa [Value.ownBlock, slV, xG] using e
      omega))
  have HOKN : Hid (LzOk (insL (tkO zs x.p) k (lxW x))) := hide (lzok_ins (unhide HOKZ) (by have : (tkO zs x.p).length = m := (by rw [← unhide HZ9]; simpa using unhide HUL); omega) ⟨(unhide HINX).sz, fun j hj => (unhide HINX).sl.byt j (by have := (unhide HINX).sl.row.len_eq; have hj : j < x.d.zs.length := hj; omega)⟩)
  have HMN : Hid ((insL us' k (xG x G)).map lxW = insL (tkO zs x.p) k (lxW x)) := hide (insL_map (unhide HZ9) k (xG x G))
  have HLN : Hid ((insL (tkO zs x.p) k (lxW x)).length = m + 1) := hide (by rw [insL_len (by have : (tkO zs x.p).length = m := (by rw [← unhide HZ9]; simpa using unhide HUL); omega)]; have : (tkO zs x.p).length = m := (by rw [← unhide HZ9]; simpa using unhide HUL); omega)
  clear K hall hW0 hG oc ol gr hgq OE OC OD OU KQ KR BU HAB HINX HO HLI2 HOKZ HZ9 KT HK HS0
  have q0 : W.cell? ⟨w2.heap.size, 0, none⟩ = some (.int .i64 s) := (unhide KE8).c 0 (by simp)
  have q1 : W.cell? ⟨w2.heap.size, 1, none⟩ = some (.slice (some ⟨g', 0, none⟩) (m + 1) cp') := (unhide KE8).c 1 (by simp)
  go_wp2_with ((with_reducible show wpList _ _ _ (⟨none, .store 26 _ _, _, _, _, none⟩ :: _) _ _); refine at_storeAgg (us := [.int .i64 0, .slice none 0 0]) (vs := [.int .i64 s, .slice (some ⟨g', 0, none⟩) (m + 1) cp']) Tryz.sizeOf26 rfl rfl (unhide KER) rfl (by intro v hv; simp at hv; rcases hv with rfl | rfl <;> rfl) ?_; intro w5 kk gg)
  have BF : Below w.heap.size w w5 := (unhide BE).grown gg (unhide BE).size (fun q hq => by cases hq; omega)
  have OF := (unhide OWN).far gg (fun q hq e => by have := Option.some.inj e; omega)
  exact bodyPost_ret (results_cellB (vs := [.int .i64 s, .slice (some ⟨g', 0, none⟩) (m + 1) cp']) (x := .int .i64 0) rfl Tryz.isAgg26 Tryz.sizeOf26 rfl kk rfl) rfl ⟨some ⟨g', 0, none⟩, cp', by rw [unhide HDL2, unhide HLN, unhide HNE], ⟨by rw [unhide HDL2, unhide HLN]; exact cp_ok (unhide HMN) (unhide HOKN) (OF.mono (by omega))⟩, BF⟩

end Go.Proofs.YtemodlgmjgdjpaaGreatDoor
