/-
  What the program's Take18 answers where the load is refused: what was aboard, in memory of its own, and the code.
-/
import Derived.Test.YtemodlgmjgdjpaaGreatDoorTsPure
import Derived.Test.YtemodlgmjgdjpaaGreatDoorRfImp
import Derived.Test.YtemodlgmjgdjpaaGreatDoorMCpPure
import Derived.Test.YtemodlgmjgdjpaaGreatDoorMDlImp
namespace Go.Proofs.YtemodlgmjgdjpaaGreatDoor
open Go Go.RowKit

set_option maxRecDepth 20000 in
set_option maxHeartbeats 16000000 in
theorem implTake18_fail (s : Int) (a1 : Option Addr) (l1 c1 : Nat) (zs : List Lc) (x : Lx) (sl : Int) (w : World) (hr : AbIn w a1 l1 zs) (hlz : LzB zs) (hin : LxIn w x) (hg : ErG w) (hne : tkC s zs (lxW x) sl ≠ 0) :
    Calls Tryz.prog 9 #[.agg #[.int .i64 s, .slice a1 l1 c1], .agg #[.string x.p, .int .i64 x.nb, .int .i64 x.le, .int .i64 x.mo, .int .i64 x.ne, .slice x.d.a x.d.n x.d.c], .int .i64 sl] w fun e w' => ∃ a9 c9, e = .returned (.tuple #[.agg #[.int .i64 s, .slice a9 (tkL s zs (lxW x) sl).length c9], .int .i64 (tkC s zs (lxW x) sl)]) ∧ AbOwn w' w.heap.size a9 (tkL s zs (lxW x) sl).length c9 (tkL s zs (lxW x) sl) ∧ Below w.heap.size w w' := by
  have HNE := hide hne
  have HG := hide hg
  clear hne hg
  have HT := hide hr.r1
  have HZL := hide hr.r1.len_eq
  have hsm := hr.r1.small
  have HLZ := hide hlz
  have HIN := hide hin
  obtain ⟨ls, e, hl⟩ := hr.r1.ex
  have HE := hide e
  have HO := hide hl.row.six
  have HLL := hide hl.row.len_eq
  clear hr hlz hin e hl
  obtain ⟨W, hW⟩ : ∃ W, W = ((w.alloc (Obj.cells #[.int .i64 s, .slice a1 l1 c1] 26)).alloc (Obj.cells #[.string x.p, .int .i64 x.nb, .int .i64 x.le, .int .i64 x.mo, .int .i64 x.ne, .slice x.d.a x.d.n x.d.c] 32)).alloc (Obj.cells #[.int .i64 0, .slice none 0 0] 26) := ⟨_, rfl⟩
  have K0 : Hid (Blk W w.heap.size [.int .i64 s, .slice a1 l1 c1]) := hide (by rw [hW]; exact ((Blk.new _ _).alloc _).alloc _)
  have K1 : Hid (Blk W (w.heap.size + 1) [.string x.p, .int .i64 x.nb, .int .i64 x.le, .int .i64 x.mo, .int .i64 x.ne, .slice x.d.a x.d.n x.d.c]) := hide (by
    rw [hW]
    have := (Blk.new (w := (w.alloc (Obj.cells #[.int .i64 s, .slice a1 l1 c1] 26))) [.string x.p, .int .i64 x.nb, .int .i64 x.le, .int .i64 x.mo, .int .i64 x.ne, .slice x.d.a x.d.n x.d.c] 32).alloc (Obj.cells #[.int .i64 0, .slice none 0 0] 26)
    simpa using this)
  have K2 : Hid (Blk W (w.heap.size + 1 + 1) [.int .i64 0, .slice none 0 0]) := hide (by
    rw [hW]
    have := Blk.new (w := ((w.alloc (Obj.cells #[.int .i64 s, .slice a1 l1 c1] 26)).alloc (Obj.cells #[.string x.p, .int .i64 x.nb, .int .i64 x.le, .int .i64 x.mo, .int .i64 x.ne, .slice x.d.a x.d.n x.d.c] 32))) [.int .i64 0, .slice none 0 0] 26
    simpa using this)
  have B0 : Hid (Below w.heap.size w W) := hide (by rw [hW]; exact bel3 _ _ _)
  have hWs : Hid (W.heap.size = w.heap.size + 3) := hide (by rw [hW]; simp)
  have a0 : W.cell? ⟨w.heap.size, 0, none⟩ = some (.int .i64 s) := (unhide K0).c 0 (by simp)
  have a1' : W.cell? ⟨w.heap.size, 1, none⟩ = some (.slice a1 l1 c1) := (unhide K0).c 1 (by simp)
  rw [hW] at a0 a1'
  have HW := hide hW
  clear hW
  go_enter Tryz.func9, Tryz.ntmps9
  go_wp2_with fail
  rw [← unhide HW]
  clear HW a0 a1'
  refine (copiedA_any s a1 l1 c1 zs W ((unhide HT).below (unhide B0)) (unhide HLZ)).mono ?_
  rintro e w2 ⟨⟨ga, c9, rfl, ow⟩, b2⟩
  have ow := ow.mono (base' := w.heap.size + 3) (by have := unhide hWs; omega)
  obtain ⟨us, hus, ho⟩ := ow.ex
  have HOK := hide ow.ok
  have HUS := hide hus
  have HLI : Hid (LxLies (w.heap.size + 3) w2.heap.size (.slice (some ⟨ga, 0, none⟩) l1 c9) us) := hide ho.lies
  have HUL : Hid (us.length = l1) := hide (ownLd_len ho)
  have ow := hide ho
  clear ho hus
  have hw2 : w.heap.size + 3 ≤ w2.heap.size := by have := b2.size; have := unhide hWs; omega
  have K0 := hide ((unhide K0).below b2)
  have K1 := hide ((unhide K1).below b2)
  have K2 := hide ((unhide K2).below b2)
  have B2 := hide ((unhide B0).trans (b2.mono (unhide B0).size))
  clear b2 B0 hWs
  obtain ⟨V, hV⟩ : ∃ V, V = w2.alloc (Obj.cells #[.int .i64 s, .slice (some ⟨ga, 0, none⟩) l1 c9] 26) := ⟨_, rfl⟩
  have bV : Below w2.heap.size w2 V := by rw [hV]; exact bel1 _
  have K8 : Hid (Blk V w2.heap.size [.int .i64 s, .slice (some ⟨ga, 0, none⟩) l1 c9]) := hide (by rw [hV]; exact Blk.new _ _)
  have K0 := hide ((unhide K0).below bV)
  have K1 := hide ((unhide K1).below bV)
  have K2 := hide ((unhide K2).below bV)
  have BV := hide ((unhide B2).trans (bV.mono (unhide B2).size))
  have OV := hide ((unhide ow).below bV)
  obtain ⟨ι, f, _, hbf, hall⟩ := belClass V
  have HF := hide hbf
  have HAL := hide hall
  have HBF : Hid (∀ y, Below w.heap.size w (f y)) := hide (fun y => (unhide BV).trans ((hbf y).mono (unhide BV).size))
  have b0 : ∀ y, (f y).cell? ⟨w.heap.size, 0, none⟩ = some (.int .i64 s) := fun y => ((unhide K0).below (hbf y)).c 0 (by simp)
  have b1 : ∀ y, (f y).cell? ⟨w.heap.size, 1, none⟩ = some (.slice a1 l1 c1) := fun y => ((unhide K0).below (hbf y)).c 1 (by simp)
  have v0 : ∀ y, (f y).cell? ⟨w.heap.size + 1, 0, none⟩ = some (.string x.p) := fun y => ((unhide K1).below (hbf y)).c 0 (by simp)
  have v1 : ∀ y, (f y).cell? ⟨w.heap.size + 1, 1, none⟩ = some (.int .i64 x.nb) := fun y => ((unhide K1).below (hbf y)).c 1 (by simp)
  have v2 : ∀ y, (f y).cell? ⟨w.heap.size + 1, 2, none⟩ = some (.int .i64 x.le) := fun y => ((unhide K1).below (hbf y)).c 2 (by simp)
  have v3 : ∀ y, (f y).cell? ⟨w.heap.size + 1, 3, none⟩ = some (.int .i64 x.mo) := fun y => ((unhide K1).below (hbf y)).c 3 (by simp)
  have v4 : ∀ y, (f y).cell? ⟨w.heap.size + 1, 4, none⟩ = some (.int .i64 x.ne) := fun y => ((unhide K1).below (hbf y)).c 4 (by simp)
  have v5 : ∀ y, (f y).cell? ⟨w.heap.size + 1, 5, none⟩ = some (.slice x.d.a x.d.n x.d.c) := fun y => ((unhide K1).below (hbf y)).c 5 (by simp)
  have p0 : ∀ y, (f y).cell? ⟨w2.heap.size, 0, none⟩ = some (.int .i64 s) := fun y => ((unhide K8).below (hbf y)).c 0 (by simp)
  have p1 : ∀ y, (f y).cell? ⟨w2.heap.size, 1, none⟩ = some (.slice (some ⟨ga, 0, none⟩) l1 c9) := fun y => ((unhide K8).below (hbf y)).c 1 (by simp)
  have KF1 : Hid (∀ y, Blk (f y) (w.heap.size + 1) [.string x.p, .int .i64 x.nb, .int .i64 x.le, .int .i64 x.mo, .int .i64 x.ne, .slice x.d.a x.d.n x.d.c]) := hide (fun y => (unhide K1).below (hbf y))
  have KF2 : Hid (∀ y, Blk (f y) (w.heap.size + 1 + 1) [.int .i64 0, .slice none 0 0]) := hide (fun y => (unhide K2).below (hbf y))
  have KF8 : Hid (∀ y, Blk (f y) w2.heap.size [.int .i64 s, .slice (some ⟨ga, 0, none⟩) l1 c9]) := hide (fun y => (unhide K8).below (hbf y))
  have OF : Hid (∀ y, OwnLd (f y) (w.heap.size + 3) (.slice (some ⟨ga, 0, none⟩) l1 c9) us) := hide (fun y => (unhide OV).below (hbf y))
  have CRF : Hid (∀ y, Calls Tryz.prog 40 #[.agg #[.int .i64 s, .slice a1 l1 c1], .agg #[.string x.p, .int .i64 x.nb, .int .i64 x.le, .int .i64 x.mo, .int .i64 x.ne, .slice x.d.a x.d.n x.d.c], .int .i64 sl] (f y) fun e w' => e = .returned (rfV (tkC s zs (lxW x) sl)) ∧ Below (f y).heap.size (f y) w') := hide (fun y => refuses_any s a1 l1 c1 zs x sl (f y) ⟨(unhide HT).below ((unhide HBF) y)⟩ ⟨(unhide HIN).sl.below ((unhide HBF) y), (unhide HIN).sz⟩)
  have CCO : Hid (∀ y, Calls Tryz.prog 39 #[rfV (tkC s zs (lxW x) sl)] (f y) fun e w' => e = .returned (.int .i64 (tkC s zs (lxW x) sl)) ∧ Below (f y).heap.size (f y) w') := hide (fun y => codeOf_any _ (f y) ((unhide HG).below ((unhide HBF) y)))
  have HDL : Hid (tkL s zs (lxW x) sl = zs) := hide (by rw [tkL, if_neg (unhide HNE)])
  have e0 : (tkC s zs (lxW x) sl != 0) = true := by simpa using unhide HNE
  have e1 : decide (tkC s zs (lxW x) sl = 0) = false := by simpa using unhide HNE
  have e2 : (tkC s zs (lxW x) sl == 0) = false := by simpa using unhide HNE
  obtain ⟨TC, hTC⟩ : ∃ z, tkC s zs (lxW x) sl = z := ⟨_, rfl⟩
  rw [hTC] at CRF CCO e0 e1 e2
  have HTC := hide hTC
  clear hTC
  obtain ⟨x0, hx0⟩ := (unhide HAL) V (Below.refl _ _)
  have HX0 : Hid (w2.alloc (Obj.cells #[.int .i64 s, .slice (some ⟨ga, 0, none⟩) l1 c9] 26) = f x0) := hide (hV.symm.trans hx0)
  have b0w := b0 x0
  have b1w := b1 x0
  have v0w := v0 x0
  have v1w := v1 x0
  have v2w := v2 x0
  have v3w := v3 x0
  have v4w := v4 x0
  have v5w := v5 x0
  rw [← hx0, hV] at b0w b1w v0w v1w v2w v3w v4w v5w
  clear hbf hall hV hx0 bV K0 K1 K2 K8 BV OV ow B2 HT HO HLL
  go_wp2_with fail
  rw [unhide HX0]
  clear HX0 b0w b1w v0w v1w v2w v3w v4w v5w
  go_wp2_with (first | (go_at_call 40; refine (belQ (unhide HF) (unhide HAL) (unhide CRF _)).mono ?_; rintro e _ ⟨rfl, y, rfl⟩) | (go_at_call 39; refine (belQ (unhide HF) (unhide HAL) (unhide CCO _)).mono ?_; rintro e _ ⟨rfl, y, rfl⟩) | ((with_reducible show wpList _ _ _ (⟨none, .store 26 _ _, _, _, _, none⟩ :: _) _ _); refine at_storeAgg (us := [.int .i64 0, .slice none 0 0]) (vs := [.int .i64 s, .slice (some ⟨ga, 0, none⟩) l1 c9]) Tryz.sizeOf26 rfl rfl ((unhide KF2) _) rfl (by intro v hv; simp at hv; rcases hv with rfl | rfl <;> rfl) ?_; intro w5 kk gg))
  have BE : Below w.heap.size w w5 := ((unhide HBF) _).grown gg ((unhide HBF) _).size (fun q hq => by cases hq; omega)
  have OE := ((unhide OF) _).far gg (fun q hq e => by have := Option.some.inj e; omega)
  exact bodyPost_ret (results_cellB (vs := [.int .i64 s, .slice (some ⟨ga, 0, none⟩) l1 c9]) (x := .int .i64 TC) rfl Tryz.isAgg26 Tryz.sizeOf26 rfl kk rfl) rfl ⟨some ⟨ga, 0, none⟩, c9, by rw [unhide HDL, unhide HZL, unhide HTC], ⟨by rw [unhide HDL, unhide HZL]; exact cp_ok (unhide HUS) (unhide HOK) (OE.mono (by omega))⟩, BE⟩

end Go.Proofs.YtemodlgmjgdjpaaGreatDoor
