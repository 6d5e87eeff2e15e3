/-
  The program's Drop18: the plain answer, in memory of its own; nothing that was there is written. At lists of at most 1048576.
  A load put into a list at its place: plain, and in memory of its own; when taking a load answers 0. No program here.
  What is aboard stays so when a load is taken or dropped; one byte changed changes the seal. No program here.
  One byte changed changes the seal; what Take18 and Effective tell of one load. No program here.
-/
import Derived.Test.YtemodlgmjgdjpaaGreatDoorMCpSpc
import Derived.Test.YtemodlgmjgdjpaaGreatDoorMAiLst
import Derived.Test.YtemodlgmjgdjpaaGreatDoorTsPure
import Derived.Test.YtemodlgmjgdjpaaGreatDoorMCpPure
import Derived.Test.YtemodlgmjgdjpaaGreatDoorInsPure

namespace Go.Proofs.YtemodlgmjgdjpaaGreatDoor
open Go Go.RowKit

theorem OwnLd.set_out {w : World} {base b u S o : Nat} {v : Value} {us : List Lx} (h : OwnLd w base v us) (hl : LxLies b u v us) (hS : u ≤ S) (x : Value) : OwnLd (w.setCell ⟨S, o, none⟩ x) base v us :=
  ⟨h.out.set_other x (fun e => by have := (hl.1 S e).2; omega), fun i hi => (h.dat i hi).set_other x (fun e => by have := (hl.2 i hi S e).2; omega), h.apt, h.par⟩
theorem LxLies.del {b u k : Nat} {v v' : Value} {us : List Lx} (h : LxLies b u v us) (hk : k < us.length) (hv : ∀ q, v'.ownBlock = some q → b ≤ q ∧ q < u) : LxLies b u v' (dlL us k) := by
  refine ⟨hv, fun i hi q hq => ?_⟩
  rw [dlL_len hk] at hi
  rw [dlL_at hk hi] at hq
  refine h.2 _ ?_ q hq
  split <;> omega
theorem lzok_del {zs : List Lc} {k : Nat} (h : LzOk zs) (hk : k < zs.length) : LzOk (zs.take k ++ zs.drop (k + 1)) := by
  intro i hi
  have hi2 : i < (dlL zs k).length := hi
  rw [dlL_len hk] at hi2
  rw [show zs.take k ++ zs.drop (k + 1) = dlL zs k from rfl, dlL_at hk hi2]
  refine h _ ?_
  split <;> omega
set_option maxRecDepth 20000 in
set_option maxHeartbeats 4000000 in
theorem implDrop18_any (s : Int) (a1 : Option Addr) (l1 c1 : Nat) (zs : List Lc) (n : Int) (w : World) (hr : AbIn w a1 l1 zs) (hlz : LzB zs) :
    Calls Tryz.prog 14 #[.agg #[.int .i64 s, .slice a1 l1 c1], .int .i64 n] w fun e w' => ∃ a9 c9, e = .returned (.tuple #[.agg #[.int .i64 s, .slice a9 (drL s zs n).length c9], .bool (drB s zs n)]) ∧ AbOwn w' w.heap.size a9 (drL s zs n).length c9 (drL s zs n) ∧ Below w.heap.size w w' := by
  have HT := hide hr.r1
  have HZL := hide hr.r1.len_eq
  have hsm := hr.r1.small
  have HLZ := hide hlz
  clear hr hlz
  obtain ⟨W, hW⟩ : ∃ W, W = (w.alloc (Obj.cells #[.int .i64 s, .slice a1 l1 c1] 26)).alloc (Obj.cells #[.int .i64 0, .slice none 0 0] 26) := ⟨_, rfl⟩
  have K0 : Hid (Blk W w.heap.size [.int .i64 s, .slice a1 l1 c1]) := hide (by rw [hW]; exact (Blk.new _ _).alloc _)
  have K1 : Hid (Blk W (w.heap.size + 1) [.int .i64 0, .slice none 0 0]) := hide (by
    rw [hW]
    have := Blk.new (w := (w.alloc (Obj.cells #[.int .i64 s, .slice a1 l1 c1] 26))) [.int .i64 0, .slice none 0 0] 26
    simpa using this)
  have B0 : Hid (Below w.heap.size w W) := hide (by rw [hW]; exact bel2 _ _)
  have hWs : Hid (W.heap.size = w.heap.size + 2) := hide (by rw [hW]; simp)
  have a0 : W.cell? ⟨w.heap.size, 0, none⟩ = some (.int .i64 s) := (unhide K0).c 0 (by simp)
  have a1' : W.cell? ⟨w.heap.size, 1, none⟩ = some (.slice a1 l1 c1) := (unhide K0).c 1 (by simp)
  rw [hW] at a0 a1'
  have HW := hide hW
  clear hW
  go_enter Tryz.func14, Tryz.ntmps14
  go_wp2_with fail
  rw [← unhide HW]
  clear HW a0 a1'
  refine (copiedA_any s a1 l1 c1 zs W ((unhide HT).below (unhide B0)) (unhide HLZ)).mono ?_
  rintro e w2 ⟨⟨g9, c9, rfl, ow⟩, b2⟩
  have ow := ow.mono (base' := w.heap.size + 2) (by have := unhide hWs; omega)
  obtain ⟨us, hus, ho⟩ := ow.ex
  have HOK := hide ow.ok
  have HUS := hide hus
  have HLI : Hid (LxLies (w.heap.size + 2) w2.heap.size (.slice (some ⟨g9, 0, none⟩) l1 c9) us) := hide ho.lies
  have HUL : Hid (us.length = l1) := hide (ownLd_len ho)
  have ow := hide ho
  clear ho hus
  have hw2 : w.heap.size + 2 ≤ w2.heap.size := by have := b2.size; have := unhide hWs; omega
  have K0 := hide ((unhide K0).below b2)
  have K1 := hide ((unhide K1).below b2)
  have B2 := hide ((unhide B0).trans (b2.mono (unhide B0).size))
  clear b2 B0 hWs
  obtain ⟨V, hV⟩ : ∃ V, V = w2.alloc (Obj.cells #[.int .i64 s, .slice (some ⟨g9, 0, none⟩) l1 c9] 26) := ⟨_, rfl⟩
  have bV : Below w2.heap.size w2 V := by rw [hV]; exact bel1 _
  have K6 : Hid (Blk V w2.heap.size [.int .i64 s, .slice (some ⟨g9, 0, none⟩) l1 c9]) := hide (by rw [hV]; exact Blk.new _ _)
  have K0 := hide ((unhide K0).below bV)
  have K1 := hide ((unhide K1).below bV)
  have BV := hide ((unhide B2).trans (bV.mono (unhide B2).size))
  have OV := hide ((unhide ow).below bV)
  obtain ⟨ι, f, _, hbf, hall⟩ := belClass V
  have HF := hide hbf
  have HAL := hide hall
  have HBF : Hid (∀ y, Below w.heap.size w (f y)) := hide (fun y => (unhide BV).trans ((hbf y).mono (unhide BV).size))
  have b0 : ∀ y, (f y).cell? ⟨w.heap.size, 0, none⟩ = some (.int .i64 s) := fun y => ((unhide K0).below (hbf y)).c 0 (by simp)
  have b1 : ∀ y, (f y).cell? ⟨w.heap.size, 1, none⟩ = some (.slice a1 l1 c1) := fun y => ((unhide K0).below (hbf y)).c 1 (by simp)
  have p0 : ∀ y, (f y).cell? ⟨w2.heap.size, 0, none⟩ = some (.int .i64 s) := fun y => ((unhide K6).below (hbf y)).c 0 (by simp)
  have p1 : ∀ y, (f y).cell? ⟨w2.heap.size, 1, none⟩ = some (.slice (some ⟨g9, 0, none⟩) l1 c9) := fun y => ((unhide K6).below (hbf y)).c 1 (by simp)
  have KF1 : Hid (∀ y, Blk (f y) (w.heap.size + 1) [.int .i64 0, .slice none 0 0]) := hide (fun y => (unhide K1).below (hbf y))
  have KF6 : Hid (∀ y, Blk (f y) w2.heap.size [.int .i64 s, .slice (some ⟨g9, 0, none⟩) l1 c9]) := hide (fun y => (unhide K6).below (hbf y))
  have OF : Hid (∀ y, OwnLd (f y) (w.heap.size + 2) (.slice (some ⟨g9, 0, none⟩) l1 c9) us) := hide (fun y => (unhide OV).below (hbf y))
  have CA : Hid (∀ y, Calls Tryz.prog 11 #[.agg #[.int .i64 s, .slice a1 l1 c1]] (f y) fun e w' => e = .returned (.bool (abB s zs)) ∧ Below (f y).heap.size (f y) w') := hide (fun y => implAboardOk_any s _ _ _ zs (f y) ⟨(unhide HT).below ((unhide HBF) y)⟩)
  have CF : Hid (∀ y, Calls Tryz.prog 53 #[.agg #[.int .i64 s, .slice a1 l1 c1], .int .i64 n] (f y) fun e w' => e = .returned (.int .i64 (fnF zs n)) ∧ Below (f y).heap.size (f y) w') := hide (fun y => placeNb_any s _ _ _ zs n (f y) ((unhide HT).below ((unhide HBF) y)))
  have CN : Hid (∀ y, Calls Tryz.prog 54 #[.agg #[.int .i64 s, .slice a1 l1 c1], .int .i64 n] (f y) fun e w' => e = .returned (.bool (neB zs n)) ∧ Below (f y).heap.size (f y) w') := hide (fun y => isNeeded_any s _ _ _ zs n (f y) ((unhide HT).below ((unhide HBF) y)))
  obtain ⟨x0, hx0⟩ := (unhide HAL) V (Below.refl _ _)
  have HX0 : Hid (w2.alloc (Obj.cells #[.int .i64 s, .slice (some ⟨g9, 0, none⟩) l1 c9] 26) = f x0) := hide (hV.symm.trans hx0)
  have b0w := b0 x0
  have b1w := b1 x0
  rw [← hx0, hV] at b0w b1w
  clear hbf hall hV hx0 bV K0 K1 K6 BV OV ow B2 HT
  have HB3 : Hid (drB s zs n = (abB s zs && decide (0 ≤ fnF zs n) && !neB zs n)) := hide rfl
  cases qa : abB s zs with
  | false =>
    rw [qa] at CA HB3
    have HDB : Hid (drB s zs n = false) := hide (by rw [unhide HB3]; rfl)
    have HDL : Hid (drL s zs n = zs) := hide (by rw [drL, unhide HDB]; simp)
    go_wp2_with fail
    rw [unhide HX0]
    clear HX0 b0w b1w
    go_wp2_with (first | (go_at_call 53; refine (belQ (unhide HF) (unhide HAL) (unhide CF _)).mono ?_; rintro e _ ⟨rfl, y, rfl⟩) | (go_at_call 11; refine (belQ (unhide HF) (unhide HAL) (unhide CA _)).mono ?_; rintro e _ ⟨rfl, y1, rfl⟩) | (go_at_call 54; refine (belQ (unhide HF) (unhide HAL) (unhide CN _)).mono ?_; rintro e _ ⟨rfl, y2, rfl⟩) | ((with_reducible show wpList _ _ _ (⟨none, .store 26 _ _, _, _, _, none⟩ :: _) _ _); refine at_storeAgg (us := [.int .i64 0, .slice none 0 0]) (vs := [.int .i64 s, .slice (some ⟨g9, 0, none⟩) l1 c9]) Tryz.sizeOf26 rfl rfl ((unhide KF1) _) rfl (by intro v hv; simp at hv; rcases hv with rfl | rfl <;> rfl) ?_; intro w5 kk gg))
    have BE : Below w.heap.size w w5 := ((unhide HBF) _).grown gg ((unhide HBF) _).size (fun q hq => by cases hq; omega)
    have OE := ((unhide OF) _).far gg (fun q hq e => by have := Option.some.inj e; omega)
    exact bodyPost_ret (results_cellB (vs := [.int .i64 s, .slice (some ⟨g9, 0, none⟩) l1 c9]) (x := .bool false) rfl Tryz.isAgg26 Tryz.sizeOf26 rfl kk rfl) rfl ⟨(some ⟨g9, 0, none⟩), c9, by rw [unhide HDL, unhide HDB, unhide HZL], ⟨by rw [unhide HDL, unhide HZL]; exact cp_ok (unhide HUS) (unhide HOK) (OE.mono (by omega))⟩, BE⟩
  | true =>
    rw [qa] at CA HB3
    rcases fnF_cases zs n with ⟨hF, _⟩ | ⟨k, hk, hF, _, _⟩
    · rw [hF] at CF HB3
      have HDB : Hid (drB s zs n = false) := hide (by rw [unhide HB3]; rfl)
      have HDL : Hid (drL s zs n = zs) := hide (by rw [drL, unhide HDB]; simp)
      clear hF
      go_wp2_with fail
      rw [unhide HX0]
      clear HX0 b0w b1w
      go_wp2_with (first | (go_at_call 53; refine (belQ (unhide HF) (unhide HAL) (unhide CF _)).mono ?_; rintro e _ ⟨rfl, y, rfl⟩) | (go_at_call 11; refine (belQ (unhide HF) (unhide HAL) (unhide CA _)).mono ?_; rintro e _ ⟨rfl, y1, rfl⟩) | (go_at_call 54; refine (belQ (unhide HF) (unhide HAL) (unhide CN _)).mono ?_; rintro e _ ⟨rfl, y2, rfl⟩) | ((with_reducible show wpList _ _ _ (⟨none, .store 26 _ _, _, _, _, none⟩ :: _) _ _); refine at_storeAgg (us := [.int .i64 0, .slice none 0 0]) (vs := [.int .i64 s, .slice (some ⟨g9, 0, none⟩) l1 c9]) Tryz.sizeOf26 rfl rfl ((unhide KF1) _) rfl (by intro v hv; simp at hv; rcases hv with rfl | rfl <;> rfl) ?_; intro w5 kk gg))
      have BE : Below w.heap.size w w5 := ((unhide HBF) _).grown gg ((unhide HBF) _).size (fun q hq => by cases hq; omega)
      have OE := ((unhide OF) _).far gg (fun q hq e => by have := Option.some.inj e; omega)
      exact bodyPost_ret (results_cellB (vs := [.int .i64 s, .slice (some ⟨g9, 0, none⟩) l1 c9]) (x := .bool false) rfl Tryz.isAgg26 Tryz.sizeOf26 rfl kk rfl) rfl ⟨(some ⟨g9, 0, none⟩), c9, by rw [unhide HDL, unhide HDB, unhide HZL], ⟨by rw [unhide HDL, unhide HZL]; exact cp_ok (unhide HUS) (unhide HOK) (OE.mono (by omega))⟩, BE⟩
    · have HFK := hide hF
      rw [hF] at CF HB3
      clear hF
      have n1 : ((k : Int) == -1) = false := by simp only [beq_eq_false_iff_ne]; omega
      have n2 : decide ((k : Int) = -1) = false := by simp only [decide_eq_false_iff_not]; omega
      have n3 : ¬ ((k : Int) < 0) := by omega
      have n4 : decide ((k : Int) < 0) = false := by simp only [decide_eq_false_iff_not]; omega
      cases qn : neB zs n with
      | true =>
        rw [qn] at CN HB3
        have HDB : Hid (drB s zs n = false) := hide (by rw [unhide HB3]; simp)
        have HDL : Hid (drL s zs n = zs) := hide (by rw [drL, unhide HDB]; simp)
        clear hk
        go_wp2_with fail
        rw [unhide HX0]
        clear HX0 b0w b1w
        go_wp2_with (first | (go_at_call 53; refine (belQ (unhide HF) (unhide HAL) (unhide CF _)).mono ?_; rintro e _ ⟨rfl, y, rfl⟩) | (go_at_call 11; refine (belQ (unhide HF) (unhide HAL) (unhide CA _)).mono ?_; rintro e _ ⟨rfl, y1, rfl⟩) | (go_at_call 54; refine (belQ (unhide HF) (unhide HAL) (unhide CN _)).mono ?_; rintro e _ ⟨rfl, y2, rfl⟩) | ((with_reducible show wpList _ _ _ (⟨none, .store 26 _ _, _, _, _, none⟩ :: _) _ _); refine at_storeAgg (us := [.int .i64 0, .slice none 0 0]) (vs := [.int .i64 s, .slice (some ⟨g9, 0, none⟩) l1 c9]) Tryz.sizeOf26 rfl rfl ((unhide KF1) _) rfl (by intro v hv; simp at hv; rcases hv with rfl | rfl <;> rfl) ?_; intro w5 kk gg))
        have BE : Below w.heap.size w w5 := ((unhide HBF) _).grown gg ((unhide HBF) _).size (fun q hq => by cases hq; omega)
        have OE := ((unhide OF) _).far gg (fun q hq e => by have := Option.some.inj e; omega)
        exact bodyPost_ret (results_cellB (vs := [.int .i64 s, .slice (some ⟨g9, 0, none⟩) l1 c9]) (x := .bool false) rfl Tryz.isAgg26 Tryz.sizeOf26 rfl kk rfl) rfl ⟨(some ⟨g9, 0, none⟩), c9, by rw [unhide HDL, unhide HDB, unhide HZL], ⟨by rw [unhide HDL, unhide HZL]; exact cp_ok (unhide HUS) (unhide HOK) (OE.mono (by omega))⟩, BE⟩
      | false =>
        rw [qn] at CN HB3
        have HDB : Hid (drB s zs n = true) := hide (by rw [unhide HB3]; simp)
        have HDL : Hid (drL s zs n = zs.take k ++ zs.drop (k + 1)) := hide (by rw [drL, unhide HDB, unhide HFK]; simp)
        obtain ⟨m, hm⟩ : ∃ m, l1 = m + 1 := ⟨l1 - 1, by have := unhide HZL; omega⟩
        have h30 : l1 ≤ 30 := by have := (abB_facts qa).2.2; have := unhide HZL; omega
        have HML : Hid ((zs.take k ++ zs.drop (k + 1)).length = m) := hide (by have := dlL_len hk; rw [dlL, unhide HZL] at this; rw [this]; omega)
        have HKB := hide hk
        have CD : Hid (∀ y, Calls Tryz.prog 55 #[.slice (some ⟨g9, 0, none⟩) l1 c9, .int .i64 (k : Int), .int .i64 ((k : Int) + 1)] (f y) fun e w' => e = .returned (.slice (some ⟨g9, 0, none⟩) m c9) ∧ OwnLd w' (w.heap.size + 2) (.slice (some ⟨g9, 0, none⟩) m c9) (dlL us k) ∧ (f y).grownBy w' (some g9)) := hide (fun y => by
          have hd := del_any (w.heap.size + 2) g9 l1 m c9 k (k + 1) us (f y) ((unhide OF) y) (unhide HUL) hm rfl (by omega) (by have := unhide HZL; have := unhide HKB; omega)
          rw [show ((k + 1 : Nat) : Int) = (k : Int) + 1 from by omega] at hd
          exact hd)
        have HLD : Hid (LxLies (w.heap.size + 2) w2.heap.size (.slice (some ⟨g9, 0, none⟩) m c9) (dlL us k)) := hide ((unhide HLI).del (by have := unhide HZL; have := unhide HUL; have := unhide HKB; omega) (fun q hq => (unhide HLI).1 q hq))
        have hg9 := (unhide HLI).1 g9 rfl
        have hki : (k : Int) + 1 ≤ 31 := by have := unhide HZL; omega
        have hk0 : (0 : Int) ≤ (k : Int) := by omega
        clear hk hm qa
        go_wp2_with fail
        rw [unhide HX0]
        clear HX0 b0w b1w
        go_wp2_with (first | (go_at_call 53; refine (belQ (unhide HF) (unhide HAL) (unhide CF _)).mono ?_; rintro e _ ⟨rfl, y, rfl⟩) | (go_at_call 11; refine (belQ (unhide HF) (unhide HAL) (unhide CA _)).mono ?_; rintro e _ ⟨rfl, y1, rfl⟩) | (go_at_call 54; refine (belQ (unhide HF) (unhide HAL) (unhide CN _)).mono ?_; rintro e _ ⟨rfl, y2, rfl⟩) | (go_at_call 55; refine (unhide CD _).mono ?_; rintro e w9 ⟨rfl, o9, gr9⟩; have k6 : Blk w9 w2.heap.size [.int .i64 s, .slice (some ⟨g9, 0, none⟩) l1 c9] := ((unhide KF6) _).apart gr9 (fun e => by have := Option.some.inj e; omega); have k1 : Blk w9 (w.heap.size + 1) [.int .i64 0, .slice none 0 0] := ((unhide KF1) _).apart gr9 (fun e => by have := Option.some.inj e; omega); have b9 : Below w.heap.size w w9 := ((unhide HBF) _).grown gr9 ((unhide HBF) _).size (fun q hq => by cases hq; omega); have y1' : w9.cell? ⟨w2.heap.size, 1, none⟩ = some (.slice (some ⟨g9, 0, none⟩) l1 c9) := k6.c 1 (by simp); have f1' : w9.frozen? ⟨w2.heap.size, 1, none⟩ = false := k6.f 1 (by simp); have kA : Blk (w9.setCell ⟨w2.heap.size, 1, none⟩ (.slice (some ⟨g9, 0, none⟩) m c9)) w2.heap.size [.int .i64 s, .slice (some ⟨g9, 0, none⟩) m c9] := k6.set 1 (by simp) _; have z0' : (w9.setCell ⟨w2.heap.size, 1, none⟩ (.slice (some ⟨g9, 0, none⟩) m c9)).cell? ⟨w2.heap.size, 0, none⟩ = some (.int .i64 s) := kA.c 0 (by simp); have z1' : (w9.setCell ⟨w2.heap.size, 1, none⟩ (.slice (some ⟨g9, 0, none⟩) m c9)).cell? ⟨w2.heap.size, 1, none⟩ = some (.slice (some ⟨g9, 0, none⟩) m c9) := kA.c 1 (by simp); have KE : Hid (Blk (w9.setCell ⟨w2.heap.size, 1, none⟩ (.slice (some ⟨g9, 0, none⟩) m c9)) (w.heap.size + 1) [.int .i64 0, .slice none 0 0]) := hide (k1.other (by simp; omega) _); have BE9 : Hid (Below w.heap.size w (w9.setCell ⟨w2.heap.size, 1, none⟩ (.slice (some ⟨g9, 0, none⟩) m c9))) := hide (b9.setCell (by simp; omega) _); have OE9 : Hid (OwnLd (w9.setCell ⟨w2.heap.size, 1, none⟩ (.slice (some ⟨g9, 0, none⟩) m c9)) (w.heap.size + 2) (.slice (some ⟨g9, 0, none⟩) m c9) (dlL us k)) := hide (o9.set_out (unhide HLD) (Nat.le_refl _) _); clear k6 k1 b9 kA o9 gr9) | ((with_reducible show wpList _ _ _ (⟨none, .store 26 _ _, _, _, _, none⟩ :: _) _ _); refine at_storeAgg (us := [.int .i64 0, .slice none 0 0]) (vs := [.int .i64 s, .slice (some ⟨g9, 0, none⟩) m c9]) Tryz.sizeOf26 rfl rfl (unhide KE) rfl (by intro v hv; simp at hv; rcases hv with rfl | rfl <;> rfl) ?_; intro w5 kk gg))
        have BE : Below w.heap.size w w5 := (unhide BE9).grown gg (unhide BE9).size (fun q hq => by cases hq; omega)
        have OE := (unhide OE9).far gg (fun q hq e => by have := Option.some.inj e; omega)
        exact bodyPost_ret (results_cellB (vs := [.int .i64 s, .slice (some ⟨g9, 0, none⟩) m c9]) (x := .bool true) rfl Tryz.isAgg26 Tryz.sizeOf26 rfl kk rfl) rfl ⟨some ⟨g9, 0, none⟩, c9, by rw [unhide HDL, unhide HDB, unhide HML], ⟨by rw [unhide HDL, unhide HML]; exact cp_ok (dlL_map (unhide HUS) k) (lzok_del (unhide HOK) (unhide HKB)) (OE.mono (by omega))⟩, BE⟩

end Go.Proofs.YtemodlgmjgdjpaaGreatDoor

namespace Go.Proofs.YtemodlgmjgdjpaaGreatDoor
open Go Go.RowKit

theorem tk_zero {s : Int} {zs : List Lc} {l : Lc} {sl : Int} (h : tkC s zs l sl = 0) : abB s zs = true ∧ ldB l = true ∧ sl = seO l ∧ inB s l.le l.mo = true ∧ ¬ (l.ne ≠ 0 ∧ (fnF zs l.ne < 0 ∨ fnF zs l.ne = saF zs l.p)) ∧ ¬ (0 ≤ saF zs l.p ∧ neB zs (elAt zs (saF zs l.p).toNat).nb = true) ∧ ¬ ((0 ≤ saF zs l.p ∧ l.nb ≤ (elAt zs (saF zs l.p).toNat).nb) ∨ 0 ≤ fnF zs l.nb) ∧ ¬ (saF zs l.p < 0 ∧ zs.length = 30) := by
  unfold tkC at h
  by_cases c1 : abB s zs = false ∨ ldB l = false
  · rw [if_pos c1] at h; omega
  rw [if_neg c1] at h
  by_cases c2 : sl ≠ seO l
  · rw [if_pos c2] at h; omega
  rw [if_neg c2] at h
  by_cases c3 : inB s l.le l.mo = false
  · rw [if_pos c3] at h; omega
  rw [if_neg c3] at h
  by_cases c4 : l.ne ≠ 0 ∧ (fnF zs l.ne < 0 ∨ fnF zs l.ne = saF zs l.p)
  · rw [if_pos c4] at h; omega
  rw [if_neg c4] at h
  by_cases c5 : 0 ≤ saF zs l.p ∧ neB zs (elAt zs (saF zs l.p).toNat).nb = true
  · rw [if_pos c5] at h; omega
  rw [if_neg c5] at h
  by_cases c6 : (0 ≤ saF zs l.p ∧ l.nb ≤ (elAt zs (saF zs l.p).toNat).nb) ∨ 0 ≤ fnF zs l.nb
  · rw [if_pos c6] at h; omega
  rw [if_neg c6] at h
  by_cases c7 : saF zs l.p < 0 ∧ zs.length = 30
  · rw [if_pos c7] at h; omega
  refine ⟨?_, ?_, by omega, ?_, c4, c5, c6, c7⟩
  · cases e : abB s zs
    · exact absurd (.inl e) c1
    · rfl
  · cases e : ldB l
    · exact absurd (.inr e) c1
    · rfl
  · cases e : inB s l.le l.mo
    · exact absurd e c3
    · rfl
theorem poF_lt {n : Int} : ∀ {ls : List Lc} {j : Nat}, j < poF ls n → (elAt ls j).nb < n
  | [], j, h => by simp [poF] at h
  | x :: r, j, h => by
    rw [poF, List.takeWhile_cons] at h
    by_cases c : x.nb < n
    · rw [if_pos (by simpa using c), List.length_cons] at h
      match j, h with
      | 0, _ => simpa [elAt] using c
      | j + 1, h => simpa [elAt] using poF_lt (n := n) (ls := r) (j := j) (by rw [poF]; omega)
    · rw [if_neg (by simpa using c)] at h; simp at h
theorem poF_stop {n : Int} : ∀ {ls : List Lc}, poF ls n < ls.length → ¬ (elAt ls (poF ls n)).nb < n
  | [], h => by simp [poF] at h
  | x :: r, h => by
    by_cases c : x.nb < n
    · have e : poF (x :: r) n = poF r n + 1 := by
        rw [poF, List.takeWhile_cons, if_pos (by simpa using c), List.length_cons]; rfl
      rw [e] at h ⊢
      have := poF_stop (n := n) (ls := r) (by simpa using h)
      simpa [elAt] using this
    · have e : poF (x :: r) n = 0 := by
        rw [poF, List.takeWhile_cons, if_neg (by simpa using c)]; rfl
      rw [e]; simpa [elAt] using c
theorem inF_ins (zs : List Lc) (l : Lc) : inF zs l = insL zs (poF zs l.nb) l := rfl
theorem insL_map {us : List Lx} {zs : List Lc} (h : us.map lxW = zs) (k : Nat) (x : Lx) : (insL us k x).map lxW = insL zs k (lxW x) := by
  subst h; simp [insL, List.map_take, List.map_drop]
theorem lzok_ins {zs : List Lc} {k : Nat} {l : Lc} (h : LzOk zs) (hk : k ≤ zs.length) (hl : LcOk l) : LzOk (insL zs k l) := by
  intro i hi
  rw [insL_len hk] at hi
  rw [insL_at hk]
  split
  · exact h i (by omega)
  · split
    · exact hl
    · exact h (i - 1) (by omega)
/-- A load put into a list, both of their own. -/
theorem OwnLd.ins {w w' : World} {base g n c k : Nat} {v : Value} {us : List Lx} {x : Lx} (h : OwnLd w base v us) (hk : k ≤ us.length) (o : OwnE 6 lxC w' base 32 (.slice (some ⟨g, 0, none⟩) n c) (insL us k x))
    (hd : ∀ i, i < us.length → OwnE 1 byC w' base 5 (slV (elAt us i).d) (elAt us i).d.zs) (hx : OwnE 1 byC w' base 5 (slV x.d) x.d.zs)
    (hg : ∀ i, i < us.length → ∀ q, (slV (elAt us i).d).ownBlock = some q → q ≠ g) (hgx : ∀ q, (slV x.d).ownBlock = some q → q ≠ g)
    (hp : ∀ i, i < us.length → ∀ q, (slV (elAt us i).d).ownBlock = some q → (slV x.d).ownBlock ≠ some q) : OwnLd w' base (.slice (some ⟨g, 0, none⟩) n c) (insL us k x) := by
  have hlen := insL_len (x := x) hk
  refine ⟨o, fun i hi => ?_, fun i hi q hq e => ?_, fun i j hij hj q hq => ?_⟩
  · rw [hlen] at hi
    rw [insL_at hk]
    split
    · exact hd i (by omega)
    · split
      · exact hx
      · exact hd (i - 1) (by omega)
  · rw [hlen] at hi
    have e := (Option.some.inj e).symm
    rw [insL_at hk] at hq
    split at hq
    · exact hg i (by omega) q hq e
    · split at hq
      · exact hgx q hq e
      · exact hg (i - 1) (by omega) q hq e
  · rw [hlen] at hj
    rw [insL_at hk] at hq ⊢
    by_cases i1 : i < k
    · rw [if_pos i1] at hq
      by_cases j1 : j < k
      · rw [if_pos j1]; exact h.par i j hij (by omega) q hq
      · rw [if_neg j1]
        by_cases j2 : j = k
        · rw [if_pos j2]; exact hp i (by omega) q hq
        · rw [if_neg j2]; exact h.par i (j - 1) (by omega) (by omega) q hq
    · rw [if_neg i1] at hq
      rw [if_neg (by omega : ¬ j < k), if_neg (by omega : ¬ j = k)]
      by_cases i2 : i = k
      · rw [if_pos i2] at hq
        exact fun e => hp (j - 1) (by omega) q e hq
      · rw [if_neg i2] at hq
        exact h.par (i - 1) (j - 1) (by omega) (by omega) q hq

end Go.Proofs.YtemodlgmjgdjpaaGreatDoor

namespace Go.Proofs.YtemodlgmjgdjpaaGreatDoor
open Go Go.RowKit

theorem el_get {α : Type} [Inhabited α] {ls : List α} {i : Nat} (h : i < ls.length) : elAt ls i = ls[i] := by simp [elAt, h]
theorem mem_el {α : Type} [Inhabited α] {ls : List α} {x : α} : x ∈ ls ↔ ∃ i, i < ls.length ∧ elAt ls i = x := by
  rw [List.mem_iff_getElem]
  constructor
  · rintro ⟨i, hi, rfl⟩; exact ⟨i, hi, el_get hi⟩
  · rintro ⟨i, hi, rfl⟩; exact ⟨i, hi, (el_get hi).symm⟩
theorem fn_mem {ls : List Lc} {n : Int} : 0 ≤ fnF ls n ↔ ∃ y ∈ ls, y.nb = n := by
  rcases fnF_cases ls n with ⟨a, b⟩ | ⟨k, hk, a, b, c⟩
  · constructor
    · intro h; omega
    · rintro ⟨y, hy, e⟩
      obtain ⟨i, hi, rfl⟩ := mem_el.1 hy
      exact absurd e (b i hi)
  · constructor
    · intro _; exact ⟨elAt ls k, mem_el.2 ⟨k, hk, rfl⟩, b⟩
    · intro _; omega
/-- What is aboard, told by its members. -/
def AbP (s : Int) (ls : List Lc) : Prop :=
  (1 ≤ s ∧ s ≤ 1000000) ∧ ls.length ≤ 30 ∧ ls.Pairwise (fun a b => a.nb < b.nb ∧ a.p ≠ b.p) ∧ ∀ x ∈ ls, ldB x = true ∧ (x.le ≤ s ∧ s ≤ x.mo) ∧ (x.ne ≠ 0 → x.ne ≠ x.nb ∧ ∃ y ∈ ls, y.nb = x.ne)
theorem ab_iff {s : Int} {ls : List Lc} : abB s ls = true ↔ AbP s ls := by
  constructor
  · intro h
    obtain ⟨h1, h2, h3⟩ := abB_facts h
    refine ⟨h2, h3, ?_, fun x hx => ?_⟩
    · rw [List.pairwise_iff_getElem]
      intro i j hi hj hij
      have e1 := ab_lt h hij hj
      have e2 := (abI_facts (h1 j hj)).2.2.2.2 i hij
      rw [el_get hi, el_get hj] at e1 e2
      exact ⟨e1, e2⟩
    · obtain ⟨i, hi, rfl⟩ := mem_el.1 hx
      obtain ⟨a, _, c, d, _⟩ := abI_facts (h1 i hi)
      exact ⟨a, c, fun hn => ⟨(d hn).1, fn_mem.1 (d hn).2⟩⟩
  · rintro ⟨h2, h3, hp, hm⟩
    have hp := List.pairwise_iff_getElem.1 hp
    rw [abB_all (fun i hi => ?_)]
    · simp [inB, h2, h3]
    · obtain ⟨a, c, d⟩ := hm _ (mem_el.2 ⟨i, hi, rfl⟩)
      simp only [abI, Bool.and_eq_true, decide_eq_true_eq, inB]
      refine ⟨⟨⟨⟨a, fun h0 => ?_⟩, c⟩, fun hn => ⟨(d hn).1, fn_mem.2 (d hn).2⟩⟩, fun k hk => ?_⟩
      · rw [el_get (show i - 1 < ls.length by omega), el_get hi]
        exact (hp (i - 1) i (by omega) hi (by omega)).1
      · rw [el_get (show k < ls.length by omega), el_get hi]
        exact (hp k i (by omega) hi hk).2
/-- One place left out of a list in order. -/
theorem mem_out {ls : List Lc} {k : Nat} (hk : k < ls.length) (hp : ls.Pairwise (fun a b => a.nb < b.nb ∧ a.p ≠ b.p)) (x : Lc) : x ∈ ls.take k ++ ls.drop (k + 1) ↔ x ∈ ls ∧ x.nb ≠ (elAt ls k).nb := by
  have hp := List.pairwise_iff_getElem.1 hp
  have hlen : (dlL ls k).length = ls.length - 1 := dlL_len hk
  show x ∈ dlL ls k ↔ _
  constructor
  · intro h
    obtain ⟨i, hi, rfl⟩ := mem_el.1 h
    rw [dlL_at hk (by omega)]
    have hj : (if i < k then i else i + 1) < ls.length := by split <;> omega
    refine ⟨mem_el.2 ⟨_, hj, rfl⟩, ?_⟩
    rw [el_get hj, el_get hk]
    by_cases c : i < k
    · have := (hp _ _ hj hk (by rw [if_pos c]; exact c)).1; omega
    · have := (hp _ _ hk hj (by rw [if_neg c]; omega)).1; omega
  · rintro ⟨h, hn⟩
    obtain ⟨i, hi, rfl⟩ := mem_el.1 h
    rcases Nat.lt_trichotomy i k with c | c | c
    · exact mem_el.2 ⟨i, by omega, by rw [dlL_at hk (by omega), if_pos c]⟩
    · subst c; exact absurd rfl hn
    · exact mem_el.2 ⟨i - 1, by omega, by rw [dlL_at hk (by omega), if_neg (by omega)]; congr 1; omega⟩
theorem out_ab {s : Int} {ls : List Lc} {k : Nat} (hk : k < ls.length) (h : AbP s ls) (hn : neB ls (elAt ls k).nb = false) : AbP s (ls.take k ++ ls.drop (k + 1)) := by
  obtain ⟨h2, h3, hp, hm⟩ := h
  have hno : ∀ x ∈ ls, x.ne ≠ (elAt ls k).nb := fun x hx e => by
    obtain ⟨i, hi, rfl⟩ := mem_el.1 hx
    have := neB_yes hi e
    rw [hn] at this; cases this
  refine ⟨h2, by simp only [List.length_append, List.length_take, List.length_drop]; omega, ?_, fun x hx => ?_⟩
  · have hs : (ls.take k ++ ls.drop (k + 1)).Sublist ls := by
      have := (List.Sublist.refl (ls.take k)).append (List.drop_sublist_drop_left ls (show k ≤ k + 1 by omega))
      rwa [List.take_append_drop] at this
    exact hp.sublist hs
  · have hx' := ((mem_out hk hp x).1 hx).1
    obtain ⟨a, c, d⟩ := hm x hx'
    refine ⟨a, c, fun hn0 => ⟨(d hn0).1, ?_⟩⟩
    obtain ⟨y, hy, e⟩ := (d hn0).2
    exact ⟨y, (mem_out hk hp y).2 ⟨hy, by rw [e]; exact hno x hx'⟩, e⟩
theorem ab_drop {s : Int} {zs : List Lc} {n : Int} (h : drB s zs n = true) : abB s (drL s zs n) = true ∧ (drL s zs n).length + 1 = zs.length := by
  have h0 := h
  simp only [drB, Bool.and_eq_true, decide_eq_true_eq, Bool.not_eq_true'] at h
  obtain ⟨⟨ha, hf⟩, hn⟩ := h
  rw [drL, if_pos h0]
  rcases fnF_cases zs n with ⟨a, _⟩ | ⟨k, hk, a, b, _⟩
  · omega
  · rw [a, Int.toNat_natCast]
    exact ⟨ab_iff.2 (out_ab hk (ab_iff.1 ha) (by rw [b]; exact hn)), by simp only [List.length_append, List.length_take, List.length_drop]; omega⟩
/-- The loads of other parts. -/
theorem mem_tkO {s : Int} {zs : List Lc} (h : abB s zs = true) (p : ByteArray) (x : Lc) : x ∈ tkO zs p ↔ x ∈ zs ∧ x.p ≠ p := by
  have hp := (ab_iff.1 h).2.2.1
  have hix := ab_sa h p
  have hpp := List.pairwise_iff_getElem.1 hp
  rcases ixF_cases (qPt p) zs with ⟨a, b⟩ | ⟨k, hk, a, b, _⟩
  · rw [tkO, if_neg (by rw [← hix, a]; decide)]
    refine ⟨fun hx => ⟨hx, ?_⟩, fun hx => hx.1⟩
    obtain ⟨i, hi, rfl⟩ := mem_el.1 hx
    exact of_decide_eq_false (b i hi)
  · have e : (elAt zs k).p = p := of_decide_eq_true b
    have e2 : saF zs p = (k : Int) := by rw [← hix, a]
    rw [tkO, if_pos (by omega), e2, Int.toNat_natCast, mem_out hk hp]
    refine ⟨fun ⟨hx, hn⟩ => ⟨hx, ?_⟩, fun ⟨hx, hn⟩ => ⟨hx, ?_⟩⟩
    · obtain ⟨i, hi, rfl⟩ := mem_el.1 hx
      rw [el_get hi, ← e, el_get hk]
      rcases Nat.lt_trichotomy i k with c | c | c
      · exact (hpp i k hi hk c).2
      · subst c; exact absurd rfl hn
      · exact fun h => (hpp k i hk hi c).2 h.symm
    · intro hh
      obtain ⟨i, hi, rfl⟩ := mem_el.1 hx
      rcases Nat.lt_trichotomy i k with c | c | c
      · have := (hpp i k hi hk c).1; rw [el_get hi, el_get hk] at hh; omega
      · subst c; exact hn e
      · have := (hpp k i hk hi c).1; rw [el_get hi, el_get hk] at hh; omega
theorem ab_take {s : Int} {zs : List Lc} {l : Lc} {sl : Int} (h : abB s zs = true) : abB s (tkL s zs l sl) = true := by
  by_cases h0 : ¬ tkC s zs l sl = 0
  · rw [tkL, if_neg h0]; exact h
  have h0 := Decidable.not_not.1 h0
  rw [tkL, if_pos h0, inF_ins]
  obtain ⟨_, hl, _, hfit, hne, hnk, hnum, hfull⟩ := tk_zero h0
  obtain ⟨h2, h3, hp, hm⟩ := ab_iff.1 h
  have hmem := mem_tkO h l.p
  have hsub : (tkO zs l.p).Sublist zs := by
    rw [tkO]; split
    · have := (List.Sublist.refl (zs.take (saF zs l.p).toNat)).append (List.drop_sublist_drop_left zs (show (saF zs l.p).toNat ≤ (saF zs l.p).toNat + 1 by omega))
      rwa [List.take_append_drop] at this
    · exact List.Sublist.refl _
  have hpo := hp.sublist hsub
  have hnn : ∀ y ∈ zs, y.nb ≠ l.nb := fun y hy e => hnum (.inr (fn_mem.2 ⟨y, hy, e⟩))
  -- whoever has the part is needed by none
  have hnd : ∀ x ∈ zs, ∀ y ∈ zs, y.nb = x.ne → y.p ≠ l.p := fun x hx y hy e hpy => by
    obtain ⟨i, hi, rfl⟩ := mem_el.1 hx
    have hix := ab_sa h l.p
    rcases ixF_cases (qPt l.p) zs with ⟨a, b⟩ | ⟨k, hk, a, b, _⟩
    · obtain ⟨j, hj, rfl⟩ := mem_el.1 hy
      exact of_decide_eq_false (b j hj) hpy
    · have e1 : (elAt zs k).p = l.p := of_decide_eq_true b
      have e2 : saF zs l.p = (k : Int) := by rw [← hix, a]
      obtain ⟨j, hj, rfl⟩ := mem_el.1 hy
      have hjk : j = k := by
        have hpp := List.pairwise_iff_getElem.1 hp
        rcases Nat.lt_trichotomy j k with c | c | c
        · have := (hpp j k hj hk c).2; rw [el_get hj] at hpy; rw [el_get hk] at e1; exact absurd (hpy.trans e1.symm) this
        · exact c
        · have := (hpp k j hk hj c).2; rw [el_get hj] at hpy; rw [el_get hk] at e1; exact absurd (e1.trans hpy.symm) this
      subst hjk
      exact hnk ⟨by omega, by rw [e2, Int.toNat_natCast]; exact neB_yes hi e.symm⟩
  have hk := poF_le (tkO zs l.p) l.nb
  have hlo : ∀ x ∈ (tkO zs l.p).take (poF (tkO zs l.p) l.nb), x.nb < l.nb := fun x hx => by
    obtain ⟨i, hi, rfl⟩ := mem_el.1 hx
    have hi' : i < poF (tkO zs l.p) l.nb := by simp only [List.length_take] at hi; omega
    have := poF_lt hi'
    have e : elAt ((tkO zs l.p).take (poF (tkO zs l.p) l.nb)) i = elAt (tkO zs l.p) i := by simp [elAt, hi', show i < (tkO zs l.p).length by omega]
    rw [e]; exact this
  have hhi : ∀ x ∈ (tkO zs l.p).drop (poF (tkO zs l.p) l.nb), l.nb < x.nb := fun x hx => by
    obtain ⟨i, hi, rfl⟩ := mem_el.1 hx
    simp only [List.length_drop] at hi
    have e : elAt ((tkO zs l.p).drop (poF (tkO zs l.p) l.nb)) i = elAt (tkO zs l.p) (poF (tkO zs l.p) l.nb + i) := by simp [elAt, show poF (tkO zs l.p) l.nb + i < (tkO zs l.p).length by omega]
    have h1 := poF_stop (n := l.nb) (ls := tkO zs l.p) (by omega)
    have h4 : (elAt (tkO zs l.p) (poF (tkO zs l.p) l.nb)).nb ≤ (elAt (tkO zs l.p) (poF (tkO zs l.p) l.nb + i)).nb := by
      rcases Nat.eq_zero_or_pos i with c | c
      · subst c; simp
      · have := (List.pairwise_iff_getElem.1 hpo _ (poF (tkO zs l.p) l.nb + i) (by omega) (by omega) (by omega : poF (tkO zs l.p) l.nb < _)).1
        rw [el_get (by omega), el_get (by omega)]; omega
    have h5 := hnn _ ((hmem _).1 (mem_el.2 ⟨poF (tkO zs l.p) l.nb + i, by omega, rfl⟩)).1
    rw [e]; omega
  have hin : ∀ x, x ∈ insL (tkO zs l.p) (poF (tkO zs l.p) l.nb) l ↔ x = l ∨ x ∈ tkO zs l.p := fun x => by
    have e : x ∈ tkO zs l.p ↔ x ∈ (tkO zs l.p).take (poF (tkO zs l.p) l.nb) ∨ x ∈ (tkO zs l.p).drop (poF (tkO zs l.p) l.nb) := by
      rw [← List.mem_append, List.take_append_drop]
    rw [e]
    have e2 : x ∈ insL (tkO zs l.p) (poF (tkO zs l.p) l.nb) l ↔ x ∈ (tkO zs l.p).take (poF (tkO zs l.p) l.nb) ∨ x = l ∨ x ∈ (tkO zs l.p).drop (poF (tkO zs l.p) l.nb) := by simp [insL]
    rw [e2]
    constructor
    · rintro (a | a | a)
      · exact .inr (.inl a)
      · exact .inl a
      · exact .inr (.inr a)
    · rintro (a | a | a)
      · exact .inr (.inl a)
      · exact .inl a
      · exact .inr (.inr a)
  refine ab_iff.2 ⟨h2, ?_, ?_, fun x hx => ?_⟩
  · rw [insL_len hk]
    rcases sa_cases zs l.p with c | ⟨k, hk2, c⟩
    · have : (tkO zs l.p).length = zs.length := by rw [tkO, if_neg (by omega)]
      have : zs.length ≠ 30 := fun e => hfull ⟨by omega, e⟩
      omega
    · have : (tkO zs l.p).length = zs.length - 1 := by rw [tkO, if_pos (by omega), c, Int.toNat_natCast]; exact dlL_len hk2
      omega
  · have hsp : (insL (tkO zs l.p) (poF (tkO zs l.p) l.nb) l) = (tkO zs l.p).take (poF (tkO zs l.p) l.nb) ++ ([l] ++ (tkO zs l.p).drop (poF (tkO zs l.p) l.nb)) := by simp [insL]
    have hpt := hpo.sublist (List.take_sublist (poF (tkO zs l.p) l.nb) (tkO zs l.p))
    have hpd := hpo.sublist (List.drop_sublist (poF (tkO zs l.p) l.nb) (tkO zs l.p))
    have hts : ∀ x ∈ (tkO zs l.p).take (poF (tkO zs l.p) l.nb), x ∈ tkO zs l.p := fun x hx => List.mem_of_mem_take hx
    have hds : ∀ x ∈ (tkO zs l.p).drop (poF (tkO zs l.p) l.nb), x ∈ tkO zs l.p := fun x hx => List.mem_of_mem_drop hx
    rw [hsp, List.pairwise_append]
    refine ⟨hpt, ?_, fun x hx y hy => ?_⟩
    · rw [List.singleton_append, List.pairwise_cons]
      exact ⟨fun y hy => ⟨hhi y hy, fun e => ((hmem y).1 (hds y hy)).2 e.symm⟩, hpd⟩
    · rw [List.mem_append, List.mem_singleton] at hy
      rcases hy with rfl | hy
      · exact ⟨hlo x hx, ((hmem x).1 (hts x hx)).2⟩
      · have hpa : ((tkO zs l.p).take (poF (tkO zs l.p) l.nb) ++ (tkO zs l.p).drop (poF (tkO zs l.p) l.nb)).Pairwise (fun a b => a.nb < b.nb ∧ a.p ≠ b.p) := by rw [List.take_append_drop]; exact hpo
        exact (List.pairwise_append.1 hpa).2.2 x hx y hy
  · rcases (hin x).1 hx with rfl | hx
    · have hf : x.le ≤ s ∧ s ≤ x.mo := by simpa [inB] using hfit
      refine ⟨hl, hf, fun hn => ?_⟩
      have h6 : ¬ (fnF zs x.ne < 0 ∨ fnF zs x.ne = saF zs x.p) := fun e => hne ⟨hn, e⟩
      have h7 : 0 ≤ fnF zs x.ne := by omega
      rcases fnF_cases zs x.ne with ⟨a, _⟩ | ⟨j, hj, a, b, _⟩
      · omega
      · refine ⟨fun e => hnn (elAt zs j) (mem_el.2 ⟨j, hj, rfl⟩) (b.trans e), elAt zs j, (hin _).2 (.inr ((hmem _).2 ⟨mem_el.2 ⟨j, hj, rfl⟩, fun e => ?_⟩)), b⟩
        have hix := ab_sa h x.p
        rcases ixF_cases (qPt x.p) zs with ⟨a2, b2⟩ | ⟨k, hk, a2, b2, _⟩
        · exact of_decide_eq_false (b2 j hj) e
        · have e1 : (elAt zs k).p = x.p := of_decide_eq_true b2
          have hpp := List.pairwise_iff_getElem.1 hp
          have hjk : j = k := by
            rcases Nat.lt_trichotomy j k with c | c | c
            · have := (hpp j k hj hk c).2; rw [el_get hj] at e; rw [el_get hk] at e1; exact absurd (e.trans e1.symm) this
            · exact c
            · have := (hpp k j hk hj c).2; rw [el_get hj] at e; rw [el_get hk] at e1; exact absurd (e1.trans e.symm) this
          subst hjk
          exact h6 (.inr (by rw [← hix, a2]; exact a))
    · have hxz := ((hmem x).1 hx).1
      obtain ⟨a, c, d⟩ := hm x hxz
      refine ⟨a, c, fun hn => ⟨(d hn).1, ?_⟩⟩
      obtain ⟨y, hy, e⟩ := (d hn).2
      exact ⟨y, (hin y).2 (.inr ((hmem y).2 ⟨hy, hnd x hxz y hy e⟩)), e⟩

end Go.Proofs.YtemodlgmjgdjpaaGreatDoor

namespace Go.Proofs.YtemodlgmjgdjpaaGreatDoor
open Go Go.RowKit

theorem seS_inj {x y n : Int} (hx : 0 ≤ x ∧ x < 1000003) (hy : 0 ≤ y ∧ y < 1000003) (h : seS x n = seS y n) : x = y := by
  unfold seS at h
  omega
theorem seF_inj {x y : Int} (hx : 0 ≤ x ∧ x < 1000003) (hy : 0 ≤ y ∧ y < 1000003) : ∀ (zs : List Int), seF x zs = seF y zs → x = y
  | [], h => h
  | n :: zs, h => by
    have := seF_inj (seS_bd x n) (seS_bd y n) zs h
    exact seS_inj hx hy this
theorem seS_two {x n m : Int} (hn : 0 ≤ n ∧ n ≤ 255) (hm : 0 ≤ m ∧ m ≤ 255) (h : seS x n = seS x m) : n = m := by
  unfold seS at h
  omega
theorem seal_turn {p : ByteArray} {nb le mo ne : Int} {zs : List Int} {k : Nat} {v : Int} (hk : k < zs.length) (h0 : 0 ≤ elAt zs k ∧ elAt zs k ≤ 255) (hv : 0 ≤ v ∧ v ≤ 255) (hne : v ≠ elAt zs k) : seO ⟨p, nb, le, mo, ne, zs.set k v⟩ ≠ seO ⟨p, nb, le, mo, ne, zs⟩ := by
  intro h
  rw [seO_parts, seO_parts] at h
  have e1 : zs.set k v = zs.take k ++ (v :: zs.drop (k + 1)) := by
    rw [List.set_eq_take_append_cons_drop, if_pos hk]
  have e2 : zs = zs.take k ++ (elAt zs k :: zs.drop (k + 1)) := by
    rw [el_get hk, List.getElem_cons_drop, List.take_append_drop]
  obtain ⟨A, hA⟩ : ∃ A, seF (seF 7 (txL p p.size)) (ldN ⟨p, nb, le, mo, ne, zs⟩) = A := ⟨_, rfl⟩
  have hA2 : seF (seF 7 (txL p p.size)) (ldN ⟨p, nb, le, mo, ne, zs.set k v⟩) = seF (seF 7 (txL p p.size)) (ldN ⟨p, nb, le, mo, ne, zs⟩) ∨ True := .inr trivial
  have h2 : seF (seF (seF 7 (txL p p.size)) (ldN ⟨p, nb, le, mo, ne, zs.set k v⟩)) (zs.take k ++ (v :: zs.drop (k + 1))) = seF (seF (seF 7 (txL p p.size)) (ldN ⟨p, nb, le, mo, ne, zs⟩)) (zs.take k ++ (elAt zs k :: zs.drop (k + 1))) := by
    rw [← e1, ← e2]; exact h
  have hN : ldN ⟨p, nb, le, mo, ne, zs.set k v⟩ = ldN ⟨p, nb, le, mo, ne, zs⟩ := by simp [ldN]
  rw [hN, hA, seF_app, seF_app] at h2
  have hAb : 0 ≤ seF A (zs.take k) ∧ seF A (zs.take k) < 1000003 := seF_bd (by rw [← hA]; exact seF_bd (seF_bd (by omega) _) _) _
  have h3 : seF (seS (seF A (zs.take k)) v) (zs.drop (k + 1)) = seF (seS (seF A (zs.take k)) (elAt zs k)) (zs.drop (k + 1)) := h2
  exact hne (seS_two hv h0 (seF_inj (seS_bd _ _) (seS_bd _ _) _ h3))
theorem tk_wrong {s : Int} {zs : List Lc} {l : Lc} (ha : abB s zs = true) (hl : ldB l = true) : tkC s zs l (seO l + 1) = 2 := by
  rw [tkC, if_neg (by rw [ha, hl]; simp), if_pos (by omega)]
theorem ef_one {s : Int} {zs : List Lc} {l : Lc} (ha : abB s zs = true) (hl : ldB l = true) : efB s zs [l] = true ∧ (efL s zs [l]).length = if tkC s zs l (seO l) = 0 then 1 else 0 := by
  have hb : efB s zs [l] = true := by
    have h1 : ∀ i, i < [l].length → ldB (elAt [l] i) = true := fun i hi => by
      obtain rfl : i = 0 := by simpa using hi
      exact hl
    rw [efB, ha, decide_eq_true h1]; rfl
  refine ⟨hb, ?_⟩
  rw [efL, if_pos hb]
  show (efK s zs [l] 1).length = _
  rw [efK]
  show (if tkC s zs (elAt [l] 0) (seO (elAt [l] 0)) = 0 then efK s zs [l] 0 ++ [((0 : Nat) : Int)] else efK s zs [l] 0).length = _
  rw [show elAt [l] 0 = l from rfl]
  split <;> rfl
theorem tk_there {s : Int} {zs : List Lc} {l : Lc} {sl : Int} (h0 : tkC s zs l sl = 0) : ∃ j, j < (tkL s zs l sl).length ∧ elAt (tkL s zs l sl) j = l := by
  rw [tkL, if_pos h0, inF_ins]
  have hk := poF_le (tkO zs l.p) l.nb
  exact ⟨poF (tkO zs l.p) l.nb, by rw [insL_len hk]; omega, by rw [insL_at hk, if_neg (by omega), if_pos rfl]⟩
theorem tk_not {s : Int} {zs : List Lc} {l : Lc} {sl : Int} (h0 : ¬ tkC s zs l sl = 0) : tkL s zs l sl = zs := by rw [tkL, if_neg h0]

end Go.Proofs.YtemodlgmjgdjpaaGreatDoor
