/-
  The program's Drop18: the plain answer, in memory of its own; nothing that was there is written. At lists of at most 1048576.
  A load put into a list at its place: plain, and in memory of its own; when taking a load answers 0. No program here.
-/
import Derived.Test.YtemodlgmjgdjpaaGreatDoorDlFn
import Derived.Test.YtemodlgmjgdjpaaGreatDoorMAiOk
import Derived.Test.YtemodlgmjgdjpaaGreatDoorTsPure
import Derived.Test.YtemodlgmjgdjpaaGreatDoorMCpPure
import Derived.Test.YtemodlgmjgdjpaaGreatDoorInsPure

namespace Go.Proofs.YtemodlgmjgdjpaaGreatDoor
open Go Go.RowKit

theorem OwnLd.set_out {w : World} {base b u S o : Nat} {v : Value} {us : List Lx} (h : OwnLd w base v us) (hl : LxLies b u v us) (hS : u ≤ S) (x : Value) : OwnLd (w.setCell ⟨S, o, none⟩ x) base v us :=
  ⟨h.out.set_other x (fun e => by have := (hl.1 S e).2; omega), fun i hi => (h.dat i hi).set_other x (fun e => by have := (hl.2 i hi S e).2; omega), h.apt, h.par⟩
theorem LxLies.del {b u k : Nat} {v v' : Value} {us : List Lx} (h : LxLies b u v us) (hk : k < us.length) (hv : ∀ q, v'.ownBlock = some q → b ≤ q ∧ q < u) : LxLies b u v' (dlL us k) := by
  refine ⟨hv, fun i hi q hq => ?_⟩
  rw [dlL_len hk] at hi
  rw [dlL_at hk hi] at hq
  refine h.2 _ ?_ q hq
  split <;> omega
theorem lzok_del {zs : List Lc} {k : Nat} (h : LzOk zs) (hk : k < zs.length) : LzOk (zs.take k ++ zs.drop (k + 1)) := by
  intro i hi
  have hi2 : i < (dlL zs k).length := hi
  rw [dlL_len hk] at hi2
  rw [show zs.take k ++ zs.drop (k + 1) = dlL zs k from rfl, dlL_at hk hi2]
  refine h _ ?_
  split <;> omega
set_option maxRecDepth 20000 in
set_option maxHeartbeats 4000000 in
theorem implDrop18_any (s : Int) (a1 : Option Addr) (l1 c1 : Nat) (zs : List Lc) (n : Int) (w : World) (hr : AbIn w a1 l1 zs) (hlz : LzB zs) :
    Calls Tryz.prog 14 #[.agg #[.int .i64 s, .slice a1 l1 c1], .int .i64 n] w fun e w' => ∃ a9 c9, e = .returned (.tuple #[.agg #[.int .i64 s, .slice a9 (drL s zs n).length c9], .bool (drB s zs n)]) ∧ AbOwn w' w.heap.size a9 (drL s zs n).length c9 (drL s zs n) ∧ Below w.heap.size w w' := by
  have HT := hide hr.r1
  have HZL := hide hr.r1.len_eq
  have hsm := hr.r1.small
  have HLZ := hide hlz
  clear hr hlz
  obtain ⟨W, hW⟩ : ∃ W, W = (w.alloc (Obj.cells #[.int .i64 s, .slice a1 l1 c1] 26)).alloc (Obj.cells #[.int .i64 0, .slice none 0 0] 26) := ⟨_, rfl⟩
  have K0 : Hid (Blk W w.heap.size [.int .i64 s, .slice a1 l1 c1]) := hide (by rw [hW]; exact (Blk.new _ _).alloc _)
  have K1 : Hid (Blk W (w.heap.size + 1) [.int .i64 0, .slice none 0 0]) := hide (by
    rw [hW]
    have := Blk.new (w := (w.alloc (Obj.cells #[.int .i64 s, .slice a1 l1 c1] 26))) [.int .i64 0, .slice none 0 0] 26
    simpa using this)
  have B0 : Hid (Below w.heap.size w W) := hide (by rw [hW]; exact bel2 _ _)
  have hWs : Hid (W.heap.size = w.heap.size + 2) := hide (by rw [hW]; simp)
  have a0 : W.cell? ⟨w.heap.size, 0, none⟩ = some (.int .i64 s) := (unhide K0).c 0 (by simp)
  have a1' : W.cell? ⟨w.heap.size, 1, none⟩ = some (.slice a1 l1 c1) := (unhide K0).c 1 (by simp)
  rw [hW] at a0 a1'
  have HW := hide hW
  clear hW
  go_enter Tryz.func14, Tryz.ntmps14
  go_wp2_with fail
  rw [← unhide HW]
  clear HW a0 a1'
  refine (copiedA_any s a1 l1 c1 zs W ((unhide HT).below (unhide B0)) (unhide HLZ)).mono ?_
  rintro e w2 ⟨⟨g9, c9, rfl, ow⟩, b2⟩
  have ow := ow.mono (base' := w.heap.size + 2) (by have := unhide hWs; omega)
  obtain ⟨us, hus, ho⟩ := ow.ex
  have HOK := hide ow.ok
  have HUS := hide hus
  have HLI : Hid (LxLies (w.heap.size + 2) w2.heap.size (.slice (some ⟨g9, 0, none⟩) l1 c9) us) := hide ho.lies
  have HUL : Hid (us.length = l1) := hide (ownLd_len ho)
  have ow := hide ho
  clear ho hus
  have hw2 : w.heap.size + 2 ≤ w2.heap.size := by have := b2.size; have := unhide hWs; omega
  have K0 := hide ((unhide K0).below b2)
  have K1 := hide ((unhide K1).below b2)
  have B2 := hide ((unhide B0).trans (b2.mono (unhide B0).size))
  clear b2 B0 hWs
  obtain ⟨V, hV⟩ : ∃ V, V = w2.alloc (Obj.cells #[.int .i64 s, .slice (some ⟨g9, 0, none⟩) l1 c9] 26) := ⟨_, rfl⟩
  have bV : Below w2.heap.size w2 V := by rw [hV]; exact bel1 _
  have K6 : Hid (Blk V w2.heap.size [.int .i64 s, .slice (some ⟨g9, 0, none⟩) l1 c9]) := hide (by rw [hV]; exact Blk.new _ _)
  have K0 := hide ((unhide K0).below bV)
  have K1 := hide ((unhide K1).below bV)
  have BV := hide ((unhide B2).trans (bV.mono (unhide B2).size))
  have OV := hide ((unhide ow).below bV)
  obtain ⟨ι, f, _, hbf, hall⟩ := belClass V
  have HF := hide hbf
  have HAL := hide hall
  have HBF : Hid (∀ y, Below w.heap.size w (f y)) := hide (fun y => (unhide BV).trans ((hbf y).mono (unhide BV).size))
  have b0 : ∀ y, (f y).cell? ⟨w.heap.size, 0, none⟩ = some (.int .i64 s) := fun y => ((unhide K0).below (hbf y)).c 0 (by simp)
  have b1 : ∀ y, (f y).cell? ⟨w.heap.size, 1, none⟩ = some (.slice a1 l1 c1) := fun y => ((unhide K0).below (hbf y)).c 1 (by simp)
  have p0 : ∀ y, (f y).cell? ⟨w2.heap.size, 0, none⟩ = some (.int .i64 s) := fun y => ((unhide K6).below (hbf y)).c 0 (by simp)
  have p1 : ∀ y, (f y).cell? ⟨w2.heap.size, 1, none⟩ = some (.slice (some ⟨g9, 0, none⟩) l1 c9) := fun y => ((unhide K6).below (hbf y)).c 1 (by simp)
  have KF1 : Hid (∀ y, Blk (f y) (w.heap.size + 1) [.int .i64 0, .slice none 0 0]) := hide (fun y => (unhide K1).below (hbf y))
  have KF6 : Hid (∀ y, Blk (f y) w2.heap.size [.int .i64 s, .slice (some ⟨g9, 0, none⟩) l1 c9]) := hide (fun y => (unhide K6).below (hbf y))
  have OF : Hid (∀ y, OwnLd (f y) (w.heap.size + 2) (.slice (some ⟨g9, 0, none⟩) l1 c9) us) := hide (fun y => (unhide OV).below (hbf y))
  have CA : Hid (∀ y, Calls Tryz.prog 11 #[.agg #[.int .i64 s, .slice a1 l1 c1]] (f y) fun e w' => e = .returned (.bool (abB s zs)) ∧ Below (f y).heap.size (f y) w') := hide (fun y => implAboardOk_any s _ _ _ zs (f y) ⟨(unhide HT).below ((unhide HBF) y)⟩)
  have CF : Hid (∀ y, Calls Tryz.prog 53 #[.agg #[.int .i64 s, .slice a1 l1 c1], .int .i64 n] (f y) fun e w' => e = .returned (.int .i64 (fnF zs n)) ∧ Below (f y).heap.size (f y) w') := hide (fun y => placeNb_any s _ _ _ zs n (f y) ((unhide HT).below ((unhide HBF) y)))
  have CN : Hid (∀ y, Calls Tryz.prog 54 #[.agg #[.int .i64 s, .slice a1 l1 c1], .int .i64 n] (f y) fun e w' => e = .returned (.bool (neB zs n)) ∧ Below (f y).heap.size (f y) w') := hide (fun y => isNeeded_any s _ _ _ zs n (f y) ((unhide HT).below ((unhide HBF) y)))
  obtain ⟨x0, hx0⟩ := (unhide HAL) V (Below.refl _ _)
  have HX0 : Hid (w2.alloc (Obj.cells #[.int .i64 s, .slice (some ⟨g9, 0, none⟩) l1 c9] 26) = f x0) := hide (hV.symm.trans hx0)
  have b0w := b0 x0
  have b1w := b1 x0
  rw [← hx0, hV] at b0w b1w
  clear hbf hall hV hx0 bV K0 K1 K6 BV OV ow B2 HT
  have HB3 : Hid (drB s zs n = (abB s zs && decide (0 ≤ fnF zs n) && !neB zs n)) := hide rfl
  cases qa : abB s zs with
  | false =>
    rw [qa] at CA HB3
    have HDB : Hid (drB s zs n = false) := hide (by rw [unhide HB3]; rfl)
    have HDL : Hid (drL s zs n = zs) := hide (by rw [drL, unhide HDB]; simp)
    go_wp2_with fail
    rw [unhide HX0]
    clear HX0 b0w b1w
    go_wp2_with (first | (go_at_call 53; refine (belQ (unhide HF) (unhide HAL) (unhide CF _)).mono ?_; rintro e _ ⟨rfl, y, rfl⟩) | (go_at_call 11; refine (belQ (unhide HF) (unhide HAL) (unhide CA _)).mono ?_; rintro e _ ⟨rfl, y1, rfl⟩) | (go_at_call 54; refine (belQ (unhide HF) (unhide HAL) (unhide CN _)).mono ?_; rintro e _ ⟨rfl, y2, rfl⟩) | ((with_reducible show wpList _ _ _ (⟨none, .store 26 _ _, _, _, _, none⟩ :: _) _ _); refine at_storeAgg (us := [.int .i64 0, .slice none 0 0]) (vs := [.int .i64 s, .slice (some ⟨g9, 0, none⟩) l1 c9]) Tryz.sizeOf26 rfl rfl ((unhide KF1) _) rfl (by intro v hv; simp at hv; rcases hv with rfl | rfl <;> rfl) ?_; intro w5 kk gg))
    have BE : Below w.heap.size w w5 := ((unhide HBF) _).grown gg ((unhide HBF) _).size (fun q hq => by cases hq; omega)
    have OE := ((unhide OF) _).far gg (fun q hq e => by have := Option.some.inj e; omega)
    exact bodyPost_ret (results_cellB (vs := [.int .i64 s, .slice (some ⟨g9, 0, none⟩) l1 c9]) (x := .bool false) rfl Tryz.isAgg26 Tryz.sizeOf26 rfl kk rfl) rfl ⟨(some ⟨g9, 0, none⟩), c9, by rw [unhide HDL, unhide HDB, unhide HZL], ⟨by rw [unhide HDL, unhide HZL]; exact cp_ok (unhide HUS) (unhide HOK) (OE.mono (by omega))⟩, BE⟩
  | true =>
    rw [qa] at CA HB3
    rcases fnF_cases zs n with ⟨hF, _⟩ | ⟨k, hk, hF, _, _⟩
    · rw [hF] at CF HB3
      have HDB : Hid (drB s zs n = false) := hide (by rw [unhide HB3]; rfl)
      have HDL : Hid (drL s zs n = zs) := hide (by rw [drL, unhide HDB]; simp)
      clear hF
      go_wp2_with fail
      rw [unhide HX0]
      clear HX0 b0w b1w
      go_wp2_with (first | (go_at_call 53; refine (belQ (unhide HF) (unhide HAL) (unhide CF _)).mono ?_; rintro e _ ⟨rfl, y, rfl⟩) | (go_at_call 11; refine (belQ (unhide HF) (unhide HAL) (unhide CA _)).mono ?_; rintro e _ ⟨rfl, y1, rfl⟩) | (go_at_call 54; refine (belQ (unhide HF) (unhide HAL) (unhide CN _)).mono ?_; rintro e _ ⟨rfl, y2, rfl⟩) | ((with_reducible show wpList _ _ _ (⟨none, .store 26 _ _, _, _, _, none⟩ :: _) _ _); refine at_storeAgg (us := [.int .i64 0, .slice none 0 0]) (vs := [.int .i64 s, .slice (some ⟨g9, 0, none⟩) l1 c9]) Tryz.sizeOf26 rfl rfl ((unhide KF1) _) rfl (by intro v hv; simp at hv; rcases hv with rfl | rfl <;> rfl) ?_; intro w5 kk gg))
      have BE : Below w.heap.size w w5 := ((unhide HBF) _).grown gg ((unhide HBF) _).size (fun q hq => by cases hq; omega)
      have OE := ((unhide OF) _).far gg (fun q hq e => by have := Option.some.inj e; omega)
      exact bodyPost_ret (results_cellB (vs := [.int .i64 s, .slice (some ⟨g9, 0, none⟩) l1 c9]) (x := .bool false) rfl Tryz.isAgg26 Tryz.sizeOf26 rfl kk rfl) rfl ⟨(some ⟨g9, 0, none⟩), c9, by rw [unhide HDL, unhide HDB, unhide HZL], ⟨by rw [unhide HDL, unhide HZL]; exact cp_ok (unhide HUS) (unhide HOK) (OE.mono (by omega))⟩, BE⟩
    · have HFK := hide hF
      rw [hF] at CF HB3
      clear hF
      have n1 : ((k : Int) == -1) = false := by simp only [beq_eq_false_iff_ne]; omega
      have n2 : decide ((k : Int) = -1) = false := by simp only [decide_eq_false_iff_not]; omega
      have n3 : ¬ ((k : Int) < 0) := by omega
      have n4 : decide ((k : Int) < 0) = false := by simp only [decide_eq_false_iff_not]; omega
      cases qn : neB zs n with
      | true =>
        rw [qn] at CN HB3
        have HDB : Hid (drB s zs n = false) := hide (by rw [unhide HB3]; simp)
        have HDL : Hid (drL s zs n = zs) := hide (by rw [drL, unhide HDB]; simp)
        clear hk
        go_wp2_with fail
        rw [unhide HX0]
        clear HX0 b0w b1w
        go_wp2_with (first | (go_at_call 53; refine (belQ (unhide HF) (unhide HAL) (unhide CF _)).mono ?_; rintro e _ ⟨rfl, y, rfl⟩) | (go_at_call 11; refine (belQ (unhide HF) (unhide HAL) (unhide CA _)).mono ?_; rintro e _ ⟨rfl, y1, rfl⟩) | (go_at_call 54; refine (belQ (unhide HF) (unhide HAL) (unhide CN _)).mono ?_; rintro e _ ⟨rfl, y2, rfl⟩) | ((with_reducible show wpList _ _ _ (⟨none, .store 26 _ _, _, _, _, none⟩ :: _) _ _); refine at_storeAgg (us := [.int .i64 0, .slice none 0 0]) (vs := [.int .i64 s, .slice (some ⟨g9, 0, none⟩) l1 c9]) Tryz.sizeOf26 rfl rfl ((unhide KF1) _) rfl (by intro v hv; simp at hv; rcases hv with rfl | rfl <;> rfl) ?_; intro w5 kk gg))
        have BE : Below w.heap.size w w5 := ((unhide HBF) _).grown gg ((unhide HBF) _).size (fun q hq => by cases hq; omega)
        have OE := ((unhide OF) _).far gg (fun q hq e => by have := Option.some.inj e; omega)
        exact bodyPost_ret (results_cellB (vs := [.int .i64 s, .slice (some ⟨g9, 0, none⟩) l1 c9]) (x := .bool false) rfl Tryz.isAgg26 Tryz.sizeOf26 rfl kk rfl) rfl ⟨(some ⟨g9, 0, none⟩), c9, by rw [unhide HDL, unhide HDB, unhide HZL], ⟨by rw [unhide HDL, unhide HZL]; exact cp_ok (unhide HUS) (unhide HOK) (OE.mono (by omega))⟩, BE⟩
      | false =>
        rw [qn] at CN HB3
        have HDB : Hid (drB s zs n = true) := hide (by rw [unhide HB3]; simp)
        have HDL : Hid (drL s zs n = zs.take k ++ zs.drop (k + 1)) := hide (by rw [drL, unhide HDB, unhide HFK]; simp)
        obtain ⟨m, hm⟩ : ∃ m, l1 = m + 1 := ⟨l1 - 1, by have := unhide HZL; omega⟩
        have h30 : l1 ≤ 30 := by have := (abB_facts qa).2.2; have := unhide HZL; omega
        have HML : Hid ((zs.take k ++ zs.drop (k + 1)).length = m) := hide (by have := dlL_len hk; rw [dlL, unhide HZL] at this; rw [this]; omega)
        have HKB := hide hk
        have CD : Hid (∀ y, Calls Tryz.prog 55 #[.slice (some ⟨g9, 0, none⟩) l1 c9, .int .i64 (k : Int), .int .i64 ((k : Int) + 1)] (f y) fun e w' => e = .returned (.slice (some ⟨g9, 0, none⟩) m c9) ∧ OwnLd w' (w.heap.size + 2) (.slice (some ⟨g9, 0, none⟩) m c9) (dlL us k) ∧ (f y).grownBy w' (some g9)) := hide (fun y => by
          have hd := del_any (w.heap.size + 2) g9 l1 m c9 k (k + 1) us (f y) ((unhide OF) y) (unhide HUL) hm rfl (by omega) (by have := unhide HZL; have := unhide HKB; omega)
          rw [show ((k + 1 : Nat) : Int) = (k : Int) + 1 from by omega] at hd
          exact hd)
        have HLD : Hid (LxLies (w.heap.size + 2) w2.heap.size (.slice (some ⟨g9, 0, none⟩) m c9) (dlL us k)) := hide ((unhide HLI).del (by have := unhide HZL; have := unhide HUL; have := unhide HKB; omega) (fun q hq => (unhide HLI).1 q hq))
        have hg9 := (unhide HLI).1 g9 rfl
        have hki : (k : Int) + 1 ≤ 31 := by have := unhide HZL; omega
        have hk0 : (0 : Int) ≤ (k : Int) := by omega
        clear hk hm qa
        go_wp2_with fail
        rw [unhide HX0]
        clear HX0 b0w b1w
        go_wp2_with (first | (go_at_call 53; refine (belQ (unhide HF) (unhide HAL) (unhide CF _)).mono ?_; rintro e _ ⟨rfl, y, rfl⟩) | (go_at_call 11; refine (belQ (unhide HF) (unhide HAL) (unhide CA _)).mono ?_; rintro e _ ⟨rfl, y1, rfl⟩) | (go_at_call 54; refine (belQ (unhide HF) (unhide HAL) (unhide CN _)).mono ?_; rintro e _ ⟨rfl, y2, rfl⟩) | (go_at_call 55; refine (unhide CD _).mono ?_; rintro e w9 ⟨rfl, o9, gr9⟩; have k6 : Blk w9 w2.heap.size [.int .i64 s, .slice (some ⟨g9, 0, none⟩) l1 c9] := ((unhide KF6) _).apart gr9 (fun e => by have := Option.some.inj e; omega); have k1 : Blk w9 (w.heap.size + 1) [.int .i64 0, .slice none 0 0] := ((unhide KF1) _).apart gr9 (fun e => by have := Option.some.inj e; omega); have b9 : Below w.heap.size w w9 := ((unhide HBF) _).grown gr9 ((unhide HBF) _).size (fun q hq => by cases hq; omega); have y1' : w9.cell? ⟨w2.heap.size, 1, none⟩ = some (.slice (some ⟨g9, 0, none⟩) l1 c9) := k6.c 1 (by simp); have f1' : w9.frozen? ⟨w2.heap.size, 1, none⟩ = false := k6.f 1 (by simp); have kA : Blk (w9.setCell ⟨w2.heap.size, 1, none⟩ (.slice (some ⟨g9, 0, none⟩) m c9)) w2.heap.size [.int .i64 s, .slice (some ⟨g9, 0, none⟩) m c9] := k6.set 1 (by simp) _; have z0' : (w9.setCell ⟨w2.heap.size, 1, none⟩ (.slice (some ⟨g9, 0, none⟩) m c9)).cell? ⟨w2.heap.size, 0, none⟩ = some (.int .i64 s) := kA.c 0 (by simp); have z1' : (w9.setCell ⟨w2.heap.size, 1, none⟩ (.slice (some ⟨g9, 0, none⟩) m c9)).cell? ⟨w2.heap.size, 1, none⟩ = some (.slice (some ⟨g9, 0, none⟩) m c9) := kA.c 1 (by simp); have KE : Hid (Blk (w9.setCell ⟨w2.heap.size, 1, none⟩ (.slice (some ⟨g9, 0, none⟩) m c9)) (w.heap.size + 1) [.int .i64 0, .slice none 0 0]) := hide (k1.other (by simp; omega) _); have BE9 : Hid (Below w.heap.size w (w9.setCell ⟨w2.heap.size, 1, none⟩ (.slice (some ⟨g9, 0, none⟩) m c9))) := hide (b9.setCell (by simp; omega) _); have OE9 : Hid (OwnLd (w9.setCell ⟨w2.heap.size, 1, none⟩ (.slice (some ⟨g9, 0, none⟩) m c9)) (w.heap.size + 2) (.slice (some ⟨g9, 0, none⟩) m c9) (dlL us k)) := hide (o9.set_out (unhide HLD) (Nat.le_refl _) _); clear k6 k1 b9 kA o9 gr9) | ((with_reducible show wpList _ _ _ (⟨none, .store 26 _ _, _, _, _, none⟩ :: _) _ _); refine at_storeAgg (us := [.int .i64 0, .slice none 0 0]) (vs := [.int .i64 s, .slice (some ⟨g9, 0, none⟩) m c9]) Tryz.sizeOf26 rfl rfl (unhide KE) rfl (by intro v hv; simp at hv; rcases hv with rfl | rfl <;> rfl) ?_; intro w5 kk gg))
        have BE : Below w.heap.size w w5 := (unhide BE9).grown gg (unhide BE9).size (fun q hq => by cases hq; omega)
        have OE := (unhide OE9).far gg (fun q hq e => by have := Option.some.inj e; omega)
        exact bodyPost_ret (results_cellB (vs := [.int .i64 s, .slice (some ⟨g9, 0, none⟩) m c9]) (x := .bool true) rfl Tryz.isAgg26 Tryz.sizeOf26 rfl kk rfl) rfl ⟨some ⟨g9, 0, none⟩, c9, by rw [unhide HDL, unhide HDB, unhide HML], ⟨by rw [unhide HDL, unhide HML]; exact cp_ok (dlL_map (unhide HUS) k) (lzok_del (unhide HOK) (unhide HKB)) (OE.mono (by omega))⟩, BE⟩

end Go.Proofs.YtemodlgmjgdjpaaGreatDoor

namespace Go.Proofs.YtemodlgmjgdjpaaGreatDoor
open Go Go.RowKit

theorem tk_zero {s : Int} {zs : List Lc} {l : Lc} {sl : Int} (h : tkC s zs l sl = 0) : abB s zs = true ∧ ldB l = true ∧ sl = seO l ∧ inB s l.le l.mo = true ∧ ¬ (l.ne ≠ 0 ∧ (fnF zs l.ne < 0 ∨ fnF zs l.ne = saF zs l.p)) ∧ ¬ (0 ≤ saF zs l.p ∧ neB zs (elAt zs (saF zs l.p).toNat).nb = true) ∧ ¬ ((0 ≤ saF zs l.p ∧ l.nb ≤ (elAt zs (saF zs l.p).toNat).nb) ∨ 0 ≤ fnF zs l.nb) ∧ ¬ (saF zs l.p < 0 ∧ zs.length = 30) := by
  unfold tkC at h
  by_cases c1 : abB s zs = false ∨ ldB l = false
  · rw [if_pos c1] at h; omega
  rw [if_neg c1] at h
  by_cases c2 : sl ≠ seO l
  · rw [if_pos c2] at h; omega
  rw [if_neg c2] at h
  by_cases c3 : inB s l.le l.mo = false
  · rw [if_pos c3] at h; omega
  rw [if_neg c3] at h
  by_cases c4 : l.ne ≠ 0 ∧ (fnF zs l.ne < 0 ∨ fnF zs l.ne = saF zs l.p)
  · rw [if_pos c4] at h; omega
  rw [if_neg c4] at h
  by_cases c5 : 0 ≤ saF zs l.p ∧ neB zs (elAt zs (saF zs l.p).toNat).nb = true
  · rw [if_pos c5] at h; omega
  rw [if_neg c5] at h
  by_cases c6 : (0 ≤ saF zs l.p ∧ l.nb ≤ (elAt zs (saF zs l.p).toNat).nb) ∨ 0 ≤ fnF zs l.nb
  · rw [if_pos c6] at h; omega
  rw [if_neg c6] at h
  by_cases c7 : saF zs l.p < 0 ∧ zs.length = 30
  · rw [if_pos c7] at h; omega
  refine ⟨?_, ?_, by omega, ?_, c4, c5, c6, c7⟩
  · cases e : abB s zs
    · exact absurd (.inl e) c1
    · rfl
  · cases e : ldB l
    · exact absurd (.inr e) c1
    · rfl
  · cases e : inB s l.le l.mo
    · exact absurd e c3
    · rfl
theorem poF_lt {n : Int} : ∀ {ls : List Lc} {j : Nat}, j < poF ls n → (elAt ls j).nb < n
  | [], j, h => by simp [poF] at h
  | x :: r, j, h => by
    rw [poF, List.takeWhile_cons] at h
    by_cases c : x.nb < n
    · rw [if_pos (by simpa using c), List.length_cons] at h
      match j, h with
      | 0, _ => simpa [elAt] using c
      | j + 1, h => simpa [elAt] using poF_lt (n := n) (ls := r) (j := j) (by rw [poF]; omega)
    · rw [if_neg (by simpa using c)] at h; simp at h
theorem poF_stop {n : Int} : ∀ {ls : List Lc}, poF ls n < ls.length → ¬ (elAt ls (poF ls n)).nb < n
  | [], h => by simp [poF] at h
  | x :: r, h => by
    by_cases c : x.nb < n
    · have e : poF (x :: r) n = poF r n + 1 := by
        rw [poF, List.takeWhile_cons, if_pos (by simpa using c), List.length_cons]; rfl
      rw [e] at h ⊢
      have := poF_stop (n := n) (ls := r) (by simpa using h)
      simpa [elAt] using this
    · have e : poF (x :: r) n = 0 := by
        rw [poF, List.takeWhile_cons, if_neg (by simpa using c)]; rfl
      rw [e]; simpa [elAt] using c
theorem inF_ins (zs : List Lc) (l : Lc) : inF zs l = insL zs (poF zs l.nb) l := rfl
theorem insL_map {us : List Lx} {zs : List Lc} (h : us.map lxW = zs) (k : Nat) (x : Lx) : (insL us k x).map lxW = insL zs k (lxW x) := by
  subst h; simp [insL, List.map_take, List.map_drop]
theorem lzok_ins {zs : List Lc} {k : Nat} {l : Lc} (h : LzOk zs) (hk : k ≤ zs.length) (hl : LcOk l) : LzOk (insL zs k l) := by
  intro i hi
  rw [insL_len hk] at hi
  rw [insL_at hk]
  split
  · exact h i (by omega)
  · split
    · exact hl
    · exact h (i - 1) (by omega)
/-- A load put into a list, both of their own. -/
theorem OwnLd.ins {w w' : World} {base g n c k : Nat} {v : Value} {us : List Lx} {x : Lx} (h : OwnLd w base v us) (hk : k ≤ us.length) (o : OwnE 6 lxC w' base 32 (.slice (some ⟨g, 0, none⟩) n c) (insL us k x))
    (hd : ∀ i, i < us.length → OwnE 1 byC w' base 5 (slV (elAt us i).d) (elAt us i).d.zs) (hx : OwnE 1 byC w' base 5 (slV x.d) x.d.zs)
    (hg : ∀ i, i < us.length → ∀ q, (slV (elAt us i).d).ownBlock = some q → q ≠ g) (hgx : ∀ q, (slV x.d).ownBlock = some q → q ≠ g)
    (hp : ∀ i, i < us.length → ∀ q, (slV (elAt us i).d).ownBlock = some q → (slV x.d).ownBlock ≠ some q) : OwnLd w' base (.slice (some ⟨g, 0, none⟩) n c) (insL us k x) := by
  have hlen := insL_len (x := x) hk
  refine ⟨o, fun i hi => ?_, fun i hi q hq e => ?_, fun i j hij hj q hq => ?_⟩
  · rw [hlen] at hi
    rw [insL_at hk]
    split
    · exact hd i (by omega)
    · split
      · exact hx
      · exact hd (i - 1) (by omega)
  · rw [hlen] at hi
    have e := (Option.some.inj e).symm
    rw [insL_at hk] at hq
    split at hq
    · exact hg i (by omega) q hq e
    · split at hq
      · exact hgx q hq e
      · exact hg (i - 1) (by omega) q hq e
  · rw [hlen] at hj
    rw [insL_at hk] at hq ⊢
    by_cases i1 : i < k
    · rw [if_pos i1] at hq
      by_cases j1 : j < k
      · rw [if_pos j1]; exact h.par i j hij (by omega) q hq
      · rw [if_neg j1]
        by_cases j2 : j = k
        · rw [if_pos j2]; exact hp i (by omega) q hq
        · rw [if_neg j2]; exact h.par i (j - 1) (by omega) (by omega) q hq
    · rw [if_neg i1] at hq
      rw [if_neg (by omega : ¬ j < k), if_neg (by omega : ¬ j = k)]
      by_cases i2 : i = k
      · rw [if_pos i2] at hq
        exact fun e => hp (j - 1) (by omega) q e hq
      · rw [if_neg i2] at hq
        exact h.par (i - 1) (j - 1) (by omega) (by omega) q hq

end Go.Proofs.YtemodlgmjgdjpaaGreatDoor
