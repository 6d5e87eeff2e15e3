/-
  What FlyRoute answers in the program: the plain answer, at every craft and list, where the table of steps holds what the program's text says; the list owns its memory; nothing that was there is written.
-/
import Derived.Test.YtkpmoolggpojdauDoorRtIn
namespace Go.Proofs.YtkpmoolggpojdauDoor
open Go.RowKit

set_option maxRecDepth 20000 in
set_option maxHeartbeats 1000000 in
theorem implFlyRoute_on {rx ry rd rh rc ro : Int} {rl : List Int} (a0 a1 a2 a3 a4 : Int) (ad : Option Addr) (len cap : Nat) (ls : List Lg) (w : World) (gs : StG w) (hr : RowE 4 lgC w ad len ls) (hl : len ≤ 30) (hR : rtN ⟨a0, a1, a2, a3, a4⟩ 0 ls = (⟨rx, ry, rd, rh, rc⟩, rl, ro)) :
    Calls Tryd.prog 14 #[.agg #[.int .i64 a0, .int .i64 a1, .int .i64 a2, .int .i64 a3, .int .i64 a4], .slice ad len cap] w fun e w' => ∃ a1 c1, e = .returned (.tuple #[.agg #[.int .i64 rx, .int .i64 ry, .int .i64 rd, .int .i64 rh, .int .i64 rc], .slice a1 rl.length c1, .int .i64 ro]) ∧ OwnI w' w.heap.size (.slice a1 rl.length c1) rl ∧ Below w.heap.size w w' := by
  have hz := hr.len_eq
  have HOP := hide hr.open_
  clear hr
  subst hz
  have hl2 : ¬ (30 : Int) < (ls.length : Int) := by omega
  have A0 := hide (RtA.start ls ⟨a0, a1, a2, a3, a4⟩)
  rw [hR] at A0
  clear hR
  have gl := gs.lt
  have HG := hide gs
  clear gs
  have KJ := hide (rtNew (w := w) (x := a0) (y := a1) (d := a2) (h := a3) (c := a4) (T1 := 26) (T2 := 26))
  go_enter Tryd.func14, Tryd.ntmps14
  go_wp2_with fail
  go_loopw [7, 8, 22] (fun s7 s8 s22 wr => ∃ (i g cp : Nat) (x y d h c all lf : Int) (out : List Int), s7 = .slice (some ⟨g, 0, none⟩) i cp ∧ s8 = .int .i64 lf ∧ s22 = .int .i64 (i : Int) ∧ Hid (lf + all = 2000) ∧ Hid (RtA ls (⟨rx, ry, rd, rh, rc⟩, rl, ro) i ⟨x, y, d, h, c⟩ all out) ∧ Hid (RtW w wr x y d h c g i cp out)) (fun _ _ s22 _ => ls.length - (intOf s22).toNat)
  case atStart => exact ⟨0, _, 0, a0, a1, a2, a3, a4, 0, 2000, [], rfl, rfl, rfl, hide (by omega), A0, KJ⟩
  case round =>
    obtain ⟨i, g, cp, x, y, d, h, c, all, lf, out, rfl, rfl, rfl, HLF, HA, HK⟩ := hrel
    clear KJ A0
    have hi0 := (unhide HA).i
    by_cases hlt : i < ls.length
    · rcases (unhide HOP) with ⟨h0, _⟩ | ⟨bb, off, rfl, _, hcs⟩
      · omega
      obtain ⟨q0, q1, q2, q3⟩ := leg_at (unhide HK).bel (hcs i hlt)
      have n1 : (0 : Int) ≤ (i : Int) := by omega
      have n2 : (i : Int) < (ls.length : Int) := by omega
      have K1 := hide ((unhide HK).below (bel1 (Obj.cells #[.int .i64 (elAt ls i).a0, .int .i64 (elAt ls i).a1, .int .i64 (elAt ls i).a2, .int .i64 (elAt ls i).a3] 30)))
      have c0' : (wr.alloc (Obj.cells #[.int .i64 (elAt ls i).a0, .int .i64 (elAt ls i).a1, .int .i64 (elAt ls i).a2, .int .i64 (elAt ls i).a3] 30)).cell? ⟨w.heap.size, 0, none⟩ = some (.int .i64 x) := (unhide K1).cc.c 0 (by simp)
      have c1' : (wr.alloc (Obj.cells #[.int .i64 (elAt ls i).a0, .int .i64 (elAt ls i).a1, .int .i64 (elAt ls i).a2, .int .i64 (elAt ls i).a3] 30)).cell? ⟨w.heap.size, 1, none⟩ = some (.int .i64 y) := (unhide K1).cc.c 1 (by simp)
      have c2' : (wr.alloc (Obj.cells #[.int .i64 (elAt ls i).a0, .int .i64 (elAt ls i).a1, .int .i64 (elAt ls i).a2, .int .i64 (elAt ls i).a3] 30)).cell? ⟨w.heap.size, 2, none⟩ = some (.int .i64 d) := (unhide K1).cc.c 2 (by simp)
      have c3' : (wr.alloc (Obj.cells #[.int .i64 (elAt ls i).a0, .int .i64 (elAt ls i).a1, .int .i64 (elAt ls i).a2, .int .i64 (elAt ls i).a3] 30)).cell? ⟨w.heap.size, 3, none⟩ = some (.int .i64 h) := (unhide K1).cc.c 3 (by simp)
      have c4' : (wr.alloc (Obj.cells #[.int .i64 (elAt ls i).a0, .int .i64 (elAt ls i).a1, .int .i64 (elAt ls i).a2, .int .i64 (elAt ls i).a3] 30)).cell? ⟨w.heap.size, 4, none⟩ = some (.int .i64 c) := (unhide K1).cc.c 4 (by simp)
      obtain ⟨⟨⟨nx, ny, nd, nh, nc⟩, n, o⟩, hR⟩ : ∃ z, lgR (elAt ls i) ⟨x, y, d, h, c⟩ = z := ⟨_, rfl⟩
      have HR : Hid (flR (elAt ls i).a0 (elAt ls i).a1 (elAt ls i).a2 (elAt ls i).a3 ⟨x, y, d, h, c⟩ = (⟨nx, ny, nd, nh, nc⟩, n, o)) := hide hR
      have HR2 := hide hR
      have bd := flR_bd (elAt ls i).a0 (elAt ls i).a1 (elAt ls i).a2 (elAt ls i).a3 ⟨x, y, d, h, c⟩
      rw [unhide HR] at bd
      have m0 : 0 ≤ n := bd.1.1
      have m1 : n ≤ 2001 := bd.1.2
      have m2 : o = 0 ∨ n = 0 := bd.2
      have b0 := (unhide HA).a0
      have b1 := (unhide HA).a1
      have hlf : lf + all = 2000 := unhide HLF
      have f0 : 0 ≤ lf := by omega
      have f1 : lf ≤ 2000 := by omega
      have hlf' := hide hlf
      clear bd hR hcs hlf
      by_cases ho : o = 0
      · by_cases hf : lf < n
        · have e := (unhide HA).far hlt (by rw [unhide HR2]; exact ho) (by rw [unhide HR2]; have := unhide hlf'; show 2000 < all + n; omega)
          have ho' : (o != 0) = false := by simpa using ho
          clear ho m2
          go_wp2_with (go_at_call 9; refine (implFlyLeg_at x y d h c _ _ _ _ _ ((unhide HG).below gl (unhide K1).bel) (unhide HR)).mono ?_; rintro e' w4 ⟨rfl, b4⟩; have K5 := hide (((unhide K1).below b4).below (bel1 (Obj.cells #[.int .i64 nx, .int .i64 ny, .int .i64 nd, .int .i64 nh, .int .i64 nc] 26))); clear b4; have c0' : (w4.alloc (Obj.cells #[.int .i64 nx, .int .i64 ny, .int .i64 nd, .int .i64 nh, .int .i64 nc] 26)).cell? ⟨w.heap.size, 0, none⟩ = some (.int .i64 x) := (unhide K5).cc.c 0 (by simp); have c1' : (w4.alloc (Obj.cells #[.int .i64 nx, .int .i64 ny, .int .i64 nd, .int .i64 nh, .int .i64 nc] 26)).cell? ⟨w.heap.size, 1, none⟩ = some (.int .i64 y) := (unhide K5).cc.c 1 (by simp); have c2' : (w4.alloc (Obj.cells #[.int .i64 nx, .int .i64 ny, .int .i64 nd, .int .i64 nh, .int .i64 nc] 26)).cell? ⟨w.heap.size, 2, none⟩ = some (.int .i64 d) := (unhide K5).cc.c 2 (by simp); have c3' : (w4.alloc (Obj.cells #[.int .i64 nx, .int .i64 ny, .int .i64 nd, .int .i64 nh, .int .i64 nc] 26)).cell? ⟨w.heap.size, 3, none⟩ = some (.int .i64 h) := (unhide K5).cc.c 3 (by simp); have c4' : (w4.alloc (Obj.cells #[.int .i64 nx, .int .i64 ny, .int .i64 nd, .int .i64 nh, .int .i64 nc] 26)).cell? ⟨w.heap.size, 4, none⟩ = some (.int .i64 c) := (unhide K5).cc.c 4 (by simp); have c0'f : (w4.alloc (Obj.cells #[.int .i64 nx, .int .i64 ny, .int .i64 nd, .int .i64 nh, .int .i64 nc] 26)).frozen? ⟨w.heap.size, 0, none⟩ = false := (unhide K5).cc.f 0 (by simp); have c1'f : (w4.alloc (Obj.cells #[.int .i64 nx, .int .i64 ny, .int .i64 nd, .int .i64 nh, .int .i64 nc] 26)).frozen? ⟨w.heap.size, 1, none⟩ = false := (unhide K5).cc.f 1 (by simp); have c2'f : (w4.alloc (Obj.cells #[.int .i64 nx, .int .i64 ny, .int .i64 nd, .int .i64 nh, .int .i64 nc] 26)).frozen? ⟨w.heap.size, 2, none⟩ = false := (unhide K5).cc.f 2 (by simp); have c3'f : (w4.alloc (Obj.cells #[.int .i64 nx, .int .i64 ny, .int .i64 nd, .int .i64 nh, .int .i64 nc] 26)).frozen? ⟨w.heap.size, 3, none⟩ = false := (unhide K5).cc.f 3 (by simp); have c4'f : (w4.alloc (Obj.cells #[.int .i64 nx, .int .i64 ny, .int .i64 nd, .int .i64 nh, .int .i64 nc] 26)).frozen? ⟨w.heap.size, 4, none⟩ = false := (unhide K5).cc.f 4 (by simp); have r0' : (w4.alloc (Obj.cells #[.int .i64 nx, .int .i64 ny, .int .i64 nd, .int .i64 nh, .int .i64 nc] 26)).cell? ⟨w.heap.size + 1, 0, none⟩ = some (.int .i64 0) := (unhide K5).rr.c 0 (by simp); have r1' : (w4.alloc (Obj.cells #[.int .i64 nx, .int .i64 ny, .int .i64 nd, .int .i64 nh, .int .i64 nc] 26)).cell? ⟨w.heap.size + 1, 1, none⟩ = some (.int .i64 0) := (unhide K5).rr.c 1 (by simp); have r2' : (w4.alloc (Obj.cells #[.int .i64 nx, .int .i64 ny, .int .i64 nd, .int .i64 nh, .int .i64 nc] 26)).cell? ⟨w.heap.size + 1, 2, none⟩ = some (.int .i64 0) := (unhide K5).rr.c 2 (by simp); have r3' : (w4.alloc (Obj.cells #[.int .i64 nx, .int .i64 ny, .int .i64 nd, .int .i64 nh, .int .i64 nc] 26)).cell? ⟨w.heap.size + 1, 3, none⟩ = some (.int .i64 0) := (unhide K5).rr.c 3 (by simp); have r4' : (w4.alloc (Obj.cells #[.int .i64 nx, .int .i64 ny, .int .i64 nd, .int .i64 nh, .int .i64 nc] 26)).cell? ⟨w.heap.size + 1, 4, none⟩ = some (.int .i64 0) := (unhide K5).rr.c 4 (by simp); have r0'f : (w4.alloc (Obj.cells #[.int .i64 nx, .int .i64 ny, .int .i64 nd, .int .i64 nh, .int .i64 nc] 26)).frozen? ⟨w.heap.size + 1, 0, none⟩ = false := (unhide K5).rr.f 0 (by simp); have r1'f : (w4.alloc (Obj.cells #[.int .i64 nx, .int .i64 ny, .int .i64 nd, .int .i64 nh, .int .i64 nc] 26)).frozen? ⟨w.heap.size + 1, 1, none⟩ = false := (unhide K5).rr.f 1 (by simp); have r2'f : (w4.alloc (Obj.cells #[.int .i64 nx, .int .i64 ny, .int .i64 nd, .int .i64 nh, .int .i64 nc] 26)).frozen? ⟨w.heap.size + 1, 2, none⟩ = false := (unhide K5).rr.f 2 (by simp); have r3'f : (w4.alloc (Obj.cells #[.int .i64 nx, .int .i64 ny, .int .i64 nd, .int .i64 nh, .int .i64 nc] 26)).frozen? ⟨w.heap.size + 1, 3, none⟩ = false := (unhide K5).rr.f 3 (by simp); have r4'f : (w4.alloc (Obj.cells #[.int .i64 nx, .int .i64 ny, .int .i64 nd, .int .i64 nh, .int .i64 nc] 26)).frozen? ⟨w.heap.size + 1, 4, none⟩ = false := (unhide K5).rr.f 4 (by simp))
          simp only [Prod.mk.injEq, Kf.mk.injEq] at e
          obtain ⟨⟨e1, e2, e3, e4, e5⟩, e6, e7⟩ := e
          have KE := ((((((unhide K5).rr.set 0 (by simp) (.int .i64 x)).set 1 (by simp) (.int .i64 y)).set 2 (by simp) (.int .i64 d)).set 3 (by simp) (.int .i64 h)).set 4 (by simp) (.int .i64 c))
          refine bodyPost_ret (results_cellBB (vs := [.int .i64 x, .int .i64 y, .int .i64 d, .int .i64 h, .int .i64 c]) rfl Tryd.isAgg26 Tryd.sizeOf26 rfl (by simpa using KE) rfl rfl) rfl ?_
          have k8 := (unhide K5).o
          have k9 := (unhide K5).bel
          have kl := (unhide K5).l
          have hne : (Value.slice (some ⟨g, 0, none⟩) i cp).ownBlock ≠ some (w.heap.size + 1) := by
            intro e
            have := (k8.lies _ e).1
            omega
          refine ⟨some ⟨g, 0, none⟩, cp, by rw [e1, e2, e3, e4, e5, e6, e7, kl]; try rfl, ?_, ?_⟩
          · rw [e6, kl]
            have k7 := ((((k8.set_other (S := w.heap.size + 1) (o := 0) (.int .i64 x) hne).set_other (S := w.heap.size + 1) (o := 1) (.int .i64 y) hne).set_other (S := w.heap.size + 1) (o := 2) (.int .i64 d) hne).set_other (S := w.heap.size + 1) (o := 3) (.int .i64 h) hne).set_other (S := w.heap.size + 1) (o := 4) (.int .i64 c) hne
            exact k7.mono (by omega)
          · refine Below.setCell ?_ (by simp; try omega) _
            refine Below.setCell ?_ (by simp; try omega) _
            refine Below.setCell ?_ (by simp; try omega) _
            refine Below.setCell ?_ (by simp; try omega) _
            refine Below.setCell ?_ (by simp; try omega) _
            exact k9
        · have HY := hide ((unhide HA).more hlt (by rw [unhide HR2]; exact ho) (by rw [unhide HR2]; have := unhide hlf'; show ¬ 2000 < all + n; omega))
          rw [unhide HR2] at HY
          have ho' : (o != 0) = false := by simpa using ho
          clear ho m2
          go_wp2_with (first | (go_at_call 9; refine (implFlyLeg_at x y d h c _ _ _ _ _ ((unhide HG).below gl (unhide K1).bel) (unhide HR)).mono ?_; rintro e' w4 ⟨rfl, b4⟩; have K5 := hide (((unhide K1).below b4).below (bel1 (Obj.cells #[.int .i64 nx, .int .i64 ny, .int .i64 nd, .int .i64 nh, .int .i64 nc] 26))); clear b4; have c0' : (w4.alloc (Obj.cells #[.int .i64 nx, .int .i64 ny, .int .i64 nd, .int .i64 nh, .int .i64 nc] 26)).cell? ⟨w.heap.size, 0, none⟩ = some (.int .i64 x) := (unhide K5).cc.c 0 (by simp); have c1' : (w4.alloc (Obj.cells #[.int .i64 nx, .int .i64 ny, .int .i64 nd, .int .i64 nh, .int .i64 nc] 26)).cell? ⟨w.heap.size, 1, none⟩ = some (.int .i64 y) := (unhide K5).cc.c 1 (by simp); have c2' : (w4.alloc (Obj.cells #[.int .i64 nx, .int .i64 ny, .int .i64 nd, .int .i64 nh, .int .i64 nc] 26)).cell? ⟨w.heap.size, 2, none⟩ = some (.int .i64 d) := (unhide K5).cc.c 2 (by simp); have c3' : (w4.alloc (Obj.cells #[.int .i64 nx, .int .i64 ny, .int .i64 nd, .int .i64 nh, .int .i64 nc] 26)).cell? ⟨w.heap.size, 3, none⟩ = some (.int .i64 h) := (unhide K5).cc.c 3 (by simp); have c4' : (w4.alloc (Obj.cells #[.int .i64 nx, .int .i64 ny, .int .i64 nd, .int .i64 nh, .int .i64 nc] 26)).cell? ⟨w.heap.size, 4, none⟩ = some (.int .i64 c) := (unhide K5).cc.c 4 (by simp); have c0'f : (w4.alloc (Obj.cells #[.int .i64 nx, .int .i64 ny, .int .i64 nd, .int .i64 nh, .int .i64 nc] 26)).frozen? ⟨w.heap.size, 0, none⟩ = false := (unhide K5).cc.f 0 (by simp); have c1'f : (w4.alloc (Obj.cells #[.int .i64 nx, .int .i64 ny, .int .i64 nd, .int .i64 nh, .int .i64 nc] 26)).frozen? ⟨w.heap.size, 1, none⟩ = false := (unhide K5).cc.f 1 (by simp); have c2'f : (w4.alloc (Obj.cells #[.int .i64 nx, .int .i64 ny, .int .i64 nd, .int .i64 nh, .int .i64 nc] 26)).frozen? ⟨w.heap.size, 2, none⟩ = false := (unhide K5).cc.f 2 (by simp); have c3'f : (w4.alloc (Obj.cells #[.int .i64 nx, .int .i64 ny, .int .i64 nd, .int .i64 nh, .int .i64 nc] 26)).frozen? ⟨w.heap.size, 3, none⟩ = false := (unhide K5).cc.f 3 (by simp); have c4'f : (w4.alloc (Obj.cells #[.int .i64 nx, .int .i64 ny, .int .i64 nd, .int .i64 nh, .int .i64 nc] 26)).frozen? ⟨w.heap.size, 4, none⟩ = false := (unhide K5).cc.f 4 (by simp); have r0' : (w4.alloc (Obj.cells #[.int .i64 nx, .int .i64 ny, .int .i64 nd, .int .i64 nh, .int .i64 nc] 26)).cell? ⟨w.heap.size + 1, 0, none⟩ = some (.int .i64 0) := (unhide K5).rr.c 0 (by simp); have r1' : (w4.alloc (Obj.cells #[.int .i64 nx, .int .i64 ny, .int .i64 nd, .int .i64 nh, .int .i64 nc] 26)).cell? ⟨w.heap.size + 1, 1, none⟩ = some (.int .i64 0) := (unhide K5).rr.c 1 (by simp); have r2' : (w4.alloc (Obj.cells #[.int .i64 nx, .int .i64 ny, .int .i64 nd, .int .i64 nh, .int .i64 nc] 26)).cell? ⟨w.heap.size + 1, 2, none⟩ = some (.int .i64 0) := (unhide K5).rr.c 2 (by simp); have r3' : (w4.alloc (Obj.cells #[.int .i64 nx, .int .i64 ny, .int .i64 nd, .int .i64 nh, .int .i64 nc] 26)).cell? ⟨w.heap.size + 1, 3, none⟩ = some (.int .i64 0) := (unhide K5).rr.c 3 (by simp); have r4' : (w4.alloc (Obj.cells #[.int .i64 nx, .int .i64 ny, .int .i64 nd, .int .i64 nh, .int .i64 nc] 26)).cell? ⟨w.heap.size + 1, 4, none⟩ = some (.int .i64 0) := (unhide K5).rr.c 4 (by simp); have r0'f : (w4.alloc (Obj.cells #[.int .i64 nx, .int .i64 ny, .int .i64 nd, .int .i64 nh, .int .i64 nc] 26)).frozen? ⟨w.heap.size + 1, 0, none⟩ = false := (unhide K5).rr.f 0 (by simp); have r1'f : (w4.alloc (Obj.cells #[.int .i64 nx, .int .i64 ny, .int .i64 nd, .int .i64 nh, .int .i64 nc] 26)).frozen? ⟨w.heap.size + 1, 1, none⟩ = false := (unhide K5).rr.f 1 (by simp); have r2'f : (w4.alloc (Obj.cells #[.int .i64 nx, .int .i64 ny, .int .i64 nd, .int .i64 nh, .int .i64 nc] 26)).frozen? ⟨w.heap.size + 1, 2, none⟩ = false := (unhide K5).rr.f 2 (by simp); have r3'f : (w4.alloc (Obj.cells #[.int .i64 nx, .int .i64 ny, .int .i64 nd, .int .i64 nh, .int .i64 nc] 26)).frozen? ⟨w.heap.size + 1, 3, none⟩ = false := (unhide K5).rr.f 3 (by simp); have r4'f : (w4.alloc (Obj.cells #[.int .i64 nx, .int .i64 ny, .int .i64 nd, .int .i64 nh, .int .i64 nc] 26)).frozen? ⟨w.heap.size + 1, 4, none⟩ = false := (unhide K5).rr.f 4 (by simp)) | (at_builtin; have K6 := (unhide K5).set nx ny nd nh nc; have HO := K6.o; have HSZ := K6.t; have HL := K6.l; refine wpList_app_int rfl _ _ rfl (n := i) n HO HL rfl (by simp) rfl HSZ (by omega) ⟨by omega, by omega⟩ ?_; intro g' c' w9 o9 gr9; have K9 := hide (K6.app o9 gr9); clear o9 gr9 K6 HO HSZ HL))
          go_roundw
          case rel => exact ⟨i + 1, _, _, nx, ny, nd, nh, nc, all + n, lf - n, out ++ [n], rfl, by go_num, by go_num, hide (by have := unhide hlf'; omega), HY, K9⟩
          case measure => simp [intOf]; omega
      · have hn0 : n = 0 := by omega
        have e := (unhide HA).code hlt (by rw [unhide HR2]; exact ho)
        rw [unhide HR2] at e
        have ho' : (o != 0) = true := by simpa using ho
        have hnl : ¬ lf < n := by omega
        clear ho m2 hn0
        go_wp2_with (go_at_call 9; refine (implFlyLeg_at x y d h c _ _ _ _ _ ((unhide HG).below gl (unhide K1).bel) (unhide HR)).mono ?_; rintro e' w4 ⟨rfl, b4⟩; have K5 := hide (((unhide K1).below b4).below (bel1 (Obj.cells #[.int .i64 nx, .int .i64 ny, .int .i64 nd, .int .i64 nh, .int .i64 nc] 26))); clear b4; have c0' : (w4.alloc (Obj.cells #[.int .i64 nx, .int .i64 ny, .int .i64 nd, .int .i64 nh, .int .i64 nc] 26)).cell? ⟨w.heap.size, 0, none⟩ = some (.int .i64 x) := (unhide K5).cc.c 0 (by simp); have c1' : (w4.alloc (Obj.cells #[.int .i64 nx, .int .i64 ny, .int .i64 nd, .int .i64 nh, .int .i64 nc] 26)).cell? ⟨w.heap.size, 1, none⟩ = some (.int .i64 y) := (unhide K5).cc.c 1 (by simp); have c2' : (w4.alloc (Obj.cells #[.int .i64 nx, .int .i64 ny, .int .i64 nd, .int .i64 nh, .int .i64 nc] 26)).cell? ⟨w.heap.size, 2, none⟩ = some (.int .i64 d) := (unhide K5).cc.c 2 (by simp); have c3' : (w4.alloc (Obj.cells #[.int .i64 nx, .int .i64 ny, .int .i64 nd, .int .i64 nh, .int .i64 nc] 26)).cell? ⟨w.heap.size, 3, none⟩ = some (.int .i64 h) := (unhide K5).cc.c 3 (by simp); have c4' : (w4.alloc (Obj.cells #[.int .i64 nx, .int .i64 ny, .int .i64 nd, .int .i64 nh, .int .i64 nc] 26)).cell? ⟨w.heap.size, 4, none⟩ = some (.int .i64 c) := (unhide K5).cc.c 4 (by simp); have c0'f : (w4.alloc (Obj.cells #[.int .i64 nx, .int .i64 ny, .int .i64 nd, .int .i64 nh, .int .i64 nc] 26)).frozen? ⟨w.heap.size, 0, none⟩ = false := (unhide K5).cc.f 0 (by simp); have c1'f : (w4.alloc (Obj.cells #[.int .i64 nx, .int .i64 ny, .int .i64 nd, .int .i64 nh, .int .i64 nc] 26)).frozen? ⟨w.heap.size, 1, none⟩ = false := (unhide K5).cc.f 1 (by simp); have c2'f : (w4.alloc (Obj.cells #[.int .i64 nx, .int .i64 ny, .int .i64 nd, .int .i64 nh, .int .i64 nc] 26)).frozen? ⟨w.heap.size, 2, none⟩ = false := (unhide K5).cc.f 2 (by simp); have c3'f : (w4.alloc (Obj.cells #[.int .i64 nx, .int .i64 ny, .int .i64 nd, .int .i64 nh, .int .i64 nc] 26)).frozen? ⟨w.heap.size, 3, none⟩ = false := (unhide K5).cc.f 3 (by simp); have c4'f : (w4.alloc (Obj.cells #[.int .i64 nx, .int .i64 ny, .int .i64 nd, .int .i64 nh, .int .i64 nc] 26)).frozen? ⟨w.heap.size, 4, none⟩ = false := (unhide K5).cc.f 4 (by simp); have r0' : (w4.alloc (Obj.cells #[.int .i64 nx, .int .i64 ny, .int .i64 nd, .int .i64 nh, .int .i64 nc] 26)).cell? ⟨w.heap.size + 1, 0, none⟩ = some (.int .i64 0) := (unhide K5).rr.c 0 (by simp); have r1' : (w4.alloc (Obj.cells #[.int .i64 nx, .int .i64 ny, .int .i64 nd, .int .i64 nh, .int .i64 nc] 26)).cell? ⟨w.heap.size + 1, 1, none⟩ = some (.int .i64 0) := (unhide K5).rr.c 1 (by simp); have r2' : (w4.alloc (Obj.cells #[.int .i64 nx, .int .i64 ny, .int .i64 nd, .int .i64 nh, .int .i64 nc] 26)).cell? ⟨w.heap.size + 1, 2, none⟩ = some (.int .i64 0) := (unhide K5).rr.c 2 (by simp); have r3' : (w4.alloc (Obj.cells #[.int .i64 nx, .int .i64 ny, .int .i64 nd, .int .i64 nh, .int .i64 nc] 26)).cell? ⟨w.heap.size + 1, 3, none⟩ = some (.int .i64 0) := (unhide K5).rr.c 3 (by simp); have r4' : (w4.alloc (Obj.cells #[.int .i64 nx, .int .i64 ny, .int .i64 nd, .int .i64 nh, .int .i64 nc] 26)).cell? ⟨w.heap.size + 1, 4, none⟩ = some (.int .i64 0) := (unhide K5).rr.c 4 (by simp); have r0'f : (w4.alloc (Obj.cells #[.int .i64 nx, .int .i64 ny, .int .i64 nd, .int .i64 nh, .int .i64 nc] 26)).frozen? ⟨w.heap.size + 1, 0, none⟩ = false := (unhide K5).rr.f 0 (by simp); have r1'f : (w4.alloc (Obj.cells #[.int .i64 nx, .int .i64 ny, .int .i64 nd, .int .i64 nh, .int .i64 nc] 26)).frozen? ⟨w.heap.size + 1, 1, none⟩ = false := (unhide K5).rr.f 1 (by simp); have r2'f : (w4.alloc (Obj.cells #[.int .i64 nx, .int .i64 ny, .int .i64 nd, .int .i64 nh, .int .i64 nc] 26)).frozen? ⟨w.heap.size + 1, 2, none⟩ = false := (unhide K5).rr.f 2 (by simp); have r3'f : (w4.alloc (Obj.cells #[.int .i64 nx, .int .i64 ny, .int .i64 nd, .int .i64 nh, .int .i64 nc] 26)).frozen? ⟨w.heap.size + 1, 3, none⟩ = false := (unhide K5).rr.f 3 (by simp); have r4'f : (w4.alloc (Obj.cells #[.int .i64 nx, .int .i64 ny, .int .i64 nd, .int .i64 nh, .int .i64 nc] 26)).frozen? ⟨w.heap.size + 1, 4, none⟩ = false := (unhide K5).rr.f 4 (by simp))
        simp only [Prod.mk.injEq, Kf.mk.injEq] at e
        obtain ⟨⟨e1, e2, e3, e4, e5⟩, e6, e7⟩ := e
        have KE := ((((((unhide K5).rr.set 0 (by simp) (.int .i64 x)).set 1 (by simp) (.int .i64 y)).set 2 (by simp) (.int .i64 d)).set 3 (by simp) (.int .i64 h)).set 4 (by simp) (.int .i64 c))
        refine bodyPost_ret (results_cellBB (vs := [.int .i64 x, .int .i64 y, .int .i64 d, .int .i64 h, .int .i64 c]) rfl Tryd.isAgg26 Tryd.sizeOf26 rfl (by simpa using KE) rfl rfl) rfl ?_
        have k8 := (unhide K5).o
        have k9 := (unhide K5).bel
        have kl := (unhide K5).l
        have hne : (Value.slice (some ⟨g, 0, none⟩) i cp).ownBlock ≠ some (w.heap.size + 1) := by
          intro e
          have := (k8.lies _ e).1
          omega
        refine ⟨some ⟨g, 0, none⟩, cp, by rw [e1, e2, e3, e4, e5, e6, e7, kl]; try rfl, ?_, ?_⟩
        · rw [e6, kl]
          have k7 := ((((k8.set_other (S := w.heap.size + 1) (o := 0) (.int .i64 x) hne).set_other (S := w.heap.size + 1) (o := 1) (.int .i64 y) hne).set_other (S := w.heap.size + 1) (o := 2) (.int .i64 d) hne).set_other (S := w.heap.size + 1) (o := 3) (.int .i64 h) hne).set_other (S := w.heap.size + 1) (o := 4) (.int .i64 c) hne
          exact k7.mono (by omega)
        · refine Below.setCell ?_ (by simp; try omega) _
          refine Below.setCell ?_ (by simp; try omega) _
          refine Below.setCell ?_ (by simp; try omega) _
          refine Below.setCell ?_ (by simp; try omega) _
          refine Below.setCell ?_ (by simp; try omega) _
          exact k9
    · have e := (unhide HA).last hlt
      have n2 : ¬ (i : Int) < (ls.length : Int) := by omega
      have c0' : wr.cell? ⟨w.heap.size, 0, none⟩ = some (.int .i64 x) := (unhide HK).cc.c 0 (by simp)
      have c1' : wr.cell? ⟨w.heap.size, 1, none⟩ = some (.int .i64 y) := (unhide HK).cc.c 1 (by simp)
      have c2' : wr.cell? ⟨w.heap.size, 2, none⟩ = some (.int .i64 d) := (unhide HK).cc.c 2 (by simp)
      have c3' : wr.cell? ⟨w.heap.size, 3, none⟩ = some (.int .i64 h) := (unhide HK).cc.c 3 (by simp)
      have c4' : wr.cell? ⟨w.heap.size, 4, none⟩ = some (.int .i64 c) := (unhide HK).cc.c 4 (by simp)
      have c0'f : wr.frozen? ⟨w.heap.size, 0, none⟩ = false := (unhide HK).cc.f 0 (by simp)
      have c1'f : wr.frozen? ⟨w.heap.size, 1, none⟩ = false := (unhide HK).cc.f 1 (by simp)
      have c2'f : wr.frozen? ⟨w.heap.size, 2, none⟩ = false := (unhide HK).cc.f 2 (by simp)
      have c3'f : wr.frozen? ⟨w.heap.size, 3, none⟩ = false := (unhide HK).cc.f 3 (by simp)
      have c4'f : wr.frozen? ⟨w.heap.size, 4, none⟩ = false := (unhide HK).cc.f 4 (by simp)
      have r0' : wr.cell? ⟨w.heap.size + 1, 0, none⟩ = some (.int .i64 0) := (unhide HK).rr.c 0 (by simp)
      have r1' : wr.cell? ⟨w.heap.size + 1, 1, none⟩ = some (.int .i64 0) := (unhide HK).rr.c 1 (by simp)
      have r2' : wr.cell? ⟨w.heap.size + 1, 2, none⟩ = some (.int .i64 0) := (unhide HK).rr.c 2 (by simp)
      have r3' : wr.cell? ⟨w.heap.size + 1, 3, none⟩ = some (.int .i64 0) := (unhide HK).rr.c 3 (by simp)
      have r4' : wr.cell? ⟨w.heap.size + 1, 4, none⟩ = some (.int .i64 0) := (unhide HK).rr.c 4 (by simp)
      have r0'f : wr.frozen? ⟨w.heap.size + 1, 0, none⟩ = false := (unhide HK).rr.f 0 (by simp)
      have r1'f : wr.frozen? ⟨w.heap.size + 1, 1, none⟩ = false := (unhide HK).rr.f 1 (by simp)
      have r2'f : wr.frozen? ⟨w.heap.size + 1, 2, none⟩ = false := (unhide HK).rr.f 2 (by simp)
      have r3'f : wr.frozen? ⟨w.heap.size + 1, 3, none⟩ = false := (unhide HK).rr.f 3 (by simp)
      have r4'f : wr.frozen? ⟨w.heap.size + 1, 4, none⟩ = false := (unhide HK).rr.f 4 (by simp)
      go_wp2
      simp only [Prod.mk.injEq, Kf.mk.injEq] at e
      obtain ⟨⟨e1, e2, e3, e4, e5⟩, e6, e7⟩ := e
      have KE := ((((((unhide HK).rr.set 0 (by simp) (.int .i64 x)).set 1 (by simp) (.int .i64 y)).set 2 (by simp) (.int .i64 d)).set 3 (by simp) (.int .i64 h)).set 4 (by simp) (.int .i64 c))
      refine bodyPost_ret (results_cellBB (vs := [.int .i64 x, .int .i64 y, .int .i64 d, .int .i64 h, .int .i64 c]) rfl Tryd.isAgg26 Tryd.sizeOf26 rfl (by simpa using KE) rfl rfl) rfl ?_
      have k8 := (unhide HK).o
      have k9 := (unhide HK).bel
      have kl := (unhide HK).l
      have hne : (Value.slice (some ⟨g, 0, none⟩) i cp).ownBlock ≠ some (w.heap.size + 1) := by
        intro e
        have := (k8.lies _ e).1
        omega
      refine ⟨some ⟨g, 0, none⟩, cp, by rw [e1, e2, e3, e4, e5, e6, e7, kl]; try rfl, ?_, ?_⟩
      · rw [e6, kl]
        have k7 := ((((k8.set_other (S := w.heap.size + 1) (o := 0) (.int .i64 x) hne).set_other (S := w.heap.size + 1) (o := 1) (.int .i64 y) hne).set_other (S := w.heap.size + 1) (o := 2) (.int .i64 d) hne).set_other (S := w.heap.size + 1) (o := 3) (.int .i64 h) hne).set_other (S := w.heap.size + 1) (o := 4) (.int .i64 c) hne
        exact k7.mono (by omega)
      · refine Below.setCell ?_ (by simp; try omega) _
        refine Below.setCell ?_ (by simp; try omega) _
        refine Below.setCell ?_ (by simp; try omega) _
        refine Below.setCell ?_ (by simp; try omega) _
        refine Below.setCell ?_ (by simp; try omega) _
        exact k9

end Go.Proofs.YtkpmoolggpojdauDoor
