/-
  What FlyRoute answers in the model: the plain answer, at every craft and list; the list owns its memory; nothing that was there is written.
-/
import Derived.Test.YtkpmoolggpojdauDoorRtIn
import Derived.Deep.RegionHeld3
import Derived.Deep.CutRange
namespace Go.Proofs.YtkpmoolggpojdauDoor
open Go.RowKit
theorem rtSK9 {w W w3 : World} {p0 o0 p1 o1 p2 o2 p3 o3 p4 o4 p5 o5 p6 o6 p7 o7 p8 o8 : Nat} {v0 v1 v2 v3 v4 v5 v6 v7 v8 : Value} (h : W.cell? ⟨p0, o0, none⟩ = some v0 ∧ W.cell? ⟨p1, o1, none⟩ = some v1 ∧ W.cell? ⟨p2, o2, none⟩ = some v2 ∧ W.cell? ⟨p3, o3, none⟩ = some v3 ∧ W.cell? ⟨p4, o4, none⟩ = some v4 ∧ W.cell? ⟨p5, o5, none⟩ = some v5 ∧ W.cell? ⟨p6, o6, none⟩ = some v6 ∧ W.cell? ⟨p7, o7, none⟩ = some v7 ∧ W.cell? ⟨p8, o8, none⟩ = some v8 ∧ Below w.heap.size w W) (b3 : Below W.heap.size W w3) : w3.cell? ⟨p0, o0, none⟩ = some v0 ∧ w3.cell? ⟨p1, o1, none⟩ = some v1 ∧ w3.cell? ⟨p2, o2, none⟩ = some v2 ∧ w3.cell? ⟨p3, o3, none⟩ = some v3 ∧ w3.cell? ⟨p4, o4, none⟩ = some v4 ∧ w3.cell? ⟨p5, o5, none⟩ = some v5 ∧ w3.cell? ⟨p6, o6, none⟩ = some v6 ∧ w3.cell? ⟨p7, o7, none⟩ = some v7 ∧ w3.cell? ⟨p8, o8, none⟩ = some v8 ∧ Below w.heap.size w w3 := by
  obtain ⟨h0, h1, h2, h3, h4, h5, h6, h7, h8, hb⟩ := h
  exact ⟨(b3.cell (block_lt_of_cell h0)).trans h0, (b3.cell (block_lt_of_cell h1)).trans h1, (b3.cell (block_lt_of_cell h2)).trans h2, (b3.cell (block_lt_of_cell h3)).trans h3, (b3.cell (block_lt_of_cell h4)).trans h4, (b3.cell (block_lt_of_cell h5)).trans h5, (b3.cell (block_lt_of_cell h6)).trans h6, (b3.cell (block_lt_of_cell h7)).trans h7, (b3.cell (block_lt_of_cell h8)).trans h8, hb.trans (b3.mono hb.size)⟩
theorem rtSNew {V w3 : World} {u0 u1 u2 u3 u4 : Value} {T : TypeId} (b3 : Below (V.alloc (Obj.cells #[u0, u1, u2, u3, u4] T)).heap.size (V.alloc (Obj.cells #[u0, u1, u2, u3, u4] T)) w3) : w3.cell? ⟨V.heap.size, 0, none⟩ = some u0 ∧ w3.cell? ⟨V.heap.size, 1, none⟩ = some u1 ∧ w3.cell? ⟨V.heap.size, 2, none⟩ = some u2 ∧ w3.cell? ⟨V.heap.size, 3, none⟩ = some u3 ∧ w3.cell? ⟨V.heap.size, 4, none⟩ = some u4 ∧ w3.frozen? ⟨V.heap.size, 0, none⟩ = false ∧ w3.frozen? ⟨V.heap.size, 1, none⟩ = false ∧ w3.frozen? ⟨V.heap.size, 2, none⟩ = false ∧ w3.frozen? ⟨V.heap.size, 3, none⟩ = false ∧ w3.frozen? ⟨V.heap.size, 4, none⟩ = false ∧ V.heap.size < w3.heap.size := by
  have hl : V.heap.size < (V.alloc (Obj.cells #[u0, u1, u2, u3, u4] T)).heap.size := by simp
  exact ⟨(b3.cell (p := ⟨V.heap.size, 0, none⟩) hl).trans (by simp [go_sem]), (b3.cell (p := ⟨V.heap.size, 1, none⟩) hl).trans (by simp [go_sem]), (b3.cell (p := ⟨V.heap.size, 2, none⟩) hl).trans (by simp [go_sem]), (b3.cell (p := ⟨V.heap.size, 3, none⟩) hl).trans (by simp [go_sem]), (b3.cell (p := ⟨V.heap.size, 4, none⟩) hl).trans (by simp [go_sem]), (b3.frozen (p := ⟨V.heap.size, 0, none⟩) hl).trans (by simp [go_sem]), (b3.frozen (p := ⟨V.heap.size, 1, none⟩) hl).trans (by simp [go_sem]), (b3.frozen (p := ⟨V.heap.size, 2, none⟩) hl).trans (by simp [go_sem]), (b3.frozen (p := ⟨V.heap.size, 3, none⟩) hl).trans (by simp [go_sem]), (b3.frozen (p := ⟨V.heap.size, 4, none⟩) hl).trans (by simp [go_sem]), Nat.lt_of_lt_of_le hl b3.size⟩
theorem rtSNewD {V w3 : World} {u0 u1 u2 u3 u4 : Value} {T : TypeId} (b3 : Below (V.alloc (Obj.cells #[u0, u1, u2, u3, u4] T)).drew.heap.size (V.alloc (Obj.cells #[u0, u1, u2, u3, u4] T)).drew w3) : w3.cell? ⟨V.heap.size, 0, none⟩ = some u0 ∧ w3.cell? ⟨V.heap.size, 1, none⟩ = some u1 ∧ w3.cell? ⟨V.heap.size, 2, none⟩ = some u2 ∧ w3.cell? ⟨V.heap.size, 3, none⟩ = some u3 ∧ w3.cell? ⟨V.heap.size, 4, none⟩ = some u4 ∧ w3.frozen? ⟨V.heap.size, 0, none⟩ = false ∧ w3.frozen? ⟨V.heap.size, 1, none⟩ = false ∧ w3.frozen? ⟨V.heap.size, 2, none⟩ = false ∧ w3.frozen? ⟨V.heap.size, 3, none⟩ = false ∧ w3.frozen? ⟨V.heap.size, 4, none⟩ = false ∧ V.heap.size < w3.heap.size :=
  rtSNew (T := T) ((bel0d' 1).trans b3)
theorem rtSStill {V w3 : World} {S : Nat} {u0 u1 u2 u3 u4 : Value} (h : V.cell? ⟨S, 0, none⟩ = some u0 ∧ V.cell? ⟨S, 1, none⟩ = some u1 ∧ V.cell? ⟨S, 2, none⟩ = some u2 ∧ V.cell? ⟨S, 3, none⟩ = some u3 ∧ V.cell? ⟨S, 4, none⟩ = some u4 ∧ V.frozen? ⟨S, 0, none⟩ = false ∧ V.frozen? ⟨S, 1, none⟩ = false ∧ V.frozen? ⟨S, 2, none⟩ = false ∧ V.frozen? ⟨S, 3, none⟩ = false ∧ V.frozen? ⟨S, 4, none⟩ = false ∧ S < V.heap.size) (b3 : Below V.heap.size V w3) : w3.cell? ⟨S, 0, none⟩ = some u0 ∧ w3.cell? ⟨S, 1, none⟩ = some u1 ∧ w3.cell? ⟨S, 2, none⟩ = some u2 ∧ w3.cell? ⟨S, 3, none⟩ = some u3 ∧ w3.cell? ⟨S, 4, none⟩ = some u4 ∧ w3.frozen? ⟨S, 0, none⟩ = false ∧ w3.frozen? ⟨S, 1, none⟩ = false ∧ w3.frozen? ⟨S, 2, none⟩ = false ∧ w3.frozen? ⟨S, 3, none⟩ = false ∧ w3.frozen? ⟨S, 4, none⟩ = false ∧ S < w3.heap.size := by
  obtain ⟨h0, h1, h2, h3, h4, f0, f1, f2, f3, f4, hl⟩ := h
  exact ⟨(b3.cell (p := ⟨S, 0, none⟩) hl).trans h0, (b3.cell (p := ⟨S, 1, none⟩) hl).trans h1, (b3.cell (p := ⟨S, 2, none⟩) hl).trans h2, (b3.cell (p := ⟨S, 3, none⟩) hl).trans h3, (b3.cell (p := ⟨S, 4, none⟩) hl).trans h4, (b3.frozen (p := ⟨S, 0, none⟩) hl).trans f0, (b3.frozen (p := ⟨S, 1, none⟩) hl).trans f1, (b3.frozen (p := ⟨S, 2, none⟩) hl).trans f2, (b3.frozen (p := ⟨S, 3, none⟩) hl).trans f3, (b3.frozen (p := ⟨S, 4, none⟩) hl).trans f4, Nat.lt_of_lt_of_le hl b3.size⟩
theorem rtS_al (w : World) : ∀ (W : World) (o : Obj), Below w.heap.size w W → Below w.heap.size w (W.alloc o) := fun _ o h => h.alloc h.size o
theorem rtS_dr (w : World) : ∀ W : World, Below w.heap.size w W → Below w.heap.size w W.drew := fun _ h => h.trans ⟨rfl, rfl, rfl, Nat.le_refl _, fun _ _ => rfl⟩
theorem rtS_st1 (w : World) : ∀ (W : World) (p o : Nat) (v : Value), w.heap.size ≤ p → Below w.heap.size w W → Below w.heap.size w (W.setCell ⟨p, o, none⟩ v) := fun _ _ _ v hp h => h.setCell hp v
theorem rtS_st (w : World) : ∀ (W : World) (p o0 o1 o2 o3 o4 : Nat) (v0 v1 v2 v3 v4 : Value), w.heap.size ≤ p → Below w.heap.size w W → Below w.heap.size w (((((W.setCell ⟨p, o0, none⟩ v0).setCell ⟨p, o1, none⟩ v1).setCell ⟨p, o2, none⟩ v2).setCell ⟨p, o3, none⟩ v3).setCell ⟨p, o4, none⟩ v4) := fun _ _ _ _ _ _ _ v0 v1 v2 v3 v4 hp h => (((((h.setCell hp v0).setCell hp v1).setCell hp v2).setCell hp v3).setCell hp v4)

/-- What holds ahead of every round. -/
def RtRel (w : World) (ls : List Lg) (R : Kf × List Int × Int) (s7 s8 s9 : Value) (wr : World) : Prop :=
  ∃ (i g cp : Nat) (x y d h c all : Int) (out : List Int), s7 = .slice (some ⟨g, 0, none⟩) i cp ∧ s8 = .int .i64 all ∧ s9 = .int .i64 (i : Int) ∧ Hid (RtA ls R i ⟨x, y, d, h, c⟩ all out) ∧ Hid (RtW w wr x y d h c g i cp out)
theorem rtRel_mk {w wr : World} {ls : List Lg} {R : Kf × List Int × Int} {s7 s8 s9 : Value} {i g cp : Nat} {x y d h c all : Int} {out : List Int} (h7 : s7 = .slice (some ⟨g, 0, none⟩) i cp) (h8 : s8 = .int .i64 all) (h9 : s9 = .int .i64 (i : Int)) (HA : Hid (RtA ls R i ⟨x, y, d, h, c⟩ all out)) (HK : Hid (RtW w wr x y d h c g i cp out)) : RtRel w ls R s7 s8 s9 wr :=
  ⟨i, g, cp, x, y, d, h, c, all, out, h7, h8, h9, HA, HK⟩
set_option maxRecDepth 20000 in
set_option maxHeartbeats 1000000 in
theorem specFlyRoute_on {rx ry rd rh rc ro : Int} {rl : List Int} (a0 a1 a2 a3 a4 : Int) (ad : Option Addr) (len cap : Nat) (ls : List Lg) (w : World) (hr : RowE 4 lgC w ad len ls) (hl : len ≤ 30) (hR : rtN ⟨a0, a1, a2, a3, a4⟩ 0 ls = (⟨rx, ry, rd, rh, rc⟩, rl, ro)) :
    Calls Tryd.prog 12 #[.agg #[.int .i64 a0, .int .i64 a1, .int .i64 a2, .int .i64 a3, .int .i64 a4], .slice ad len cap] w fun e w' => ∃ a1 c1, e = .returned (.tuple #[.agg #[.int .i64 rx, .int .i64 ry, .int .i64 rd, .int .i64 rh, .int .i64 rc], .slice a1 rl.length c1, .int .i64 ro]) ∧ OwnI w' w.heap.size (.slice a1 rl.length c1) rl ∧ Below w.heap.size w w' := by
  have hz := hr.len_eq
  have HOP := hide hr.open_
  clear hr
  subst hz
  have hl2 : ¬ (30 : Int) < (ls.length : Int) := by omega
  have A0 := hide (RtA.start ls ⟨a0, a1, a2, a3, a4⟩)
  rw [hR] at A0
  clear hR
  have KJ := hide (rtNew (w := w) (x := a0) (y := a1) (d := a2) (h := a3) (c := a4) (T1 := 26) (T2 := 26))
  go_enter Tryd.func12, Tryd.ntmps12
  go_wp2_with fail
  go_loopw [7, 8, 9] (fun s7 s8 s9 wr => RtRel w ls (⟨rx, ry, rd, rh, rc⟩, rl, ro) s7 s8 s9 wr) (fun _ _ s9 _ => ls.length - (intOf s9).toNat)
  case atStart => exact rtRel_mk rfl rfl rfl A0 KJ
  case round =>
    obtain ⟨i, g, cp, x, y, d, h, c, all, out, rfl, rfl, rfl, HA, HK⟩ := hrel
    clear KJ A0
    have hi0 := (unhide HA).i
    by_cases hlt : i < ls.length
    · rcases (unhide HOP) with ⟨h0, _⟩ | ⟨bb, off, rfl, _, hcs⟩
      · omega
      obtain ⟨k5, k6, k7, k8⟩ := leg_at (unhide HK).bel (hcs i hlt)
      have nn1 : (0 : Int) ≤ (i : Int) := by omega
      have nn2 : (i : Int) < (ls.length : Int) := by omega
      have k0 : wr.cell? ⟨w.heap.size, 0, none⟩ = some (.int .i64 x) := (unhide HK).cc.c 0 (by simp)
      have k1 : wr.cell? ⟨w.heap.size, 1, none⟩ = some (.int .i64 y) := (unhide HK).cc.c 1 (by simp)
      have k2 : wr.cell? ⟨w.heap.size, 2, none⟩ = some (.int .i64 d) := (unhide HK).cc.c 2 (by simp)
      have k3 : wr.cell? ⟨w.heap.size, 3, none⟩ = some (.int .i64 h) := (unhide HK).cc.c 3 (by simp)
      have k4 : wr.cell? ⟨w.heap.size, 4, none⟩ = some (.int .i64 c) := (unhide HK).cc.c 4 (by simp)
      have hA := rtS_al wr
      have hD := rtS_dr wr
      have hS := rtS_st1 wr
      have hS4 := rtS_st wr
      have bq : Below wr.heap.size wr wr := Below.refl _ _
      have z3 := bq.size
      have n0 := World.new_ne wr _ k0
      have n5 := World.new_ne wr _ k5
      obtain ⟨⟨⟨nx, ny, nd, nh, nc⟩, n, o⟩, hR⟩ : ∃ z, lgR (elAt ls i) ⟨x, y, d, h, c⟩ = z := ⟨_, rfl⟩
      have HR : Hid (flR (elAt ls i).a0 (elAt ls i).a1 (elAt ls i).a2 (elAt ls i).a3 ⟨x, y, d, h, c⟩ = (⟨nx, ny, nd, nh, nc⟩, n, o)) := hide hR
      have HR2 := hide hR
      have bd := flR_bd (elAt ls i).a0 (elAt ls i).a1 (elAt ls i).a2 (elAt ls i).a3 ⟨x, y, d, h, c⟩
      rw [unhide HR] at bd
      have m0 : 0 ≤ n := bd.1.1
      have m1 : n ≤ 2001 := bd.1.2
      have b0 := (unhide HA).a0
      have b1 := (unhide HA).a1
      clear bd hR hcs
      go_wp2_with fail
      go_cut [10, 11, 12] from 25 to 35 (fun s10 s11 s12 wc => ∃ S, s10 = .pointer (some ⟨S, 0, none⟩) ∧ s11 = .int .i64 n ∧ s12 = .int .i64 o ∧ wc.cell? ⟨S, 0, none⟩ = some (.int .i64 nx) ∧ wc.cell? ⟨S, 1, none⟩ = some (.int .i64 ny) ∧ wc.cell? ⟨S, 2, none⟩ = some (.int .i64 nd) ∧ wc.cell? ⟨S, 3, none⟩ = some (.int .i64 nh) ∧ wc.cell? ⟨S, 4, none⟩ = some (.int .i64 nc) ∧ wc.cell? ⟨w.heap.size, 0, none⟩ = some (.int .i64 x) ∧ wc.cell? ⟨w.heap.size, 1, none⟩ = some (.int .i64 y) ∧ wc.cell? ⟨w.heap.size, 2, none⟩ = some (.int .i64 d) ∧ wc.cell? ⟨w.heap.size, 3, none⟩ = some (.int .i64 h) ∧ wc.cell? ⟨w.heap.size, 4, none⟩ = some (.int .i64 c) ∧ wc.cell? ⟨bb, off + i * 4, none⟩ = some (.int .i64 (elAt ls i).a0) ∧ wc.cell? ⟨bb, off + i * 4 + 1, none⟩ = some (.int .i64 (elAt ls i).a1) ∧ wc.cell? ⟨bb, off + i * 4 + 2, none⟩ = some (.int .i64 (elAt ls i).a2) ∧ wc.cell? ⟨bb, off + i * 4 + 3, none⟩ = some (.int .i64 (elAt ls i).a3) ∧ Below wr.heap.size wr wc)
      case first =>
        go_region_held3 (fun w' => w'.cell? ⟨w.heap.size, 0, none⟩ = some (.int .i64 x) ∧ w'.cell? ⟨w.heap.size, 1, none⟩ = some (.int .i64 y) ∧ w'.cell? ⟨w.heap.size, 2, none⟩ = some (.int .i64 d) ∧ w'.cell? ⟨w.heap.size, 3, none⟩ = some (.int .i64 h) ∧ w'.cell? ⟨w.heap.size, 4, none⟩ = some (.int .i64 c) ∧ w'.cell? ⟨bb, off + i * 4, none⟩ = some (.int .i64 (elAt ls i).a0) ∧ w'.cell? ⟨bb, off + i * 4 + 1, none⟩ = some (.int .i64 (elAt ls i).a1) ∧ w'.cell? ⟨bb, off + i * 4 + 2, none⟩ = some (.int .i64 (elAt ls i).a2) ∧ w'.cell? ⟨bb, off + i * 4 + 3, none⟩ = some (.int .i64 (elAt ls i).a3) ∧ Below wr.heap.size wr w') (go_keep)
          ((go_at_call 6; refine (specFlyLeg_at x y d h c _ _ _ _ _ (unhide HR)).mono ?_; rintro e' w3 ⟨rfl, b3⟩; have H3 := rtSK9 (by assumption) b3; (first | (have hs := rtSStill ⟨s0, s1, s2, s3, s4, g0, g1, g2, g3, g4, lsz⟩ b3; obtain ⟨s0, s1, s2, s3, s4, g0, g1, g2, g3, g4, lsz⟩ := hs) | (have hs := rtSNew b3; obtain ⟨s0, s1, s2, s3, s4, g0, g1, g2, g3, g4, lsz⟩ := hs) | (have hs := rtSNewD b3; obtain ⟨s0, s1, s2, s3, s4, g0, g1, g2, g3, g4, lsz⟩ := hs) | skip); obtain ⟨k0, k1, k2, k3, k4, k5, k6, k7, k8, bq⟩ := H3; have z3 := bq.size; have n0 := World.new_ne w3 _ k0; have n5 := World.new_ne w3 _ k5; clear b3))
        all_goals (
          go_wp2
          go_meet
          case rel => exact ⟨_, rfl, rfl, rfl, by simp [go_sem, *], by simp [go_sem, *], by simp [go_sem, *], by simp [go_sem, *], by simp [go_sem, *], by assumption⟩)
      case rest =>
        obtain ⟨S, rfl, rfl, rfl, t0, t1, t2, t3, t4, k0, k1, k2, k3, k4, k5, k6, k7, k8, bq⟩ := hcut
        have K5 := hide ((unhide HK).below bq)
        clear k0 k1 k2 k3 k4 k5 k6 k7 k8 bq
        have c0' : wc.cell? ⟨w.heap.size, 0, none⟩ = some (.int .i64 x) := (unhide K5).cc.c 0 (by simp)
        have c1' : wc.cell? ⟨w.heap.size, 1, none⟩ = some (.int .i64 y) := (unhide K5).cc.c 1 (by simp)
        have c2' : wc.cell? ⟨w.heap.size, 2, none⟩ = some (.int .i64 d) := (unhide K5).cc.c 2 (by simp)
        have c3' : wc.cell? ⟨w.heap.size, 3, none⟩ = some (.int .i64 h) := (unhide K5).cc.c 3 (by simp)
        have c4' : wc.cell? ⟨w.heap.size, 4, none⟩ = some (.int .i64 c) := (unhide K5).cc.c 4 (by simp)
        have c0'f : wc.frozen? ⟨w.heap.size, 0, none⟩ = false := (unhide K5).cc.f 0 (by simp)
        have c1'f : wc.frozen? ⟨w.heap.size, 1, none⟩ = false := (unhide K5).cc.f 1 (by simp)
        have c2'f : wc.frozen? ⟨w.heap.size, 2, none⟩ = false := (unhide K5).cc.f 2 (by simp)
        have c3'f : wc.frozen? ⟨w.heap.size, 3, none⟩ = false := (unhide K5).cc.f 3 (by simp)
        have c4'f : wc.frozen? ⟨w.heap.size, 4, none⟩ = false := (unhide K5).cc.f 4 (by simp)
        have r0' : wc.cell? ⟨w.heap.size + 1, 0, none⟩ = some (.int .i64 0) := (unhide K5).rr.c 0 (by simp)
        have r1' : wc.cell? ⟨w.heap.size + 1, 1, none⟩ = some (.int .i64 0) := (unhide K5).rr.c 1 (by simp)
        have r2' : wc.cell? ⟨w.heap.size + 1, 2, none⟩ = some (.int .i64 0) := (unhide K5).rr.c 2 (by simp)
        have r3' : wc.cell? ⟨w.heap.size + 1, 3, none⟩ = some (.int .i64 0) := (unhide K5).rr.c 3 (by simp)
        have r4' : wc.cell? ⟨w.heap.size + 1, 4, none⟩ = some (.int .i64 0) := (unhide K5).rr.c 4 (by simp)
        have r0'f : wc.frozen? ⟨w.heap.size + 1, 0, none⟩ = false := (unhide K5).rr.f 0 (by simp)
        have r1'f : wc.frozen? ⟨w.heap.size + 1, 1, none⟩ = false := (unhide K5).rr.f 1 (by simp)
        have r2'f : wc.frozen? ⟨w.heap.size + 1, 2, none⟩ = false := (unhide K5).rr.f 2 (by simp)
        have r3'f : wc.frozen? ⟨w.heap.size + 1, 3, none⟩ = false := (unhide K5).rr.f 3 (by simp)
        have r4'f : wc.frozen? ⟨w.heap.size + 1, 4, none⟩ = false := (unhide K5).rr.f 4 (by simp)
        clear hA hD hS hS4 z3 n0 n5
        by_cases ho : o = 0
        · have ho' : (o == 0) = true := by simpa using ho
          have ho2 : (o != 0) = false := by simpa using ho
          by_cases hf : 2000 < all + n
          · have e := (unhide HA).far hlt (by rw [unhide HR2]; exact ho) (by rw [unhide HR2]; exact hf)
            clear ho
            go_wp2_with fail
            simp only [Prod.mk.injEq, Kf.mk.injEq] at e
            obtain ⟨⟨e1, e2, e3, e4, e5⟩, e6, e7⟩ := e
            have KE := ((((((unhide K5).rr.set 0 (by simp) (.int .i64 x)).set 1 (by simp) (.int .i64 y)).set 2 (by simp) (.int .i64 d)).set 3 (by simp) (.int .i64 h)).set 4 (by simp) (.int .i64 c))
            refine bodyPost_ret (results_cellBB (vs := [.int .i64 x, .int .i64 y, .int .i64 d, .int .i64 h, .int .i64 c]) rfl Tryd.isAgg26 Tryd.sizeOf26 rfl (by simpa using KE) rfl rfl) rfl ?_
            have k8 := (unhide K5).o
            have k9 := (unhide K5).bel
            have kl := (unhide K5).l
            have hne : (Value.slice (some ⟨g, 0, none⟩) i cp).ownBlock ≠ some (w.heap.size + 1) := by
              intro e
              have := (k8.lies _ e).1
              omega
            refine ⟨some ⟨g, 0, none⟩, cp, by rw [e1, e2, e3, e4, e5, e6, e7, kl]; try rfl, ?_, ?_⟩
            · rw [e6, kl]
              have k7 := ((((k8.set_other (S := w.heap.size + 1) (o := 0) (.int .i64 x) hne).set_other (S := w.heap.size + 1) (o := 1) (.int .i64 y) hne).set_other (S := w.heap.size + 1) (o := 2) (.int .i64 d) hne).set_other (S := w.heap.size + 1) (o := 3) (.int .i64 h) hne).set_other (S := w.heap.size + 1) (o := 4) (.int .i64 c) hne
              exact k7.mono (by omega)
            · refine Below.setCell ?_ (by simp; try omega) _
              refine Below.setCell ?_ (by simp; try omega) _
              refine Below.setCell ?_ (by simp; try omega) _
              refine Below.setCell ?_ (by simp; try omega) _
              refine Below.setCell ?_ (by simp; try omega) _
              exact k9
          · have HY := hide ((unhide HA).more hlt (by rw [unhide HR2]; exact ho) (by rw [unhide HR2]; exact hf))
            rw [unhide HR2] at HY
            clear ho
            go_wp2_with (at_builtin; have K6 := (unhide K5).set nx ny nd nh nc; have HO := K6.o; have HSZ := K6.t; have HL := K6.l; refine wpList_app_int rfl _ _ rfl (n := i) n HO HL rfl (by simp) rfl HSZ (by omega) ⟨by omega, by omega⟩ ?_; intro g' c' w9 o9 gr9; have K9 := hide (K6.app o9 gr9); clear o9 gr9 K6 HO HSZ HL)
            go_roundw
            case rel => exact rtRel_mk (i := i + 1) rfl rfl (by go_num) HY K9
            case measure => simp [intOf]; omega
        · have e := (unhide HA).code hlt (by rw [unhide HR2]; exact ho)
          rw [unhide HR2] at e
          have ho' : (o == 0) = false := by simpa using ho
          have ho2 : (o != 0) = true := by simpa using ho
          clear ho
          go_wp2_with fail
          simp only [Prod.mk.injEq, Kf.mk.injEq] at e
          obtain ⟨⟨e1, e2, e3, e4, e5⟩, e6, e7⟩ := e
          have KE := ((((((unhide K5).rr.set 0 (by simp) (.int .i64 x)).set 1 (by simp) (.int .i64 y)).set 2 (by simp) (.int .i64 d)).set 3 (by simp) (.int .i64 h)).set 4 (by simp) (.int .i64 c))
          refine bodyPost_ret (results_cellBB (vs := [.int .i64 x, .int .i64 y, .int .i64 d, .int .i64 h, .int .i64 c]) rfl Tryd.isAgg26 Tryd.sizeOf26 rfl (by simpa using KE) rfl rfl) rfl ?_
          have k8 := (unhide K5).o
          have k9 := (unhide K5).bel
          have kl := (unhide K5).l
          have hne : (Value.slice (some ⟨g, 0, none⟩) i cp).ownBlock ≠ some (w.heap.size + 1) := by
            intro e
            have := (k8.lies _ e).1
            omega
          refine ⟨some ⟨g, 0, none⟩, cp, by rw [e1, e2, e3, e4, e5, e6, e7, kl]; try rfl, ?_, ?_⟩
          · rw [e6, kl]
            have k7 := ((((k8.set_other (S := w.heap.size + 1) (o := 0) (.int .i64 x) hne).set_other (S := w.heap.size + 1) (o := 1) (.int .i64 y) hne).set_other (S := w.heap.size + 1) (o := 2) (.int .i64 d) hne).set_other (S := w.heap.size + 1) (o := 3) (.int .i64 h) hne).set_other (S := w.heap.size + 1) (o := 4) (.int .i64 c) hne
            exact k7.mono (by omega)
          · refine Below.setCell ?_ (by simp; try omega) _
            refine Below.setCell ?_ (by simp; try omega) _
            refine Below.setCell ?_ (by simp; try omega) _
            refine Below.setCell ?_ (by simp; try omega) _
            refine Below.setCell ?_ (by simp; try omega) _
            exact k9
    · have e := (unhide HA).last hlt
      have n2 : ¬ (i : Int) < (ls.length : Int) := by omega
      have c0' : wr.cell? ⟨w.heap.size, 0, none⟩ = some (.int .i64 x) := (unhide HK).cc.c 0 (by simp)
      have c1' : wr.cell? ⟨w.heap.size, 1, none⟩ = some (.int .i64 y) := (unhide HK).cc.c 1 (by simp)
      have c2' : wr.cell? ⟨w.heap.size, 2, none⟩ = some (.int .i64 d) := (unhide HK).cc.c 2 (by simp)
      have c3' : wr.cell? ⟨w.heap.size, 3, none⟩ = some (.int .i64 h) := (unhide HK).cc.c 3 (by simp)
      have c4' : wr.cell? ⟨w.heap.size, 4, none⟩ = some (.int .i64 c) := (unhide HK).cc.c 4 (by simp)
      have c0'f : wr.frozen? ⟨w.heap.size, 0, none⟩ = false := (unhide HK).cc.f 0 (by simp)
      have c1'f : wr.frozen? ⟨w.heap.size, 1, none⟩ = false := (unhide HK).cc.f 1 (by simp)
      have c2'f : wr.frozen? ⟨w.heap.size, 2, none⟩ = false := (unhide HK).cc.f 2 (by simp)
      have c3'f : wr.frozen? ⟨w.heap.size, 3, none⟩ = false := (unhide HK).cc.f 3 (by simp)
      have c4'f : wr.frozen? ⟨w.heap.size, 4, none⟩ = false := (unhide HK).cc.f 4 (by simp)
      have r0' : wr.cell? ⟨w.heap.size + 1, 0, none⟩ = some (.int .i64 0) := (unhide HK).rr.c 0 (by simp)
      have r1' : wr.cell? ⟨w.heap.size + 1, 1, none⟩ = some (.int .i64 0) := (unhide HK).rr.c 1 (by simp)
      have r2' : wr.cell? ⟨w.heap.size + 1, 2, none⟩ = some (.int .i64 0) := (unhide HK).rr.c 2 (by simp)
      have r3' : wr.cell? ⟨w.heap.size + 1, 3, none⟩ = some (.int .i64 0) := (unhide HK).rr.c 3 (by simp)
      have r4' : wr.cell? ⟨w.heap.size + 1, 4, none⟩ = some (.int .i64 0) := (unhide HK).rr.c 4 (by simp)
      have r0'f : wr.frozen? ⟨w.heap.size + 1, 0, none⟩ = false := (unhide HK).rr.f 0 (by simp)
      have r1'f : wr.frozen? ⟨w.heap.size + 1, 1, none⟩ = false := (unhide HK).rr.f 1 (by simp)
      have r2'f : wr.frozen? ⟨w.heap.size + 1, 2, none⟩ = false := (unhide HK).rr.f 2 (by simp)
      have r3'f : wr.frozen? ⟨w.heap.size + 1, 3, none⟩ = false := (unhide HK).rr.f 3 (by simp)
      have r4'f : wr.frozen? ⟨w.heap.size + 1, 4, none⟩ = false := (unhide HK).rr.f 4 (by simp)
      go_wp2
      simp only [Prod.mk.injEq, Kf.mk.injEq] at e
      obtain ⟨⟨e1, e2, e3, e4, e5⟩, e6, e7⟩ := e
      have KE := ((((((unhide HK).rr.set 0 (by simp) (.int .i64 x)).set 1 (by simp) (.int .i64 y)).set 2 (by simp) (.int .i64 d)).set 3 (by simp) (.int .i64 h)).set 4 (by simp) (.int .i64 c))
      refine bodyPost_ret (results_cellBB (vs := [.int .i64 x, .int .i64 y, .int .i64 d, .int .i64 h, .int .i64 c]) rfl Tryd.isAgg26 Tryd.sizeOf26 rfl (by simpa using KE) rfl rfl) rfl ?_
      have k8 := (unhide HK).o
      have k9 := (unhide HK).bel
      have kl := (unhide HK).l
      have hne : (Value.slice (some ⟨g, 0, none⟩) i cp).ownBlock ≠ some (w.heap.size + 1) := by
        intro e
        have := (k8.lies _ e).1
        omega
      refine ⟨some ⟨g, 0, none⟩, cp, by rw [e1, e2, e3, e4, e5, e6, e7, kl]; try rfl, ?_, ?_⟩
      · rw [e6, kl]
        have k7 := ((((k8.set_other (S := w.heap.size + 1) (o := 0) (.int .i64 x) hne).set_other (S := w.heap.size + 1) (o := 1) (.int .i64 y) hne).set_other (S := w.heap.size + 1) (o := 2) (.int .i64 d) hne).set_other (S := w.heap.size + 1) (o := 3) (.int .i64 h) hne).set_other (S := w.heap.size + 1) (o := 4) (.int .i64 c) hne
        exact k7.mono (by omega)
      · refine Below.setCell ?_ (by simp; try omega) _
        refine Below.setCell ?_ (by simp; try omega) _
        refine Below.setCell ?_ (by simp; try omega) _
        refine Below.setCell ?_ (by simp; try omega) _
        refine Below.setCell ?_ (by simp; try omega) _
        exact k9

end Go.Proofs.YtkpmoolggpojdauDoor
