/-
  The law FnExactFlyLeg returns true at every argument and writes nothing that was there: the walk. No condition.
-/
import Derived.Test.YtkpmoolggpojdauDoorToCf
import Derived.Test.YtkpmoolggpojdauDoorToLg
import Derived.Test.YtkpmoolggpojdauDoorFlyAny
import Derived.Test.YtkpmoolggpojdauDoorOnly
import Derived.Deep.RegionHeld3
import Derived.Deep.Cut
namespace Go.Proofs.YtkpmoolggpojdauDoor
open Go.RowKit

theorem flyLegK9 {w W w3 : World} {p0 o0 p1 o1 p2 o2 p3 o3 p4 o4 p5 o5 p6 o6 p7 o7 p8 o8 : Nat} {v0 v1 v2 v3 v4 v5 v6 v7 v8 : Value} (h : W.cell? ⟨p0, o0, none⟩ = some v0 ∧ W.cell? ⟨p1, o1, none⟩ = some v1 ∧ W.cell? ⟨p2, o2, none⟩ = some v2 ∧ W.cell? ⟨p3, o3, none⟩ = some v3 ∧ W.cell? ⟨p4, o4, none⟩ = some v4 ∧ W.cell? ⟨p5, o5, none⟩ = some v5 ∧ W.cell? ⟨p6, o6, none⟩ = some v6 ∧ W.cell? ⟨p7, o7, none⟩ = some v7 ∧ W.cell? ⟨p8, o8, none⟩ = some v8 ∧ Below w.heap.size w W) (b3 : Below W.heap.size W w3) : w3.cell? ⟨p0, o0, none⟩ = some v0 ∧ w3.cell? ⟨p1, o1, none⟩ = some v1 ∧ w3.cell? ⟨p2, o2, none⟩ = some v2 ∧ w3.cell? ⟨p3, o3, none⟩ = some v3 ∧ w3.cell? ⟨p4, o4, none⟩ = some v4 ∧ w3.cell? ⟨p5, o5, none⟩ = some v5 ∧ w3.cell? ⟨p6, o6, none⟩ = some v6 ∧ w3.cell? ⟨p7, o7, none⟩ = some v7 ∧ w3.cell? ⟨p8, o8, none⟩ = some v8 ∧ Below w.heap.size w w3 := by
  obtain ⟨h0, h1, h2, h3, h4, h5, h6, h7, h8, hb⟩ := h
  exact ⟨(b3.cell (block_lt_of_cell h0)).trans h0, (b3.cell (block_lt_of_cell h1)).trans h1, (b3.cell (block_lt_of_cell h2)).trans h2, (b3.cell (block_lt_of_cell h3)).trans h3, (b3.cell (block_lt_of_cell h4)).trans h4, (b3.cell (block_lt_of_cell h5)).trans h5, (b3.cell (block_lt_of_cell h6)).trans h6, (b3.cell (block_lt_of_cell h7)).trans h7, (b3.cell (block_lt_of_cell h8)).trans h8, hb.trans (b3.mono hb.size)⟩
theorem flyLegK14 {w W w3 : World} {p0 o0 p1 o1 p2 o2 p3 o3 p4 o4 p5 o5 p6 o6 p7 o7 p8 o8 p9 o9 p10 o10 p11 o11 p12 o12 p13 o13 : Nat} {v0 v1 v2 v3 v4 v5 v6 v7 v8 v9 v10 v11 v12 v13 : Value} (h : W.cell? ⟨p0, o0, none⟩ = some v0 ∧ W.cell? ⟨p1, o1, none⟩ = some v1 ∧ W.cell? ⟨p2, o2, none⟩ = some v2 ∧ W.cell? ⟨p3, o3, none⟩ = some v3 ∧ W.cell? ⟨p4, o4, none⟩ = some v4 ∧ W.cell? ⟨p5, o5, none⟩ = some v5 ∧ W.cell? ⟨p6, o6, none⟩ = some v6 ∧ W.cell? ⟨p7, o7, none⟩ = some v7 ∧ W.cell? ⟨p8, o8, none⟩ = some v8 ∧ W.cell? ⟨p9, o9, none⟩ = some v9 ∧ W.cell? ⟨p10, o10, none⟩ = some v10 ∧ W.cell? ⟨p11, o11, none⟩ = some v11 ∧ W.cell? ⟨p12, o12, none⟩ = some v12 ∧ W.cell? ⟨p13, o13, none⟩ = some v13 ∧ Below w.heap.size w W) (b3 : Below W.heap.size W w3) : w3.cell? ⟨p0, o0, none⟩ = some v0 ∧ w3.cell? ⟨p1, o1, none⟩ = some v1 ∧ w3.cell? ⟨p2, o2, none⟩ = some v2 ∧ w3.cell? ⟨p3, o3, none⟩ = some v3 ∧ w3.cell? ⟨p4, o4, none⟩ = some v4 ∧ w3.cell? ⟨p5, o5, none⟩ = some v5 ∧ w3.cell? ⟨p6, o6, none⟩ = some v6 ∧ w3.cell? ⟨p7, o7, none⟩ = some v7 ∧ w3.cell? ⟨p8, o8, none⟩ = some v8 ∧ w3.cell? ⟨p9, o9, none⟩ = some v9 ∧ w3.cell? ⟨p10, o10, none⟩ = some v10 ∧ w3.cell? ⟨p11, o11, none⟩ = some v11 ∧ w3.cell? ⟨p12, o12, none⟩ = some v12 ∧ w3.cell? ⟨p13, o13, none⟩ = some v13 ∧ Below w.heap.size w w3 := by
  obtain ⟨h0, h1, h2, h3, h4, h5, h6, h7, h8, h9, h10, h11, h12, h13, hb⟩ := h
  exact ⟨(b3.cell (block_lt_of_cell h0)).trans h0, (b3.cell (block_lt_of_cell h1)).trans h1, (b3.cell (block_lt_of_cell h2)).trans h2, (b3.cell (block_lt_of_cell h3)).trans h3, (b3.cell (block_lt_of_cell h4)).trans h4, (b3.cell (block_lt_of_cell h5)).trans h5, (b3.cell (block_lt_of_cell h6)).trans h6, (b3.cell (block_lt_of_cell h7)).trans h7, (b3.cell (block_lt_of_cell h8)).trans h8, (b3.cell (block_lt_of_cell h9)).trans h9, (b3.cell (block_lt_of_cell h10)).trans h10, (b3.cell (block_lt_of_cell h11)).trans h11, (b3.cell (block_lt_of_cell h12)).trans h12, (b3.cell (block_lt_of_cell h13)).trans h13, hb.trans (b3.mono hb.size)⟩
theorem flyLegNew {V w3 : World} {u0 u1 u2 u3 u4 : Value} {T : TypeId} (b3 : Below (V.alloc (Obj.cells #[u0, u1, u2, u3, u4] T)).heap.size (V.alloc (Obj.cells #[u0, u1, u2, u3, u4] T)) w3) : w3.cell? ⟨V.heap.size, 0, none⟩ = some u0 ∧ w3.cell? ⟨V.heap.size, 1, none⟩ = some u1 ∧ w3.cell? ⟨V.heap.size, 2, none⟩ = some u2 ∧ w3.cell? ⟨V.heap.size, 3, none⟩ = some u3 ∧ w3.cell? ⟨V.heap.size, 4, none⟩ = some u4 ∧ w3.frozen? ⟨V.heap.size, 0, none⟩ = false ∧ w3.frozen? ⟨V.heap.size, 1, none⟩ = false ∧ w3.frozen? ⟨V.heap.size, 2, none⟩ = false ∧ w3.frozen? ⟨V.heap.size, 3, none⟩ = false ∧ w3.frozen? ⟨V.heap.size, 4, none⟩ = false ∧ V.heap.size < w3.heap.size := by
  have hl : V.heap.size < (V.alloc (Obj.cells #[u0, u1, u2, u3, u4] T)).heap.size := by simp
  exact ⟨(b3.cell (p := ⟨V.heap.size, 0, none⟩) hl).trans (by simp [go_sem]), (b3.cell (p := ⟨V.heap.size, 1, none⟩) hl).trans (by simp [go_sem]), (b3.cell (p := ⟨V.heap.size, 2, none⟩) hl).trans (by simp [go_sem]), (b3.cell (p := ⟨V.heap.size, 3, none⟩) hl).trans (by simp [go_sem]), (b3.cell (p := ⟨V.heap.size, 4, none⟩) hl).trans (by simp [go_sem]), (b3.frozen (p := ⟨V.heap.size, 0, none⟩) hl).trans (by simp [go_sem]), (b3.frozen (p := ⟨V.heap.size, 1, none⟩) hl).trans (by simp [go_sem]), (b3.frozen (p := ⟨V.heap.size, 2, none⟩) hl).trans (by simp [go_sem]), (b3.frozen (p := ⟨V.heap.size, 3, none⟩) hl).trans (by simp [go_sem]), (b3.frozen (p := ⟨V.heap.size, 4, none⟩) hl).trans (by simp [go_sem]), Nat.lt_of_lt_of_le hl b3.size⟩
theorem flyLegNewD {V w3 : World} {u0 u1 u2 u3 u4 : Value} {T : TypeId} (b3 : Below (V.alloc (Obj.cells #[u0, u1, u2, u3, u4] T)).drew.heap.size (V.alloc (Obj.cells #[u0, u1, u2, u3, u4] T)).drew w3) : w3.cell? ⟨V.heap.size, 0, none⟩ = some u0 ∧ w3.cell? ⟨V.heap.size, 1, none⟩ = some u1 ∧ w3.cell? ⟨V.heap.size, 2, none⟩ = some u2 ∧ w3.cell? ⟨V.heap.size, 3, none⟩ = some u3 ∧ w3.cell? ⟨V.heap.size, 4, none⟩ = some u4 ∧ w3.frozen? ⟨V.heap.size, 0, none⟩ = false ∧ w3.frozen? ⟨V.heap.size, 1, none⟩ = false ∧ w3.frozen? ⟨V.heap.size, 2, none⟩ = false ∧ w3.frozen? ⟨V.heap.size, 3, none⟩ = false ∧ w3.frozen? ⟨V.heap.size, 4, none⟩ = false ∧ V.heap.size < w3.heap.size :=
  flyLegNew (T := T) ((bel0d' 1).trans b3)
theorem flyLegStill {V w3 : World} {S : Nat} {u0 u1 u2 u3 u4 : Value} (h : V.cell? ⟨S, 0, none⟩ = some u0 ∧ V.cell? ⟨S, 1, none⟩ = some u1 ∧ V.cell? ⟨S, 2, none⟩ = some u2 ∧ V.cell? ⟨S, 3, none⟩ = some u3 ∧ V.cell? ⟨S, 4, none⟩ = some u4 ∧ V.frozen? ⟨S, 0, none⟩ = false ∧ V.frozen? ⟨S, 1, none⟩ = false ∧ V.frozen? ⟨S, 2, none⟩ = false ∧ V.frozen? ⟨S, 3, none⟩ = false ∧ V.frozen? ⟨S, 4, none⟩ = false ∧ S < V.heap.size) (b3 : Below V.heap.size V w3) : w3.cell? ⟨S, 0, none⟩ = some u0 ∧ w3.cell? ⟨S, 1, none⟩ = some u1 ∧ w3.cell? ⟨S, 2, none⟩ = some u2 ∧ w3.cell? ⟨S, 3, none⟩ = some u3 ∧ w3.cell? ⟨S, 4, none⟩ = some u4 ∧ w3.frozen? ⟨S, 0, none⟩ = false ∧ w3.frozen? ⟨S, 1, none⟩ = false ∧ w3.frozen? ⟨S, 2, none⟩ = false ∧ w3.frozen? ⟨S, 3, none⟩ = false ∧ w3.frozen? ⟨S, 4, none⟩ = false ∧ S < w3.heap.size := by
  obtain ⟨h0, h1, h2, h3, h4, f0, f1, f2, f3, f4, hl⟩ := h
  exact ⟨(b3.cell (p := ⟨S, 0, none⟩) hl).trans h0, (b3.cell (p := ⟨S, 1, none⟩) hl).trans h1, (b3.cell (p := ⟨S, 2, none⟩) hl).trans h2, (b3.cell (p := ⟨S, 3, none⟩) hl).trans h3, (b3.cell (p := ⟨S, 4, none⟩) hl).trans h4, (b3.frozen (p := ⟨S, 0, none⟩) hl).trans f0, (b3.frozen (p := ⟨S, 1, none⟩) hl).trans f1, (b3.frozen (p := ⟨S, 2, none⟩) hl).trans f2, (b3.frozen (p := ⟨S, 3, none⟩) hl).trans f3, (b3.frozen (p := ⟨S, 4, none⟩) hl).trans f4, Nat.lt_of_lt_of_le hl b3.size⟩
theorem flyLeg_al (w : World) : ∀ (W : World) (o : Obj), Below w.heap.size w W → Below w.heap.size w (W.alloc o) := fun _ o h => h.alloc h.size o
theorem flyLeg_dr (w : World) : ∀ W : World, Below w.heap.size w W → Below w.heap.size w W.drew := fun _ h => h.trans ⟨rfl, rfl, rfl, Nat.le_refl _, fun _ _ => rfl⟩
theorem flyLeg_st1 (w : World) : ∀ (W : World) (p o : Nat) (v : Value), w.heap.size ≤ p → Below w.heap.size w W → Below w.heap.size w (W.setCell ⟨p, o, none⟩ v) := fun _ _ _ v hp h => h.setCell hp v
theorem flyLeg_st (w : World) : ∀ (W : World) (p o0 o1 o2 o3 o4 : Nat) (v0 v1 v2 v3 v4 : Value), w.heap.size ≤ p → Below w.heap.size w W → Below w.heap.size w (((((W.setCell ⟨p, o0, none⟩ v0).setCell ⟨p, o1, none⟩ v1).setCell ⟨p, o2, none⟩ v2).setCell ⟨p, o3, none⟩ v3).setCell ⟨p, o4, none⟩ v4) := fun _ _ _ _ _ _ _ v0 v1 v2 v3 v4 hp h => (((((h.setCell hp v0).setCell hp v1).setCell hp v2).setCell hp v3).setCell hp v4)

set_option maxRecDepth 20000 in
set_option maxHeartbeats 8000000 in
theorem lawFlyLeg (cx : Int) (cy : Int) (cd : Int) (ch : Int) (cc : Int) (lk : Int) (lx : Int) (ly : Int) (lm : Int) (w : World) (g : StG w) :
    Calls Tryd.prog 3 #[.agg #[.int .i64 cx, .int .i64 cy, .int .i64 cd, .int .i64 ch, .int .i64 cc], .agg #[.int .i64 lk, .int .i64 lx, .int .i64 ly, .int .i64 lm]] w fun e w' => e = .returned (.bool true) ∧ Below w.heap.size w w' := by
  have hA := flyLeg_al w
  have hD := flyLeg_dr w
  have hS := flyLeg_st1 w
  have hS4 := flyLeg_st w
  have hq : (fyS cx cy cd ch cc lk lx ly lm != fyS cx cy cd ch cc lk lx ly lm) = false := by simp
  have hq2 : (fyO cx cy cd ch cc lk lx ly lm != fyO cx cy cd ch cc lk lx ly lm) = false := by simp
  have gl := g.lt
  have HG := hide g
  clear g
  go_enter Tryd.func3, Tryd.ntmps3
  go_wp2
  obtain ⟨w1, hw1⟩ : ∃ w1, w1 = ((w.alloc (Obj.cells #[.int .i64 cx, .int .i64 cy, .int .i64 cd, .int .i64 ch, .int .i64 cc] 23)).alloc (Obj.cells #[.int .i64 lk, .int .i64 lx, .int .i64 ly, .int .i64 lm] 25)) := ⟨_, rfl⟩
  rw [← hw1]
  have c0 : w1.cell? ⟨w.heap.size, 0, none⟩ = some (.int .i64 cx) := by rw [hw1]; simp [go_sem]
  have c1 : w1.cell? ⟨w.heap.size, 1, none⟩ = some (.int .i64 cy) := by rw [hw1]; simp [go_sem]
  have c2 : w1.cell? ⟨w.heap.size, 2, none⟩ = some (.int .i64 cd) := by rw [hw1]; simp [go_sem]
  have c3 : w1.cell? ⟨w.heap.size, 3, none⟩ = some (.int .i64 ch) := by rw [hw1]; simp [go_sem]
  have c4 : w1.cell? ⟨w.heap.size, 4, none⟩ = some (.int .i64 cc) := by rw [hw1]; simp [go_sem]
  have c5 : w1.cell? ⟨w.heap.size + 1, 0, none⟩ = some (.int .i64 lk) := by rw [hw1]; simp [go_sem]
  have c6 : w1.cell? ⟨w.heap.size + 1, 1, none⟩ = some (.int .i64 lx) := by rw [hw1]; simp [go_sem]
  have c7 : w1.cell? ⟨w.heap.size + 1, 2, none⟩ = some (.int .i64 ly) := by rw [hw1]; simp [go_sem]
  have c8 : w1.cell? ⟨w.heap.size + 1, 3, none⟩ = some (.int .i64 lm) := by rw [hw1]; simp [go_sem]
  have bb : Below w.heap.size w w1 := by rw [hw1]; exact bel2 _ _
  have z3 := bb.size
  have n0 := World.new_ne w1 _ c0
  have n5 := World.new_ne w1 _ c5
  clear hw1
  go_cut [5, 6, 7] from 11 (fun s5 s6 s7 wc => ∃ S, s5 = .pointer (some ⟨S, 0, none⟩) ∧ s6 = .int .i64 (fyS cx cy cd ch cc lk lx ly lm) ∧ s7 = .int .i64 (fyO cx cy cd ch cc lk lx ly lm) ∧ wc.cell? ⟨S, 0, none⟩ = some (.int .i64 (fyX cx cy cd ch cc lk lx ly lm)) ∧ wc.cell? ⟨S, 1, none⟩ = some (.int .i64 (fyY cx cy cd ch cc lk lx ly lm)) ∧ wc.cell? ⟨S, 2, none⟩ = some (.int .i64 (fyD cx cy cd ch cc lk lx ly lm)) ∧ wc.cell? ⟨S, 3, none⟩ = some (.int .i64 (fyH cx cy cd ch cc lk lx ly lm)) ∧ wc.cell? ⟨S, 4, none⟩ = some (.int .i64 (fyC cx cy cd ch cc lk lx ly lm)) ∧ wc.cell? ⟨w.heap.size, 0, none⟩ = some (.int .i64 cx) ∧ wc.cell? ⟨w.heap.size, 1, none⟩ = some (.int .i64 cy) ∧ wc.cell? ⟨w.heap.size, 2, none⟩ = some (.int .i64 cd) ∧ wc.cell? ⟨w.heap.size, 3, none⟩ = some (.int .i64 ch) ∧ wc.cell? ⟨w.heap.size, 4, none⟩ = some (.int .i64 cc) ∧ wc.cell? ⟨w.heap.size + 1, 0, none⟩ = some (.int .i64 lk) ∧ wc.cell? ⟨w.heap.size + 1, 1, none⟩ = some (.int .i64 lx) ∧ wc.cell? ⟨w.heap.size + 1, 2, none⟩ = some (.int .i64 ly) ∧ wc.cell? ⟨w.heap.size + 1, 3, none⟩ = some (.int .i64 lm) ∧ Below w.heap.size w wc)
  case first =>
    go_region_held3 (fun w' => w'.cell? ⟨w.heap.size, 0, none⟩ = some (.int .i64 cx) ∧ w'.cell? ⟨w.heap.size, 1, none⟩ = some (.int .i64 cy) ∧ w'.cell? ⟨w.heap.size, 2, none⟩ = some (.int .i64 cd) ∧ w'.cell? ⟨w.heap.size, 3, none⟩ = some (.int .i64 ch) ∧ w'.cell? ⟨w.heap.size, 4, none⟩ = some (.int .i64 cc) ∧ w'.cell? ⟨w.heap.size + 1, 0, none⟩ = some (.int .i64 lk) ∧ w'.cell? ⟨w.heap.size + 1, 1, none⟩ = some (.int .i64 lx) ∧ w'.cell? ⟨w.heap.size + 1, 2, none⟩ = some (.int .i64 ly) ∧ w'.cell? ⟨w.heap.size + 1, 3, none⟩ = some (.int .i64 lm) ∧ Below w.heap.size w w') (go_keep)
      ((first
        | (go_at_call 7; refine (toCraft_any _ _ _ _ _ _).mono ?_; rintro e w3 ⟨rfl, b3⟩; have H3 := flyLegK9 (by assumption) b3; (first | (have hs := flyLegStill ⟨s0, s1, s2, s3, s4, g0, g1, g2, g3, g4, ls⟩ b3; obtain ⟨s0, s1, s2, s3, s4, g0, g1, g2, g3, g4, ls⟩ := hs) | (have hs := flyLegNew b3; obtain ⟨s0, s1, s2, s3, s4, g0, g1, g2, g3, g4, ls⟩ := hs) | (have hs := flyLegNewD b3; obtain ⟨s0, s1, s2, s3, s4, g0, g1, g2, g3, g4, ls⟩ := hs) | skip); obtain ⟨c0, c1, c2, c3, c4, c5, c6, c7, c8, bb⟩ := H3; have z3 := bb.size; have n0 := World.new_ne w3 _ c0; have n5 := World.new_ne w3 _ c5; clear b3)
        | (go_at_call 8; refine (toLeg_any _ _ _ _ _).mono ?_; rintro e w3 ⟨rfl, b3⟩; have H3 := flyLegK9 (by assumption) b3; (first | (have hs := flyLegStill ⟨s0, s1, s2, s3, s4, g0, g1, g2, g3, g4, ls⟩ b3; obtain ⟨s0, s1, s2, s3, s4, g0, g1, g2, g3, g4, ls⟩ := hs) | (have hs := flyLegNew b3; obtain ⟨s0, s1, s2, s3, s4, g0, g1, g2, g3, g4, ls⟩ := hs) | (have hs := flyLegNewD b3; obtain ⟨s0, s1, s2, s3, s4, g0, g1, g2, g3, g4, ls⟩ := hs) | skip); obtain ⟨c0, c1, c2, c3, c4, c5, c6, c7, c8, bb⟩ := H3; have z3 := bb.size; have n0 := World.new_ne w3 _ c0; have n5 := World.new_ne w3 _ c5; clear b3)
        | (go_at_call 6; refine (specFlyLeg_any _ _ _ _ _ _ _ _ _ _).mono ?_; rintro e w3 ⟨rfl, b3⟩; have H3 := flyLegK9 (by assumption) b3; (first | (have hs := flyLegStill ⟨s0, s1, s2, s3, s4, g0, g1, g2, g3, g4, ls⟩ b3; obtain ⟨s0, s1, s2, s3, s4, g0, g1, g2, g3, g4, ls⟩ := hs) | (have hs := flyLegNew b3; obtain ⟨s0, s1, s2, s3, s4, g0, g1, g2, g3, g4, ls⟩ := hs) | (have hs := flyLegNewD b3; obtain ⟨s0, s1, s2, s3, s4, g0, g1, g2, g3, g4, ls⟩ := hs) | skip); obtain ⟨c0, c1, c2, c3, c4, c5, c6, c7, c8, bb⟩ := H3; have z3 := bb.size; have n0 := World.new_ne w3 _ c0; have n5 := World.new_ne w3 _ c5; clear b3)))
    all_goals (
      go_wp2
      go_meet
      case rel => exact ⟨_, rfl, rfl, rfl, by simp [go_sem, *], by simp [go_sem, *], by simp [go_sem, *], by simp [go_sem, *], by simp [go_sem, *], by assumption⟩)
  case rest =>
    obtain ⟨S, rfl, rfl, rfl, t0, t1, t2, t3, t4, c0, c1, c2, c3, c4, c5, c6, c7, c8, bb⟩ := hcut
    have z3 := bb.size
    have n0 := World.new_ne wc _ c0
    have n5 := World.new_ne wc _ c5
    have nt := World.new_ne wc _ t0
    go_wp2_with fail
    go_cut [8, 9, 10] from 11 (fun s8 s9 s10 wd => ∃ S2, s8 = .pointer (some ⟨S2, 0, none⟩) ∧ s9 = .int .i64 (fyS cx cy cd ch cc lk lx ly lm) ∧ s10 = .int .i64 (fyO cx cy cd ch cc lk lx ly lm) ∧ wd.cell? ⟨S2, 0, none⟩ = some (.int .i64 (fyX cx cy cd ch cc lk lx ly lm)) ∧ wd.cell? ⟨S2, 1, none⟩ = some (.int .i64 (fyY cx cy cd ch cc lk lx ly lm)) ∧ wd.cell? ⟨S2, 2, none⟩ = some (.int .i64 (fyD cx cy cd ch cc lk lx ly lm)) ∧ wd.cell? ⟨S2, 3, none⟩ = some (.int .i64 (fyH cx cy cd ch cc lk lx ly lm)) ∧ wd.cell? ⟨S2, 4, none⟩ = some (.int .i64 (fyC cx cy cd ch cc lk lx ly lm)) ∧ wd.cell? ⟨w.heap.size, 0, none⟩ = some (.int .i64 cx) ∧ wd.cell? ⟨w.heap.size, 1, none⟩ = some (.int .i64 cy) ∧ wd.cell? ⟨w.heap.size, 2, none⟩ = some (.int .i64 cd) ∧ wd.cell? ⟨w.heap.size, 3, none⟩ = some (.int .i64 ch) ∧ wd.cell? ⟨w.heap.size, 4, none⟩ = some (.int .i64 cc) ∧ wd.cell? ⟨w.heap.size + 1, 0, none⟩ = some (.int .i64 lk) ∧ wd.cell? ⟨w.heap.size + 1, 1, none⟩ = some (.int .i64 lx) ∧ wd.cell? ⟨w.heap.size + 1, 2, none⟩ = some (.int .i64 ly) ∧ wd.cell? ⟨w.heap.size + 1, 3, none⟩ = some (.int .i64 lm) ∧ wd.cell? ⟨S, 0, none⟩ = some (.int .i64 (fyX cx cy cd ch cc lk lx ly lm)) ∧ wd.cell? ⟨S, 1, none⟩ = some (.int .i64 (fyY cx cy cd ch cc lk lx ly lm)) ∧ wd.cell? ⟨S, 2, none⟩ = some (.int .i64 (fyD cx cy cd ch cc lk lx ly lm)) ∧ wd.cell? ⟨S, 3, none⟩ = some (.int .i64 (fyH cx cy cd ch cc lk lx ly lm)) ∧ wd.cell? ⟨S, 4, none⟩ = some (.int .i64 (fyC cx cy cd ch cc lk lx ly lm)) ∧ Below w.heap.size w wd)
    case first =>
      go_region_held3 (fun w' => w'.cell? ⟨w.heap.size, 0, none⟩ = some (.int .i64 cx) ∧ w'.cell? ⟨w.heap.size, 1, none⟩ = some (.int .i64 cy) ∧ w'.cell? ⟨w.heap.size, 2, none⟩ = some (.int .i64 cd) ∧ w'.cell? ⟨w.heap.size, 3, none⟩ = some (.int .i64 ch) ∧ w'.cell? ⟨w.heap.size, 4, none⟩ = some (.int .i64 cc) ∧ w'.cell? ⟨w.heap.size + 1, 0, none⟩ = some (.int .i64 lk) ∧ w'.cell? ⟨w.heap.size + 1, 1, none⟩ = some (.int .i64 lx) ∧ w'.cell? ⟨w.heap.size + 1, 2, none⟩ = some (.int .i64 ly) ∧ w'.cell? ⟨w.heap.size + 1, 3, none⟩ = some (.int .i64 lm) ∧ w'.cell? ⟨S, 0, none⟩ = some (.int .i64 (fyX cx cy cd ch cc lk lx ly lm)) ∧ w'.cell? ⟨S, 1, none⟩ = some (.int .i64 (fyY cx cy cd ch cc lk lx ly lm)) ∧ w'.cell? ⟨S, 2, none⟩ = some (.int .i64 (fyD cx cy cd ch cc lk lx ly lm)) ∧ w'.cell? ⟨S, 3, none⟩ = some (.int .i64 (fyH cx cy cd ch cc lk lx ly lm)) ∧ w'.cell? ⟨S, 4, none⟩ = some (.int .i64 (fyC cx cy cd ch cc lk lx ly lm)) ∧ Below w.heap.size w w') (go_keep)
        ((first
          | (go_at_call 7; refine (toCraft_any _ _ _ _ _ _).mono ?_; rintro e w3 ⟨rfl, b3⟩; have H3 := flyLegK14 (by assumption) b3; (first | (have hs := flyLegStill ⟨s0, s1, s2, s3, s4, g0, g1, g2, g3, g4, ls⟩ b3; obtain ⟨s0, s1, s2, s3, s4, g0, g1, g2, g3, g4, ls⟩ := hs) | (have hs := flyLegNew b3; obtain ⟨s0, s1, s2, s3, s4, g0, g1, g2, g3, g4, ls⟩ := hs) | (have hs := flyLegNewD b3; obtain ⟨s0, s1, s2, s3, s4, g0, g1, g2, g3, g4, ls⟩ := hs) | skip); obtain ⟨c0, c1, c2, c3, c4, c5, c6, c7, c8, t0, t1, t2, t3, t4, bb⟩ := H3; have z3 := bb.size; have n0 := World.new_ne w3 _ c0; have n5 := World.new_ne w3 _ c5; have nt := World.new_ne w3 _ t0; clear b3)
          | (go_at_call 8; refine (toLeg_any _ _ _ _ _).mono ?_; rintro e w3 ⟨rfl, b3⟩; have H3 := flyLegK14 (by assumption) b3; (first | (have hs := flyLegStill ⟨s0, s1, s2, s3, s4, g0, g1, g2, g3, g4, ls⟩ b3; obtain ⟨s0, s1, s2, s3, s4, g0, g1, g2, g3, g4, ls⟩ := hs) | (have hs := flyLegNew b3; obtain ⟨s0, s1, s2, s3, s4, g0, g1, g2, g3, g4, ls⟩ := hs) | (have hs := flyLegNewD b3; obtain ⟨s0, s1, s2, s3, s4, g0, g1, g2, g3, g4, ls⟩ := hs) | skip); obtain ⟨c0, c1, c2, c3, c4, c5, c6, c7, c8, t0, t1, t2, t3, t4, bb⟩ := H3; have z3 := bb.size; have n0 := World.new_ne w3 _ c0; have n5 := World.new_ne w3 _ c5; have nt := World.new_ne w3 _ t0; clear b3)
          | (go_at_call 9; refine (implFlyLeg_any _ _ _ _ _ _ _ _ _ _ ((unhide HG).below gl (by first | exact bb | exact hD _ bb | exact hA _ _ bb | exact hD _ (hA _ _ bb) | exact hA _ _ (hD _ bb)))).mono ?_; rintro e w3 ⟨rfl, b3⟩; have H3 := flyLegK14 (by assumption) b3; (first | (have hs := flyLegStill ⟨s0, s1, s2, s3, s4, g0, g1, g2, g3, g4, ls⟩ b3; obtain ⟨s0, s1, s2, s3, s4, g0, g1, g2, g3, g4, ls⟩ := hs) | (have hs := flyLegNew b3; obtain ⟨s0, s1, s2, s3, s4, g0, g1, g2, g3, g4, ls⟩ := hs) | (have hs := flyLegNewD b3; obtain ⟨s0, s1, s2, s3, s4, g0, g1, g2, g3, g4, ls⟩ := hs) | skip); obtain ⟨c0, c1, c2, c3, c4, c5, c6, c7, c8, t0, t1, t2, t3, t4, bb⟩ := H3; have z3 := bb.size; have n0 := World.new_ne w3 _ c0; have n5 := World.new_ne w3 _ c5; have nt := World.new_ne w3 _ t0; clear b3)))
      all_goals (
        go_wp2
        go_meet
        case rel => exact ⟨_, rfl, rfl, rfl, by simp [go_sem, *], by simp [go_sem, *], by simp [go_sem, *], by simp [go_sem, *], by simp [go_sem, *], by assumption⟩)
    case rest =>
      obtain ⟨S2, rfl, rfl, rfl, u0, u1, u2, u3, u4, c0, c1, c2, c3, c4, c5, c6, c7, c8, t0, t1, t2, t3, t4, bb⟩ := hcut
      have BB := hide bb
      clear bb
      go_wp2_with fail
      refine (eqCraft_alike _ _ _ _ _ _ _ _ _ _ _ (cfAlike_refl _)).mono ?_
      rintro e w5 ⟨rfl, b5⟩
      have B5 := hide ((unhide BB).trans (b5.mono (unhide BB).size))
      clear b5
      go_wp2
      go_ret
      exact ⟨rfl, unhide B5⟩

end Go.Proofs.YtkpmoolggpojdauDoor
