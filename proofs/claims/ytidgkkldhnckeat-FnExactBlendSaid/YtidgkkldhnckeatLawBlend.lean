/-
  The law FnExactBlend returns true at every argument and writes nothing that was there: the walk. No condition.
-/
import Derived.Test.YtidgkkldhnckeatToPe
import Derived.Test.YtidgkkldhnckeatToDt
import Derived.Test.YtidgkkldhnckeatNavBlend
import Derived.Test.YtidgkkldhnckeatOnly
import Derived.Deep.RegionHeld3
import Derived.Deep.Cut
namespace Go.Proofs.Ytidgkkldhnckeat
open Go.RowKit

theorem blendK6 {w W w3 : World} {p0 o0 p1 o1 p2 o2 p3 o3 p4 o4 p5 o5 : Nat} {v0 v1 v2 v3 v4 v5 : Value} (h : W.cell? ⟨p0, o0, none⟩ = some v0 ∧ W.cell? ⟨p1, o1, none⟩ = some v1 ∧ W.cell? ⟨p2, o2, none⟩ = some v2 ∧ W.cell? ⟨p3, o3, none⟩ = some v3 ∧ W.cell? ⟨p4, o4, none⟩ = some v4 ∧ W.cell? ⟨p5, o5, none⟩ = some v5 ∧ Below w.heap.size w W) (b3 : Below W.heap.size W w3) : w3.cell? ⟨p0, o0, none⟩ = some v0 ∧ w3.cell? ⟨p1, o1, none⟩ = some v1 ∧ w3.cell? ⟨p2, o2, none⟩ = some v2 ∧ w3.cell? ⟨p3, o3, none⟩ = some v3 ∧ w3.cell? ⟨p4, o4, none⟩ = some v4 ∧ w3.cell? ⟨p5, o5, none⟩ = some v5 ∧ Below w.heap.size w w3 := by
  obtain ⟨h0, h1, h2, h3, h4, h5, hb⟩ := h
  exact ⟨(b3.cell (block_lt_of_cell h0)).trans h0, (b3.cell (block_lt_of_cell h1)).trans h1, (b3.cell (block_lt_of_cell h2)).trans h2, (b3.cell (block_lt_of_cell h3)).trans h3, (b3.cell (block_lt_of_cell h4)).trans h4, (b3.cell (block_lt_of_cell h5)).trans h5, hb.trans (b3.mono hb.size)⟩
theorem blendK10 {w W w3 : World} {p0 o0 p1 o1 p2 o2 p3 o3 p4 o4 p5 o5 p6 o6 p7 o7 p8 o8 p9 o9 : Nat} {v0 v1 v2 v3 v4 v5 v6 v7 v8 v9 : Value} (h : W.cell? ⟨p0, o0, none⟩ = some v0 ∧ W.cell? ⟨p1, o1, none⟩ = some v1 ∧ W.cell? ⟨p2, o2, none⟩ = some v2 ∧ W.cell? ⟨p3, o3, none⟩ = some v3 ∧ W.cell? ⟨p4, o4, none⟩ = some v4 ∧ W.cell? ⟨p5, o5, none⟩ = some v5 ∧ W.cell? ⟨p6, o6, none⟩ = some v6 ∧ W.cell? ⟨p7, o7, none⟩ = some v7 ∧ W.cell? ⟨p8, o8, none⟩ = some v8 ∧ W.cell? ⟨p9, o9, none⟩ = some v9 ∧ Below w.heap.size w W) (b3 : Below W.heap.size W w3) : w3.cell? ⟨p0, o0, none⟩ = some v0 ∧ w3.cell? ⟨p1, o1, none⟩ = some v1 ∧ w3.cell? ⟨p2, o2, none⟩ = some v2 ∧ w3.cell? ⟨p3, o3, none⟩ = some v3 ∧ w3.cell? ⟨p4, o4, none⟩ = some v4 ∧ w3.cell? ⟨p5, o5, none⟩ = some v5 ∧ w3.cell? ⟨p6, o6, none⟩ = some v6 ∧ w3.cell? ⟨p7, o7, none⟩ = some v7 ∧ w3.cell? ⟨p8, o8, none⟩ = some v8 ∧ w3.cell? ⟨p9, o9, none⟩ = some v9 ∧ Below w.heap.size w w3 := by
  obtain ⟨h0, h1, h2, h3, h4, h5, h6, h7, h8, h9, hb⟩ := h
  exact ⟨(b3.cell (block_lt_of_cell h0)).trans h0, (b3.cell (block_lt_of_cell h1)).trans h1, (b3.cell (block_lt_of_cell h2)).trans h2, (b3.cell (block_lt_of_cell h3)).trans h3, (b3.cell (block_lt_of_cell h4)).trans h4, (b3.cell (block_lt_of_cell h5)).trans h5, (b3.cell (block_lt_of_cell h6)).trans h6, (b3.cell (block_lt_of_cell h7)).trans h7, (b3.cell (block_lt_of_cell h8)).trans h8, (b3.cell (block_lt_of_cell h9)).trans h9, hb.trans (b3.mono hb.size)⟩
theorem blendNew {V w3 : World} {u0 u1 u2 u3 : Value} {T : TypeId} (b3 : Below (V.alloc (Obj.cells #[u0, u1, u2, u3] T)).heap.size (V.alloc (Obj.cells #[u0, u1, u2, u3] T)) w3) : w3.cell? ⟨V.heap.size, 0, none⟩ = some u0 ∧ w3.cell? ⟨V.heap.size, 1, none⟩ = some u1 ∧ w3.cell? ⟨V.heap.size, 2, none⟩ = some u2 ∧ w3.cell? ⟨V.heap.size, 3, none⟩ = some u3 ∧ w3.frozen? ⟨V.heap.size, 0, none⟩ = false ∧ w3.frozen? ⟨V.heap.size, 1, none⟩ = false ∧ w3.frozen? ⟨V.heap.size, 2, none⟩ = false ∧ w3.frozen? ⟨V.heap.size, 3, none⟩ = false ∧ V.heap.size < w3.heap.size := by
  have hl : V.heap.size < (V.alloc (Obj.cells #[u0, u1, u2, u3] T)).heap.size := by simp
  exact ⟨(b3.cell (p := ⟨V.heap.size, 0, none⟩) hl).trans (by simp [go_sem]), (b3.cell (p := ⟨V.heap.size, 1, none⟩) hl).trans (by simp [go_sem]), (b3.cell (p := ⟨V.heap.size, 2, none⟩) hl).trans (by simp [go_sem]), (b3.cell (p := ⟨V.heap.size, 3, none⟩) hl).trans (by simp [go_sem]), (b3.frozen (p := ⟨V.heap.size, 0, none⟩) hl).trans (by simp [go_sem]), (b3.frozen (p := ⟨V.heap.size, 1, none⟩) hl).trans (by simp [go_sem]), (b3.frozen (p := ⟨V.heap.size, 2, none⟩) hl).trans (by simp [go_sem]), (b3.frozen (p := ⟨V.heap.size, 3, none⟩) hl).trans (by simp [go_sem]), Nat.lt_of_lt_of_le hl b3.size⟩
theorem blendNewD {V w3 : World} {u0 u1 u2 u3 : Value} {T : TypeId} (b3 : Below (V.alloc (Obj.cells #[u0, u1, u2, u3] T)).drew.heap.size (V.alloc (Obj.cells #[u0, u1, u2, u3] T)).drew w3) : w3.cell? ⟨V.heap.size, 0, none⟩ = some u0 ∧ w3.cell? ⟨V.heap.size, 1, none⟩ = some u1 ∧ w3.cell? ⟨V.heap.size, 2, none⟩ = some u2 ∧ w3.cell? ⟨V.heap.size, 3, none⟩ = some u3 ∧ w3.frozen? ⟨V.heap.size, 0, none⟩ = false ∧ w3.frozen? ⟨V.heap.size, 1, none⟩ = false ∧ w3.frozen? ⟨V.heap.size, 2, none⟩ = false ∧ w3.frozen? ⟨V.heap.size, 3, none⟩ = false ∧ V.heap.size < w3.heap.size :=
  blendNew (T := T) ((bel0d' 1).trans b3)
theorem blendStill {V w3 : World} {S : Nat} {u0 u1 u2 u3 : Value} (h : V.cell? ⟨S, 0, none⟩ = some u0 ∧ V.cell? ⟨S, 1, none⟩ = some u1 ∧ V.cell? ⟨S, 2, none⟩ = some u2 ∧ V.cell? ⟨S, 3, none⟩ = some u3 ∧ V.frozen? ⟨S, 0, none⟩ = false ∧ V.frozen? ⟨S, 1, none⟩ = false ∧ V.frozen? ⟨S, 2, none⟩ = false ∧ V.frozen? ⟨S, 3, none⟩ = false ∧ S < V.heap.size) (b3 : Below V.heap.size V w3) : w3.cell? ⟨S, 0, none⟩ = some u0 ∧ w3.cell? ⟨S, 1, none⟩ = some u1 ∧ w3.cell? ⟨S, 2, none⟩ = some u2 ∧ w3.cell? ⟨S, 3, none⟩ = some u3 ∧ w3.frozen? ⟨S, 0, none⟩ = false ∧ w3.frozen? ⟨S, 1, none⟩ = false ∧ w3.frozen? ⟨S, 2, none⟩ = false ∧ w3.frozen? ⟨S, 3, none⟩ = false ∧ S < w3.heap.size := by
  obtain ⟨h0, h1, h2, h3, f0, f1, f2, f3, hl⟩ := h
  exact ⟨(b3.cell (p := ⟨S, 0, none⟩) hl).trans h0, (b3.cell (p := ⟨S, 1, none⟩) hl).trans h1, (b3.cell (p := ⟨S, 2, none⟩) hl).trans h2, (b3.cell (p := ⟨S, 3, none⟩) hl).trans h3, (b3.frozen (p := ⟨S, 0, none⟩) hl).trans f0, (b3.frozen (p := ⟨S, 1, none⟩) hl).trans f1, (b3.frozen (p := ⟨S, 2, none⟩) hl).trans f2, (b3.frozen (p := ⟨S, 3, none⟩) hl).trans f3, Nat.lt_of_lt_of_le hl b3.size⟩
theorem blend_al (w : World) : ∀ (W : World) (o : Obj), Below w.heap.size w W → Below w.heap.size w (W.alloc o) := fun _ o h => h.alloc h.size o
theorem blend_dr (w : World) : ∀ W : World, Below w.heap.size w W → Below w.heap.size w W.drew := fun _ h => h.trans ⟨rfl, rfl, rfl, Nat.le_refl _, fun _ _ => rfl⟩
theorem blend_st1 (w : World) : ∀ (W : World) (p o : Nat) (v : Value), w.heap.size ≤ p → Below w.heap.size w W → Below w.heap.size w (W.setCell ⟨p, o, none⟩ v) := fun _ _ _ v hp h => h.setCell hp v
theorem blend_st (w : World) : ∀ (W : World) (p o0 o1 o2 o3 : Nat) (v0 v1 v2 v3 : Value), w.heap.size ≤ p → Below w.heap.size w W → Below w.heap.size w ((((W.setCell ⟨p, o0, none⟩ v0).setCell ⟨p, o1, none⟩ v1).setCell ⟨p, o2, none⟩ v2).setCell ⟨p, o3, none⟩ v3) := fun _ _ _ _ _ _ v0 v1 v2 v3 hp h => ((((h.setCell hp v0).setCell hp v1).setCell hp v2).setCell hp v3)

set_option maxRecDepth 20000 in
set_option maxHeartbeats 8000000 in
theorem lawBlend (dx : Int) (dy : Int) (du : Int) (dv : Int) (px : Int) (py : Int) (part : Int) (w : World) :
    Calls Try.prog 7 #[.agg #[.int .i64 dx, .int .i64 dy, .int .i64 du, .int .i64 dv], .agg #[.int .i64 px, .int .i64 py], .int .i64 part] w fun e w' => e = .returned (.bool true) ∧ Below w.heap.size w w' := by
  have hA := blend_al w
  have hD := blend_dr w
  have hS := blend_st1 w
  have hS4 := blend_st w
  have hq : (blB dx dy du dv px py part != blB dx dy du dv px py part) = false := by simp
  go_enter Try.func7, Try.ntmps7
  go_wp2
  obtain ⟨w1, hw1⟩ : ∃ w1, w1 = ((w.alloc (Obj.cells #[.int .i64 dx, .int .i64 dy, .int .i64 du, .int .i64 dv] 44)).alloc (Obj.cells #[.int .i64 px, .int .i64 py] 23)) := ⟨_, rfl⟩
  rw [← hw1]
  have c0 : w1.cell? ⟨w.heap.size, 0, none⟩ = some (.int .i64 dx) := by rw [hw1]; simp [go_sem]
  have c1 : w1.cell? ⟨w.heap.size, 1, none⟩ = some (.int .i64 dy) := by rw [hw1]; simp [go_sem]
  have c2 : w1.cell? ⟨w.heap.size, 2, none⟩ = some (.int .i64 du) := by rw [hw1]; simp [go_sem]
  have c3 : w1.cell? ⟨w.heap.size, 3, none⟩ = some (.int .i64 dv) := by rw [hw1]; simp [go_sem]
  have c4 : w1.cell? ⟨w.heap.size + 1, 0, none⟩ = some (.int .i64 px) := by rw [hw1]; simp [go_sem]
  have c5 : w1.cell? ⟨w.heap.size + 1, 1, none⟩ = some (.int .i64 py) := by rw [hw1]; simp [go_sem]
  have bb : Below w.heap.size w w1 := by rw [hw1]; exact bel2 _ _
  have z3 := bb.size
  have n0 := World.new_ne w1 _ c0
  have n4 := World.new_ne w1 _ c4
  clear hw1
  go_cut [7, 8] from 11 (fun s7 s8 wc => ∃ S, s7 = .pointer (some ⟨S, 0, none⟩) ∧ s8 = .bool (blB dx dy du dv px py part) ∧ wc.cell? ⟨S, 0, none⟩ = some (.int .i64 (blX dx dy du dv px py part)) ∧ wc.cell? ⟨S, 1, none⟩ = some (.int .i64 (blY dx dy du dv px py part)) ∧ wc.cell? ⟨S, 2, none⟩ = some (.int .i64 (blU dx dy du dv px py part)) ∧ wc.cell? ⟨S, 3, none⟩ = some (.int .i64 (blV dx dy du dv px py part)) ∧ wc.cell? ⟨w.heap.size, 0, none⟩ = some (.int .i64 dx) ∧ wc.cell? ⟨w.heap.size, 1, none⟩ = some (.int .i64 dy) ∧ wc.cell? ⟨w.heap.size, 2, none⟩ = some (.int .i64 du) ∧ wc.cell? ⟨w.heap.size, 3, none⟩ = some (.int .i64 dv) ∧ wc.cell? ⟨w.heap.size + 1, 0, none⟩ = some (.int .i64 px) ∧ wc.cell? ⟨w.heap.size + 1, 1, none⟩ = some (.int .i64 py) ∧ Below w.heap.size w wc)
  case first =>
    go_region_held3 (fun w' => w'.cell? ⟨w.heap.size, 0, none⟩ = some (.int .i64 dx) ∧ w'.cell? ⟨w.heap.size, 1, none⟩ = some (.int .i64 dy) ∧ w'.cell? ⟨w.heap.size, 2, none⟩ = some (.int .i64 du) ∧ w'.cell? ⟨w.heap.size, 3, none⟩ = some (.int .i64 dv) ∧ w'.cell? ⟨w.heap.size + 1, 0, none⟩ = some (.int .i64 px) ∧ w'.cell? ⟨w.heap.size + 1, 1, none⟩ = some (.int .i64 py) ∧ Below w.heap.size w w') (go_keep)
      ((first
        | (go_at_call 23; refine (toDrift_any _ _ _ _ _).mono ?_; rintro e w3 ⟨rfl, b3⟩; have H3 := blendK6 (by assumption) b3; (first | (have hs := blendStill ⟨s0, s1, s2, s3, g0, g1, g2, g3, ls⟩ b3; obtain ⟨s0, s1, s2, s3, g0, g1, g2, g3, ls⟩ := hs) | (have hs := blendNew b3; obtain ⟨s0, s1, s2, s3, g0, g1, g2, g3, ls⟩ := hs) | (have hs := blendNewD b3; obtain ⟨s0, s1, s2, s3, g0, g1, g2, g3, ls⟩ := hs) | skip); obtain ⟨c0, c1, c2, c3, c4, c5, bb⟩ := H3; have z3 := bb.size; have n0 := World.new_ne w3 _ c0; have n4 := World.new_ne w3 _ c4; clear b3)
        | (go_at_call 10; refine (toPlace_any _ _ _).mono ?_; rintro e w3 ⟨rfl, b3⟩; have H3 := blendK6 (by assumption) b3; (first | (have hs := blendStill ⟨s0, s1, s2, s3, g0, g1, g2, g3, ls⟩ b3; obtain ⟨s0, s1, s2, s3, g0, g1, g2, g3, ls⟩ := hs) | (have hs := blendNew b3; obtain ⟨s0, s1, s2, s3, g0, g1, g2, g3, ls⟩ := hs) | (have hs := blendNewD b3; obtain ⟨s0, s1, s2, s3, g0, g1, g2, g3, ls⟩ := hs) | skip); obtain ⟨c0, c1, c2, c3, c4, c5, bb⟩ := H3; have z3 := bb.size; have n0 := World.new_ne w3 _ c0; have n4 := World.new_ne w3 _ c4; clear b3)
        | (go_at_call 28; refine (specBlend_any _ _ _ _ _ _ _ _).mono ?_; rintro e w3 ⟨rfl, b3⟩; have H3 := blendK6 (by assumption) b3; (first | (have hs := blendStill ⟨s0, s1, s2, s3, g0, g1, g2, g3, ls⟩ b3; obtain ⟨s0, s1, s2, s3, g0, g1, g2, g3, ls⟩ := hs) | (have hs := blendNew b3; obtain ⟨s0, s1, s2, s3, g0, g1, g2, g3, ls⟩ := hs) | (have hs := blendNewD b3; obtain ⟨s0, s1, s2, s3, g0, g1, g2, g3, ls⟩ := hs) | skip); obtain ⟨c0, c1, c2, c3, c4, c5, bb⟩ := H3; have z3 := bb.size; have n0 := World.new_ne w3 _ c0; have n4 := World.new_ne w3 _ c4; clear b3)))
    all_goals (
      go_wp2
      go_meet
      case rel => exact ⟨_, rfl, rfl, by simp [go_sem, *], by simp [go_sem, *], by simp [go_sem, *], by simp [go_sem, *], by assumption⟩)
  case rest =>
    obtain ⟨S, rfl, rfl, t0, t1, t2, t3, c0, c1, c2, c3, c4, c5, bb⟩ := hcut
    have z3 := bb.size
    have n0 := World.new_ne wc _ c0
    have n4 := World.new_ne wc _ c4
    have nt := World.new_ne wc _ t0
    go_wp2_with fail
    go_cut [9, 10] from 11 (fun s9 s10 wd => ∃ S2, s9 = .pointer (some ⟨S2, 0, none⟩) ∧ s10 = .bool (blB dx dy du dv px py part) ∧ wd.cell? ⟨S2, 0, none⟩ = some (.int .i64 (blX dx dy du dv px py part)) ∧ wd.cell? ⟨S2, 1, none⟩ = some (.int .i64 (blY dx dy du dv px py part)) ∧ wd.cell? ⟨S2, 2, none⟩ = some (.int .i64 (blU dx dy du dv px py part)) ∧ wd.cell? ⟨S2, 3, none⟩ = some (.int .i64 (blV dx dy du dv px py part)) ∧ wd.cell? ⟨w.heap.size, 0, none⟩ = some (.int .i64 dx) ∧ wd.cell? ⟨w.heap.size, 1, none⟩ = some (.int .i64 dy) ∧ wd.cell? ⟨w.heap.size, 2, none⟩ = some (.int .i64 du) ∧ wd.cell? ⟨w.heap.size, 3, none⟩ = some (.int .i64 dv) ∧ wd.cell? ⟨w.heap.size + 1, 0, none⟩ = some (.int .i64 px) ∧ wd.cell? ⟨w.heap.size + 1, 1, none⟩ = some (.int .i64 py) ∧ wd.cell? ⟨S, 0, none⟩ = some (.int .i64 (blX dx dy du dv px py part)) ∧ wd.cell? ⟨S, 1, none⟩ = some (.int .i64 (blY dx dy du dv px py part)) ∧ wd.cell? ⟨S, 2, none⟩ = some (.int .i64 (blU dx dy du dv px py part)) ∧ wd.cell? ⟨S, 3, none⟩ = some (.int .i64 (blV dx dy du dv px py part)) ∧ Below w.heap.size w wd)
    case first =>
      go_region_held3 (fun w' => w'.cell? ⟨w.heap.size, 0, none⟩ = some (.int .i64 dx) ∧ w'.cell? ⟨w.heap.size, 1, none⟩ = some (.int .i64 dy) ∧ w'.cell? ⟨w.heap.size, 2, none⟩ = some (.int .i64 du) ∧ w'.cell? ⟨w.heap.size, 3, none⟩ = some (.int .i64 dv) ∧ w'.cell? ⟨w.heap.size + 1, 0, none⟩ = some (.int .i64 px) ∧ w'.cell? ⟨w.heap.size + 1, 1, none⟩ = some (.int .i64 py) ∧ w'.cell? ⟨S, 0, none⟩ = some (.int .i64 (blX dx dy du dv px py part)) ∧ w'.cell? ⟨S, 1, none⟩ = some (.int .i64 (blY dx dy du dv px py part)) ∧ w'.cell? ⟨S, 2, none⟩ = some (.int .i64 (blU dx dy du dv px py part)) ∧ w'.cell? ⟨S, 3, none⟩ = some (.int .i64 (blV dx dy du dv px py part)) ∧ Below w.heap.size w w') (go_keep)
        ((first
          | (go_at_call 23; refine (toDrift_any _ _ _ _ _).mono ?_; rintro e w3 ⟨rfl, b3⟩; have H3 := blendK10 (by assumption) b3; (first | (have hs := blendStill ⟨s0, s1, s2, s3, g0, g1, g2, g3, ls⟩ b3; obtain ⟨s0, s1, s2, s3, g0, g1, g2, g3, ls⟩ := hs) | (have hs := blendNew b3; obtain ⟨s0, s1, s2, s3, g0, g1, g2, g3, ls⟩ := hs) | (have hs := blendNewD b3; obtain ⟨s0, s1, s2, s3, g0, g1, g2, g3, ls⟩ := hs) | skip); obtain ⟨c0, c1, c2, c3, c4, c5, t0, t1, t2, t3, bb⟩ := H3; have z3 := bb.size; have n0 := World.new_ne w3 _ c0; have n4 := World.new_ne w3 _ c4; have nt := World.new_ne w3 _ t0; clear b3)
          | (go_at_call 10; refine (toPlace_any _ _ _).mono ?_; rintro e w3 ⟨rfl, b3⟩; have H3 := blendK10 (by assumption) b3; (first | (have hs := blendStill ⟨s0, s1, s2, s3, g0, g1, g2, g3, ls⟩ b3; obtain ⟨s0, s1, s2, s3, g0, g1, g2, g3, ls⟩ := hs) | (have hs := blendNew b3; obtain ⟨s0, s1, s2, s3, g0, g1, g2, g3, ls⟩ := hs) | (have hs := blendNewD b3; obtain ⟨s0, s1, s2, s3, g0, g1, g2, g3, ls⟩ := hs) | skip); obtain ⟨c0, c1, c2, c3, c4, c5, t0, t1, t2, t3, bb⟩ := H3; have z3 := bb.size; have n0 := World.new_ne w3 _ c0; have n4 := World.new_ne w3 _ c4; have nt := World.new_ne w3 _ t0; clear b3)
          | (go_at_call 29; refine (implBlend_any _ _ _ _ _ _ _ _).mono ?_; rintro e w3 ⟨rfl, b3⟩; have H3 := blendK10 (by assumption) b3; (first | (have hs := blendStill ⟨s0, s1, s2, s3, g0, g1, g2, g3, ls⟩ b3; obtain ⟨s0, s1, s2, s3, g0, g1, g2, g3, ls⟩ := hs) | (have hs := blendNew b3; obtain ⟨s0, s1, s2, s3, g0, g1, g2, g3, ls⟩ := hs) | (have hs := blendNewD b3; obtain ⟨s0, s1, s2, s3, g0, g1, g2, g3, ls⟩ := hs) | skip); obtain ⟨c0, c1, c2, c3, c4, c5, t0, t1, t2, t3, bb⟩ := H3; have z3 := bb.size; have n0 := World.new_ne w3 _ c0; have n4 := World.new_ne w3 _ c4; have nt := World.new_ne w3 _ t0; clear b3)))
      all_goals (
        go_wp2
        go_meet
        case rel => exact ⟨_, rfl, rfl, by simp [go_sem, *], by simp [go_sem, *], by simp [go_sem, *], by simp [go_sem, *], by assumption⟩)
    case rest =>
      obtain ⟨S2, rfl, rfl, u0, u1, u2, u3, c0, c1, c2, c3, c4, c5, t0, t1, t2, t3, bb⟩ := hcut
      have BB := hide bb
      clear bb
      go_wp2_with fail
      refine (eqDrift_alike _ _ _ _ _ _ _ _ _ (dtAlike_refl _)).mono ?_
      rintro e w5 ⟨rfl, b5⟩
      have B5 := hide ((unhide BB).trans (b5.mono (unhide BB).size))
      clear b5
      go_wp2
      go_ret
      exact ⟨rfl, unhide B5⟩

end Go.Proofs.Ytidgkkldhnckeat
