/-
  What the next turn of a way to a place answers in the program: the plain answer, at crafts and legs that are so, where the table of steps holds what the program's text says; nothing that was there is written.
-/
import Derived.Test.YtkpmoolggpojdauDoorGyNext
import Derived.LoopN
import Derived.Deep.RegionHeld3
import Derived.Deep.Cut
namespace Go.Proofs.YtkpmoolggpojdauDoor
open Go.RowKit

set_option maxHeartbeats 400000 in
theorem toward_sgn (x : Int) (w : World) (h0 : -3000 ≤ x) (h1 : x ≤ 3000) : Calls Tryd.prog 70 #[.int .i64 0, .int .i64 x, .int .i64 1] w fun e w' => e = .returned (.int .i64 (sgn x)) ∧ w' = w := by
  by_cases a : x < -1
  all_goals
    by_cases b : 1 < x
    all_goals
      go_enter Tryd.func70, Tryd.ntmps70
      go_wp2
      all_goals
        go_ret
        exact ⟨ret_int (by unfold sgn; split <;> (try split) <;> omega), rfl⟩
theorem toward_eq {a x : Int} (w : World) (h : sgn x = a) (h0 : -3000 ≤ x) (h1 : x ≤ 3000) : Calls Tryd.prog 70 #[.int .i64 0, .int .i64 x, .int .i64 1] w fun e w' => e = .returned (.int .i64 a) ∧ w' = w := by subst h; exact toward_sgn x w h0 h1
/-- What lies in the blocks: the craft, the answer, what is nearest. -/
structure PlI (w wr : World) (S : Nat) (a b x y d h c : Int) : Prop where
  cc : Blk wr (w.heap.size + 1) [.int .i64 x, .int .i64 y, .int .i64 d, .int .i64 h, .int .i64 c]
  rr : Blk wr (w.heap.size + 1 + 1) [.int .i64 0, .int .i64 0, .int .i64 0, .int .i64 0, .int .i64 0]
  ss : Blk wr S [.int .i64 a, .int .i64 b]
  bel : Below w.heap.size w wr
theorem PlI.below {w wr w' : World} {S : Nat} {a b x y d h c : Int} (i : PlI w wr S a b x y d h c) (k : Below wr.heap.size wr w') : PlI w w' S a b x y d h c :=
  ⟨i.cc.below k, i.rr.below k, i.ss.below k, i.bel.trans (k.mono i.bel.size)⟩
theorem pl_al (w : World) : ∀ (W : World) (o : Obj), Below w.heap.size w W → Below w.heap.size w (W.alloc o) := fun _ o h => h.alloc h.size o
theorem pl_dr (w : World) : ∀ W : World, Below w.heap.size w W → Below w.heap.size w W.drew := fun _ h => h.trans ⟨rfl, rfl, rfl, Nat.le_refl _, fun _ _ => rfl⟩
theorem pl_st (w : World) : ∀ (W : World) (p o : Nat) (v : Value), w.heap.size ≤ p → Below w.heap.size w W → Below w.heap.size w (W.setCell ⟨p, o, none⟩ v) := fun _ _ _ v hp h => h.setCell hp v
theorem pl_new {w W : World} {T : TypeId} {a b x y d h c : Int} (hC : Blk W (w.heap.size + 1) [.int .i64 x, .int .i64 y, .int .i64 d, .int .i64 h, .int .i64 c]) (hR : Blk W (w.heap.size + 1 + 1) [.int .i64 0, .int .i64 0, .int .i64 0, .int .i64 0, .int .i64 0]) (hB : Below w.heap.size w W) : PlI w (W.alloc (Obj.cells #[.int .i64 a, .int .i64 b] T)).drew W.heap.size a b x y d h c :=
  ⟨(hC.alloc _).below (bel0d 1), (hR.alloc _).below (bel0d 1), (Blk.new [.int .i64 a, .int .i64 b] T).below (bel0d 1), (hB.alloc hB.size _).trans (bel0d' 1)⟩
theorem pl_end {a b d D : Int} {t : Bool} (ha : -1 ≤ a ∧ a ≤ 1) (hb : -1 ≤ b ∧ b ≤ 1) (hn : ∀ j, j < 8 → ¬ (nth stepsL (2 * j) = a ∧ nth stepsL (2 * j + 1) = b)) (hc : (a = 0 ∧ b = 0 ∧ D = d ∧ t = false) ∨ (¬ (a = 0 ∧ b = 0) ∧ dirOf a b = D ∧ t = true)) : D = d ∧ t = false := by
  rcases hc with h | ⟨h, _, _⟩
  · exact ⟨h.2.2.1, h.2.2.2⟩
  · exfalso
    have h0 : ¬ ((0 : Int) = a ∧ (1 : Int) = b) := hn 0 (by decide)
    have h1 : ¬ ((1 : Int) = a ∧ (1 : Int) = b) := hn 1 (by decide)
    have h2 : ¬ ((1 : Int) = a ∧ (0 : Int) = b) := hn 2 (by decide)
    have h3 : ¬ ((1 : Int) = a ∧ (-1 : Int) = b) := hn 3 (by decide)
    have h4 : ¬ ((0 : Int) = a ∧ (-1 : Int) = b) := hn 4 (by decide)
    have h5 : ¬ ((-1 : Int) = a ∧ (-1 : Int) = b) := hn 5 (by decide)
    have h6 : ¬ ((-1 : Int) = a ∧ (0 : Int) = b) := hn 6 (by decide)
    have h7 : ¬ ((-1 : Int) = a ∧ (1 : Int) = b) := hn 7 (by decide)
    omega
theorem pl_hit {u v d D : Int} {t : Bool} (hn : ¬ (u = 0 ∧ v = 0)) (hc : (u = 0 ∧ v = 0 ∧ D = d ∧ t = false) ∨ (¬ (u = 0 ∧ v = 0) ∧ dirOf u v = D ∧ t = true)) : D = dirOf u v ∧ t = true := by
  rcases hc with h | h
  · exact absurd ⟨h.1, h.2.1⟩ hn
  · exact ⟨h.2.1.symm, h.2.2⟩
set_option maxRecDepth 20000 in
set_option maxHeartbeats 1000000 in
theorem toPlace_near {D : Int} {t : Bool} (lx ly x y d h c s a b : Int) (w : World) (g : StG w) (u0 : -500 ≤ lx ∧ lx ≤ 500) (u1 : -500 ≤ ly ∧ ly ≤ 500) (x0 : -1000 ≤ x ∧ x ≤ 1000) (y0 : -1000 ≤ y ∧ y ≤ 1000) (ha : sgn (lx - x) = a) (hb : sgn (ly - y) = b) (hc : (a = 0 ∧ b = 0 ∧ D = d ∧ t = false) ∨ (¬ (a = 0 ∧ b = 0) ∧ dirOf a b = D ∧ t = true)) :
    Calls Tryd.prog 68 #[.agg #[.int .i64 lx, .int .i64 ly], .agg #[.int .i64 x, .int .i64 y, .int .i64 d, .int .i64 h, .int .i64 c], .int .i64 s] w fun e w' => e = .returned (.tuple #[.agg #[.int .i64 x, .int .i64 y, .int .i64 D, .int .i64 h, .int .i64 c], .bool t]) ∧ Below w.heap.size w w' := by
  obtain ⟨u0, u2⟩ := u0
  obtain ⟨u1, u3⟩ := u1
  obtain ⟨x0, x1⟩ := x0
  obtain ⟨y0, y1⟩ := y0
  have G1 := hide (sgn_in (lx - x))
  have G2 := hide (sgn_in (ly - y))
  rw [ha] at G1
  rw [hb] at G2
  have gl := g.lt
  have HG := hide g
  have HC := hide hc
  have HA : Hid (sgn (IntKind.i64.wrap (lx - x)) = a) := hide (by rw [show IntKind.i64.wrap (lx - x) = lx - x by rw [IntKind.wrap_i64]; omega]; exact ha)
  have HB : Hid (sgn (IntKind.i64.wrap (ly - y)) = b) := hide (by rw [show IntKind.i64.wrap (ly - y) = ly - y by rw [IntKind.wrap_i64]; omega]; exact hb)
  have hwa : -3000 ≤ IntKind.i64.wrap (lx - x) ∧ IntKind.i64.wrap (lx - x) ≤ 3000 := by rw [show IntKind.i64.wrap (lx - x) = lx - x by rw [IntKind.wrap_i64]; omega]; omega
  have hwb : -3000 ≤ IntKind.i64.wrap (ly - y) ∧ IntKind.i64.wrap (ly - y) ≤ 3000 := by rw [show IntKind.i64.wrap (ly - y) = ly - y by rw [IntKind.wrap_i64]; omega]; omega
  have HWA := hide hwa
  have HWB := hide hwb
  have hA := pl_al w
  have hD := pl_dr w
  have hS := pl_st w
  clear ha hb hc g hwa hwb
  go_enter Tryd.func68, Tryd.ntmps68
  go_wp2_with fail
  obtain ⟨W, hW⟩ : ∃ W, W = ((w.alloc (Obj.cells #[.int .i64 lx, .int .i64 ly] 75)).alloc (Obj.cells #[.int .i64 x, .int .i64 y, .int .i64 d, .int .i64 h, .int .i64 c] 26)).alloc (Obj.cells #[.int .i64 0, .int .i64 0, .int .i64 0, .int .i64 0, .int .i64 0] 26) := ⟨_, rfl⟩
  rw [← hW]
  have KV : Hid (Blk W w.heap.size [.int .i64 lx, .int .i64 ly]) := hide (by rw [hW]; exact blkAt3_0)
  have KC : Hid (Blk W (w.heap.size + 1) [.int .i64 x, .int .i64 y, .int .i64 d, .int .i64 h, .int .i64 c]) := hide (by rw [hW]; exact blkAt3_1)
  have KR : Hid (Blk W (w.heap.size + 1 + 1) [.int .i64 0, .int .i64 0, .int .i64 0, .int .i64 0, .int .i64 0]) := hide (by rw [hW]; exact blkAt3_2)
  have bb : Below w.heap.size w W := by rw [hW]; exact bel3 _ _ _
  have hz : W.heap.size = w.heap.size + 3 := by rw [hW]; simp
  have B0 := hide bb
  have HZ := hide hz
  clear hW hz
  have q0 : W.cell? ⟨w.heap.size, 0, none⟩ = some (.int .i64 lx) := (unhide KV).c 0 (by simp)
  have q1 : W.cell? ⟨w.heap.size, 1, none⟩ = some (.int .i64 ly) := (unhide KV).c 1 (by simp)
  have q2 : W.cell? ⟨w.heap.size + 1, 0, none⟩ = some (.int .i64 x) := (unhide KC).c 0 (by simp)
  have q3 : W.cell? ⟨w.heap.size + 1, 1, none⟩ = some (.int .i64 y) := (unhide KC).c 1 (by simp)
  have n0 := World.new_ne W _ q0
  have n2 := World.new_ne W _ q2
  have z3 := bb.size
  go_cut [8] from 11 (fun s8 wc => s8 = .pointer (some ⟨W.heap.size, 0, none⟩) ∧ Hid (PlI w wc W.heap.size a b x y d h c))
  case first =>
    go_region_held3 (fun w' => w'.cell? ⟨w.heap.size, 0, none⟩ = some (.int .i64 lx) ∧ w'.cell? ⟨w.heap.size, 1, none⟩ = some (.int .i64 ly) ∧ w'.cell? ⟨w.heap.size + 1, 0, none⟩ = some (.int .i64 x) ∧ w'.cell? ⟨w.heap.size + 1, 1, none⟩ = some (.int .i64 y)) (go_keep)
      ((first
        | (go_at_call 70; (fail_if_success have := M1); refine (toward_eq _ (unhide HA) (unhide HWA).1 (unhide HWA).2).mono ?_; rintro e w' ⟨rfl, hw⟩; subst w'; have M1 := trivial)
        | (go_at_call 70; have := M1; refine (toward_eq _ (unhide HB) (unhide HWB).1 (unhide HWB).2).mono ?_; rintro e w' ⟨rfl, hw⟩; subst w')))
    all_goals (
      go_wp2
      go_meet
      case rel => exact ⟨rfl, hide (pl_new (unhide KC) (unhide KR) (unhide B0))⟩)
  case rest =>
    obtain ⟨rfl, HP⟩ := hcut
    clear q0 q1 q2 q3 n0 n2 z3 bb hA hD hS KV KC KR HA HB HWA HWB
    have g0 : wc.cell? ⟨0, 0, none⟩ = some (.int .i64 0) := ((unhide HP).bel.cell (p := ⟨0, 0, none⟩) gl).trans (unhide HG 0 (by decide))
    have g1 : wc.cell? ⟨0, 1, none⟩ = some (.int .i64 1) := ((unhide HP).bel.cell (p := ⟨0, 1, none⟩) gl).trans (unhide HG 1 (by decide))
    have g2 : wc.cell? ⟨0, 2, none⟩ = some (.int .i64 1) := ((unhide HP).bel.cell (p := ⟨0, 2, none⟩) gl).trans (unhide HG 2 (by decide))
    have g3 : wc.cell? ⟨0, 3, none⟩ = some (.int .i64 1) := ((unhide HP).bel.cell (p := ⟨0, 3, none⟩) gl).trans (unhide HG 3 (by decide))
    have g4 : wc.cell? ⟨0, 4, none⟩ = some (.int .i64 1) := ((unhide HP).bel.cell (p := ⟨0, 4, none⟩) gl).trans (unhide HG 4 (by decide))
    have g5 : wc.cell? ⟨0, 5, none⟩ = some (.int .i64 0) := ((unhide HP).bel.cell (p := ⟨0, 5, none⟩) gl).trans (unhide HG 5 (by decide))
    have g6 : wc.cell? ⟨0, 6, none⟩ = some (.int .i64 1) := ((unhide HP).bel.cell (p := ⟨0, 6, none⟩) gl).trans (unhide HG 6 (by decide))
    have g7 : wc.cell? ⟨0, 7, none⟩ = some (.int .i64 (-1)) := ((unhide HP).bel.cell (p := ⟨0, 7, none⟩) gl).trans (unhide HG 7 (by decide))
    have g8 : wc.cell? ⟨0, 8, none⟩ = some (.int .i64 0) := ((unhide HP).bel.cell (p := ⟨0, 8, none⟩) gl).trans (unhide HG 8 (by decide))
    have g9 : wc.cell? ⟨0, 9, none⟩ = some (.int .i64 (-1)) := ((unhide HP).bel.cell (p := ⟨0, 9, none⟩) gl).trans (unhide HG 9 (by decide))
    have g10 : wc.cell? ⟨0, 10, none⟩ = some (.int .i64 (-1)) := ((unhide HP).bel.cell (p := ⟨0, 10, none⟩) gl).trans (unhide HG 10 (by decide))
    have g11 : wc.cell? ⟨0, 11, none⟩ = some (.int .i64 (-1)) := ((unhide HP).bel.cell (p := ⟨0, 11, none⟩) gl).trans (unhide HG 11 (by decide))
    have g12 : wc.cell? ⟨0, 12, none⟩ = some (.int .i64 (-1)) := ((unhide HP).bel.cell (p := ⟨0, 12, none⟩) gl).trans (unhide HG 12 (by decide))
    have g13 : wc.cell? ⟨0, 13, none⟩ = some (.int .i64 0) := ((unhide HP).bel.cell (p := ⟨0, 13, none⟩) gl).trans (unhide HG 13 (by decide))
    have g14 : wc.cell? ⟨0, 14, none⟩ = some (.int .i64 (-1)) := ((unhide HP).bel.cell (p := ⟨0, 14, none⟩) gl).trans (unhide HG 14 (by decide))
    have g15 : wc.cell? ⟨0, 15, none⟩ = some (.int .i64 1) := ((unhide HP).bel.cell (p := ⟨0, 15, none⟩) gl).trans (unhide HG 15 (by decide))
    go_wp2_with fail
    clear g0 g1 g2 g3 g4 g5 g6 g7 g8 g9 g10 g11 g12 g13 g14 g15
    go_loopw [27] (fun i wr => ∃ k : Int, 0 ≤ k ∧ k ≤ 8 ∧ i = .int .i64 k ∧ Hid (∀ j : Nat, (j : Int) < k → ¬ (nth stepsL (2 * j) = a ∧ nth stepsL (2 * j + 1) = b)) ∧ Hid (PlI w wr W.heap.size a b x y d h c)) (fun i _ => 8 - (intOf i).toNat)
    case atStart => exact ⟨0, by omega, by omega, rfl, hide (fun j hj => by omega), HP⟩
    case round =>
      obtain ⟨k, k0, k8, rfl, HN, HP2⟩ := hrel
      clear HP
      by_cases hlt : k = 8
      · subst hlt
        have e := pl_end (unhide G1) (unhide G2) (fun j hj => unhide HN j (by omega)) (unhide HC)
        obtain ⟨rfl, rfl⟩ := e
        have c0' : wr.cell? ⟨w.heap.size + 1, 0, none⟩ = some (.int .i64 x) := (unhide HP2).cc.c 0 (by simp)
        have r0' : wr.cell? ⟨w.heap.size + 1 + 1, 0, none⟩ = some (.int .i64 0) := (unhide HP2).rr.c 0 (by simp)
        have rf0 : wr.frozen? ⟨w.heap.size + 1 + 1, 0, none⟩ = false := (unhide HP2).rr.f 0 (by simp)
        have c1' : wr.cell? ⟨w.heap.size + 1, 1, none⟩ = some (.int .i64 y) := (unhide HP2).cc.c 1 (by simp)
        have r1' : wr.cell? ⟨w.heap.size + 1 + 1, 1, none⟩ = some (.int .i64 0) := (unhide HP2).rr.c 1 (by simp)
        have rf1 : wr.frozen? ⟨w.heap.size + 1 + 1, 1, none⟩ = false := (unhide HP2).rr.f 1 (by simp)
        have c2' : wr.cell? ⟨w.heap.size + 1, 2, none⟩ = some (.int .i64 D) := (unhide HP2).cc.c 2 (by simp)
        have r2' : wr.cell? ⟨w.heap.size + 1 + 1, 2, none⟩ = some (.int .i64 0) := (unhide HP2).rr.c 2 (by simp)
        have rf2 : wr.frozen? ⟨w.heap.size + 1 + 1, 2, none⟩ = false := (unhide HP2).rr.f 2 (by simp)
        have c3' : wr.cell? ⟨w.heap.size + 1, 3, none⟩ = some (.int .i64 h) := (unhide HP2).cc.c 3 (by simp)
        have r3' : wr.cell? ⟨w.heap.size + 1 + 1, 3, none⟩ = some (.int .i64 0) := (unhide HP2).rr.c 3 (by simp)
        have rf3 : wr.frozen? ⟨w.heap.size + 1 + 1, 3, none⟩ = false := (unhide HP2).rr.f 3 (by simp)
        have c4' : wr.cell? ⟨w.heap.size + 1, 4, none⟩ = some (.int .i64 c) := (unhide HP2).cc.c 4 (by simp)
        have r4' : wr.cell? ⟨w.heap.size + 1 + 1, 4, none⟩ = some (.int .i64 0) := (unhide HP2).rr.c 4 (by simp)
        have rf4 : wr.frozen? ⟨w.heap.size + 1 + 1, 4, none⟩ = false := (unhide HP2).rr.f 4 (by simp)
        go_wp2
        refine bodyPost_ret (v := .tuple #[.agg #[.int .i64 x, .int .i64 y, .int .i64 D, .int .i64 h, .int .i64 c], .bool false]) (by simp [results, Tryd.results68, go_sem, *]) rfl ⟨rfl, ?_⟩
        have k9 := (unhide HP2).bel
        refine Below.setCell ?_ (by simp; try omega) _
        refine Below.setCell ?_ (by simp; try omega) _
        refine Below.setCell ?_ (by simp; try omega) _
        refine Below.setCell ?_ (by simp; try omega) _
        refine Below.setCell ?_ (by simp; try omega) _
        exact k9
      · have k7 : k ≤ 7 := by omega
        clear hlt k8
        rcases eightOf' k0 k7 with rfl | rfl | rfl | rfl | rfl | rfl | rfl | rfl
        · have iK : ∀ w : World, (Instr.index 94 (.agg #[.int .i64 0, .int .i64 1, .int .i64 1, .int .i64 1, .int .i64 1, .int .i64 0, .int .i64 1, .int .i64 (-1), .int .i64 0, .int .i64 (-1), .int .i64 (-1), .int .i64 (-1), .int .i64 (-1), .int .i64 0, .int .i64 (-1), .int .i64 1]) (.int .i64 0)).run Tryd.prog w = .ok (.agg #[.int .i64 0, .int .i64 1]) w := fun _ => by kernel_rfl
          by_cases hu : (0 : Int) = a
          · subst hu
            by_cases hv : (1 : Int) = b
            · subst hv
              have e := pl_hit (by decide) (unhide HC)
              obtain ⟨e1, rfl⟩ := e
              obtain rfl : D = 0 := e1.trans (by decide)
              clear e1
              have K5 := hide ((unhide HP2).below (bel1 (Obj.cells #[.int .i64 0, .int .i64 1] 73)))
              have s0' : (wr.alloc (Obj.cells #[.int .i64 0, .int .i64 1] 73)).cell? ⟨W.heap.size, 0, none⟩ = some (.int .i64 0) := (unhide K5).ss.c 0 (by simp)
              have s1' : (wr.alloc (Obj.cells #[.int .i64 0, .int .i64 1] 73)).cell? ⟨W.heap.size, 1, none⟩ = some (.int .i64 1) := (unhide K5).ss.c 1 (by simp)
              have c0' : (wr.alloc (Obj.cells #[.int .i64 0, .int .i64 1] 73)).cell? ⟨w.heap.size + 1, 0, none⟩ = some (.int .i64 x) := (unhide K5).cc.c 0 (by simp)
              have c1' : (wr.alloc (Obj.cells #[.int .i64 0, .int .i64 1] 73)).cell? ⟨w.heap.size + 1, 1, none⟩ = some (.int .i64 y) := (unhide K5).cc.c 1 (by simp)
              have c2' : (wr.alloc (Obj.cells #[.int .i64 0, .int .i64 1] 73)).cell? ⟨w.heap.size + 1, 2, none⟩ = some (.int .i64 d) := (unhide K5).cc.c 2 (by simp)
              have c3' : (wr.alloc (Obj.cells #[.int .i64 0, .int .i64 1] 73)).cell? ⟨w.heap.size + 1, 3, none⟩ = some (.int .i64 h) := (unhide K5).cc.c 3 (by simp)
              have c4' : (wr.alloc (Obj.cells #[.int .i64 0, .int .i64 1] 73)).cell? ⟨w.heap.size + 1, 4, none⟩ = some (.int .i64 c) := (unhide K5).cc.c 4 (by simp)
              have cf2 : (wr.alloc (Obj.cells #[.int .i64 0, .int .i64 1] 73)).frozen? ⟨w.heap.size + 1, 2, none⟩ = false := (unhide K5).cc.f 2 (by simp)
              have r0' : (wr.alloc (Obj.cells #[.int .i64 0, .int .i64 1] 73)).cell? ⟨w.heap.size + 1 + 1, 0, none⟩ = some (.int .i64 0) := (unhide K5).rr.c 0 (by simp)
              have r1' : (wr.alloc (Obj.cells #[.int .i64 0, .int .i64 1] 73)).cell? ⟨w.heap.size + 1 + 1, 1, none⟩ = some (.int .i64 0) := (unhide K5).rr.c 1 (by simp)
              have r2' : (wr.alloc (Obj.cells #[.int .i64 0, .int .i64 1] 73)).cell? ⟨w.heap.size + 1 + 1, 2, none⟩ = some (.int .i64 0) := (unhide K5).rr.c 2 (by simp)
              have r3' : (wr.alloc (Obj.cells #[.int .i64 0, .int .i64 1] 73)).cell? ⟨w.heap.size + 1 + 1, 3, none⟩ = some (.int .i64 0) := (unhide K5).rr.c 3 (by simp)
              have r4' : (wr.alloc (Obj.cells #[.int .i64 0, .int .i64 1] 73)).cell? ⟨w.heap.size + 1 + 1, 4, none⟩ = some (.int .i64 0) := (unhide K5).rr.c 4 (by simp)
              have rf0 : (wr.alloc (Obj.cells #[.int .i64 0, .int .i64 1] 73)).frozen? ⟨w.heap.size + 1 + 1, 0, none⟩ = false := (unhide K5).rr.f 0 (by simp)
              have rf1 : (wr.alloc (Obj.cells #[.int .i64 0, .int .i64 1] 73)).frozen? ⟨w.heap.size + 1 + 1, 1, none⟩ = false := (unhide K5).rr.f 1 (by simp)
              have rf2 : (wr.alloc (Obj.cells #[.int .i64 0, .int .i64 1] 73)).frozen? ⟨w.heap.size + 1 + 1, 2, none⟩ = false := (unhide K5).rr.f 2 (by simp)
              have rf3 : (wr.alloc (Obj.cells #[.int .i64 0, .int .i64 1] 73)).frozen? ⟨w.heap.size + 1 + 1, 3, none⟩ = false := (unhide K5).rr.f 3 (by simp)
              have rf4 : (wr.alloc (Obj.cells #[.int .i64 0, .int .i64 1] 73)).frozen? ⟨w.heap.size + 1 + 1, 4, none⟩ = false := (unhide K5).rr.f 4 (by simp)
              go_wp2
              refine bodyPost_ret (v := .tuple #[.agg #[.int .i64 x, .int .i64 y, .int .i64 0, .int .i64 h, .int .i64 c], .bool true]) (by simp [results, Tryd.results68, go_sem, *]) rfl ⟨rfl, ?_⟩
              have k9 := (unhide K5).bel
              refine Below.setCell ?_ (by simp; try omega) _
              refine Below.setCell ?_ (by simp; try omega) _
              refine Below.setCell ?_ (by simp; try omega) _
              refine Below.setCell ?_ (by simp; try omega) _
              refine Below.setCell ?_ (by simp; try omega) _
              refine Below.setCell ?_ (by simp; try omega) _
              exact k9
            · have hn : ¬ (1 : Int) = b := hv
              have K5 := hide ((unhide HP2).below (bel1 (Obj.cells #[.int .i64 0, .int .i64 1] 73)))
              have s0' : (wr.alloc (Obj.cells #[.int .i64 0, .int .i64 1] 73)).cell? ⟨W.heap.size, 0, none⟩ = some (.int .i64 0) := (unhide K5).ss.c 0 (by simp)
              have s1' : (wr.alloc (Obj.cells #[.int .i64 0, .int .i64 1] 73)).cell? ⟨W.heap.size, 1, none⟩ = some (.int .i64 b) := (unhide K5).ss.c 1 (by simp)
              go_wp2
              go_roundw
              case rel => exact ⟨1, by omega, by omega, rfl, hide (fun j hj => by
                  by_cases e : j = 0
                  · subst e; exact fun q => hv q.2
                  · exact unhide HN j (by omega)), K5⟩
              case measure => simp [intOf]
          · have hn : ¬ (0 : Int) = a := hu
            have K5 := hide ((unhide HP2).below (bel1 (Obj.cells #[.int .i64 0, .int .i64 1] 73)))
            have s0' : (wr.alloc (Obj.cells #[.int .i64 0, .int .i64 1] 73)).cell? ⟨W.heap.size, 0, none⟩ = some (.int .i64 a) := (unhide K5).ss.c 0 (by simp)
            have s1' : (wr.alloc (Obj.cells #[.int .i64 0, .int .i64 1] 73)).cell? ⟨W.heap.size, 1, none⟩ = some (.int .i64 b) := (unhide K5).ss.c 1 (by simp)
            go_wp2
            go_roundw
            case rel => exact ⟨1, by omega, by omega, rfl, hide (fun j hj => by
                by_cases e : j = 0
                · subst e; exact fun q => hu q.1
                · exact unhide HN j (by omega)), K5⟩
            case measure => simp [intOf]
        · have iK : ∀ w : World, (Instr.index 94 (.agg #[.int .i64 0, .int .i64 1, .int .i64 1, .int .i64 1, .int .i64 1, .int .i64 0, .int .i64 1, .int .i64 (-1), .int .i64 0, .int .i64 (-1), .int .i64 (-1), .int .i64 (-1), .int .i64 (-1), .int .i64 0, .int .i64 (-1), .int .i64 1]) (.int .i64 1)).run Tryd.prog w = .ok (.agg #[.int .i64 1, .int .i64 1]) w := fun _ => by kernel_rfl
          by_cases hu : (1 : Int) = a
          · subst hu
            by_cases hv : (1 : Int) = b
            · subst hv
              have e := pl_hit (by decide) (unhide HC)
              obtain ⟨e1, rfl⟩ := e
              obtain rfl : D = 1 := e1.trans (by decide)
              clear e1
              have K5 := hide ((unhide HP2).below (bel1 (Obj.cells #[.int .i64 1, .int .i64 1] 73)))
              have s0' : (wr.alloc (Obj.cells #[.int .i64 1, .int .i64 1] 73)).cell? ⟨W.heap.size, 0, none⟩ = some (.int .i64 1) := (unhide K5).ss.c 0 (by simp)
              have s1' : (wr.alloc (Obj.cells #[.int .i64 1, .int .i64 1] 73)).cell? ⟨W.heap.size, 1, none⟩ = some (.int .i64 1) := (unhide K5).ss.c 1 (by simp)
              have c0' : (wr.alloc (Obj.cells #[.int .i64 1, .int .i64 1] 73)).cell? ⟨w.heap.size + 1, 0, none⟩ = some (.int .i64 x) := (unhide K5).cc.c 0 (by simp)
              have c1' : (wr.alloc (Obj.cells #[.int .i64 1, .int .i64 1] 73)).cell? ⟨w.heap.size + 1, 1, none⟩ = some (.int .i64 y) := (unhide K5).cc.c 1 (by simp)
              have c2' : (wr.alloc (Obj.cells #[.int .i64 1, .int .i64 1] 73)).cell? ⟨w.heap.size + 1, 2, none⟩ = some (.int .i64 d) := (unhide K5).cc.c 2 (by simp)
              have c3' : (wr.alloc (Obj.cells #[.int .i64 1, .int .i64 1] 73)).cell? ⟨w.heap.size + 1, 3, none⟩ = some (.int .i64 h) := (unhide K5).cc.c 3 (by simp)
              have c4' : (wr.alloc (Obj.cells #[.int .i64 1, .int .i64 1] 73)).cell? ⟨w.heap.size + 1, 4, none⟩ = some (.int .i64 c) := (unhide K5).cc.c 4 (by simp)
              have cf2 : (wr.alloc (Obj.cells #[.int .i64 1, .int .i64 1] 73)).frozen? ⟨w.heap.size + 1, 2, none⟩ = false := (unhide K5).cc.f 2 (by simp)
              have r0' : (wr.alloc (Obj.cells #[.int .i64 1, .int .i64 1] 73)).cell? ⟨w.heap.size + 1 + 1, 0, none⟩ = some (.int .i64 0) := (unhide K5).rr.c 0 (by simp)
              have r1' : (wr.alloc (Obj.cells #[.int .i64 1, .int .i64 1] 73)).cell? ⟨w.heap.size + 1 + 1, 1, none⟩ = some (.int .i64 0) := (unhide K5).rr.c 1 (by simp)
              have r2' : (wr.alloc (Obj.cells #[.int .i64 1, .int .i64 1] 73)).cell? ⟨w.heap.size + 1 + 1, 2, none⟩ = some (.int .i64 0) := (unhide K5).rr.c 2 (by simp)
              have r3' : (wr.alloc (Obj.cells #[.int .i64 1, .int .i64 1] 73)).cell? ⟨w.heap.size + 1 + 1, 3, none⟩ = some (.int .i64 0) := (unhide K5).rr.c 3 (by simp)
              have r4' : (wr.alloc (Obj.cells #[.int .i64 1, .int .i64 1] 73)).cell? ⟨w.heap.size + 1 + 1, 4, none⟩ = some (.int .i64 0) := (unhide K5).rr.c 4 (by simp)
              have rf0 : (wr.alloc (Obj.cells #[.int .i64 1, .int .i64 1] 73)).frozen? ⟨w.heap.size + 1 + 1, 0, none⟩ = false := (unhide K5).rr.f 0 (by simp)
              have rf1 : (wr.alloc (Obj.cells #[.int .i64 1, .int .i64 1] 73)).frozen? ⟨w.heap.size + 1 + 1, 1, none⟩ = false := (unhide K5).rr.f 1 (by simp)
              have rf2 : (wr.alloc (Obj.cells #[.int .i64 1, .int .i64 1] 73)).frozen? ⟨w.heap.size + 1 + 1, 2, none⟩ = false := (unhide K5).rr.f 2 (by simp)
              have rf3 : (wr.alloc (Obj.cells #[.int .i64 1, .int .i64 1] 73)).frozen? ⟨w.heap.size + 1 + 1, 3, none⟩ = false := (unhide K5).rr.f 3 (by simp)
              have rf4 : (wr.alloc (Obj.cells #[.int .i64 1, .int .i64 1] 73)).frozen? ⟨w.heap.size + 1 + 1, 4, none⟩ = false := (unhide K5).rr.f 4 (by simp)
              go_wp2
              refine bodyPost_ret (v := .tuple #[.agg #[.int .i64 x, .int .i64 y, .int .i64 1, .int .i64 h, .int .i64 c], .bool true]) (by simp [results, Tryd.results68, go_sem, *]) rfl ⟨rfl, ?_⟩
              have k9 := (unhide K5).bel
              refine Below.setCell ?_ (by simp; try omega) _
              refine Below.setCell ?_ (by simp; try omega) _
              refine Below.setCell ?_ (by simp; try omega) _
              refine Below.setCell ?_ (by simp; try omega) _
              refine Below.setCell ?_ (by simp; try omega) _
              refine Below.setCell ?_ (by simp; try omega) _
              exact k9
            · have hn : ¬ (1 : Int) = b := hv
              have K5 := hide ((unhide HP2).below (bel1 (Obj.cells #[.int .i64 1, .int .i64 1] 73)))
              have s0' : (wr.alloc (Obj.cells #[.int .i64 1, .int .i64 1] 73)).cell? ⟨W.heap.size, 0, none⟩ = some (.int .i64 1) := (unhide K5).ss.c 0 (by simp)
              have s1' : (wr.alloc (Obj.cells #[.int .i64 1, .int .i64 1] 73)).cell? ⟨W.heap.size, 1, none⟩ = some (.int .i64 b) := (unhide K5).ss.c 1 (by simp)
              go_wp2
              go_roundw
              case rel => exact ⟨2, by omega, by omega, rfl, hide (fun j hj => by
                  by_cases e : j = 1
                  · subst e; exact fun q => hv q.2
                  · exact unhide HN j (by omega)), K5⟩
              case measure => simp [intOf]
          · have hn : ¬ (1 : Int) = a := hu
            have K5 := hide ((unhide HP2).below (bel1 (Obj.cells #[.int .i64 1, .int .i64 1] 73)))
            have s0' : (wr.alloc (Obj.cells #[.int .i64 1, .int .i64 1] 73)).cell? ⟨W.heap.size, 0, none⟩ = some (.int .i64 a) := (unhide K5).ss.c 0 (by simp)
            have s1' : (wr.alloc (Obj.cells #[.int .i64 1, .int .i64 1] 73)).cell? ⟨W.heap.size, 1, none⟩ = some (.int .i64 b) := (unhide K5).ss.c 1 (by simp)
            go_wp2
            go_roundw
            case rel => exact ⟨2, by omega, by omega, rfl, hide (fun j hj => by
                by_cases e : j = 1
                · subst e; exact fun q => hu q.1
                · exact unhide HN j (by omega)), K5⟩
            case measure => simp [intOf]
        · have iK : ∀ w : World, (Instr.index 94 (.agg #[.int .i64 0, .int .i64 1, .int .i64 1, .int .i64 1, .int .i64 1, .int .i64 0, .int .i64 1, .int .i64 (-1), .int .i64 0, .int .i64 (-1), .int .i64 (-1), .int .i64 (-1), .int .i64 (-1), .int .i64 0, .int .i64 (-1), .int .i64 1]) (.int .i64 2)).run Tryd.prog w = .ok (.agg #[.int .i64 1, .int .i64 0]) w := fun _ => by kernel_rfl
          by_cases hu : (1 : Int) = a
          · subst hu
            by_cases hv : (0 : Int) = b
            · subst hv
              have e := pl_hit (by decide) (unhide HC)
              obtain ⟨e1, rfl⟩ := e
              obtain rfl : D = 2 := e1.trans (by decide)
              clear e1
              have K5 := hide ((unhide HP2).below (bel1 (Obj.cells #[.int .i64 1, .int .i64 0] 73)))
              have s0' : (wr.alloc (Obj.cells #[.int .i64 1, .int .i64 0] 73)).cell? ⟨W.heap.size, 0, none⟩ = some (.int .i64 1) := (unhide K5).ss.c 0 (by simp)
              have s1' : (wr.alloc (Obj.cells #[.int .i64 1, .int .i64 0] 73)).cell? ⟨W.heap.size, 1, none⟩ = some (.int .i64 0) := (unhide K5).ss.c 1 (by simp)
              have c0' : (wr.alloc (Obj.cells #[.int .i64 1, .int .i64 0] 73)).cell? ⟨w.heap.size + 1, 0, none⟩ = some (.int .i64 x) := (unhide K5).cc.c 0 (by simp)
              have c1' : (wr.alloc (Obj.cells #[.int .i64 1, .int .i64 0] 73)).cell? ⟨w.heap.size + 1, 1, none⟩ = some (.int .i64 y) := (unhide K5).cc.c 1 (by simp)
              have c2' : (wr.alloc (Obj.cells #[.int .i64 1, .int .i64 0] 73)).cell? ⟨w.heap.size + 1, 2, none⟩ = some (.int .i64 d) := (unhide K5).cc.c 2 (by simp)
              have c3' : (wr.alloc (Obj.cells #[.int .i64 1, .int .i64 0] 73)).cell? ⟨w.heap.size + 1, 3, none⟩ = some (.int .i64 h) := (unhide K5).cc.c 3 (by simp)
              have c4' : (wr.alloc (Obj.cells #[.int .i64 1, .int .i64 0] 73)).cell? ⟨w.heap.size + 1, 4, none⟩ = some (.int .i64 c) := (unhide K5).cc.c 4 (by simp)
              have cf2 : (wr.alloc (Obj.cells #[.int .i64 1, .int .i64 0] 73)).frozen? ⟨w.heap.size + 1, 2, none⟩ = false := (unhide K5).cc.f 2 (by simp)
              have r0' : (wr.alloc (Obj.cells #[.int .i64 1, .int .i64 0] 73)).cell? ⟨w.heap.size + 1 + 1, 0, none⟩ = some (.int .i64 0) := (unhide K5).rr.c 0 (by simp)
              have r1' : (wr.alloc (Obj.cells #[.int .i64 1, .int .i64 0] 73)).cell? ⟨w.heap.size + 1 + 1, 1, none⟩ = some (.int .i64 0) := (unhide K5).rr.c 1 (by simp)
              have r2' : (wr.alloc (Obj.cells #[.int .i64 1, .int .i64 0] 73)).cell? ⟨w.heap.size + 1 + 1, 2, none⟩ = some (.int .i64 0) := (unhide K5).rr.c 2 (by simp)
              have r3' : (wr.alloc (Obj.cells #[.int .i64 1, .int .i64 0] 73)).cell? ⟨w.heap.size + 1 + 1, 3, none⟩ = some (.int .i64 0) := (unhide K5).rr.c 3 (by simp)
              have r4' : (wr.alloc (Obj.cells #[.int .i64 1, .int .i64 0] 73)).cell? ⟨w.heap.size + 1 + 1, 4, none⟩ = some (.int .i64 0) := (unhide K5).rr.c 4 (by simp)
              have rf0 : (wr.alloc (Obj.cells #[.int .i64 1, .int .i64 0] 73)).frozen? ⟨w.heap.size + 1 + 1, 0, none⟩ = false := (unhide K5).rr.f 0 (by simp)
              have rf1 : (wr.alloc (Obj.cells #[.int .i64 1, .int .i64 0] 73)).frozen? ⟨w.heap.size + 1 + 1, 1, none⟩ = false := (unhide K5).rr.f 1 (by simp)
              have rf2 : (wr.alloc (Obj.cells #[.int .i64 1, .int .i64 0] 73)).frozen? ⟨w.heap.size + 1 + 1, 2, none⟩ = false := (unhide K5).rr.f 2 (by simp)
              have rf3 : (wr.alloc (Obj.cells #[.int .i64 1, .int .i64 0] 73)).frozen? ⟨w.heap.size + 1 + 1, 3, none⟩ = false := (unhide K5).rr.f 3 (by simp)
              have rf4 : (wr.alloc (Obj.cells #[.int .i64 1, .int .i64 0] 73)).frozen? ⟨w.heap.size + 1 + 1, 4, none⟩ = false := (unhide K5).rr.f 4 (by simp)
              go_wp2
              refine bodyPost_ret (v := .tuple #[.agg #[.int .i64 x, .int .i64 y, .int .i64 2, .int .i64 h, .int .i64 c], .bool true]) (by simp [results, Tryd.results68, go_sem, *]) rfl ⟨rfl, ?_⟩
              have k9 := (unhide K5).bel
              refine Below.setCell ?_ (by simp; try omega) _
              refine Below.setCell ?_ (by simp; try omega) _
              refine Below.setCell ?_ (by simp; try omega) _
              refine Below.setCell ?_ (by simp; try omega) _
              refine Below.setCell ?_ (by simp; try omega) _
              refine Below.setCell ?_ (by simp; try omega) _
              exact k9
            · have hn : ¬ (0 : Int) = b := hv
              have K5 := hide ((unhide HP2).below (bel1 (Obj.cells #[.int .i64 1, .int .i64 0] 73)))
              have s0' : (wr.alloc (Obj.cells #[.int .i64 1, .int .i64 0] 73)).cell? ⟨W.heap.size, 0, none⟩ = some (.int .i64 1) := (unhide K5).ss.c 0 (by simp)
              have s1' : (wr.alloc (Obj.cells #[.int .i64 1, .int .i64 0] 73)).cell? ⟨W.heap.size, 1, none⟩ = some (.int .i64 b) := (unhide K5).ss.c 1 (by simp)
              go_wp2
              go_roundw
              case rel => exact ⟨3, by omega, by omega, rfl, hide (fun j hj => by
                  by_cases e : j = 2
                  · subst e; exact fun q => hv q.2
                  · exact unhide HN j (by omega)), K5⟩
              case measure => simp [intOf]
          · have hn : ¬ (1 : Int) = a := hu
            have K5 := hide ((unhide HP2).below (bel1 (Obj.cells #[.int .i64 1, .int .i64 0] 73)))
            have s0' : (wr.alloc (Obj.cells #[.int .i64 1, .int .i64 0] 73)).cell? ⟨W.heap.size, 0, none⟩ = some (.int .i64 a) := (unhide K5).ss.c 0 (by simp)
            have s1' : (wr.alloc (Obj.cells #[.int .i64 1, .int .i64 0] 73)).cell? ⟨W.heap.size, 1, none⟩ = some (.int .i64 b) := (unhide K5).ss.c 1 (by simp)
            go_wp2
            go_roundw
            case rel => exact ⟨3, by omega, by omega, rfl, hide (fun j hj => by
                by_cases e : j = 2
                · subst e; exact fun q => hu q.1
                · exact unhide HN j (by omega)), K5⟩
            case measure => simp [intOf]
        · have iK : ∀ w : World, (Instr.index 94 (.agg #[.int .i64 0, .int .i64 1, .int .i64 1, .int .i64 1, .int .i64 1, .int .i64 0, .int .i64 1, .int .i64 (-1), .int .i64 0, .int .i64 (-1), .int .i64 (-1), .int .i64 (-1), .int .i64 (-1), .int .i64 0, .int .i64 (-1), .int .i64 1]) (.int .i64 3)).run Tryd.prog w = .ok (.agg #[.int .i64 1, .int .i64 (-1)]) w := fun _ => by kernel_rfl
          by_cases hu : (1 : Int) = a
          · subst hu
            by_cases hv : (-1 : Int) = b
            · subst hv
              have e := pl_hit (by decide) (unhide HC)
              obtain ⟨e1, rfl⟩ := e
              obtain rfl : D = 3 := e1.trans (by decide)
              clear e1
              have K5 := hide ((unhide HP2).below (bel1 (Obj.cells #[.int .i64 1, .int .i64 (-1)] 73)))
              have s0' : (wr.alloc (Obj.cells #[.int .i64 1, .int .i64 (-1)] 73)).cell? ⟨W.heap.size, 0, none⟩ = some (.int .i64 1) := (unhide K5).ss.c 0 (by simp)
              have s1' : (wr.alloc (Obj.cells #[.int .i64 1, .int .i64 (-1)] 73)).cell? ⟨W.heap.size, 1, none⟩ = some (.int .i64 (-1)) := (unhide K5).ss.c 1 (by simp)
              have c0' : (wr.alloc (Obj.cells #[.int .i64 1, .int .i64 (-1)] 73)).cell? ⟨w.heap.size + 1, 0, none⟩ = some (.int .i64 x) := (unhide K5).cc.c 0 (by simp)
              have c1' : (wr.alloc (Obj.cells #[.int .i64 1, .int .i64 (-1)] 73)).cell? ⟨w.heap.size + 1, 1, none⟩ = some (.int .i64 y) := (unhide K5).cc.c 1 (by simp)
              have c2' : (wr.alloc (Obj.cells #[.int .i64 1, .int .i64 (-1)] 73)).cell? ⟨w.heap.size + 1, 2, none⟩ = some (.int .i64 d) := (unhide K5).cc.c 2 (by simp)
              have c3' : (wr.alloc (Obj.cells #[.int .i64 1, .int .i64 (-1)] 73)).cell? ⟨w.heap.size + 1, 3, none⟩ = some (.int .i64 h) := (unhide K5).cc.c 3 (by simp)
              have c4' : (wr.alloc (Obj.cells #[.int .i64 1, .int .i64 (-1)] 73)).cell? ⟨w.heap.size + 1, 4, none⟩ = some (.int .i64 c) := (unhide K5).cc.c 4 (by simp)
              have cf2 : (wr.alloc (Obj.cells #[.int .i64 1, .int .i64 (-1)] 73)).frozen? ⟨w.heap.size + 1, 2, none⟩ = false := (unhide K5).cc.f 2 (by simp)
              have r0' : (wr.alloc (Obj.cells #[.int .i64 1, .int .i64 (-1)] 73)).cell? ⟨w.heap.size + 1 + 1, 0, none⟩ = some (.int .i64 0) := (unhide K5).rr.c 0 (by simp)
              have r1' : (wr.alloc (Obj.cells #[.int .i64 1, .int .i64 (-1)] 73)).cell? ⟨w.heap.size + 1 + 1, 1, none⟩ = some (.int .i64 0) := (unhide K5).rr.c 1 (by simp)
              have r2' : (wr.alloc (Obj.cells #[.int .i64 1, .int .i64 (-1)] 73)).cell? ⟨w.heap.size + 1 + 1, 2, none⟩ = some (.int .i64 0) := (unhide K5).rr.c 2 (by simp)
              have r3' : (wr.alloc (Obj.cells #[.int .i64 1, .int .i64 (-1)] 73)).cell? ⟨w.heap.size + 1 + 1, 3, none⟩ = some (.int .i64 0) := (unhide K5).rr.c 3 (by simp)
              have r4' : (wr.alloc (Obj.cells #[.int .i64 1, .int .i64 (-1)] 73)).cell? ⟨w.heap.size + 1 + 1, 4, none⟩ = some (.int .i64 0) := (unhide K5).rr.c 4 (by simp)
              have rf0 : (wr.alloc (Obj.cells #[.int .i64 1, .int .i64 (-1)] 73)).frozen? ⟨w.heap.size + 1 + 1, 0, none⟩ = false := (unhide K5).rr.f 0 (by simp)
              have rf1 : (wr.alloc (Obj.cells #[.int .i64 1, .int .i64 (-1)] 73)).frozen? ⟨w.heap.size + 1 + 1, 1, none⟩ = false := (unhide K5).rr.f 1 (by simp)
              have rf2 : (wr.alloc (Obj.cells #[.int .i64 1, .int .i64 (-1)] 73)).frozen? ⟨w.heap.size + 1 + 1, 2, none⟩ = false := (unhide K5).rr.f 2 (by simp)
              have rf3 : (wr.alloc (Obj.cells #[.int .i64 1, .int .i64 (-1)] 73)).frozen? ⟨w.heap.size + 1 + 1, 3, none⟩ = false := (unhide K5).rr.f 3 (by simp)
              have rf4 : (wr.alloc (Obj.cells #[.int .i64 1, .int .i64 (-1)] 73)).frozen? ⟨w.heap.size + 1 + 1, 4, none⟩ = false := (unhide K5).rr.f 4 (by simp)
              go_wp2
              refine bodyPost_ret (v := .tuple #[.agg #[.int .i64 x, .int .i64 y, .int .i64 3, .int .i64 h, .int .i64 c], .bool true]) (by simp [results, Tryd.results68, go_sem, *]) rfl ⟨rfl, ?_⟩
              have k9 := (unhide K5).bel
              refine Below.setCell ?_ (by simp; try omega) _
              refine Below.setCell ?_ (by simp; try omega) _
              refine Below.setCell ?_ (by simp; try omega) _
              refine Below.setCell ?_ (by simp; try omega) _
              refine Below.setCell ?_ (by simp; try omega) _
              refine Below.setCell ?_ (by simp; try omega) _
              exact k9
            · have hn : ¬ (-1 : Int) = b := hv
              have K5 := hide ((unhide HP2).below (bel1 (Obj.cells #[.int .i64 1, .int .i64 (-1)] 73)))
              have s0' : (wr.alloc (Obj.cells #[.int .i64 1, .int .i64 (-1)] 73)).cell? ⟨W.heap.size, 0, none⟩ = some (.int .i64 1) := (unhide K5).ss.c 0 (by simp)
              have s1' : (wr.alloc (Obj.cells #[.int .i64 1, .int .i64 (-1)] 73)).cell? ⟨W.heap.size, 1, none⟩ = some (.int .i64 b) := (unhide K5).ss.c 1 (by simp)
              go_wp2
              go_roundw
              case rel => exact ⟨4, by omega, by omega, rfl, hide (fun j hj => by
                  by_cases e : j = 3
                  · subst e; exact fun q => hv q.2
                  · exact unhide HN j (by omega)), K5⟩
              case measure => simp [intOf]
          · have hn : ¬ (1 : Int) = a := hu
            have K5 := hide ((unhide HP2).below (bel1 (Obj.cells #[.int .i64 1, .int .i64 (-1)] 73)))
            have s0' : (wr.alloc (Obj.cells #[.int .i64 1, .int .i64 (-1)] 73)).cell? ⟨W.heap.size, 0, none⟩ = some (.int .i64 a) := (unhide K5).ss.c 0 (by simp)
            have s1' : (wr.alloc (Obj.cells #[.int .i64 1, .int .i64 (-1)] 73)).cell? ⟨W.heap.size, 1, none⟩ = some (.int .i64 b) := (unhide K5).ss.c 1 (by simp)
            go_wp2
            go_roundw
            case rel => exact ⟨4, by omega, by omega, rfl, hide (fun j hj => by
                by_cases e : j = 3
                · subst e; exact fun q => hu q.1
                · exact unhide HN j (by omega)), K5⟩
            case measure => simp [intOf]
        · have iK : ∀ w : World, (Instr.index 94 (.agg #[.int .i64 0, .int .i64 1, .int .i64 1, .int .i64 1, .int .i64 1, .int .i64 0, .int .i64 1, .int .i64 (-1), .int .i64 0, .int .i64 (-1), .int .i64 (-1), .int .i64 (-1), .int .i64 (-1), .int .i64 0, .int .i64 (-1), .int .i64 1]) (.int .i64 4)).run Tryd.prog w = .ok (.agg #[.int .i64 0, .int .i64 (-1)]) w := fun _ => by kernel_rfl
          by_cases hu : (0 : Int) = a
          · subst hu
            by_cases hv : (-1 : Int) = b
            · subst hv
              have e := pl_hit (by decide) (unhide HC)
              obtain ⟨e1, rfl⟩ := e
              obtain rfl : D = 4 := e1.trans (by decide)
              clear e1
              have K5 := hide ((unhide HP2).below (bel1 (Obj.cells #[.int .i64 0, .int .i64 (-1)] 73)))
              have s0' : (wr.alloc (Obj.cells #[.int .i64 0, .int .i64 (-1)] 73)).cell? ⟨W.heap.size, 0, none⟩ = some (.int .i64 0) := (unhide K5).ss.c 0 (by simp)
              have s1' : (wr.alloc (Obj.cells #[.int .i64 0, .int .i64 (-1)] 73)).cell? ⟨W.heap.size, 1, none⟩ = some (.int .i64 (-1)) := (unhide K5).ss.c 1 (by simp)
              have c0' : (wr.alloc (Obj.cells #[.int .i64 0, .int .i64 (-1)] 73)).cell? ⟨w.heap.size + 1, 0, none⟩ = some (.int .i64 x) := (unhide K5).cc.c 0 (by simp)
              have c1' : (wr.alloc (Obj.cells #[.int .i64 0, .int .i64 (-1)] 73)).cell? ⟨w.heap.size + 1, 1, none⟩ = some (.int .i64 y) := (unhide K5).cc.c 1 (by simp)
              have c2' : (wr.alloc (Obj.cells #[.int .i64 0, .int .i64 (-1)] 73)).cell? ⟨w.heap.size + 1, 2, none⟩ = some (.int .i64 d) := (unhide K5).cc.c 2 (by simp)
              have c3' : (wr.alloc (Obj.cells #[.int .i64 0, .int .i64 (-1)] 73)).cell? ⟨w.heap.size + 1, 3, none⟩ = some (.int .i64 h) := (unhide K5).cc.c 3 (by simp)
              have c4' : (wr.alloc (Obj.cells #[.int .i64 0, .int .i64 (-1)] 73)).cell? ⟨w.heap.size + 1, 4, none⟩ = some (.int .i64 c) := (unhide K5).cc.c 4 (by simp)
              have cf2 : (wr.alloc (Obj.cells #[.int .i64 0, .int .i64 (-1)] 73)).frozen? ⟨w.heap.size + 1, 2, none⟩ = false := (unhide K5).cc.f 2 (by simp)
              have r0' : (wr.alloc (Obj.cells #[.int .i64 0, .int .i64 (-1)] 73)).cell? ⟨w.heap.size + 1 + 1, 0, none⟩ = some (.int .i64 0) := (unhide K5).rr.c 0 (by simp)
              have r1' : (wr.alloc (Obj.cells #[.int .i64 0, .int .i64 (-1)] 73)).cell? ⟨w.heap.size + 1 + 1, 1, none⟩ = some (.int .i64 0) := (unhide K5).rr.c 1 (by simp)
              have r2' : (wr.alloc (Obj.cells #[.int .i64 0, .int .i64 (-1)] 73)).cell? ⟨w.heap.size + 1 + 1, 2, none⟩ = some (.int .i64 0) := (unhide K5).rr.c 2 (by simp)
              have r3' : (wr.alloc (Obj.cells #[.int .i64 0, .int .i64 (-1)] 73)).cell? ⟨w.heap.size + 1 + 1, 3, none⟩ = some (.int .i64 0) := (unhide K5).rr.c 3 (by simp)
              have r4' : (wr.alloc (Obj.cells #[.int .i64 0, .int .i64 (-1)] 73)).cell? ⟨w.heap.size + 1 + 1, 4, none⟩ = some (.int .i64 0) := (unhide K5).rr.c 4 (by simp)
              have rf0 : (wr.alloc (Obj.cells #[.int .i64 0, .int .i64 (-1)] 73)).frozen? ⟨w.heap.size + 1 + 1, 0, none⟩ = false := (unhide K5).rr.f 0 (by simp)
              have rf1 : (wr.alloc (Obj.cells #[.int .i64 0, .int .i64 (-1)] 73)).frozen? ⟨w.heap.size + 1 + 1, 1, none⟩ = false := (unhide K5).rr.f 1 (by simp)
              have rf2 : (wr.alloc (Obj.cells #[.int .i64 0, .int .i64 (-1)] 73)).frozen? ⟨w.heap.size + 1 + 1, 2, none⟩ = false := (unhide K5).rr.f 2 (by simp)
              have rf3 : (wr.alloc (Obj.cells #[.int .i64 0, .int .i64 (-1)] 73)).frozen? ⟨w.heap.size + 1 + 1, 3, none⟩ = false := (unhide K5).rr.f 3 (by simp)
              have rf4 : (wr.alloc (Obj.cells #[.int .i64 0, .int .i64 (-1)] 73)).frozen? ⟨w.heap.size + 1 + 1, 4, none⟩ = false := (unhide K5).rr.f 4 (by simp)
              go_wp2
              refine bodyPost_ret (v := .tuple #[.agg #[.int .i64 x, .int .i64 y, .int .i64 4, .int .i64 h, .int .i64 c], .bool true]) (by simp [results, Tryd.results68, go_sem, *]) rfl ⟨rfl, ?_⟩
              have k9 := (unhide K5).bel
              refine Below.setCell ?_ (by simp; try omega) _
              refine Below.setCell ?_ (by simp; try omega) _
              refine Below.setCell ?_ (by simp; try omega) _
              refine Below.setCell ?_ (by simp; try omega) _
              refine Below.setCell ?_ (by simp; try omega) _
              refine Below.setCell ?_ (by simp; try omega) _
              exact k9
            · have hn : ¬ (-1 : Int) = b := hv
              have K5 := hide ((unhide HP2).below (bel1 (Obj.cells #[.int .i64 0, .int .i64 (-1)] 73)))
              have s0' : (wr.alloc (Obj.cells #[.int .i64 0, .int .i64 (-1)] 73)).cell? ⟨W.heap.size, 0, none⟩ = some (.int .i64 0) := (unhide K5).ss.c 0 (by simp)
              have s1' : (wr.alloc (Obj.cells #[.int .i64 0, .int .i64 (-1)] 73)).cell? ⟨W.heap.size, 1, none⟩ = some (.int .i64 b) := (unhide K5).ss.c 1 (by simp)
              go_wp2
              go_roundw
              case rel => exact ⟨5, by omega, by omega, rfl, hide (fun j hj => by
                  by_cases e : j = 4
                  · subst e; exact fun q => hv q.2
                  · exact unhide HN j (by omega)), K5⟩
              case measure => simp [intOf]
          · have hn : ¬ (0 : Int) = a := hu
            have K5 := hide ((unhide HP2).below (bel1 (Obj.cells #[.int .i64 0, .int .i64 (-1)] 73)))
            have s0' : (wr.alloc (Obj.cells #[.int .i64 0, .int .i64 (-1)] 73)).cell? ⟨W.heap.size, 0, none⟩ = some (.int .i64 a) := (unhide K5).ss.c 0 (by simp)
            have s1' : (wr.alloc (Obj.cells #[.int .i64 0, .int .i64 (-1)] 73)).cell? ⟨W.heap.size, 1, none⟩ = some (.int .i64 b) := (unhide K5).ss.c 1 (by simp)
            go_wp2
            go_roundw
            case rel => exact ⟨5, by omega, by omega, rfl, hide (fun j hj => by
                by_cases e : j = 4
                · subst e; exact fun q => hu q.1
                · exact unhide HN j (by omega)), K5⟩
            case measure => simp [intOf]
        · have iK : ∀ w : World, (Instr.index 94 (.agg #[.int .i64 0, .int .i64 1, .int .i64 1, .int .i64 1, .int .i64 1, .int .i64 0, .int .i64 1, .int .i64 (-1), .int .i64 0, .int .i64 (-1), .int .i64 (-1), .int .i64 (-1), .int .i64 (-1), .int .i64 0, .int .i64 (-1), .int .i64 1]) (.int .i64 5)).run Tryd.prog w = .ok (.agg #[.int .i64 (-1), .int .i64 (-1)]) w := fun _ => by kernel_rfl
          by_cases hu : (-1 : Int) = a
          · subst hu
            by_cases hv : (-1 : Int) = b
            · subst hv
              have e := pl_hit (by decide) (unhide HC)
              obtain ⟨e1, rfl⟩ := e
              obtain rfl : D = 5 := e1.trans (by decide)
              clear e1
              have K5 := hide ((unhide HP2).below (bel1 (Obj.cells #[.int .i64 (-1), .int .i64 (-1)] 73)))
              have s0' : (wr.alloc (Obj.cells #[.int .i64 (-1), .int .i64 (-1)] 73)).cell? ⟨W.heap.size, 0, none⟩ = some (.int .i64 (-1)) := (unhide K5).ss.c 0 (by simp)
              have s1' : (wr.alloc (Obj.cells #[.int .i64 (-1), .int .i64 (-1)] 73)).cell? ⟨W.heap.size, 1, none⟩ = some (.int .i64 (-1)) := (unhide K5).ss.c 1 (by simp)
              have c0' : (wr.alloc (Obj.cells #[.int .i64 (-1), .int .i64 (-1)] 73)).cell? ⟨w.heap.size + 1, 0, none⟩ = some (.int .i64 x) := (unhide K5).cc.c 0 (by simp)
              have c1' : (wr.alloc (Obj.cells #[.int .i64 (-1), .int .i64 (-1)] 73)).cell? ⟨w.heap.size + 1, 1, none⟩ = some (.int .i64 y) := (unhide K5).cc.c 1 (by simp)
              have c2' : (wr.alloc (Obj.cells #[.int .i64 (-1), .int .i64 (-1)] 73)).cell? ⟨w.heap.size + 1, 2, none⟩ = some (.int .i64 d) := (unhide K5).cc.c 2 (by simp)
              have c3' : (wr.alloc (Obj.cells #[.int .i64 (-1), .int .i64 (-1)] 73)).cell? ⟨w.heap.size + 1, 3, none⟩ = some (.int .i64 h) := (unhide K5).cc.c 3 (by simp)
              have c4' : (wr.alloc (Obj.cells #[.int .i64 (-1), .int .i64 (-1)] 73)).cell? ⟨w.heap.size + 1, 4, none⟩ = some (.int .i64 c) := (unhide K5).cc.c 4 (by simp)
              have cf2 : (wr.alloc (Obj.cells #[.int .i64 (-1), .int .i64 (-1)] 73)).frozen? ⟨w.heap.size + 1, 2, none⟩ = false := (unhide K5).cc.f 2 (by simp)
              have r0' : (wr.alloc (Obj.cells #[.int .i64 (-1), .int .i64 (-1)] 73)).cell? ⟨w.heap.size + 1 + 1, 0, none⟩ = some (.int .i64 0) := (unhide K5).rr.c 0 (by simp)
              have r1' : (wr.alloc (Obj.cells #[.int .i64 (-1), .int .i64 (-1)] 73)).cell? ⟨w.heap.size + 1 + 1, 1, none⟩ = some (.int .i64 0) := (unhide K5).rr.c 1 (by simp)
              have r2' : (wr.alloc (Obj.cells #[.int .i64 (-1), .int .i64 (-1)] 73)).cell? ⟨w.heap.size + 1 + 1, 2, none⟩ = some (.int .i64 0) := (unhide K5).rr.c 2 (by simp)
              have r3' : (wr.alloc (Obj.cells #[.int .i64 (-1), .int .i64 (-1)] 73)).cell? ⟨w.heap.size + 1 + 1, 3, none⟩ = some (.int .i64 0) := (unhide K5).rr.c 3 (by simp)
              have r4' : (wr.alloc (Obj.cells #[.int .i64 (-1), .int .i64 (-1)] 73)).cell? ⟨w.heap.size + 1 + 1, 4, none⟩ = some (.int .i64 0) := (unhide K5).rr.c 4 (by simp)
              have rf0 : (wr.alloc (Obj.cells #[.int .i64 (-1), .int .i64 (-1)] 73)).frozen? ⟨w.heap.size + 1 + 1, 0, none⟩ = false := (unhide K5).rr.f 0 (by simp)
              have rf1 : (wr.alloc (Obj.cells #[.int .i64 (-1), .int .i64 (-1)] 73)).frozen? ⟨w.heap.size + 1 + 1, 1, none⟩ = false := (unhide K5).rr.f 1 (by simp)
              have rf2 : (wr.alloc (Obj.cells #[.int .i64 (-1), .int .i64 (-1)] 73)).frozen? ⟨w.heap.size + 1 + 1, 2, none⟩ = false := (unhide K5).rr.f 2 (by simp)
              have rf3 : (wr.alloc (Obj.cells #[.int .i64 (-1), .int .i64 (-1)] 73)).frozen? ⟨w.heap.size + 1 + 1, 3, none⟩ = false := (unhide K5).rr.f 3 (by simp)
              have rf4 : (wr.alloc (Obj.cells #[.int .i64 (-1), .int .i64 (-1)] 73)).frozen? ⟨w.heap.size + 1 + 1, 4, none⟩ = false := (unhide K5).rr.f 4 (by simp)
              go_wp2
              refine bodyPost_ret (v := .tuple #[.agg #[.int .i64 x, .int .i64 y, .int .i64 5, .int .i64 h, .int .i64 c], .bool true]) (by simp [results, Tryd.results68, go_sem, *]) rfl ⟨rfl, ?_⟩
              have k9 := (unhide K5).bel
              refine Below.setCell ?_ (by simp; try omega) _
              refine Below.setCell ?_ (by simp; try omega) _
              refine Below.setCell ?_ (by simp; try omega) _
              refine Below.setCell ?_ (by simp; try omega) _
              refine Below.setCell ?_ (by simp; try omega) _
              refine Below.setCell ?_ (by simp; try omega) _
              exact k9
            · have hn : ¬ (-1 : Int) = b := hv
              have K5 := hide ((unhide HP2).below (bel1 (Obj.cells #[.int .i64 (-1), .int .i64 (-1)] 73)))
              have s0' : (wr.alloc (Obj.cells #[.int .i64 (-1), .int .i64 (-1)] 73)).cell? ⟨W.heap.size, 0, none⟩ = some (.int .i64 (-1)) := (unhide K5).ss.c 0 (by simp)
              have s1' : (wr.alloc (Obj.cells #[.int .i64 (-1), .int .i64 (-1)] 73)).cell? ⟨W.heap.size, 1, none⟩ = some (.int .i64 b) := (unhide K5).ss.c 1 (by simp)
              go_wp2
              go_roundw
              case rel => exact ⟨6, by omega, by omega, rfl, hide (fun j hj => by
                  by_cases e : j = 5
                  · subst e; exact fun q => hv q.2
                  · exact unhide HN j (by omega)), K5⟩
              case measure => simp [intOf]
          · have hn : ¬ (-1 : Int) = a := hu
            have K5 := hide ((unhide HP2).below (bel1 (Obj.cells #[.int .i64 (-1), .int .i64 (-1)] 73)))
            have s0' : (wr.alloc (Obj.cells #[.int .i64 (-1), .int .i64 (-1)] 73)).cell? ⟨W.heap.size, 0, none⟩ = some (.int .i64 a) := (unhide K5).ss.c 0 (by simp)
            have s1' : (wr.alloc (Obj.cells #[.int .i64 (-1), .int .i64 (-1)] 73)).cell? ⟨W.heap.size, 1, none⟩ = some (.int .i64 b) := (unhide K5).ss.c 1 (by simp)
            go_wp2
            go_roundw
            case rel => exact ⟨6, by omega, by omega, rfl, hide (fun j hj => by
                by_cases e : j = 5
                · subst e; exact fun q => hu q.1
                · exact unhide HN j (by omega)), K5⟩
            case measure => simp [intOf]
        · have iK : ∀ w : World, (Instr.index 94 (.agg #[.int .i64 0, .int .i64 1, .int .i64 1, .int .i64 1, .int .i64 1, .int .i64 0, .int .i64 1, .int .i64 (-1), .int .i64 0, .int .i64 (-1), .int .i64 (-1), .int .i64 (-1), .int .i64 (-1), .int .i64 0, .int .i64 (-1), .int .i64 1]) (.int .i64 6)).run Tryd.prog w = .ok (.agg #[.int .i64 (-1), .int .i64 0]) w := fun _ => by kernel_rfl
          by_cases hu : (-1 : Int) = a
          · subst hu
            by_cases hv : (0 : Int) = b
            · subst hv
              have e := pl_hit (by decide) (unhide HC)
              obtain ⟨e1, rfl⟩ := e
              obtain rfl : D = 6 := e1.trans (by decide)
              clear e1
              have K5 := hide ((unhide HP2).below (bel1 (Obj.cells #[.int .i64 (-1), .int .i64 0] 73)))
              have s0' : (wr.alloc (Obj.cells #[.int .i64 (-1), .int .i64 0] 73)).cell? ⟨W.heap.size, 0, none⟩ = some (.int .i64 (-1)) := (unhide K5).ss.c 0 (by simp)
              have s1' : (wr.alloc (Obj.cells #[.int .i64 (-1), .int .i64 0] 73)).cell? ⟨W.heap.size, 1, none⟩ = some (.int .i64 0) := (unhide K5).ss.c 1 (by simp)
              have c0' : (wr.alloc (Obj.cells #[.int .i64 (-1), .int .i64 0] 73)).cell? ⟨w.heap.size + 1, 0, none⟩ = some (.int .i64 x) := (unhide K5).cc.c 0 (by simp)
              have c1' : (wr.alloc (Obj.cells #[.int .i64 (-1), .int .i64 0] 73)).cell? ⟨w.heap.size + 1, 1, none⟩ = some (.int .i64 y) := (unhide K5).cc.c 1 (by simp)
              have c2' : (wr.alloc (Obj.cells #[.int .i64 (-1), .int .i64 0] 73)).cell? ⟨w.heap.size + 1, 2, none⟩ = some (.int .i64 d) := (unhide K5).cc.c 2 (by simp)
              have c3' : (wr.alloc (Obj.cells #[.int .i64 (-1), .int .i64 0] 73)).cell? ⟨w.heap.size + 1, 3, none⟩ = some (.int .i64 h) := (unhide K5).cc.c 3 (by simp)
              have c4' : (wr.alloc (Obj.cells #[.int .i64 (-1), .int .i64 0] 73)).cell? ⟨w.heap.size + 1, 4, none⟩ = some (.int .i64 c) := (unhide K5).cc.c 4 (by simp)
              have cf2 : (wr.alloc (Obj.cells #[.int .i64 (-1), .int .i64 0] 73)).frozen? ⟨w.heap.size + 1, 2, none⟩ = false := (unhide K5).cc.f 2 (by simp)
              have r0' : (wr.alloc (Obj.cells #[.int .i64 (-1), .int .i64 0] 73)).cell? ⟨w.heap.size + 1 + 1, 0, none⟩ = some (.int .i64 0) := (unhide K5).rr.c 0 (by simp)
              have r1' : (wr.alloc (Obj.cells #[.int .i64 (-1), .int .i64 0] 73)).cell? ⟨w.heap.size + 1 + 1, 1, none⟩ = some (.int .i64 0) := (unhide K5).rr.c 1 (by simp)
              have r2' : (wr.alloc (Obj.cells #[.int .i64 (-1), .int .i64 0] 73)).cell? ⟨w.heap.size + 1 + 1, 2, none⟩ = some (.int .i64 0) := (unhide K5).rr.c 2 (by simp)
              have r3' : (wr.alloc (Obj.cells #[.int .i64 (-1), .int .i64 0] 73)).cell? ⟨w.heap.size + 1 + 1, 3, none⟩ = some (.int .i64 0) := (unhide K5).rr.c 3 (by simp)
              have r4' : (wr.alloc (Obj.cells #[.int .i64 (-1), .int .i64 0] 73)).cell? ⟨w.heap.size + 1 + 1, 4, none⟩ = some (.int .i64 0) := (unhide K5).rr.c 4 (by simp)
              have rf0 : (wr.alloc (Obj.cells #[.int .i64 (-1), .int .i64 0] 73)).frozen? ⟨w.heap.size + 1 + 1, 0, none⟩ = false := (unhide K5).rr.f 0 (by simp)
              have rf1 : (wr.alloc (Obj.cells #[.int .i64 (-1), .int .i64 0] 73)).frozen? ⟨w.heap.size + 1 + 1, 1, none⟩ = false := (unhide K5).rr.f 1 (by simp)
              have rf2 : (wr.alloc (Obj.cells #[.int .i64 (-1), .int .i64 0] 73)).frozen? ⟨w.heap.size + 1 + 1, 2, none⟩ = false := (unhide K5).rr.f 2 (by simp)
              have rf3 : (wr.alloc (Obj.cells #[.int .i64 (-1), .int .i64 0] 73)).frozen? ⟨w.heap.size + 1 + 1, 3, none⟩ = false := (unhide K5).rr.f 3 (by simp)
              have rf4 : (wr.alloc (Obj.cells #[.int .i64 (-1), .int .i64 0] 73)).frozen? ⟨w.heap.size + 1 + 1, 4, none⟩ = false := (unhide K5).rr.f 4 (by simp)
              go_wp2
              refine bodyPost_ret (v := .tuple #[.agg #[.int .i64 x, .int .i64 y, .int .i64 6, .int .i64 h, .int .i64 c], .bool true]) (by simp [results, Tryd.results68, go_sem, *]) rfl ⟨rfl, ?_⟩
              have k9 := (unhide K5).bel
              refine Below.setCell ?_ (by simp; try omega) _
              refine Below.setCell ?_ (by simp; try omega) _
              refine Below.setCell ?_ (by simp; try omega) _
              refine Below.setCell ?_ (by simp; try omega) _
              refine Below.setCell ?_ (by simp; try omega) _
              refine Below.setCell ?_ (by simp; try omega) _
              exact k9
            · have hn : ¬ (0 : Int) = b := hv
              have K5 := hide ((unhide HP2).below (bel1 (Obj.cells #[.int .i64 (-1), .int .i64 0] 73)))
              have s0' : (wr.alloc (Obj.cells #[.int .i64 (-1), .int .i64 0] 73)).cell? ⟨W.heap.size, 0, none⟩ = some (.int .i64 (-1)) := (unhide K5).ss.c 0 (by simp)
              have s1' : (wr.alloc (Obj.cells #[.int .i64 (-1), .int .i64 0] 73)).cell? ⟨W.heap.size, 1, none⟩ = some (.int .i64 b) := (unhide K5).ss.c 1 (by simp)
              go_wp2
              go_roundw
              case rel => exact ⟨7, by omega, by omega, rfl, hide (fun j hj => by
                  by_cases e : j = 6
                  · subst e; exact fun q => hv q.2
                  · exact unhide HN j (by omega)), K5⟩
              case measure => simp [intOf]
          · have hn : ¬ (-1 : Int) = a := hu
            have K5 := hide ((unhide HP2).below (bel1 (Obj.cells #[.int .i64 (-1), .int .i64 0] 73)))
            have s0' : (wr.alloc (Obj.cells #[.int .i64 (-1), .int .i64 0] 73)).cell? ⟨W.heap.size, 0, none⟩ = some (.int .i64 a) := (unhide K5).ss.c 0 (by simp)
            have s1' : (wr.alloc (Obj.cells #[.int .i64 (-1), .int .i64 0] 73)).cell? ⟨W.heap.size, 1, none⟩ = some (.int .i64 b) := (unhide K5).ss.c 1 (by simp)
            go_wp2
            go_roundw
            case rel => exact ⟨7, by omega, by omega, rfl, hide (fun j hj => by
                by_cases e : j = 6
                · subst e; exact fun q => hu q.1
                · exact unhide HN j (by omega)), K5⟩
            case measure => simp [intOf]
        · have iK : ∀ w : World, (Instr.index 94 (.agg #[.int .i64 0, .int .i64 1, .int .i64 1, .int .i64 1, .int .i64 1, .int .i64 0, .int .i64 1, .int .i64 (-1), .int .i64 0, .int .i64 (-1), .int .i64 (-1), .int .i64 (-1), .int .i64 (-1), .int .i64 0, .int .i64 (-1), .int .i64 1]) (.int .i64 7)).run Tryd.prog w = .ok (.agg #[.int .i64 (-1), .int .i64 1]) w := fun _ => by kernel_rfl
          by_cases hu : (-1 : Int) = a
          · subst hu
            by_cases hv : (1 : Int) = b
            · subst hv
              have e := pl_hit (by decide) (unhide HC)
              obtain ⟨e1, rfl⟩ := e
              obtain rfl : D = 7 := e1.trans (by decide)
              clear e1
              have K5 := hide ((unhide HP2).below (bel1 (Obj.cells #[.int .i64 (-1), .int .i64 1] 73)))
              have s0' : (wr.alloc (Obj.cells #[.int .i64 (-1), .int .i64 1] 73)).cell? ⟨W.heap.size, 0, none⟩ = some (.int .i64 (-1)) := (unhide K5).ss.c 0 (by simp)
              have s1' : (wr.alloc (Obj.cells #[.int .i64 (-1), .int .i64 1] 73)).cell? ⟨W.heap.size, 1, none⟩ = some (.int .i64 1) := (unhide K5).ss.c 1 (by simp)
              have c0' : (wr.alloc (Obj.cells #[.int .i64 (-1), .int .i64 1] 73)).cell? ⟨w.heap.size + 1, 0, none⟩ = some (.int .i64 x) := (unhide K5).cc.c 0 (by simp)
              have c1' : (wr.alloc (Obj.cells #[.int .i64 (-1), .int .i64 1] 73)).cell? ⟨w.heap.size + 1, 1, none⟩ = some (.int .i64 y) := (unhide K5).cc.c 1 (by simp)
              have c2' : (wr.alloc (Obj.cells #[.int .i64 (-1), .int .i64 1] 73)).cell? ⟨w.heap.size + 1, 2, none⟩ = some (.int .i64 d) := (unhide K5).cc.c 2 (by simp)
              have c3' : (wr.alloc (Obj.cells #[.int .i64 (-1), .int .i64 1] 73)).cell? ⟨w.heap.size + 1, 3, none⟩ = some (.int .i64 h) := (unhide K5).cc.c 3 (by simp)
              have c4' : (wr.alloc (Obj.cells #[.int .i64 (-1), .int .i64 1] 73)).cell? ⟨w.heap.size + 1, 4, none⟩ = some (.int .i64 c) := (unhide K5).cc.c 4 (by simp)
              have cf2 : (wr.alloc (Obj.cells #[.int .i64 (-1), .int .i64 1] 73)).frozen? ⟨w.heap.size + 1, 2, none⟩ = false := (unhide K5).cc.f 2 (by simp)
              have r0' : (wr.alloc (Obj.cells #[.int .i64 (-1), .int .i64 1] 73)).cell? ⟨w.heap.size + 1 + 1, 0, none⟩ = some (.int .i64 0) := (unhide K5).rr.c 0 (by simp)
              have r1' : (wr.alloc (Obj.cells #[.int .i64 (-1), .int .i64 1] 73)).cell? ⟨w.heap.size + 1 + 1, 1, none⟩ = some (.int .i64 0) := (unhide K5).rr.c 1 (by simp)
              have r2' : (wr.alloc (Obj.cells #[.int .i64 (-1), .int .i64 1] 73)).cell? ⟨w.heap.size + 1 + 1, 2, none⟩ = some (.int .i64 0) := (unhide K5).rr.c 2 (by simp)
              have r3' : (wr.alloc (Obj.cells #[.int .i64 (-1), .int .i64 1] 73)).cell? ⟨w.heap.size + 1 + 1, 3, none⟩ = some (.int .i64 0) := (unhide K5).rr.c 3 (by simp)
              have r4' : (wr.alloc (Obj.cells #[.int .i64 (-1), .int .i64 1] 73)).cell? ⟨w.heap.size + 1 + 1, 4, none⟩ = some (.int .i64 0) := (unhide K5).rr.c 4 (by simp)
              have rf0 : (wr.alloc (Obj.cells #[.int .i64 (-1), .int .i64 1] 73)).frozen? ⟨w.heap.size + 1 + 1, 0, none⟩ = false := (unhide K5).rr.f 0 (by simp)
              have rf1 : (wr.alloc (Obj.cells #[.int .i64 (-1), .int .i64 1] 73)).frozen? ⟨w.heap.size + 1 + 1, 1, none⟩ = false := (unhide K5).rr.f 1 (by simp)
              have rf2 : (wr.alloc (Obj.cells #[.int .i64 (-1), .int .i64 1] 73)).frozen? ⟨w.heap.size + 1 + 1, 2, none⟩ = false := (unhide K5).rr.f 2 (by simp)
              have rf3 : (wr.alloc (Obj.cells #[.int .i64 (-1), .int .i64 1] 73)).frozen? ⟨w.heap.size + 1 + 1, 3, none⟩ = false := (unhide K5).rr.f 3 (by simp)
              have rf4 : (wr.alloc (Obj.cells #[.int .i64 (-1), .int .i64 1] 73)).frozen? ⟨w.heap.size + 1 + 1, 4, none⟩ = false := (unhide K5).rr.f 4 (by simp)
              go_wp2
              refine bodyPost_ret (v := .tuple #[.agg #[.int .i64 x, .int .i64 y, .int .i64 7, .int .i64 h, .int .i64 c], .bool true]) (by simp [results, Tryd.results68, go_sem, *]) rfl ⟨rfl, ?_⟩
              have k9 := (unhide K5).bel
              refine Below.setCell ?_ (by simp; try omega) _
              refine Below.setCell ?_ (by simp; try omega) _
              refine Below.setCell ?_ (by simp; try omega) _
              refine Below.setCell ?_ (by simp; try omega) _
              refine Below.setCell ?_ (by simp; try omega) _
              refine Below.setCell ?_ (by simp; try omega) _
              exact k9
            · have hn : ¬ (1 : Int) = b := hv
              have K5 := hide ((unhide HP2).below (bel1 (Obj.cells #[.int .i64 (-1), .int .i64 1] 73)))
              have s0' : (wr.alloc (Obj.cells #[.int .i64 (-1), .int .i64 1] 73)).cell? ⟨W.heap.size, 0, none⟩ = some (.int .i64 (-1)) := (unhide K5).ss.c 0 (by simp)
              have s1' : (wr.alloc (Obj.cells #[.int .i64 (-1), .int .i64 1] 73)).cell? ⟨W.heap.size, 1, none⟩ = some (.int .i64 b) := (unhide K5).ss.c 1 (by simp)
              go_wp2
              go_roundw
              case rel => exact ⟨8, by omega, by omega, rfl, hide (fun j hj => by
                  by_cases e : j = 7
                  · subst e; exact fun q => hv q.2
                  · exact unhide HN j (by omega)), K5⟩
              case measure => simp [intOf]
          · have hn : ¬ (-1 : Int) = a := hu
            have K5 := hide ((unhide HP2).below (bel1 (Obj.cells #[.int .i64 (-1), .int .i64 1] 73)))
            have s0' : (wr.alloc (Obj.cells #[.int .i64 (-1), .int .i64 1] 73)).cell? ⟨W.heap.size, 0, none⟩ = some (.int .i64 a) := (unhide K5).ss.c 0 (by simp)
            have s1' : (wr.alloc (Obj.cells #[.int .i64 (-1), .int .i64 1] 73)).cell? ⟨W.heap.size, 1, none⟩ = some (.int .i64 b) := (unhide K5).ss.c 1 (by simp)
            go_wp2
            go_roundw
            case rel => exact ⟨8, by omega, by omega, rfl, hide (fun j hj => by
                by_cases e : j = 7
                · subst e; exact fun q => hu q.1
                · exact unhide HN j (by omega)), K5⟩
            case measure => simp [intOf]

end Go.Proofs.YtkpmoolggpojdauDoor
