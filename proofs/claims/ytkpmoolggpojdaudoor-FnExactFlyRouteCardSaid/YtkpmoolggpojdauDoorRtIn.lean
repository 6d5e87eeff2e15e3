/-
  What lies in memory while a route is flown: the craft, the answer's place, the list of steps. No condition.
-/
import Derived.Test.YtkpmoolggpojdauDoorFlyAny
import Derived.Test.YtkpmoolggpojdauDoorRtPure
import Derived.Test.YtkpmoolggpojdauDoorAppI
import Derived.Test.YtkpmoolggpojdauDoorOwnI
import Derived.Test.YtkpmoolggpojdauDoorMarkI
namespace Go.Proofs.YtkpmoolggpojdauDoor
open Go.RowKit

theorem specFlyLeg_at {nx ny nd nh nc n o : Int} (x y d h c k lx ly m : Int) (w : World) (hR : flR k lx ly m ⟨x, y, d, h, c⟩ = (⟨nx, ny, nd, nh, nc⟩, n, o)) :
    Calls Tryd.prog 6 #[.agg #[.int .i64 x, .int .i64 y, .int .i64 d, .int .i64 h, .int .i64 c], .agg #[.int .i64 k, .int .i64 lx, .int .i64 ly, .int .i64 m]] w fun e w' => e = .returned (.tuple #[.agg #[.int .i64 nx, .int .i64 ny, .int .i64 nd, .int .i64 nh, .int .i64 nc], .int .i64 n, .int .i64 o]) ∧ Below w.heap.size w w' := by
  have t := specFlyLeg_any x y d h c k lx ly m w
  simp only [fyX, fyY, fyD, fyH, fyC, fyS, fyO, hR] at t
  exact t

theorem implFlyLeg_at {nx ny nd nh nc n o : Int} (x y d h c k lx ly m : Int) (w : World) (g : StG w) (hR : flR k lx ly m ⟨x, y, d, h, c⟩ = (⟨nx, ny, nd, nh, nc⟩, n, o)) :
    Calls Tryd.prog 9 #[.agg #[.int .i64 x, .int .i64 y, .int .i64 d, .int .i64 h, .int .i64 c], .agg #[.int .i64 k, .int .i64 lx, .int .i64 ly, .int .i64 m]] w fun e w' => e = .returned (.tuple #[.agg #[.int .i64 nx, .int .i64 ny, .int .i64 nd, .int .i64 nh, .int .i64 nc], .int .i64 n, .int .i64 o]) ∧ Below w.heap.size w w' := by
  have t := implFlyLeg_any x y d h c k lx ly m w g
  simp only [fyX, fyY, fyD, fyH, fyC, fyS, fyO, hR] at t
  exact t

structure RtW (w wr : World) (x y d h c : Int) (g n cp : Nat) (out : List Int) : Prop where
  cc : Blk wr w.heap.size [.int .i64 x, .int .i64 y, .int .i64 d, .int .i64 h, .int .i64 c]
  rr : Blk wr (w.heap.size + 1) [.int .i64 0, .int .i64 0, .int .i64 0, .int .i64 0, .int .i64 0]
  o : OwnI wr (w.heap.size + 1 + 1) (.slice (some ⟨g, 0, none⟩) n cp) out
  l : out.length = n
  bel : Below w.heap.size w wr
  t : w.heap.size + 1 + 1 ≤ wr.heap.size
theorem RtW.below {w wr w' : World} {x y d h c : Int} {g n cp : Nat} {out : List Int} (k : RtW w wr x y d h c g n cp out) (b : Below wr.heap.size wr w') : RtW w w' x y d h c g n cp out :=
  ⟨k.cc.below b, k.rr.below b, k.o.below b, k.l, k.bel.trans (b.mono k.bel.size), Nat.le_trans k.t b.size⟩
theorem RtW.set {w wr : World} {x y d h c : Int} {g n cp : Nat} {out : List Int} (k : RtW w wr x y d h c g n cp out) (x' y' d' h' c' : Int) :
    RtW w (((((wr.setCell ⟨w.heap.size, 0, none⟩ (.int .i64 x')).setCell ⟨w.heap.size, 1, none⟩ (.int .i64 y')).setCell ⟨w.heap.size, 2, none⟩ (.int .i64 d')).setCell ⟨w.heap.size, 3, none⟩ (.int .i64 h')).setCell ⟨w.heap.size, 4, none⟩ (.int .i64 c')) x' y' d' h' c' g n cp out := by
  have hne : (Value.slice (some ⟨g, 0, none⟩) n cp).ownBlock ≠ some w.heap.size := by
    intro e
    have := (k.o.lies _ e).1
    omega
  refine ⟨?_, ?_, ?_, k.l, ?_, by simpa using k.t⟩
  · have := ((((k.cc.set 0 (by simp) (.int .i64 x')).set 1 (by simp) (.int .i64 y')).set 2 (by simp) (.int .i64 d')).set 3 (by simp) (.int .i64 h')).set 4 (by simp) (.int .i64 c')
    simpa using this
  · exact ((((k.rr.other (by simp) _).other (by simp) _).other (by simp) _).other (by simp) _).other (by simp) _
  · exact ((((k.o.set_other _ hne).set_other _ hne).set_other _ hne).set_other _ hne).set_other _ hne
  · exact ((((k.bel.setCell (by simp) _).setCell (by simp) _).setCell (by simp) _).setCell (by simp) _).setCell (by simp) _
theorem RtW.app {w wr w' : World} {x y d h c : Int} {g n cp g' cp' : Nat} {out : List Int} {z : Int} (k : RtW w wr x y d h c g n cp out) (o : OwnI w' (w.heap.size + 1 + 1) (.slice (some ⟨g', 0, none⟩) (n + 1) cp') (out ++ [z])) (gr : wr.grownBy w' (Value.slice (some ⟨g, 0, none⟩) n cp).ownBlock) : RtW w w' x y d h c g' (n + 1) cp' (out ++ [z]) := by
  have lg := k.o.lies
  refine ⟨k.cc.apart gr ?_, k.rr.apart gr ?_, o, by simp [k.l], k.bel.grown gr (Nat.le_trans (by omega) k.t) (fun q hq => Nat.le_trans (by omega) (lg q hq).1), Nat.le_trans k.t gr.size⟩
  · intro e
    have := (lg _ e.symm).1
    omega
  · intro e
    have := (lg _ e.symm).1
    omega
theorem rtNew {w : World} {x y d h c : Int} {T1 T2 : TypeId} : RtW w (((w.alloc (Obj.cells #[.int .i64 x, .int .i64 y, .int .i64 d, .int .i64 h, .int .i64 c] T1)).alloc (Obj.cells #[.int .i64 0, .int .i64 0, .int .i64 0, .int .i64 0, .int .i64 0] T2)).alloc (Obj.cells #[] 3)) x y d h c (w.heap.size + 1 + 1) 0 0 [] :=
  ⟨blkAt2_0.alloc _, blkAt2_1.alloc _, by
    have hs : ((w.alloc (Obj.cells #[.int .i64 x, .int .i64 y, .int .i64 d, .int .i64 h, .int .i64 c] T1)).alloc (Obj.cells #[.int .i64 0, .int .i64 0, .int .i64 0, .int .i64 0, .int .i64 0] T2)).heap.size = w.heap.size + 1 + 1 := by simp
    have k := ownI_none (w := (w.alloc (Obj.cells #[.int .i64 x, .int .i64 y, .int .i64 d, .int .i64 h, .int .i64 c] T1)).alloc (Obj.cells #[.int .i64 0, .int .i64 0, .int .i64 0, .int .i64 0, .int .i64 0] T2)) (Nat.le_refl _)
    rw [hs] at k
    exact k, rfl, bel3 _ _ _, by simp⟩
/-- The leg at a place of the list, in a later world. -/
theorem leg_at {w wr : World} {bb off i : Nat} {ls : List Lg} (hb : Below w.heap.size w wr) (hc : ∀ q, q < 4 → w.cell? ⟨bb, off + i * 4 + q, none⟩ = some (lgC (elAt ls i) q)) :
    wr.cell? ⟨bb, off + i * 4, none⟩ = some (.int .i64 (elAt ls i).a0) ∧ wr.cell? ⟨bb, off + i * 4 + 1, none⟩ = some (.int .i64 (elAt ls i).a1) ∧ wr.cell? ⟨bb, off + i * 4 + 2, none⟩ = some (.int .i64 (elAt ls i).a2) ∧ wr.cell? ⟨bb, off + i * 4 + 3, none⟩ = some (.int .i64 (elAt ls i).a3) := by
  have h0 := hc 0 (by omega)
  have h1 := hc 1 (by omega)
  have h2 := hc 2 (by omega)
  have h3 := hc 3 (by omega)
  exact ⟨(hb.cell (block_lt_of_cell h0)).trans h0, (hb.cell (block_lt_of_cell h1)).trans h1, (hb.cell (block_lt_of_cell h2)).trans h2, (hb.cell (block_lt_of_cell h3)).trans h3⟩

end Go.Proofs.YtkpmoolggpojdauDoor
