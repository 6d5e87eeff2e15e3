/-
  What Column answers, in the model and in the program: a column and true, or nothing and false. At every list of rows and every place; the answer owns its memory, nothing that was there is written.
  What Events20 answers, in the model and in the program: the rows at which a column comes above a limit. At every list of rows, place and limit; the answer owns its memory, nothing that was there is written.
-/
import Derived.Test.YtfnnfldfnjnlfahMMakeS
import Derived.Test.YtfnnfldfnjnlfahMDraw

namespace Go.Proofs.Ytfnnfldfnjnlfah
open Go.RowKit

theorem coL_no {zss : List (List Int)} {a : Int} (h : coB zss a = false) : coL zss a = [] := by rw [coL, h]; rfl
theorem coL_yes {zss : List (List Int)} {a : Int} (h : coB zss a = true) : coL zss a = coK zss a zss.length := by rw [coL, h]; rfl
theorem ownI_new {w w1 : World} (hb : w.heap.size ≤ w1.heap.size) : OwnI (w1.alloc (Obj.cells #[] 3)) w.heap.size (.slice (some ⟨w1.heap.size, 0, none⟩) 0 0) [] := ownI_none hb

end Go.Proofs.Ytfnnfldfnjnlfah

namespace Go.Proofs.Ytfnnfldfnjnlfah
open Go.RowKit

/-- Whether the row ahead was above. -/
def evW (L : List Int) (m : Int) : Nat → Bool
  | 0 => false
  | k + 1 => decide (m < nth L k)
def evL (zss : List (List Int)) (t m : Int) : List Int := evK (coL zss t) m (coL zss t).length
theorem evL_len (zss : List (List Int)) (t m : Int) : (evL zss t m).length ≤ 200 := Nat.le_trans (evK_len _ _ _) (coL_len zss t)
theorem evI_is (L : List Int) (m : Int) (k : Nat) : evI L m k = (decide (m < nth L k) && !evW L m k) := by
  cases k with
  | zero => simp [evI, evW]
  | succ k =>
    simp only [evI, evW, Nat.add_sub_cancel]
    by_cases h : m < nth L k
    · rw [show decide (nth L k ≤ m) = false by simp; omega]; simp [h]
    · rw [show decide (nth L k ≤ m) = true by simp; omega]; simp [h]
theorem evK_yes {L : List Int} {m : Int} {k : Nat} (h : evI L m k = true) : evK L m (k + 1) = evK L m k ++ [(k : Int)] := by rw [evK_succ, if_pos h]
theorem evK_not {L : List Int} {m : Int} {k : Nat} (h : evI L m k = false) : evK L m (k + 1) = evK L m k := by rw [evK_succ, if_neg (by rw [h]; simp)]
/-- A list made, and one that grows beside it. -/
structure EvAt (w wr : World) (base : Nat) (a : Option Addr) (n c : Nat) (L : List Int) (g k e : Nat) (zs : List Int) : Prop where
  r : Row wr a n L
  d : ∀ b o, a = some ⟨b, o, none⟩ → b < base
  l : LoopAt w wr [] base g k e zs
theorem row_apart {w w' : World} {a : Option Addr} {n : Nat} {L : List Int} {row : Option Nat} (h : Row w a n L) (k : w.grownBy w' row) (hne : ∀ b o, a = some ⟨b, o, none⟩ → some b ≠ row) : Row w' a n L := by
  refine ⟨h.len_eq, h.small, fun i hi => ?_, h.fit⟩
  obtain ⟨b, off, ha, hc⟩ := h.cells i hi
  refine ⟨b, off, ha, ?_⟩
  rw [World.cell?_of_block (a := ⟨b, off + i, none⟩) (k.block b (block_lt_of_cell hc) (hne b off ha))]
  exact hc
theorem EvAt.step {w wr w' : World} {base : Nat} {a : Option Addr} {n c : Nat} {L : List Int} {g k e g' e' : Nat} {zs : List Int} {x : Int} (h : EvAt w wr base a n c L g k e zs) (o : OwnI w' base (.slice (some ⟨g', 0, none⟩) (k + 1) e') (zs ++ [x])) (gr : wr.grownBy w' (Value.slice (some ⟨g, 0, none⟩) k e).ownBlock) : EvAt w w' base a n c L g' (k + 1) e' (zs ++ [x]) :=
  ⟨row_apart h.r gr (fun b o hb e => by have := (h.l.o.lies b e.symm).1; have := h.d b o hb; omega), h.d, h.l.step o gr⟩

end Go.Proofs.Ytfnnfldfnjnlfah
