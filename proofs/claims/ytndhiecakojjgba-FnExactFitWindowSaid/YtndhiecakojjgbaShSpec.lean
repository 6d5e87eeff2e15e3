/-
  What the model's Share answers: the plain answer, at every plan and partition; nothing that was there is written.
-/
import Derived.Test.YtndhiecakojjgbaShPure
import Derived.Test.YtndhiecakojjgbaPpOwn
import Derived.Test.YtndhiecakojjgbaAppEl
import Derived.Test.YtndhiecakojjgbaApFar
import Derived.Test.YtndhiecakojjgbaMinMax
namespace Go.Proofs.Ytndhiecakojjgba
open Go.RowKit

theorem ret_sh {a b a' b' : Int} {c c' : Bool} (h1 : a = a') (h2 : b = b') (h3 : c = c') : Ending.returned (.tuple #[.int .i64 a, .int .i64 b, .bool c]) = .returned (.tuple #[.int .i64 a', .int .i64 b', .bool c']) := by rw [h1, h2, h3]
theorem wnE_none {w1 : World} {B : Nat} (h : B ≤ w1.heap.size) : OwnE 3 wnC (w1.alloc (Obj.cells #[] 39)) B 39 (.slice (some ⟨w1.heap.size, 0, none⟩) 0 0) [] := by
  refine ⟨⟨[], ⟨rfl, .inr ⟨_, _, #[], rfl, h, ?_, Nat.le_refl _, by simp [maxLen], rfl, rfl⟩⟩, fun j hj => by simp at hj⟩⟩
  show (w1.heap.push _)[w1.heap.size]? = _
  simp
/-- A list of windows that grows, behind a plan's own block. -/
structure ShW (w wr : World) (vs : List Value) (g n cp : Nat) (out : List Wn) : Prop where
  o : OwnE 3 wnC wr (w.heap.size + 1) 39 (.slice (some ⟨g, 0, none⟩) n cp) out
  l : out.length = n
  blk : Blk wr w.heap.size vs
  bel : Below w.heap.size w wr
  sz : w.heap.size + 1 ≤ wr.heap.size
theorem ShW.below {w wr w' : World} {vs : List Value} {g n cp : Nat} {out : List Wn} (k : ShW w wr vs g n cp out) (b : Below wr.heap.size wr w') : ShW w w' vs g n cp out :=
  ⟨k.o.below b, k.l, k.blk.below b, k.bel.trans (b.mono k.bel.size), Nat.le_trans k.sz b.size⟩
theorem ShW.app {w wr w' : World} {vs : List Value} {g n cp g' cp' : Nat} {out : List Wn} {z : Wn} (k : ShW w wr vs g n cp out) (o : OwnE 3 wnC w' (w.heap.size + 1) 39 (.slice (some ⟨g', 0, none⟩) (n + 1) cp') (out ++ [z])) (gr : wr.grownBy w' (Value.slice (some ⟨g, 0, none⟩) n cp).ownBlock) : ShW w w' vs g' (n + 1) cp' (out ++ [z]) :=
  ⟨o, by simp [k.l], k.blk.apart gr (by intro e; have q := (k.o.lies _ e.symm).1; omega), k.bel.grown gr k.bel.size (fun q hq => Nat.le_trans (Nat.le_succ _) (k.o.lies q hq).1), Nat.le_trans k.sz gr.size⟩
theorem ShW.at_ {w wr : World} {vs : List Value} {g n cp : Nat} {out : List Wn} (k : ShW w wr vs g n cp out) {j : Nat} (hj : j < n) (q : Nat) (hq : q < 3) : wr.cell? ⟨g, j * 3 + q, none⟩ = some (wnC (elAt out j) q) := (k.o.here k.l j hj q hq).1


end Go.Proofs.Ytndhiecakojjgba
