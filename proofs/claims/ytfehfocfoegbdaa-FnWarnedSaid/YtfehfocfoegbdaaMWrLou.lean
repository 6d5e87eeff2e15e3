/-
  How loud names are, and which rules are quiet in a phase, in the model: the plain answers; nothing that was there is written.
  Which rules are quiet in a phase, in the model: the plain answer; its list owns its memory; nothing that was there is written.
-/
import Derived.Test.YtfehfocfoegbdaaWrOk
import Derived.Test.YtfehfocfoegbdaaMStrRow
import Derived.Test.YtfehfocfoegbdaaMMarkI
import Derived.Test.YtfehfocfoegbdaaOwnI

namespace Go.Proofs.Ytfehfocfoegbdaa
open Go.RowKit

end Go.Proofs.Ytfehfocfoegbdaa

namespace Go.Proofs.Ytfehfocfoegbdaa
open Go.RowKit

theorem info_txt : (Try.prog.info? 9).map (fun i => (i.zero, i.size, i.bytes)) = some (some (.string ⟨#[]⟩), 1, 16) := by kernel_rfl
theorem stE_none {w w1 : World} (h : w.heap.size ≤ w1.heap.size) : OwnE 1 stC (w1.alloc (Obj.cells #[] 9)) w.heap.size 9 (.slice (some ⟨w1.heap.size, 0, none⟩) 0 0) [] := by
  refine ⟨⟨[], ⟨rfl, .inr ⟨_, _, #[], rfl, h, ?_, Nat.le_refl _, by simp [maxLen], rfl, rfl⟩⟩, fun j hj => by simp at hj⟩⟩
  show (w1.heap.push _)[w1.heap.size]? = _
  simp
/-- A list of texts that grows. -/
structure StW (w wr : World) (g n cp : Nat) (out : List ByteArray) : Prop where
  o : OwnE 1 stC wr w.heap.size 9 (.slice (some ⟨g, 0, none⟩) n cp) out
  l : out.length = n
  bel : Below w.heap.size w wr
theorem StW.below {w wr w' : World} {g n cp : Nat} {out : List ByteArray} (k : StW w wr g n cp out) (b : Below wr.heap.size wr w') : StW w w' g n cp out := ⟨k.o.below b, k.l, k.bel.trans (b.mono k.bel.size)⟩
theorem StW.app {w wr w' : World} {g n cp g' cp' : Nat} {out : List ByteArray} {z : ByteArray} (k : StW w wr g n cp out) (o : OwnE 1 stC w' w.heap.size 9 (.slice (some ⟨g', 0, none⟩) (n + 1) cp') (out ++ [z])) (gr : wr.grownBy w' (Value.slice (some ⟨g, 0, none⟩) n cp).ownBlock) : StW w w' g' (n + 1) cp' (out ++ [z]) :=
  ⟨o, by simp [k.l], k.bel.grown gr k.bel.size (fun q hq => (k.o.lies q hq).1)⟩

end Go.Proofs.Ytfehfocfoegbdaa
