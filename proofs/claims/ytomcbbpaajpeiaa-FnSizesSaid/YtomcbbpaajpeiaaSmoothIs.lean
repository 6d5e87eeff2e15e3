/-
  What Smooth answers in the specification and in the program: the plain list and flag; the list owns its memory. No condition; nothing that was there is written.
-/
import Derived.Test.YtomcbbpaajpeiaaRowFl
import Derived.Test.YtomcbbpaajpeiaaSmoothPure
import Derived.Test.YtomcbbpaajpeiaaMMissing
import Derived.Deep.AppendLies
namespace Go.Proofs.Ytomcbbpaajpeiaa
open Go.RowKit
attribute [local go_sem] run_store_float

/-- '+', '-', '*', '/' of floats in a walk that holds on to a fact which draws leave. -/
theorem at_flopI {P : Program} {w : World} {ops : Array Oper} {rest : List Oper} {d : Option Tmp} {op : BinOp} {t u ty : TypeId} {l r : Operand} {pos : String} {af : Array Edge} {a : Act} {Q : Exit → Act → World → Prop}
    (I : World → Prop) (hI : ∀ W n, I W → I (W.drewN n)) (hw : I w) (ho : op = .add ∨ op = .sub ∨ op = .mul ∨ op = .quo) (k : FloatKind) (x y : Nat) (hl : a.eval l = .float k x) (hr : a.eval r = .float k y)
    (hK : ∀ z w1, Alike k z (fl op k x y) → I w1 → wpList P ops Q rest (a.put d (.float k z)) w1) :
    wpList P ops Q (⟨d, .binOp op t l r u, ty, pos, af, none⟩ :: rest) a w := at_flop ho k x y hl hr fun z n h => hK z _ h (hI w n hw)

theorem ownsRow_len {w : World} {base : Nat} {e : TypeId} {size : Nat} {v : Value} {n : Nat} {xs : List Value} (h : w.ownsRow base e size v n xs) : xs.length = n * size := h.1
theorem one_cell (x : Nat) : ∀ q, q < 1 → [Value.float .f64 x][q]? = some (flC x q) := fun q hq => by
  obtain rfl : q = 0 := by omega
  rfl
theorem nan00 : fl .quo .f64 0 0 = qnan .f64 := by decide +kernel

end Go.Proofs.Ytomcbbpaajpeiaa
