/-
  One operation of a region at any frame: a move, a part of a tuple, a new variable, a call. No condition.
-/
import Derived.Test.YticdccdkjepifaaGreatMStrRow
import Derived.Great.Walk
namespace Go.Proofs.YticdccdkjepifaaGreat
open Go Go.RowKit Go.Great

theorem at_moveO {ops : Array Oper} {rest : List Oper} {d : Tmp} {s : Operand} {ty : TypeId} {pos : String} {af : Array Edge} {a : Act} {Q : Exit → Act → World → Prop} {w : World} (v : Value) (hv : a.eval s = v)
    (hK : wpList Tryz.prog ops Q rest (a.put (some d) v) w) : wpList Tryz.prog ops Q (⟨some d, .move s, ty, pos, af, none⟩ :: rest) a w := by
  subst hv
  refine wpList_plain rfl fun K hK' => ?_
  unfold Oper.wp
  simp [execOp]
  exact hK' _ _ hK
theorem at_assignO {ops : Array Oper} {rest : List Oper} {d : Tmp} {s : Operand} {ty : TypeId} {pos : String} {af : Array Edge} {a : Act} {Q : Exit → Act → World → Prop} {w : World} (v : Value) (hv : a.eval s = v)
    (hK : wpList Tryz.prog ops Q rest (a.put (some d) v) w) : wpList Tryz.prog ops Q (⟨some d, .assign s, ty, pos, af, none⟩ :: rest) a w := by
  subst hv
  refine wpList_plain rfl fun K hK' => ?_
  unfold Oper.wp
  simp [execOp]
  exact hK' _ _ hK
theorem at_extractO {ops : Array Oper} {rest : List Oper} {d k : Nat} {s : Operand} {ty : TypeId} {pos : String} {af : Array Edge} {a : Act} {Q : Exit → Act → World → Prop} {w : World} (vs : Array Value) (v : Value) (hv : a.eval s = .tuple vs) (hk : vs[k]? = some v)
    (hK : wpList Tryz.prog ops Q rest (a.put (some d) v) w) : wpList Tryz.prog ops Q (⟨some d, .extract s k, ty, pos, af, none⟩ :: rest) a w := by
  refine wpList_plain rfl fun K hK' => ?_
  unfold Oper.wp
  simp [execOp, hv, hk, Instr.extract]
  exact hK' _ _ hK
theorem at_allocFO {ops : Array Oper} {rest : List Oper} {d : Tmp} {ty : TypeId} {pos : String} {af : Array Edge} {a : Act} {Q : Exit → Act → World → Prop} {w : World}
    (hK : wpList Tryz.prog ops Q rest (a.put (some d) (.pointer (some ⟨w.heap.size, 0, none⟩))) (w.alloc (Obj.cells #[.slice none 0 0, .slice none 0 0, .slice none 0 0, .int .i64 0, .int .i64 0, .int .i64 0] 37))) : wpList Tryz.prog ops Q (⟨some d, .alloc 37, ty, pos, af, none⟩ :: rest) a w :=
  wpList_allocTo rfl (some d) rfl _ _ (by kernel_rfl) hK
theorem at_callO {ops : Array Oper} {rest : List Oper} {o : Oper} {a : Act} {w : World} {Q : Exit → Act → World → Prop} (hg : o.guard = none) (d : Option Tmp) (hd : o.dst = d)
    (f : FuncId) (args : Array Value) (hrun : (execOp a.eval o).run Tryz.prog w = .ok (.enter f args) w)
    (hc : Calls Tryz.prog f args w fun e w' => ∃ v, e = .returned v ∧ wpList Tryz.prog ops Q rest (a.put d v) w') : wpList Tryz.prog ops Q (o :: rest) a w := by
  subst hd
  refine wpList_plain hg fun K hK => ?_
  unfold Oper.wp
  rw [hrun, Oper.upon_enter]
  refine hc.mono fun e w'' hh => ?_
  obtain ⟨v, rfl, h⟩ := hh
  exact hK _ _ h

end Go.Proofs.YticdccdkjepifaaGreat
