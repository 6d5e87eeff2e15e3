/-
  Floats and complex numbers in a walk: an operation answers the plain number, or a NaN where that is one. No condition.
-/
import Derived.Test.YtomcbbpaajpeiaaFlFin
import Derived.OwnWalk
import Derived.WalkLawsBesides
namespace Go.Proofs.Ytomcbbpaajpeiaa
open Go Go.RowKit

/-- '+', '-', '*', '/' of floats in a walk. -/
theorem wpList_flop {P : Program} (w : World) {ops : Array Oper} {rest : List Oper} {o : Oper} {a : Act} {Q : Exit → Act → World → Prop}
    (hg : o.guard = none) {op : BinOp} {t u : TypeId} {l r : Operand} (hop : o.op = Op.binOp op t l r u) (ho : op = .add ∨ op = .sub ∨ op = .mul ∨ op = .quo) (k : FloatKind) (x y : Nat) (hl : a.eval l = .float k x) (hr : a.eval r = .float k y)
    (hK : ∀ z n, Alike k z (fl op k x y) → wpList P ops Q rest (a.put o.dst (.float k z)) (w.drewN n)) :
    wpList P ops Q (o :: rest) a w := by
  refine wpList_plain hg fun K hK' => ?_
  obtain ⟨z, n, hrun, hz⟩ := run_arith (P := P) w ho k x y
  unfold Oper.wp
  have hb : binOp op t (.float k x) (.float k y) = Op.floatArith op k x y := by
    rcases ho with rfl | rfl | rfl | rfl <;> simp [binOp]
  have he : ∀ u v, eqGuard op t l r u v = pure () := by
    intro u v
    rcases ho with rfl | rfl | rfl | rfl <;> rfl
  simp [execOp, hop, hl, hr, hb, he, hrun, Result.andThen]
  exact hK' _ _ (hK z n hz)

/-- '+', '-' of complex numbers in a walk. -/
theorem wpList_cop {P : Program} (w : World) {ops : Array Oper} {rest : List Oper} {o : Oper} {a : Act} {Q : Exit → Act → World → Prop}
    (hg : o.guard = none) {op : BinOp} {t u : TypeId} {l r : Operand} (hop : o.op = Op.binOp op t l r u) (ho : op = .add ∨ op = .sub) (k : FloatKind) (x y x' y' : Nat) (hl : a.eval l = .complex k x x') (hr : a.eval r = .complex k y y')
    (hK : ∀ z z' n, Alike k z (fl op k x y) → Alike k z' (fl op k x' y') → wpList P ops Q rest (a.put o.dst (.complex k z z')) (w.drewN n)) :
    wpList P ops Q (o :: rest) a w := by
  refine wpList_plain hg fun K hK' => ?_
  have ho4 : op = .add ∨ op = .sub ∨ op = .mul ∨ op = .quo := by rcases ho with h | h <;> simp [h]
  obtain ⟨z, n, hrun, hz⟩ := run_arith (P := P) w ho4 k x y
  obtain ⟨z', n', hrun', hz'⟩ := run_arith (P := P) (w.drewN n) ho4 k x' y'
  unfold Oper.wp
  have hb : (binOp op t (.complex k x x') (.complex k y y')).run P w = .ok (.complex k z z') ((w.drewN n).drewN n') := by
    rcases ho with rfl | rfl <;> simp [binOp, Op.complexOp, Op.Complex.arith, hrun, hrun']
  have he : ∀ u v, eqGuard op t l r u v = pure () := by
    intro u v
    rcases ho with rfl | rfl <;> rfl
  simp [execOp, hop, hl, hr, hb, he, Result.andThen]
  exact hK' _ _ (by simpa using hK z z' (n + n') hz hz')

/-- 'float64(x)' of a float32 in a walk. -/
theorem wpList_fwide {P : Program} (w : World) {ops : Array Oper} {rest : List Oper} {o : Oper} {a : Act} {Q : Exit → Act → World → Prop}
    (hg : o.guard = none) {s d : TypeId} {l : Operand} (hop : o.op = Op.convert s d l) (hs : (P.underlying s).isSome = true) (hd : P.underlying d = some (.float .f64)) (x : Nat) (hl : a.eval l = .float .f32 x)
    (hK : ∀ z n, Alike .f64 z (wide x) → wpList P ops Q rest (a.put o.dst (.float .f64 z)) (w.drewN n)) :
    wpList P ops Q (o :: rest) a w := by
  refine wpList_plain hg fun K hK' => ?_
  obtain ⟨z, n, hrun, hz⟩ := run_widen (P := P) w x
  obtain ⟨u, hs'⟩ := Option.isSome_iff_exists.1 hs
  unfold Oper.wp
  have hb : (convert s d (.float .f32 x)).run P w = .ok (.float .f64 z) (w.drewN n) := by
    cases u <;> simp [convert, run_underlying hs', run_underlying hd, hrun]
  simp [execOp, hop, hl, hb, Result.andThen]
  exact hK' _ _ (hK z n hz)

/-- 'complex128(x)' of a complex64 in a walk. -/
theorem wpList_cwide {P : Program} (w : World) {ops : Array Oper} {rest : List Oper} {o : Oper} {a : Act} {Q : Exit → Act → World → Prop}
    (hg : o.guard = none) {s d : TypeId} {l : Operand} (hop : o.op = Op.convert s d l) (hs : (P.underlying s).isSome = true) (hd : P.underlying d = some (.complex .f64)) (x x' : Nat) (hl : a.eval l = .complex .f32 x x')
    (hK : ∀ z z' n, Alike .f64 z (wide x) → Alike .f64 z' (wide x') → wpList P ops Q rest (a.put o.dst (.complex .f64 z z')) (w.drewN n)) :
    wpList P ops Q (o :: rest) a w := by
  refine wpList_plain hg fun K hK' => ?_
  obtain ⟨z, n, hrun, hz⟩ := run_widen (P := P) w x
  obtain ⟨z', n', hrun', hz'⟩ := run_widen (P := P) (w.drewN n) x'
  obtain ⟨u, hs'⟩ := Option.isSome_iff_exists.1 hs
  unfold Oper.wp
  have hb : (convert s d (.complex .f32 x x')).run P w = .ok (.complex .f64 z z') ((w.drewN n).drewN n') := by
    cases u <;> simp [convert, run_underlying hs', run_underlying hd, Conv.complexToComplex, hrun, hrun']
  simp [execOp, hop, hl, hb, Result.andThen]
  exact hK' _ _ (by simpa using hK z z' (n + n') hz hz')

/-- The same laws with the operation written out, for a walk that tries them at every step. -/
theorem at_flop {P : Program} {w : World} {ops : Array Oper} {rest : List Oper} {d : Option Tmp} {op : BinOp} {t u ty : TypeId} {l r : Operand} {pos : String} {af : Array Edge} {a : Act} {Q : Exit → Act → World → Prop}
    (ho : op = .add ∨ op = .sub ∨ op = .mul ∨ op = .quo) (k : FloatKind) (x y : Nat) (hl : a.eval l = .float k x) (hr : a.eval r = .float k y)
    (hK : ∀ z n, Alike k z (fl op k x y) → wpList P ops Q rest (a.put d (.float k z)) (w.drewN n)) :
    wpList P ops Q (⟨d, .binOp op t l r u, ty, pos, af, none⟩ :: rest) a w := wpList_flop w rfl rfl ho k x y hl hr hK
theorem at_cop {P : Program} {w : World} {ops : Array Oper} {rest : List Oper} {d : Option Tmp} {op : BinOp} {t u ty : TypeId} {l r : Operand} {pos : String} {af : Array Edge} {a : Act} {Q : Exit → Act → World → Prop}
    (ho : op = .add ∨ op = .sub) (k : FloatKind) (x y x' y' : Nat) (hl : a.eval l = .complex k x x') (hr : a.eval r = .complex k y y')
    (hK : ∀ z z' n, Alike k z (fl op k x y) → Alike k z' (fl op k x' y') → wpList P ops Q rest (a.put d (.complex k z z')) (w.drewN n)) :
    wpList P ops Q (⟨d, .binOp op t l r u, ty, pos, af, none⟩ :: rest) a w := wpList_cop w rfl rfl ho k x y x' y' hl hr hK
theorem at_fwide {P : Program} {w : World} {ops : Array Oper} {rest : List Oper} {o : Option Tmp} {s d ty : TypeId} {l : Operand} {pos : String} {af : Array Edge} {a : Act} {Q : Exit → Act → World → Prop}
    (hs : (P.underlying s).isSome = true) (hd : P.underlying d = some (.float .f64)) (x : Nat) (hl : a.eval l = .float .f32 x)
    (hK : ∀ z n, Alike .f64 z (wide x) → wpList P ops Q rest (a.put o (.float .f64 z)) (w.drewN n)) :
    wpList P ops Q (⟨o, .convert s d l, ty, pos, af, none⟩ :: rest) a w := wpList_fwide w rfl rfl hs hd x hl hK
theorem at_cwide {P : Program} {w : World} {ops : Array Oper} {rest : List Oper} {o : Option Tmp} {s d ty : TypeId} {l : Operand} {pos : String} {af : Array Edge} {a : Act} {Q : Exit → Act → World → Prop}
    (hs : (P.underlying s).isSome = true) (hd : P.underlying d = some (.complex .f64)) (x x' : Nat) (hl : a.eval l = .complex .f32 x x')
    (hK : ∀ z z' n, Alike .f64 z (wide x) → Alike .f64 z' (wide x') → wpList P ops Q rest (a.put o (.complex .f64 z z')) (w.drewN n)) :
    wpList P ops Q (⟨o, .convert s d l, ty, pos, af, none⟩ :: rest) a w := wpList_cwide w rfl rfl hs hd x x' hl hK

theorem run_store_float {P : Program} {w : World} {a : Addr} {m : _} (k : FloatKind) (x : Nat) : (store a (.float k x) m).run P w = stored P w a (.float k x) m := run_store P w a _ m rfl
theorem run_store_complex {P : Program} {w : World} {a : Addr} {m : _} (k : FloatKind) (x y : Nat) : (store a (.complex k x y) m).run P w = stored P w a (.complex k x y) m := run_store P w a _ m rfl

/-- '+' and '-' of complex numbers in whatever world. -/
theorem run_csum {P : Program} {op : BinOp} (ho : op = .add ∨ op = .sub) (t : TypeId) (a b c d : Nat) :
    ∃ (F G N : World → Nat), (∀ w, (binOp op t (.complex .f64 a b) (.complex .f64 c d)).run P w = .ok (.complex .f64 (F w) (G w)) (w.drewN (N w))) ∧ (∀ w, Alike .f64 (F w) (fl op .f64 a c)) ∧ (∀ w, Alike .f64 (G w) (fl op .f64 b d)) := by
  have ho4 : op = .add ∨ op = .sub ∨ op = .mul ∨ op = .quo := by rcases ho with h | h <;> simp [h]
  have each : ∀ w : World, ∃ q : Nat × Nat × Nat, (binOp op t (.complex .f64 a b) (.complex .f64 c d)).run P w = .ok (.complex .f64 q.1 q.2.1) (w.drewN q.2.2) ∧ Alike .f64 q.1 (fl op .f64 a c) ∧ Alike .f64 q.2.1 (fl op .f64 b d) := by
    intro w
    obtain ⟨z, n, hrun, hz⟩ := run_arith (P := P) w ho4 .f64 a c
    obtain ⟨z', n', hrun', hz'⟩ := run_arith (P := P) (w.drewN n) ho4 .f64 b d
    refine ⟨(z, z', n + n'), ?_, hz, hz'⟩
    rcases ho with rfl | rfl <;> simp [binOp, Op.complexOp, Op.Complex.arith, hrun, hrun']
  exact ⟨fun w => (each w).choose.1, fun w => (each w).choose.2.1, fun w => (each w).choose.2.2, fun w => (each w).choose_spec.1, fun w => (each w).choose_spec.2.1, fun w => (each w).choose_spec.2.2⟩
theorem run_cadd {P : Program} (t : TypeId) (a b c d : Nat) :
    ∃ (F G N : World → Nat), (∀ w, (binOp .add t (.complex .f64 a b) (.complex .f64 c d)).run P w = .ok (.complex .f64 (F w) (G w)) (w.drewN (N w))) ∧ (∀ w, Alike .f64 (F w) (fl .add .f64 a c)) ∧ (∀ w, Alike .f64 (G w) (fl .add .f64 b d)) := run_csum (.inl rfl) t a b c d
theorem run_cless {P : Program} (t : TypeId) (a b c d : Nat) :
    ∃ (F G N : World → Nat), (∀ w, (binOp .sub t (.complex .f64 a b) (.complex .f64 c d)).run P w = .ok (.complex .f64 (F w) (G w)) (w.drewN (N w))) ∧ (∀ w, Alike .f64 (F w) (fl .sub .f64 a c)) ∧ (∀ w, Alike .f64 (G w) (fl .sub .f64 b d)) := run_csum (.inr rfl) t a b c d

theorem bel3d {w : World} (o p q : Obj) (n : Nat) : Below w.heap.size w ((((w.alloc o).alloc p).alloc q).drewN n) := (bel3 o p q).trans ⟨rfl, rfl, rfl, Nat.le_refl _, fun _ _ => rfl⟩

/-- A conversion that turns no size. -/
theorem run_fsame {P : Program} (w : World) {s d : TypeId} {k : FloatKind} (hs : (P.underlying s).isSome = true) (hd : P.underlying d = some (.float k)) (x : Nat) :
    (convert s d (.float k x)).run P w = .ok (.float k x) w := run_convert_float_float w s d k k x x hs hd (by unfold floatToFloatBits; rw [if_pos rfl])

end Go.Proofs.Ytomcbbpaajpeiaa
