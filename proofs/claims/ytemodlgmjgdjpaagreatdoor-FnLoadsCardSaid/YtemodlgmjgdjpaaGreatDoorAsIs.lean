/-
  errors.As at the program's refusal, and codeOf: the code of a refusal, 0 of nil. The package's errorType holds what the program's text lays; nothing that was there is written.
-/
import Derived.Test.YtemodlgmjgdjpaaGreatDoorMBase
import Derived.LaidEql
import Derived.Stop.Asserts
import Derived.RowKitTokens
import Derived.LoopN
namespace Go.Proofs.YtemodlgmjgdjpaaGreatDoor
open Go.RowKit Go.Extern.Stop Go.Stop Go.Extern

/-- The package's variable errorType holds the handle of the type error. -/
def ErG (w : World) : Prop := w.cell? ⟨0, 0, none⟩ = some (.iface 132 (.agg #[.pointer (some ⟨1, 76, none⟩)]))
theorem ErG.below {w w' : World} (h : ErG w) (k : Below w.heap.size w w') : ErG w' := (k.cell (block_lt_of_cell h)).trans h

theorem as_nil (t : Value) (w : World) :
    Calls Tryz.prog 74 #[.nilIface, t] w fun e w' => e = .returned (.bool false) ∧ w' = w := by
  go_enter Tryz.func74, Tryz.ntmps74
  go_wp2
  go_ret
  exact ⟨rfl, rfl⟩
theorem asValueP (t : Addr) (w : World) : (ReflectliteValue.unpack (.iface 105 (.pointer (some t)))).run Tryz.prog w
    = .ok (.agg #[.pointer (some ⟨1, 105, none⟩), .pointer (some ⟨w.heap.size, 0, none⟩), .int .u64 150]) (w.alloc (.cells #[.pointer (some t)] 105)) := by kernel_rfl
theorem asTypeP (a : Addr) (w : World) : (ReflectliteValue.methodAny (ReflectliteValue.valueError "reflectlite.Value.Type" 0) (fun t _ _ _ => ReflectliteType.toType t) #[.agg #[.pointer (some ⟨1, 105, none⟩), .pointer (some a), .int .u64 150]]).run Tryz.prog w
    = .ok (.iface 132 (.agg #[.pointer (some ⟨1, 105, none⟩)])) w := by kernel_rfl
theorem asKindM (h : Value) (w : World) : (Go.method 295 132 (.agg #[h]) "Kind").run Tryz.prog w = .ok (136, h) w := by kernel_rfl
theorem asKindP (w : World) : ((ReflectliteType.abiMethod fun t => (fun a : Nat => Value.int IntKind.u8 (a : Int)) <$> Rtype.kind t) #[.pointer (some ⟨1, 105, none⟩)]).run Tryz.prog w = .ok (.int .u8 22) w := by kernel_rfl
theorem asKindR (w : World) : ((ReflectliteType.abiMethod fun t => (fun a : Nat => Value.int IntKind.u8 (a : Int)) <$> Rtype.kind t) #[.pointer (some ⟨1, 103, none⟩)]).run Tryz.prog w = .ok (.int .u8 25) w := by kernel_rfl
theorem asPartsP (a : Addr) (w : World) : (ReflectliteValue.parts (.agg #[.pointer (some ⟨1, 105, none⟩), .pointer (some a), .int .u64 150])).run Tryz.prog w = .ok (some (105, a, 150)) w := by kernel_rfl
theorem asIsNil (a p : Addr) (W : World) (ha : W.cell? a = some (.pointer (some p))) :
    (ReflectliteValue.method (ReflectliteValue.valueError "reflectlite.Value.IsNil" 0) ReflectliteValue.isNil #[.agg #[.pointer (some ⟨1, 105, none⟩), .pointer (some a), .int .u64 150]]).run Tryz.prog W = .ok (.bool false) W := by
  change Sem.run Tryz.prog (ReflectliteValue.parts (.agg #[.pointer (some ⟨1, 105, none⟩), .pointer (some a), .int .u64 150]) >>= _) W = _
  rw [Sem.run_bind, asPartsP]
  simp only [Result.andThen]
  simp [ReflectliteValue.isNil, loadVar, isAgg, underlying, Tryz.underlying105, ha, Result.andThen]
theorem asElemM (h : Value) (w : World) : (Go.method 295 132 (.agg #[h]) "Elem").run Tryz.prog w = .ok (146, .agg #[h]) w := by kernel_rfl
theorem asImplM (h : Value) (w : World) : (Go.method 295 132 (.agg #[h]) "Implements").run Tryz.prog w = .ok (147, .agg #[h]) w := by kernel_rfl
theorem asAssM (h : Value) (w : World) : (Go.method 295 132 (.agg #[h]) "AssignableTo").run Tryz.prog w = .ok (144, .agg #[h]) w := by kernel_rfl
theorem asElemP (w : World) : (ReflectliteType.method ReflectliteType.elem #[.agg #[.pointer (some ⟨1, 105, none⟩)]]).run Tryz.prog w = .ok (.iface 132 (.agg #[.pointer (some ⟨1, 103, none⟩)])) w := by kernel_rfl
theorem asImplR (w : World) : (ReflectliteType.relation "Implements" ReflectliteType.implements_ #[.agg #[.pointer (some ⟨1, 103, none⟩)], .iface 132 (.agg #[.pointer (some ⟨1, 76, none⟩)])]).run Tryz.prog w = .ok (.bool true) w := by kernel_rfl
theorem asTypeOfR (v : Value) (w : World) : (ReflectliteType.typeOf #[.iface 103 v]).run Tryz.prog w = .ok (.iface 132 (.agg #[.pointer (some ⟨1, 103, none⟩)])) w := by kernel_rfl
theorem asAssR (w : World) : (ReflectliteType.relation "AssignableTo" ReflectliteType.assignableTo #[.agg #[.pointer (some ⟨1, 103, none⟩)], .iface 132 (.agg #[.pointer (some ⟨1, 103, none⟩)])]).run Tryz.prog w = .ok (.bool true) w := by kernel_rfl
theorem asValueR (c : Int) (w : World) : (ReflectliteValue.unpack (.iface 103 (.agg #[.int .i64 c]))).run Tryz.prog w
    = .ok (.agg #[.pointer (some ⟨1, 103, none⟩), .pointer (some ⟨w.heap.size, 0, none⟩), .int .u64 153]) (w.alloc (.cells #[.int .i64 c] 103)) := by kernel_rfl
theorem asElemOf (w : World) : (Rtype.elem? 105).run Tryz.prog w = .ok (some 103) w := by kernel_rfl
theorem asMkR (p : Addr) (w : World) : (ReflectliteValue.mk 103 p ReflectliteValue.flagAddr).run Tryz.prog w = .ok (.agg #[.pointer (some ⟨1, 103, none⟩), .pointer (some p), .int .u64 409]) w := by kernel_rfl
theorem asElemV (a p : Addr) (W : World) (ha : W.cell? a = some (.pointer (some p))) :
    (ReflectliteValue.method (ReflectliteValue.valueError "reflectlite.Value.Elem" 0) ReflectliteValue.elem #[.agg #[.pointer (some ⟨1, 105, none⟩), .pointer (some a), .int .u64 150]]).run Tryz.prog W
      = .ok (.agg #[.pointer (some ⟨1, 103, none⟩), .pointer (some p), .int .u64 409]) W := by
  change Sem.run Tryz.prog (ReflectliteValue.parts (.agg #[.pointer (some ⟨1, 105, none⟩), .pointer (some a), .int .u64 150]) >>= _) W = _
  rw [Sem.run_bind, asPartsP]
  simp only [Result.andThen]
  simp [ReflectliteValue.elem, loadVar, isAgg, underlying, Tryz.underlying105, ha, Result.andThen, asElemOf, asMkR]
theorem asPartsA (a : Addr) (w : World) : (ReflectliteValue.parts (.agg #[.pointer (some ⟨1, 103, none⟩), .pointer (some a), .int .u64 409])).run Tryz.prog w = .ok (some (103, a, 409)) w := by kernel_rfl
theorem asPartsR (a : Addr) (w : World) : (ReflectliteValue.parts (.agg #[.pointer (some ⟨1, 103, none⟩), .pointer (some a), .int .u64 153])).run Tryz.prog w = .ok (some (103, a, 153)) w := by kernel_rfl
theorem asDirect (w : World) : (Rtype.directlyAssignable 103 103).run Tryz.prog w = .ok true w := by kernel_rfl
theorem asSet (T D : Nat) (c d : Int) (W : World) (hb : Blk W D [.int .i64 c]) (ht : Blk W T [.int .i64 d]) :
    (ReflectliteValue.set #[(.agg #[.pointer (some ⟨1, 103, none⟩), .pointer (some ⟨T, 0, none⟩), .int .u64 409]), (.agg #[.pointer (some ⟨1, 103, none⟩), .pointer (some ⟨D, 0, none⟩), .int .u64 153])]).run Tryz.prog W = .ok (.tuple #[]) (W.setCell ⟨T, 0, none⟩ (.int .i64 c)) := by
  change Sem.run Tryz.prog (ReflectliteValue.parts (.agg #[.pointer (some ⟨1, 103, none⟩), .pointer (some ⟨T, 0, none⟩), .int .u64 409]) >>= _) W = _
  rw [Sem.run_bind, asPartsA]
  simp only [Result.andThen]
  change Sem.run Tryz.prog (ReflectliteValue.parts (.agg #[.pointer (some ⟨1, 103, none⟩), .pointer (some ⟨D, 0, none⟩), .int .u64 153]) >>= _) W = _
  rw [Sem.run_bind, asPartsR]
  simp only [Result.andThen]
  have h1 := run_loadVar (vs := [.int .i64 c]) Tryz.isAgg103 Tryz.sizeOf103 hb
  have h2 := run_storeVar (us := [.int .i64 d]) (vs := [.int .i64 c]) Tryz.sizeOf103 rfl (by intro v hv; simp at hv; subst hv; rfl) ht
  rw [if_neg (by decide)]
  simp only [Sem.run_bind, h1, Result.andThen, asDirect, if_true, h2]
  rfl

set_option maxHeartbeats 4000000 in
theorem as_hit (T : Nat) (c d : Int) (w : World) (hg : ErG w) (ht : Blk w T [.int .i64 d]) :
    Calls Tryz.prog 74 #[.iface 103 (.agg #[.int .i64 c]), .iface 105 (.pointer (some ⟨T, 0, none⟩))] w fun ev w' => ev = .returned (.bool true) ∧ Blk w' T [.int .i64 c] ∧ w.grownBy w' (some T) := by
  have x1 := @run_callFunc_extern Tryz.prog 91 _ (fun args => ReflectliteValue.unpack (args.getD 0 (.tuple #[]))) Tryz.func91 (by kernel_rfl) (by kernel_rfl) (by kernel_rfl) (by kernel_rfl)
  have x2 := @run_callFunc_extern Tryz.prog 92 _ (ReflectliteValue.methodAny (ReflectliteValue.valueError "reflectlite.Value.Type" 0) (fun t _ _ _ => ReflectliteType.toType t)) Tryz.func92 (by kernel_rfl) (by kernel_rfl) (by kernel_rfl) (by kernel_rfl)
  have x3 := @run_callFunc_extern Tryz.prog 93 _ (ReflectliteValue.method (ReflectliteValue.valueError "reflectlite.Value.IsNil" 0) ReflectliteValue.isNil) Tryz.func93 (by kernel_rfl) (by kernel_rfl) (by kernel_rfl) (by kernel_rfl)
  have x4 := @run_callFunc_extern Tryz.prog 136 _ (ReflectliteType.abiMethod fun t => do pure (.int .u8 (← Rtype.kind t))) Tryz.func136 (by kernel_rfl) (by kernel_rfl) (by kernel_rfl) (by kernel_rfl)
  have x5 := @run_callFunc_extern Tryz.prog 146 _ (ReflectliteType.method ReflectliteType.elem) Tryz.func146 (by kernel_rfl) (by kernel_rfl) (by kernel_rfl) (by kernel_rfl)
  have x6 := @run_callFunc_extern Tryz.prog 147 _ (ReflectliteType.relation "Implements" ReflectliteType.implements_) Tryz.func147 (by kernel_rfl) (by kernel_rfl) (by kernel_rfl) (by kernel_rfl)
  have x7 := @run_callFunc_extern Tryz.prog 100 _ ReflectliteType.typeOf Tryz.func100 (by kernel_rfl) (by kernel_rfl) (by kernel_rfl) (by kernel_rfl)
  have x8 := @run_callFunc_extern Tryz.prog 144 _ (ReflectliteType.relation "AssignableTo" ReflectliteType.assignableTo) Tryz.func144 (by kernel_rfl) (by kernel_rfl) (by kernel_rfl) (by kernel_rfl)
  have x9 := @run_callFunc_extern Tryz.prog 101 _ (ReflectliteValue.method (ReflectliteValue.valueError "reflectlite.Value.Elem" 0) ReflectliteValue.elem) Tryz.func101 (by kernel_rfl) (by kernel_rfl) (by kernel_rfl) (by kernel_rfl)
  have x10 := @run_callFunc_extern Tryz.prog 102 _ ReflectliteValue.set Tryz.func102 (by kernel_rfl) (by kernel_rfl) (by kernel_rfl) (by kernel_rfl)
  have y1 := asValueP
  have y2 := asTypeP
  have y3 := asKindM
  have y4 := asKindP
  have y5 := asKindR
  have y6 := asElemM
  have y7 := asImplM
  have y8 := asAssM
  have y9 := asElemP
  have y10 := asImplR
  have y11 := asTypeOfR
  have y12 := asAssR
  have y13 := asValueR
  obtain ⟨W1, hW1⟩ : ∃ W, W = w.alloc (.cells #[.pointer (some ⟨T, 0, none⟩)] 105) := ⟨_, rfl⟩
  obtain ⟨W2, hW2⟩ : ∃ W, W = W1.alloc (.cells #[.pointer (some ⟨1, 105, none⟩), .pointer (some ⟨w.heap.size, 0, none⟩), .int .u64 150] 120) := ⟨_, rfl⟩
  obtain ⟨W3, hW3⟩ : ∃ W, W = W2.alloc (.cells #[.pointer (some ⟨1, 105, none⟩), .pointer (some ⟨w.heap.size, 0, none⟩), .int .u64 150] 120) := ⟨_, rfl⟩
  obtain ⟨W4, hW4⟩ : ∃ W, W = W3.alloc (.cells #[.int .i64 c] 103) := ⟨_, rfl⟩
  have s1 : W1.heap.size = w.heap.size + 1 := by rw [hW1]; simp
  have s2 : W2.heap.size = w.heap.size + 1 + 1 := by rw [hW2]; simp [s1]
  have s3 : W3.heap.size = w.heap.size + 1 + 1 + 1 := by rw [hW3]; simp [s2]
  have b1 : Below w.heap.size w W1 := by rw [hW1]; exact bel1 _
  have b2 : Below w.heap.size w W2 := by rw [hW2]; exact b1.trans ((bel1 _).mono b1.size)
  have b3 : Below w.heap.size w W3 := by rw [hW3]; exact b2.trans ((bel1 _).mono b2.size)
  have b4 : Below w.heap.size w W4 := by rw [hW4]; exact b3.trans ((bel1 _).mono b3.size)
  have q1 : Blk W1 w.heap.size [.pointer (some ⟨T, 0, none⟩)] := by rw [hW1]; exact Blk.new _ _
  have q2 : Blk W2 w.heap.size [.pointer (some ⟨T, 0, none⟩)] := by rw [hW2]; exact q1.alloc _
  have q3 : Blk W3 w.heap.size [.pointer (some ⟨T, 0, none⟩)] := by rw [hW3]; exact q2.alloc _
  have n1 := asIsNil ⟨w.heap.size, 0, none⟩ ⟨T, 0, none⟩ W2 (q2.c 0 (by simp))
  have n2 := asElemV ⟨w.heap.size, 0, none⟩ ⟨T, 0, none⟩ W3 (q3.c 0 (by simp))
  have d4 : Blk W4 (w.heap.size + 1 + 1 + 1) [.int .i64 c] := by rw [hW4, ← s3]; exact Blk.new _ _
  have t4 : Blk W4 T [.int .i64 d] := ht.below b4
  have n3 := asSet T (w.heap.size + 1 + 1 + 1) c d W4 d4 t4
  have hg2 : W2.cell? ⟨0, 0, none⟩ = some (.iface 132 (.agg #[.pointer (some ⟨1, 76, none⟩)])) := hg.below b2
  have KE : Hid (Blk (W4.setCell ⟨T, 0, none⟩ (.int .i64 c)) T [.int .i64 c] ∧ w.grownBy (W4.setCell ⟨T, 0, none⟩ (.int .i64 c)) (some T)) := hide ⟨t4.set 0 (by simp) _, grown_set ⟨b4.os, b4.tape, b4.output, b4.size, fun i hi _ => b4.block i hi⟩ 0 _⟩
  rw [hW4, hW3, hW2, hW1] at KE n3
  rw [hW3, hW2, hW1] at n2
  rw [hW2, hW1] at n1 hg2
  clear hW1 hW2 hW3 hW4 s1 s2 s3 b1 b2 b3 b4 q1 q2 q3 d4 t4 hg ht W1 W2 W3 W4
  go_enter Tryz.func74, Tryz.ntmps74
  go_wp2
  refine wp_loop_rounds 1 ?_
  rw [rounds_succ]
  go_wp2
  go_ret
  exact ⟨rfl, unhide KE⟩
set_option maxHeartbeats 1000000 in
theorem codeOf_nil (w : World) : Calls Tryz.prog 39 #[.nilIface] w fun e w' => e = .returned (.int .i64 0) ∧ Below w.heap.size w w' := by
  go_enter Tryz.func39, Tryz.ntmps39
  go_wp2_with (go_at_call 74; refine (as_nil _ _).mono ?_; rintro e w' ⟨rfl, rfl⟩)
  go_ret
  exact ⟨rfl, bel1 _⟩
set_option maxHeartbeats 1000000 in
theorem codeOf_hit (c : Int) (w : World) (hg : ErG w) : Calls Tryz.prog 39 #[.iface 103 (.agg #[.int .i64 c])] w fun e w' => e = .returned (.int .i64 c) ∧ Below w.heap.size w w' := by
  have b0 := bel1 (w := w) (Obj.cells #[.int .i64 0] 103)
  have k0 : Blk (w.alloc (Obj.cells #[.int .i64 0] 103)) w.heap.size [.int .i64 0] := Blk.new _ _
  have C : Hid _ := hide (as_hit w.heap.size c 0 _ (hg.below b0) k0)
  have B0 := hide b0
  clear b0 k0 hg
  go_enter Tryz.func39, Tryz.ntmps39
  go_wp2_with (go_at_call 74; refine (unhide C).mono ?_; rintro e w2 ⟨rfl, k2, gr⟩; have c2 : w2.cell? ⟨w.heap.size, 0, none⟩ = some (.int .i64 c) := k2.c 0 (by simp); have B2 : Hid (Below w.heap.size w w2) := hide ((unhide B0).grown gr (unhide B0).size (fun q hq => by cases hq; exact Nat.le_refl _)); clear k2 gr)
  go_ret
  exact ⟨rfl, unhide B2⟩
end Go.Proofs.YtemodlgmjgdjpaaGreatDoor
