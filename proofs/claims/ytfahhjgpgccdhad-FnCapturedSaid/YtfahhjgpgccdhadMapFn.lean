/-
  A map from whole numbers that was made last: an entry more, and what is found. No condition.
-/
import Derived.Test.YtfahhjgpgccdhadChecked
import Derived.WideMake
namespace Go.Proofs.Ytfahhjgpgccdhad

theorem alloc_set (W : World) (o p : Obj) : ({ (W.alloc o) with heap := (W.alloc o).heap.setIfInBounds W.heap.size p } : World) = W.alloc p := by
  simp only [World.alloc]
  congr 1
  apply Array.ext_getElem?
  intro i
  by_cases h : i = W.heap.size
  · subst h; simp
  · simp [Array.getElem?_push, Ne.symm h, h]
theorem ins_at {mty kt et : TypeId} {r : Nat} {w : World} {es : Array MapEntry} {clock : Nat} (k : Int) (val : Value) (hm : Try.prog.underlying mty = some (.map kt et)) (hk : Try.prog.underlying kt = some (.int .i64)) (hb : w.heap[r]? = some (.map es clock)) (hf : Instr.findNow (.int .i64) (.int .i64 k) es.toList 0 = some none) :
    (Instr.mapUpdate mty (.map (some r)) (.int .i64 k) val).run Try.prog w = .ok () { w with heap := w.heap.setIfInBounds r (.map (es.push { key := .int .i64 k, val := val, born := clock }) (clock + 1)) } := by
  have hc : (Instr.checkKey false 10000 kt (.int .i64 k)).run Try.prog w = .ok () w := MapKept.run_checkKey (k := .int .i64 k) hk (by simp [MapKept.IsKey]) false 9999
  simp [Instr.mapUpdate, run_underlying hm, MapKept.run_getObj_map hb, hc, MapKept.run_findKey hk hf, MapKept.run_setObj_map _ hb, Result.andThen]
theorem look_at {mty kt et : TypeId} {r i : Nat} {v : Value} {w : World} {es : Array MapEntry} {clock : Nat} (k : Int) (hm : Try.prog.underlying mty = some (.map kt et)) (hk : Try.prog.underlying kt = some (.int .i64)) (hb : w.heap[r]? = some (.map es clock)) (hf : Instr.findNow (.int .i64) (.int .i64 k) es.toList 0 = some (some (i, v))) :
    (Instr.lookup mty (.map (some r)) (.int .i64 k) true).run Try.prog w = .ok (.tuple #[v, .bool true]) w := by
  have hc : (Instr.checkKey es.isEmpty 10000 kt (.int .i64 k)).run Try.prog w = .ok () w := MapKept.run_checkKey (k := .int .i64 k) hk (by simp [MapKept.IsKey]) es.isEmpty 9999
  simp [Instr.lookup, run_underlying hm, MapKept.run_getObj_map hb, hc, MapKept.run_findKey hk hf, Result.andThen]
theorem look_not {mty kt et : TypeId} {r : Nat} {z : Value} {w : World} {es : Array MapEntry} {clock : Nat} (k : Int) (hm : Try.prog.underlying mty = some (.map kt et)) (hk : Try.prog.underlying kt = some (.int .i64)) (hb : w.heap[r]? = some (.map es clock)) (hf : Instr.findNow (.int .i64) (.int .i64 k) es.toList 0 = some none) (hz : (zeroValue et).run Try.prog w = .ok z w) :
    (Instr.lookup mty (.map (some r)) (.int .i64 k) true).run Try.prog w = .ok (.tuple #[z, .bool false]) w := by
  have hc : (Instr.checkKey es.isEmpty 10000 kt (.int .i64 k)).run Try.prog w = .ok () w := MapKept.run_checkKey (k := .int .i64 k) hk (by simp [MapKept.IsKey]) es.isEmpty 9999
  simp [Instr.lookup, run_underlying hm, MapKept.run_getObj_map hb, hc, MapKept.run_findKey hk hf, hz, Result.andThen]
theorem map_here (W : World) (o : Obj) : (W.alloc o).heap[W.heap.size]? = some o := by
  show (W.heap.push o)[W.heap.size]? = _
  simp
theorem ins_last {mty kt et : TypeId} {r : Nat} (W : World) (es : Array MapEntry) (clock : Nat) (k : Int) (val : Value) (hr : W.heap.size = r) (hm : Try.prog.underlying mty = some (.map kt et)) (hk : Try.prog.underlying kt = some (.int .i64)) (hf : Instr.findNow (.int .i64) (.int .i64 k) es.toList 0 = some none) :
    (Instr.mapUpdate mty (.map (some r)) (.int .i64 k) val).run Try.prog (W.alloc (.map es clock)) = .ok () (W.alloc (.map (es.push { key := .int .i64 k, val := val, born := clock }) (clock + 1))) := by
  subst hr
  rw [ins_at k val hm hk (map_here W _) hf, alloc_set]
theorem look_last {mty kt et : TypeId} {r i : Nat} {v : Value} (W : World) (es : Array MapEntry) (clock : Nat) (k : Int) (hr : W.heap.size = r) (hm : Try.prog.underlying mty = some (.map kt et)) (hk : Try.prog.underlying kt = some (.int .i64)) (hf : Instr.findNow (.int .i64) (.int .i64 k) es.toList 0 = some (some (i, v))) :
    (Instr.lookup mty (.map (some r)) (.int .i64 k) true).run Try.prog (W.alloc (.map es clock)) = .ok (.tuple #[v, .bool true]) (W.alloc (.map es clock)) := by
  subst hr
  exact look_at k hm hk (map_here W _) hf
theorem none_last {mty kt et : TypeId} {r : Nat} {z : Value} (W : World) (es : Array MapEntry) (clock : Nat) (k : Int) (hr : W.heap.size = r) (hm : Try.prog.underlying mty = some (.map kt et)) (hk : Try.prog.underlying kt = some (.int .i64)) (hf : Instr.findNow (.int .i64) (.int .i64 k) es.toList 0 = some none) (hz : ∀ w, (zeroValue et).run Try.prog w = .ok z w) :
    (Instr.lookup mty (.map (some r)) (.int .i64 k) true).run Try.prog (W.alloc (.map es clock)) = .ok (.tuple #[z, .bool false]) (W.alloc (.map es clock)) := by
  subst hr
  exact look_not k hm hk (map_here W _) hf (hz _)

end Go.Proofs.Ytfahhjgpgccdhad
