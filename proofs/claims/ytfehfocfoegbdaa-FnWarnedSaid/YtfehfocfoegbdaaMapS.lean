/-
  Maps by texts whose elements are kept as they are: what such a map has, as a function of the name; what a lookup, a store, a delete, a clear and a range do to it. No condition but the lengths that Go itself keeps.
-/
import Derived.Test.YtfehfocfoegbdaaMMake
import Derived.Test.YtfehfocfoegbdaaMStrTo
import Derived.Maps.OwnSet
import Derived.Maps.RangeWalk
import Derived.Sort.KeysCollected
namespace Go.Proofs.Ytfehfocfoegbdaa
open Go.RowKit Go.Maps Go.WideMaps Go.ChangeMaps Go.MapKept

/-- A text as a key. -/
def txK (s : ByteArray) : Lit := .string s.data.toList
theorem txK_inj {s t : ByteArray} (h : txK s = txK t) : s = t := by
  simp only [txK, Lit.string.injEq] at h
  exact ByteArray.ext (Array.ext' h)
theorem txK_isKey (s : ByteArray) : WideAt.IsKeyLit (txK s) := trivial
/-- Every value reads as itself. -/
def selfR (v : Value) : Option (DataW Value × List MemPlace) := some (.held v, [])
theorem selfR_inv {v : Value} {y : DataW Value × List MemPlace} (h : selfR v = some y) : y = (.held v, []) := by
  simp only [selfR, Option.some.injEq] at h; exact h.symm
/-- A datum that has, by name, what F says. -/
def Says (D : DataW Value) (F : ByteArray → Option Value) : Prop := (∀ s, Maps.has D (txK s) = (F s).isSome) ∧ ∀ s v, F s = some v → ∀ z, D.atKey (txK s) z = .held v
/-- Block b is a map by texts of at most n entries that has, by name, what F says. -/
def MapIs (w : World) (b n : Nat) (F : ByteArray → Option Value) : Prop := ∃ D : DataW Value, w.ownsMap Try.prog 9 selfR b n D ∧ Says D F
theorem MapIs.below {w w' : World} {b n : Nat} {F : ByteArray → Option Value} (h : MapIs w b n F) (k : Below w.heap.size w w') : MapIs w' b n F := by
  obtain ⟨D, ⟨es, clock, h1, h2⟩, h3⟩ := h
  have hlt : b < w.heap.size := (Array.getElem?_eq_some_iff.1 h1).1
  exact ⟨D, ⟨es, clock, (k.block b hlt).trans h1, h2⟩, h3⟩
theorem MapIs.kept {w w' : World} {b n : Nat} {F : ByteArray → Option Value} {row : Option Nat} (h : MapIs w b n F) (hg : w.grownBy w' row) (hne : some b ≠ row) : MapIs w' b n F := by
  obtain ⟨D, h1, h2⟩ := h
  exact ⟨D, h1.kept hg hne, h2⟩
theorem MapIs.alloc {w : World} {b n : Nat} {F : ByteArray → Option Value} (h : MapIs w b n F) (o : Obj) : MapIs (w.alloc o) b n F := h.below (bel1 o)
theorem MapIs.mono {w : World} {b n m : Nat} {F : ByteArray → Option Value} (h : MapIs w b n F) (hn : n ≤ m) : MapIs w b m F := by
  obtain ⟨D, h1, h2⟩ := h
  exact ⟨D, h1.mono hn, h2⟩
theorem MapIs.lt {w : World} {b n : Nat} {F : ByteArray → Option Value} (h : MapIs w b n F) : b < w.heap.size := by
  obtain ⟨D, h1, _⟩ := h
  exact h1.lt
theorem MapIs.made (w : World) : MapIs (w.alloc (.map #[] 0)) w.heap.size 0 (fun _ => none) :=
  ⟨.map [], World.ownsMap_made w _ _ _, fun _ => rfl, fun _ _ h => by cases h⟩
theorem MapIs.setCell {w : World} {b n : Nat} {F : ByteArray → Option Value} (h : MapIs w b n F) {a : Addr} (ha : b ≠ a.block) (u : Value) : MapIs (w.setCell a u) b n F := by
  obtain ⟨D, h1, h2⟩ := h
  exact ⟨D, h1.setCell ha u, h2⟩
theorem key_str {s : ByteArray} (hs : s.size ≤ 9223372036854775807) : keyOf Try.prog 9 (.string s) = some (txK s) := keyOf_string_mk Try.underlying9 (by unfold maxLen; exact hs)
theorem keyed_str : Keyed Try.prog 9 := string_keyed Try.underlying9
/-- 'v, ok := m[s]'. -/
theorem MapIs.look {w : World} {b n : Nat} {F : ByteArray → Option Value} (h : MapIs w b n F) {t e : TypeId} (ht : Try.prog.underlying t = some (.map 9 e)) {z : Value} (hz : (zeroValue e).run Try.prog w = .ok z w) {s : ByteArray} (hs : s.size ≤ 9223372036854775807) :
    (Instr.lookup t (.map (some b)) (.string s) true).run Try.prog w = .ok (.tuple #[(F s).getD z, .bool (F s).isSome]) w := by
  obtain ⟨D, h1, h2, h3⟩ := h
  obtain ⟨v, ps, hr, hv⟩ := h1.look_ok keyed_str ht hz (zd := .held z) (zp := []) rfl (key_str hs)
  rw [h2] at hr
  have e1 := selfR_inv hv
  simp only [Prod.mk.injEq] at e1
  cases g : F s with
  | none =>
    rw [atKey_of_not_has (by rw [h2, g]; rfl)] at e1
    have : z = v := by simpa using e1.1
    rw [g] at hr
    rw [hr, this]; rfl
  | some u =>
    rw [h3 s u g] at e1
    have : u = v := by simpa using e1.1
    rw [g] at hr
    rw [hr, this]; rfl
/-- 'm[s]'. -/
theorem MapIs.get {w : World} {b n : Nat} {F : ByteArray → Option Value} (h : MapIs w b n F) {t e : TypeId} (ht : Try.prog.underlying t = some (.map 9 e)) {z : Value} (hz : (zeroValue e).run Try.prog w = .ok z w) {s : ByteArray} (hs : s.size ≤ 9223372036854775807) :
    (Instr.lookup t (.map (some b)) (.string s) false).run Try.prog w = .ok ((F s).getD z) w := by
  obtain ⟨D, h1, h2, h3⟩ := h
  obtain ⟨v, ps, hr, hv⟩ := h1.lookup keyed_str ht hz (zd := .held z) (zp := []) rfl (key_str hs)
  have e1 := selfR_inv hv
  simp only [Prod.mk.injEq] at e1
  cases g : F s with
  | none =>
    rw [atKey_of_not_has (by rw [h2, g]; rfl)] at e1
    have : z = v := by simpa using e1.1
    rw [hr, this]; rfl
  | some u =>
    rw [h3 s u g] at e1
    have : u = v := by simpa using e1.1
    rw [hr, this]; rfl
/-- The function with one name more, or one fewer. -/
def putF (F : ByteArray → Option Value) (s : ByteArray) (v : Value) : ByteArray → Option Value := fun t => if t = s then some v else F t
def delF (F : ByteArray → Option Value) (s : ByteArray) : ByteArray → Option Value := fun t => if t = s then none else F t
theorem Says.put {D : DataW Value} {F : ByteArray → Option Value} (h : Says D F) (hm : IsMap D) (s : ByteArray) (v : Value) : Says (D.put (txK s) (.held v)) (putF F s v) := by
  refine ⟨fun t => ?_, fun t u hu z => ?_⟩
  · unfold putF
    by_cases e : t = s
    · subst e; rw [has_put_same hm (txK_isKey _), if_pos rfl]; rfl
    · rw [has_put_other (fun k => e (txK_inj k)), if_neg e]; exact h.1 t
  · unfold putF at hu
    by_cases e : t = s
    · subst e; rw [if_pos rfl] at hu; cases hu; exact atKey_put_same hm (txK_isKey _) _ _
    · rw [if_neg e] at hu; rw [atKey_put_other (fun k => e (txK_inj k))]; exact h.2 t u hu z
theorem Says.del {D : DataW Value} {F : ByteArray → Option Value} (h : Says D F) (s : ByteArray) : Says (D.del (txK s)) (delF F s) := by
  refine ⟨fun t => ?_, fun t u hu z => ?_⟩
  · unfold delF
    by_cases e : t = s
    · subst e; rw [has_del_same, if_pos rfl]; rfl
    · rw [has_del_other (fun k => e (txK_inj k)), if_neg e]; exact h.1 t
  · unfold delF at hu
    by_cases e : t = s
    · subst e; rw [if_pos rfl] at hu; cases hu
    · rw [if_neg e] at hu; rw [atKey_del_other (fun k => e (txK_inj k))]; exact h.2 t u hu z
/-- 'm[s] = v'. -/
theorem MapIs.store {w : World} {b n : Nat} {F : ByteArray → Option Value} (h : MapIs w b n F) {t e : TypeId} (ht : Try.prog.underlying t = some (.map 9 e)) (hn : n < 9223372036854775807) {s : ByteArray} (hs : s.size ≤ 9223372036854775807) (v : Value) :
    ∃ w', (Instr.mapUpdate t (.map (some b)) (.string s) v).run Try.prog w = .ok () w' ∧ MapIs w' b (n + 1) (putF F s v) ∧ w.mapTurned w' b := by
  obtain ⟨D, h1, h2⟩ := h
  obtain ⟨w', hr, ho, ht⟩ := h1.store keyed_str ht (by unfold maxLen; exact hn) (key_str hs) (show selfR v = some (.held v, []) from rfl)
  exact ⟨w', hr, ⟨_, ho, h2.put h1.isMap s v⟩, ht⟩
/-- 'delete(m, s)'. -/
theorem MapIs.drop {w : World} {b n : Nat} {F : ByteArray → Option Value} (h : MapIs w b n F) {t e : TypeId} (ht : Try.prog.underlying t = some (.map 9 e)) {s : ByteArray} (hs : s.size ≤ 9223372036854775807) :
    ∃ w', (∀ ty, (Builtin.delete_ #[t, 9] ty #[.map (some b), .string s]).run Try.prog w = .ok (.tuple #[]) w') ∧ MapIs w' b n (delF F s) ∧ w.mapTurned w' b := by
  obtain ⟨D, h1, h2⟩ := h
  obtain ⟨w', hr, ho, ht⟩ := h1.drop keyed_str ht (key_str hs) 0
  exact ⟨w', fun _ => hr, ⟨_, ho, h2.del s⟩, ht⟩
/-- 'clear(m)'. -/
theorem MapIs.clear {w : World} {b n : Nat} {F : ByteArray → Option Value} (h : MapIs w b n F) {t e : TypeId} (ht : Try.prog.underlying t = some (.map 9 e)) :
    ∃ w', (∀ ty, (Builtin.clear_ #[t] ty #[.map (some b)]).run Try.prog w = .ok (.tuple #[]) w') ∧ MapIs w' b 0 (fun _ => none) ∧ w.mapTurned w' b := by
  obtain ⟨D, ⟨es, clock, hb, hf, hs, hD⟩, h2⟩ := h
  refine ⟨setBlock w b (.map #[] clock), ?_, ⟨.map [], ⟨#[], clock, heap_setBlock_same hb _, ⟨by simp, ?_, by simp⟩, Nat.le_refl _, rfl⟩, fun _ => rfl, fun _ _ h => by cases h⟩, ⟨es, clock, #[], clock, hb, rfl⟩⟩
  · intro ty; simp [Builtin.clear_, run_underlying ht, MapKept.run_getObj_map hb, MapKept.run_setObj_map _ hb, Result.andThen, setBlock]
  · simp [Stamped]
theorem mapTurned_below {w w' : World} {b lo : Nat} (h : w.mapTurned w' b) (hl : lo ≤ b) (hs : lo ≤ w.heap.size) : Below lo w w' := (Below.refl lo w).grown h.grown hs (fun j hj => by cases hj; exact hl)

/-- A range under way over a map by texts: what it has, and what is still to come. -/
def RangeIs (w : World) (b r n : Nat) (F : ByteArray → Option Value) (L : ByteArray → Bool) (cnt : Nat) : Prop :=
  ∃ (D : DataW Value) (left : Lit → Bool), w.ranges Try.prog 9 selfR b r n D left cnt ∧ Says D F ∧ ∀ s, left (txK s) = L s
theorem RangeIs.map {w : World} {b r n cnt : Nat} {F : ByteArray → Option Value} {L : ByteArray → Bool} (h : RangeIs w b r n F L cnt) : MapIs w b n F := by
  obtain ⟨D, left, h1, h2, _⟩ := h
  exact ⟨D, h1.owns, h2⟩
theorem RangeIs.kept {w w' : World} {b r n cnt : Nat} {F : ByteArray → Option Value} {L : ByteArray → Bool} {row : Option Nat} (h : RangeIs w b r n F L cnt) (hg : w.grownBy w' row) (hb : some b ≠ row) (hr : some r ≠ row) : RangeIs w' b r n F L cnt := by
  obtain ⟨D, left, h1, h2⟩ := h
  exact ⟨D, left, h1.kept hg hb hr, h2⟩
theorem RangeIs.below {w w' : World} {b r n cnt : Nat} {F : ByteArray → Option Value} {L : ByteArray → Bool} (h : RangeIs w b r n F L cnt) (k : Below w.heap.size w w') : RangeIs w' b r n F L cnt :=
  h.kept (row := none) ⟨k.os, k.tape, k.output, k.size, fun i hi _ => k.block i hi⟩ (by simp) (by simp)
theorem RangeIs.left_eq {w : World} {b r n cnt : Nat} {F : ByteArray → Option Value} {L : ByteArray → Bool} (h : RangeIs w b r n F L cnt) : w.rangeLeft b r = cnt := by
  obtain ⟨D, left, h1, h2⟩ := h
  exact h1.left_eq
theorem RangeIs.lt {w : World} {b r n cnt : Nat} {F : ByteArray → Option Value} {L : ByteArray → Bool} (h : RangeIs w b r n F L cnt) : r < w.heap.size := by
  obtain ⟨D, left, h1, h2⟩ := h
  exact h1.lt
section
variable {ops : Array Oper} {rest : List Oper} {o : Oper} {a : Act} {Q : Exit → Act → World → Prop}
/-- 'range m'. -/
theorem wpList_range_is {w : World} (hg : o.guard = none) (m : Operand) (t : TypeId) (hop : o.op = Op.range t m) {e : TypeId} (ht : Try.prog.underlying t = some (.map 9 e)) {b n : Nat} {F : ByteArray → Option Value}
    (hm : a.eval m = .map (some b)) (h : MapIs w b n F)
    (hK : ∀ (w' : World) (cnt : Nat), RangeIs w' b w.heap.size n F (fun s => (F s).isSome) cnt → cnt ≤ n → w.grownBy w' none → w'.heap.size = w.heap.size + 1 → wpList Try.prog ops Q rest (a.put o.dst (.pointer (some ⟨w.heap.size, 0, none⟩))) w') :
    wpList Try.prog ops Q (o :: rest) a w := by
  obtain ⟨D, h1, h2⟩ := h
  exact wpList_range_own w hg m t hop 9 e keyed_str ht selfR b n D hm h1 (fun w' hr hgr hsz => hK w' _ ⟨D, _, hr, h2, h2.1⟩ h1.size_le hgr hsz)
/-- The next one. -/
theorem wpList_next_is {w : World} (hg : o.guard = none) (it : Operand) (hop : o.op = Op.next it false) {b r n cnt : Nat} {F : ByteArray → Option Value} {L : ByteArray → Bool}
    (hit : a.eval it = .pointer (some ⟨r, 0, none⟩)) (h : RangeIs w b r n F L cnt)
    (hDone : (∀ s, L s = false) → wpList Try.prog ops Q rest (a.put o.dst (.tuple #[.bool false])) w)
    (hMore : ∀ (s : ByteArray) (v : Value) (w' : World) (cnt' : Nat), s.size ≤ 9223372036854775807 → L s = true → F s = some v → RangeIs w' b r n F (fun t => L t && !decide (t = s)) cnt' → cnt' < cnt → w.grownBy w' (some r) → w'.heap.size = w.heap.size →
      (Instr.entry (.pointer (some ⟨r, 0, none⟩))).run Try.prog w' = .ok (.tuple #[.string s, v]) w' → wpList Try.prog ops Q rest (a.put o.dst (.tuple #[.bool true, .string s, v])) w') :
    wpList Try.prog ops Q (o :: rest) a w := by
  obtain ⟨D, left, h1, h2, h3⟩ := h
  refine wpList_next_ranges w hg it hop 9 keyed_str selfR (fun s : ByteArray => Value.string s) (fun v : Value => v) (fun key kl hk => ?_) (fun v _ _ => ⟨v, rfl⟩) b r n D left cnt hit h1 (fun _ hl => hDone (fun s => by rw [← h3]; exact hl _)) ?_
  · obtain ⟨x, hx, _⟩ := Maps.keyOf_str Try.underlying9 hk
    exact ⟨_, hx⟩
  · intro s v kl y w' cnt' hkey hl hv hat hrg hlt hgr hsz hen
    obtain ⟨x, hx, rfl, hxl⟩ := Maps.keyOf_str Try.underlying9 hkey
    have hkl : (Lit.string x) = txK s := by
      have : Value.string s = Value.string ⟨⟨x⟩⟩ := hx
      have : s = ⟨⟨x⟩⟩ := by simpa using this
      rw [this]; rfl
    have hss : s.size ≤ 9223372036854775807 := by
      have e : s = ⟨⟨x⟩⟩ := by simpa using (show Value.string s = Value.string ⟨⟨x⟩⟩ from hx)
      rw [e]; exact hxl
    rw [hkl] at hl hat hrg
    have hy := selfR_inv hv
    subst hy
    have hF : F s = some v := by
      cases g : F s with
      | none =>
        have n1 := atKey_of_not_has (D := D) (k := txK s) (by rw [h2.1, g]; rfl) .nil
        rw [hat .nil] at n1
        cases n1
      | some u =>
        have := h2.2 s u g .nil
        rw [hat .nil] at this
        simpa using this.symm
    refine hMore s v w' cnt' hss (by rw [← h3]; exact hl) hF ⟨D, _, hrg, h2, fun t => ?_⟩ hlt hgr hsz hen
    have hk : (txK t).sameKey (txK s) = decide (t = s) := by
      rw [Bool.eq_iff_iff, WideAt.sameKey_iff (txK_isKey s), decide_eq_true_eq]
      exact ⟨fun e => txK_inj e, fun e => by rw [e]⟩
    show (left (txK t) && !(txK t).sameKey (txK s)) = _
    rw [h3 t, hk]
end

end Go.Proofs.Ytfehfocfoegbdaa
