/-
  What the law's copy of a list of whole numbers answers (toIntS): a new slice that reads as the list did, at every list of at most 1048576 numbers; nothing that was there is written.
  A variable in a block of its own: what its cells hold, that none is frozen, that the block is there. No condition.
  A region that draws its order, whose own operations only read and whose callees answer one plain value and make memory only: one walk, in the order of the text, serves every order. The class of worlds: those in which nothing that was there has turned. No condition.
-/
import Derived.Test.YtfehfocfoegbdaaSmall
import Derived.Test.YtfehfocfoegbdaaBase
import Derived.Deep.Quiet

namespace Go.Proofs.Ytfehfocfoegbdaa
open Go.RowKit

theorem info_int : (Try.prog.info? 3).map (fun i => (i.zero, i.size, i.bytes)) = some (some (.int .i64 0), 1, 8) := by kernel_rfl

/-- After k rounds of the copying. -/
structure Copied (w wr : World) (zs : List Int) (k : Nat) : Prop where
  own : ∃ xs : List Value, wr.ownsRow w.heap.size 3 1 (.slice (some ⟨w.heap.size, 0, none⟩) zs.length zs.length) zs.length xs ∧ ∀ j, j < k → xs[j]? = some (.int .i64 (nth zs j))
  bel : Below w.heap.size w wr

theorem Copied.here {w wr : World} {zs : List Int} {k : Nat} (h : Copied w wr zs k) (hk : k < zs.length) :
    (∃ v, wr.cell? ⟨w.heap.size, k, none⟩ = some v) ∧ wr.frozen? ⟨w.heap.size, k, none⟩ = false := by
  obtain ⟨xs, ho, _⟩ := h.own
  refine ⟨?_, ho.frozenAt k⟩
  rw [ho.cellAt k (by omega)]
  have := ho.1
  exact ⟨xs[k]'(by omega), List.getElem?_eq_getElem (by omega)⟩

theorem Copied.step {w wr : World} {zs : List Int} {k : Nat} (h : Copied w wr zs k) (hk : k < zs.length) :
    Copied w (wr.setCell ⟨w.heap.size, k, none⟩ (.int .i64 (nth zs k))) zs (k + 1) := by
  obtain ⟨xs, ho, hx⟩ := h.own
  refine ⟨⟨_, (ho.stored k _).1, fun j hj => ?_⟩, h.bel.setCell (Nat.le_refl _) _⟩
  have hl := ho.1
  by_cases e : j = k
  · subst e; rw [List.getElem?_set_self (by omega)]
  · rw [List.getElem?_set_ne (by omega)]; exact hx j (by omega)

theorem Copied.row {w wr : World} {zs : List Int} (h : Copied w wr zs zs.length) (hs : zs.length ≤ 1048576) (hf : ∀ i : Nat, -9223372036854775808 ≤ nth zs i ∧ nth zs i ≤ 9223372036854775807) :
    Row wr (some ⟨w.heap.size, 0, none⟩) zs.length zs := by
  obtain ⟨xs, ho, hx⟩ := h.own
  refine ⟨rfl, by omega, fun i hi => ⟨_, _, rfl, ?_⟩, hf⟩
  rw [Nat.zero_add, ho.cellAt i (by omega), hx i hi]

end Go.Proofs.Ytfehfocfoegbdaa

namespace Go.Proofs.Ytfehfocfoegbdaa
open Go.RowKit

structure Blk (w : World) (B : Nat) (vs : List Value) : Prop where
  c : ∀ i (h : i < vs.length), w.cell? ⟨B, i, none⟩ = some vs[i]
  f : ∀ i, i < vs.length → w.frozen? ⟨B, i, none⟩ = false
  lt : B < w.heap.size
theorem Blk.below {w w' : World} {B : Nat} {vs : List Value} (h : Blk w B vs) (k : Below w.heap.size w w') : Blk w' B vs :=
  ⟨fun i hi => (k.cell (p := ⟨B, i, none⟩) h.lt).trans (h.c i hi), fun i hi => (k.frozen (p := ⟨B, i, none⟩) h.lt).trans (h.f i hi), Nat.lt_of_lt_of_le h.lt k.size⟩
theorem Blk.drewN {w : World} {B : Nat} {vs : List Value} (h : Blk w B vs) (n : Nat) : Blk (w.drewN n) B vs := h.below (bel0d n)
theorem Blk.alloc {w : World} {B : Nat} {vs : List Value} (h : Blk w B vs) (o : Obj) : Blk (w.alloc o) B vs := h.below (bel1 o)
theorem Blk.new {w : World} (vs : List Value) (T : TypeId) : Blk (w.alloc (Obj.cells vs.toArray T)) w.heap.size vs :=
  ⟨fun i hi => by simp [go_sem, hi], fun i _ => by simp [go_sem], by simp⟩
theorem Blk.other {w : World} {B : Nat} {vs : List Value} (h : Blk w B vs) {p : Addr} (hp : p.block ≠ B) (v : Value) : Blk (w.setCell p v) B vs :=
  ⟨fun i hi => (World.cell?_setCell_other w _ _ _ (by intro e; rw [e] at hp; exact hp rfl)).trans (h.c i hi), fun i hi => by simp [h.f i hi], by simpa [World.setCell] using h.lt⟩
theorem Blk.set {w : World} {B : Nat} {vs : List Value} (h : Blk w B vs) (i : Nat) (hi : i < vs.length) (v : Value) : Blk (w.setCell ⟨B, i, none⟩ v) B (vs.set i v) := by
  refine ⟨fun j hj => ?_, fun j hj => by simpa using h.f j (by simpa using hj), by simpa [World.setCell] using h.lt⟩
  have hj' : j < vs.length := by simpa using hj
  by_cases e : i = j
  · subst e
    rw [List.getElem_set_self]
    exact World.cell?_setCell_same _ _ _ (h.c i hi)
  · rw [List.getElem_set_ne e]
    exact (World.cell?_setCell_other w _ _ _ (by intro k; simp only [Addr.mk.injEq] at k; omega)).trans (h.c j hj')

end Go.Proofs.Ytfehfocfoegbdaa

namespace Go.Proofs.Ytfehfocfoegbdaa
open Go.RowKit

/-- The worlds in which nothing that was there in w has turned, as the values of a function. -/
theorem belClass (w : World) : ∃ (ι : Type) (f : ι → World), Nonempty ι ∧ (∀ x, Below w.heap.size w (f x)) ∧ (∀ w', Below w.heap.size w w' → ∃ x, w' = f x) :=
  ⟨{w' // Below w.heap.size w w'}, Subtype.val, ⟨⟨w, Below.refl _ _⟩⟩, fun x => x.2, fun w' h => ⟨⟨w', h⟩, rfl⟩⟩

theorem wp_region_bel {P : Program} {id : Nat} {Q : Exit → Act → World → Prop} {a : Act} {w : World} {l : List Oper} {ι : Type} {f : ι → World} (hall : ∀ w', Below w.heap.size w w' → ∃ x, w' = f x)
    (hm : P.follows .mixedOrders = true) (hB : Region.lexB .any l.toArray = true)
    (h : wpQuiet P l.toArray (fun w' => ∃ x, w' = f x) (fun a' => ∀ w', (∃ x, w' = f x) → Q .normal a' w') l a) : (Code.region id l.toArray true).wp P Q a w :=
  wp_region_quiet (C := fun w' => ∃ x, w' = f x) hm hB (hall _ ⟨rfl, rfl, rfl, Nat.le_refl _, fun _ _ => rfl⟩) (by simpa using h)

/-- A callee's contract in such a walk. -/
theorem belQ {P : Program} {F : FuncId} {args : Array Value} {w : World} {ι : Type} {f : ι → World} (hb : ∀ x, Below w.heap.size w (f x)) (hall : ∀ w', Below w.heap.size w w' → ∃ x, w' = f x) {x : ι} {v : Value}
    (h : Calls P F args (f x) fun e w' => e = .returned v ∧ Below (f x).heap.size (f x) w') : Calls P F args (f x) fun e w'' => e = .returned v ∧ ∃ y, w'' = f y :=
  h.mono fun _ _ ⟨he, k⟩ => ⟨he, hall _ ((hb x).trans (k.mono (hb x).size))⟩
theorem belS {P : Program} {F : FuncId} {args : Array Value} {ι : Type} {f : ι → World} {x : ι} {v : Value}
    (h : Calls P F args (f x) fun e w' => e = .returned v ∧ w' = f x) : Calls P F args (f x) fun e w'' => e = .returned v ∧ ∃ y, w'' = f y :=
  h.mono fun _ _ ⟨he, k⟩ => ⟨he, x, k⟩
theorem belN {P : Program} {F : FuncId} {args : Array Value} {w : World} {ι : Type} {f : ι → World} (hb : ∀ x, Below w.heap.size w (f x)) (hall : ∀ w', Below w.heap.size w w' → ∃ x, w' = f x) {x : ι} {v : Value}
    (h : Calls P F args (f x) fun e w' => e = .returned v ∧ ∃ n, w' = (f x).drewN n) : Calls P F args (f x) fun e w'' => e = .returned v ∧ ∃ y, w'' = f y :=
  h.mono fun _ _ ⟨he, n, k⟩ => ⟨he, hall _ (by rw [k]; exact (hb x).trans (bel0d' n))⟩

end Go.Proofs.Ytfehfocfoegbdaa
