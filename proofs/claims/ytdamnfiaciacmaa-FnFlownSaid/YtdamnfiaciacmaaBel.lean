/-
  A region that draws its order, whose own operations only read and whose callees answer one plain value and make memory only: one walk, in the order of the text, serves every order. The class of worlds: those in which nothing that was there has turned. No condition.
-/
import Derived.Test.YtdamnfiaciacmaaBase
import Derived.Deep.Quiet
namespace Go.Proofs.Ytdamnfiaciacmaa
open Go.RowKit

/-- The worlds in which nothing that was there in w has turned, as the values of a function. -/
theorem belClass (w : World) : ∃ (ι : Type) (f : ι → World), Nonempty ι ∧ (∀ x, Below w.heap.size w (f x)) ∧ (∀ w', Below w.heap.size w w' → ∃ x, w' = f x) :=
  ⟨{w' // Below w.heap.size w w'}, Subtype.val, ⟨⟨w, Below.refl _ _⟩⟩, fun x => x.2, fun w' h => ⟨⟨w', h⟩, rfl⟩⟩

theorem wp_region_bel {P : Program} {id : Nat} {Q : Exit → Act → World → Prop} {a : Act} {w : World} {l : List Oper} {ι : Type} {f : ι → World} (hall : ∀ w', Below w.heap.size w w' → ∃ x, w' = f x)
    (hm : P.follows .mixedOrders = true) (hB : Region.lexB .any l.toArray = true)
    (h : wpQuiet P l.toArray (fun w' => ∃ x, w' = f x) (fun a' => ∀ w', (∃ x, w' = f x) → Q .normal a' w') l a) : (Code.region id l.toArray true).wp P Q a w :=
  wp_region_quiet (C := fun w' => ∃ x, w' = f x) hm hB (hall _ ⟨rfl, rfl, rfl, Nat.le_refl _, fun _ _ => rfl⟩) (by simpa using h)

/-- A callee's contract in such a walk. -/
theorem belQ {P : Program} {F : FuncId} {args : Array Value} {w : World} {ι : Type} {f : ι → World} (hb : ∀ x, Below w.heap.size w (f x)) (hall : ∀ w', Below w.heap.size w w' → ∃ x, w' = f x) {x : ι} {v : Value}
    (h : Calls P F args (f x) fun e w' => e = .returned v ∧ Below (f x).heap.size (f x) w') : Calls P F args (f x) fun e w'' => e = .returned v ∧ ∃ y, w'' = f y :=
  h.mono fun _ _ ⟨he, k⟩ => ⟨he, hall _ ((hb x).trans (k.mono (hb x).size))⟩
theorem belS {P : Program} {F : FuncId} {args : Array Value} {ι : Type} {f : ι → World} {x : ι} {v : Value}
    (h : Calls P F args (f x) fun e w' => e = .returned v ∧ w' = f x) : Calls P F args (f x) fun e w'' => e = .returned v ∧ ∃ y, w'' = f y :=
  h.mono fun _ _ ⟨he, k⟩ => ⟨he, x, k⟩
theorem belN {P : Program} {F : FuncId} {args : Array Value} {w : World} {ι : Type} {f : ι → World} (hb : ∀ x, Below w.heap.size w (f x)) (hall : ∀ w', Below w.heap.size w w' → ∃ x, w' = f x) {x : ι} {v : Value}
    (h : Calls P F args (f x) fun e w' => e = .returned v ∧ ∃ n, w' = (f x).drewN n) : Calls P F args (f x) fun e w'' => e = .returned v ∧ ∃ y, w'' = f y :=
  h.mono fun _ _ ⟨he, n, k⟩ => ⟨he, hall _ (by rw [k]; exact (hb x).trans (bel0d' n))⟩

end Go.Proofs.Ytdamnfiaciacmaa
