/-
  A block that another row's growth leaves as it was. No condition.
  A panel by its three values: each list in memory of its own. No condition.
-/
import Derived.Test.YtjalfalgffphmawWhole
import Derived.Test.YtjalfalgffphmawPnTo

namespace Go.Proofs.Ytjalfalgffphmaw
open Go.RowKit

theorem Blk.apart {w w' : World} {B : Nat} {vs : List Value} {row : Option Nat} (h : Blk w B vs) (k : w.grownBy w' row) (hne : some B ≠ row) : Blk w' B vs := by
  have hb := k.block B h.lt hne
  refine ⟨fun i hi => (World.cell?_of_block (a := ⟨B, i, none⟩) hb).trans (h.c i hi), fun i hi => ?_, Nat.lt_of_lt_of_le h.lt k.size⟩
  have h2 := h.f i hi
  unfold World.frozen? at h2 ⊢
  simp only at h2 ⊢
  rw [hb]; exact h2

/-- A result that stands in a block, and one behind it. -/
theorem results_cellB {fn : Func} {p q : Tmp} {t : TypeId} {tmps : Array Value} {w : World} {B : Nat} {vs : List Value} {x : Value} (h : fn.results = #[.cell p t, .tmp q]) (hA : ∀ w, (isAgg t).run Try.prog w = .ok true w) (hZ : ∀ w, (Go.sizeOf t).run Try.prog w = .ok vs.length w)
    (hp : tmps.getD p undef = .pointer (some ⟨B, 0, none⟩)) (hb : Blk w B vs) (hq : tmps.getD q undef = x) : (results fn tmps).run Try.prog w = .ok (.tuple #[.agg vs.toArray, x]) w := by
  have hr := run_loadVar hA hZ hb
  have hp' : tmps[p]?.getD undef = .pointer (some ⟨B, 0, none⟩) := by simpa using hp
  have hq' : tmps[q]?.getD undef = x := by simpa using hq
  simp only [results, h]
  simp [hp', hq', asAddr, hr]

end Go.Proofs.Ytjalfalgffphmaw

namespace Go.Proofs.Ytjalfalgffphmaw
open Go.RowKit

def PnV (w : World) (base : Nat) (x1 x2 x3 : Value) (L1 L2 L3 : List ByteArray) : Prop :=
  ∃ p1 q1 p2 q2 p3 q3, x1 = .slice p1 L1.length q1 ∧ x2 = .slice p2 L2.length q2 ∧ x3 = .slice p3 L3.length q3 ∧ PnOwn w base p1 p2 p3 L1.length q1 L2.length q2 L3.length q3 L1 L2 L3
theorem PnV.below {w w' : World} {base : Nat} {x1 x2 x3 : Value} {L1 L2 L3 : List ByteArray} (h : PnV w base x1 x2 x3 L1 L2 L3) (k : Below w.heap.size w w') : PnV w' base x1 x2 x3 L1 L2 L3 := by
  obtain ⟨p1, q1, p2, q2, p3, q3, e1, e2, e3, o⟩ := h
  exact ⟨p1, q1, p2, q2, p3, q3, e1, e2, e3, o.below k⟩
theorem PnV.mono {w : World} {base base' : Nat} {x1 x2 x3 : Value} {L1 L2 L3 : List ByteArray} (h : PnV w base x1 x2 x3 L1 L2 L3) (k : base' ≤ base) : PnV w base' x1 x2 x3 L1 L2 L3 := by
  obtain ⟨p1, q1, p2, q2, p3, q3, e1, e2, e3, o⟩ := h
  exact ⟨p1, q1, p2, q2, p3, q3, e1, e2, e3, o.mono k⟩
/-- Blocks lie between base and the heap's end. -/
def PvLies (b u : Nat) (x1 x2 x3 : Value) : Prop := (∀ g, x1.ownBlock = some g → b ≤ g ∧ g < u) ∧ (∀ g, x2.ownBlock = some g → b ≤ g ∧ g < u) ∧ (∀ g, x3.ownBlock = some g → b ≤ g ∧ g < u)
theorem PnV.lies {w : World} {base : Nat} {x1 x2 x3 : Value} {L1 L2 L3 : List ByteArray} (h : PnV w base x1 x2 x3 L1 L2 L3) : PvLies base w.heap.size x1 x2 x3 := by
  obtain ⟨p1, q1, p2, q2, p3, q3, rfl, rfl, rfl, o⟩ := h
  exact ⟨o.o1.lies, o.o2.lies, o.o3.lies⟩
def PvFar (A : Nat) (x1 x2 x3 : Value) : Prop := x1.ownBlock ≠ some A ∧ x2.ownBlock ≠ some A ∧ x3.ownBlock ≠ some A
theorem PvLies.far {b u A : Nat} {x1 x2 x3 : Value} (h : PvLies b u x1 x2 x3) (hA : A < b ∨ u ≤ A) : PvFar A x1 x2 x3 :=
  ⟨fun e => by have := h.1 A e; omega, fun e => by have := h.2.1 A e; omega, fun e => by have := h.2.2 A e; omega⟩
theorem PnV.set {w : World} {base : Nat} {x1 x2 x3 : Value} {L1 L2 L3 : List ByteArray} (h : PnV w base x1 x2 x3 L1 L2 L3) {S o : Nat} (u : Value) (f : PvFar S x1 x2 x3) : PnV (w.setCell ⟨S, o, none⟩ u) base x1 x2 x3 L1 L2 L3 := by
  obtain ⟨p1, q1, p2, q2, p3, q3, rfl, rfl, rfl, k⟩ := h
  exact ⟨p1, q1, p2, q2, p3, q3, rfl, rfl, rfl, k.set_other u f.1 f.2.1 f.2.2⟩
theorem PnV.only {w w' : World} {base lo hi b u : Nat} {x1 x2 x3 : Value} {L1 L2 L3 : List ByteArray} (h : PnV w base x1 x2 x3 L1 L2 L3) (k : Only lo hi w w') (hl : PvLies b u x1 x2 x3) (hs : u ≤ lo ∨ hi ≤ b) : PnV w' base x1 x2 x3 L1 L2 L3 := by
  obtain ⟨p1, q1, p2, q2, p3, q3, rfl, rfl, rfl, o⟩ := h
  exact ⟨p1, q1, p2, q2, p3, q3, rfl, rfl, rfl, o.only k hl hs⟩
theorem PnV.vals {w : World} {base : Nat} {x1 x2 x3 : Value} {L1 L2 L3 : List ByteArray} (h : PnV w base x1 x2 x3 L1 L2 L3) : x1.oneCell' = true ∧ x2.oneCell' = true ∧ x3.oneCell' = true := by
  obtain ⟨p1, q1, p2, q2, p3, q3, rfl, rfl, rfl, o⟩ := h
  exact ⟨rfl, rfl, rfl⟩

end Go.Proofs.Ytjalfalgffphmaw
