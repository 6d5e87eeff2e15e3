/-
  A whole struct or array that lies in a block of its own, loaded and stored in one step of a walk. No condition.
-/
import Derived.Test.YtomcbbpaajpeiaaChecked
import Derived.Test.YtomcbbpaajpeiaaBlk
import Derived.Laws.Cells
import Derived.Laws.IdiomCopy
namespace Go.Proofs.Ytomcbbpaajpeiaa
open Go.RowKit

theorem addr0 (B j : Nat) : (⟨B, 0, none⟩ : Addr).add j = ⟨B, j, none⟩ := by unfold Addr.add; simp; exact fun h => h.symm
theorem run_loadVar {t : TypeId} {w : World} {B : Nat} {vs : List Value} (hA : ∀ w, (isAgg t).run Try.prog w = .ok true w) (hZ : ∀ w, (Go.sizeOf t).run Try.prog w = .ok vs.length w) (hb : Blk w B vs) :
    (loadVar t ⟨B, 0, none⟩).run Try.prog w = .ok (.agg vs.toArray) w := by
  have hl := run_loadCells_list (P := Try.prog) (w := w) ⟨B, 0, none⟩ vs (fun j v hj => by
    obtain ⟨h, e⟩ := List.getElem?_eq_some_iff.1 hj
    rw [addr0, ← e]; exact hb.c j h)
  unfold loadVar
  simp [hA, hZ, hl]
theorem Blk.setCells {w : World} {B : Nat} {us vs : List Value} (h : Blk w B us) (hl : us.length = vs.length) : Blk (w.setCells B 0 vs) B vs ∧ w.grownBy (w.setCells B 0 vs) (some B) := by
  have gr : ∀ (vs : List Value) (o : Nat) (w : World), w.grownBy (w.setCells B o vs) (some B) := by
    intro vs
    induction vs with
    | nil => intro o w; exact ⟨rfl, rfl, rfl, Nat.le_refl _, fun _ _ _ => rfl⟩
    | cons v r ih =>
      intro o w
      have h1 := ih (o + 1) (w.setCell ⟨B, o, none⟩ v)
      refine ⟨h1.os, h1.tape, h1.output, Nat.le_trans (by simp [World.setCell]) h1.size, fun k hk hne => ?_⟩
      have hkB : k ≠ B := fun e => hne (by rw [e])
      exact (h1.block k (by simpa [World.setCell] using hk) hne).trans (Below.heap_setCell _ _ _ _ hkB)
  refine ⟨⟨fun i hi => ?_, fun i hi => ?_, Nat.lt_of_lt_of_le h.lt (gr vs 0 w).size⟩, gr vs 0 w⟩
  · have := World.cell?_setCells_in B vs 0 w (fun j hj => by rw [Nat.zero_add, h.c j (by omega)]; rfl) i hi
    simpa using this
  · rw [World.frozen?_setCells]; exact h.f i (by omega)
theorem run_storeVar {t : TypeId} {w : World} {B : Nat} {us vs : List Value} (hZ : ∀ w, (Go.sizeOf t).run Try.prog w = .ok vs.length w) (hl : us.length = vs.length) (h1 : ∀ v ∈ vs, v.oneCell' = true) (hb : Blk w B us) :
    (storeVar t ⟨B, 0, none⟩ (.agg vs.toArray)).run Try.prog w = .ok () (w.setCells B 0 vs) := by
  have hs := run_storeCells_cells (P := Try.prog) B 0 vs 0 w (fun j hj => by rw [show 0 + 0 + j = j by omega, hb.c j (by omega)]; rfl) (fun j hj => by rw [show 0 + 0 + j = j by omega]; exact hb.f j (by omega)) h1
  unfold storeVar
  simp [hZ, Value.cells, hs]

theorem at_loadAgg {ops : Array Oper} {rest : List Oper} {d : Option Tmp} {t ty : TypeId} {s : Operand} {pos : String} {af : Array Edge} {a : Act} {Q : Exit → Act → World → Prop} {w : World} {B : Nat} {vs : List Value}
    (hA : ∀ w, (isAgg t).run Try.prog w = .ok true w) (hZ : ∀ w, (Go.sizeOf t).run Try.prog w = .ok vs.length w) (hs : a.eval s = .pointer (some ⟨B, 0, none⟩)) (hb : Blk w B vs)
    (hK : wpList Try.prog ops Q rest (a.put d (.agg vs.toArray)) w) : wpList Try.prog ops Q (⟨d, .load t s, ty, pos, af, none⟩ :: rest) a w := by
  refine wpList_plain rfl fun K hK' => ?_
  have hr := run_loadVar hA hZ hb
  unfold Oper.wp
  simp [execOp, hs, Instr.loadAt, Instr.sureAddr, hr, Result.andThen]
  exact hK' _ _ hK
theorem at_storeAgg {ops : Array Oper} {rest : List Oper} {t ty : TypeId} {s x : Operand} {pos : String} {af : Array Edge} {a : Act} {Q : Exit → Act → World → Prop} {w : World} {B : Nat} {us vs : List Value}
    (hZ : ∀ w, (Go.sizeOf t).run Try.prog w = .ok vs.length w) (hs : a.eval s = .pointer (some ⟨B, 0, none⟩)) (hx : a.eval x = .agg vs.toArray) (hb : Blk w B us) (hl : us.length = vs.length) (h1 : ∀ v ∈ vs, v.oneCell' = true)
    (hK : ∀ w2, Blk w2 B vs → w.grownBy w2 (some B) → wpList Try.prog ops Q rest a w2) : wpList Try.prog ops Q (⟨none, .store t s x, ty, pos, af, none⟩ :: rest) a w := by
  refine wpList_plain rfl fun K hK' => ?_
  have hr := run_storeVar hZ hl h1 hb
  have h2 := hb.setCells hl
  unfold Oper.wp
  simp [execOp, hs, hx, Instr.storeAt, Instr.sureAddr, hr, Result.andThen]
  exact hK' _ _ (hK _ h2.1 h2.2)

/-- A result that stands in such a block. -/
theorem results_cell {fn : Func} {p : Tmp} {t : TypeId} {tmps : Array Value} {w : World} {B : Nat} {vs : List Value} (h : fn.results = #[.cell p t]) (hA : ∀ w, (isAgg t).run Try.prog w = .ok true w) (hZ : ∀ w, (Go.sizeOf t).run Try.prog w = .ok vs.length w)
    (hp : tmps.getD p undef = .pointer (some ⟨B, 0, none⟩)) (hb : Blk w B vs) : (results fn tmps).run Try.prog w = .ok (.agg vs.toArray) w := by
  have hr := run_loadVar hA hZ hb
  have hp' : tmps[p]?.getD undef = .pointer (some ⟨B, 0, none⟩) := by simpa using hp
  simp only [results, h]
  simp [hp', asAddr, hr]

end Go.Proofs.Ytomcbbpaajpeiaa
