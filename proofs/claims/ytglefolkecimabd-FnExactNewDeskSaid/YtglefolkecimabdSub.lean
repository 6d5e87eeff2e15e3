/-
  A part of a struct that lies in a block, loaded and stored in one step of a walk. No condition.
-/
import Derived.Test.YtglefolkecimabdWhole
namespace Go.Proofs.Ytglefolkecimabd
open Go.RowKit

theorem addrK (B k j : Nat) : (⟨B, k, none⟩ : Addr).add j = ⟨B, k + j, none⟩ := by
  unfold Addr.add; simp
theorem Blk.part {w : World} {B : Nat} {us : List Value} (h : Blk w B us) {k : Nat} {vs : List Value} (hs : (us.drop k).take vs.length = vs) (j : Nat) (hj : j < vs.length) : w.cell? ⟨B, k + j, none⟩ = some vs[j] := by
  have e : ((us.drop k).take vs.length)[j]? = some vs[j] := by rw [hs]; exact List.getElem?_eq_getElem hj
  rw [List.getElem?_take_of_lt hj, List.getElem?_drop] at e
  obtain ⟨h1, h2⟩ := List.getElem?_eq_some_iff.1 e
  rw [← h2]; exact h.c _ h1
theorem Blk.partf {w : World} {B : Nat} {us : List Value} (h : Blk w B us) {k n : Nat} (hs : k + n ≤ us.length) (j : Nat) (hj : j < n) : w.frozen? ⟨B, k + j, none⟩ = false := h.f _ (by omega)
theorem run_loadPart {t : TypeId} {w : World} {B k : Nat} {us vs : List Value} (hA : ∀ w, (isAgg t).run Try.prog w = .ok true w) (hZ : ∀ w, (Go.sizeOf t).run Try.prog w = .ok vs.length w) (hb : Blk w B us) (hs : (us.drop k).take vs.length = vs) :
    (loadVar t ⟨B, k, none⟩).run Try.prog w = .ok (.agg vs.toArray) w := by
  have hl := run_loadCells_list (P := Try.prog) (w := w) ⟨B, k, none⟩ vs (fun j v hj => by
    obtain ⟨h, e⟩ := List.getElem?_eq_some_iff.1 hj
    rw [addrK, ← e]; exact hb.part hs j h)
  unfold loadVar
  simp [hA, hZ, hl]
/-- A block in which a part was written. -/
theorem Blk.setPart {w : World} {B k : Nat} {us vs us' : List Value} (h : Blk w B us) (hl : us.length = us'.length) (hk : k + vs.length ≤ us.length) (hs : (us'.drop k).take vs.length = vs) (ho : ∀ j, j < k ∨ k + vs.length ≤ j → us'[j]? = us[j]?) : Blk (w.setCells B k vs) B us' ∧ w.grownBy (w.setCells B k vs) (some B) := by
  have gr : ∀ (vs : List Value) (o : Nat) (w : World), w.grownBy (w.setCells B o vs) (some B) := by
    intro vs
    induction vs with
    | nil => intro o w; exact ⟨rfl, rfl, rfl, Nat.le_refl _, fun _ _ _ => rfl⟩
    | cons v r ih =>
      intro o w
      have h1 := ih (o + 1) (w.setCell ⟨B, o, none⟩ v)
      refine ⟨h1.os, h1.tape, h1.output, Nat.le_trans (by simp [World.setCell]) h1.size, fun k hk hne => ?_⟩
      have hkB : k ≠ B := fun e => hne (by rw [e])
      exact (h1.block k (by simpa [World.setCell] using hk) hne).trans (Below.heap_setCell _ _ _ _ hkB)
  refine ⟨⟨fun i hi => ?_, fun i hi => ?_, Nat.lt_of_lt_of_le h.lt (gr vs k w).size⟩, gr vs k w⟩
  · by_cases c : k ≤ i ∧ i < k + vs.length
    · obtain ⟨j, rfl⟩ : ∃ j, i = k + j := ⟨i - k, by omega⟩
      rw [World.cell?_setCells_in B vs k w (fun j hj => by rw [h.c (k + j) (by omega)]; rfl) j (by omega)]
      have e : ((us'.drop k).take vs.length)[j]? = some (vs[j]'(by omega)) := by rw [hs]; exact List.getElem?_eq_getElem (by omega)
      rw [List.getElem?_take_of_lt (by omega), List.getElem?_drop, List.getElem?_eq_getElem hi] at e
      rw [Option.some.inj e]
    · rw [World.cell?_setCells_out B vs k w ⟨B, i, none⟩ (fun _ _ => by show i < k ∨ k + vs.length ≤ i; omega), h.c i (by omega)]
      have e := ho i (by omega)
      rw [List.getElem?_eq_getElem hi, List.getElem?_eq_getElem (by omega)] at e
      exact e.symm
  · rw [World.frozen?_setCells]; exact h.f i (by omega)
theorem run_storePart {t : TypeId} {w : World} {B k : Nat} {us vs : List Value} (hZ : ∀ w, (Go.sizeOf t).run Try.prog w = .ok vs.length w) (hk : k + vs.length ≤ us.length) (h1 : ∀ v ∈ vs, v.oneCell' = true) (hb : Blk w B us) :
    (storeVar t ⟨B, k, none⟩ (.agg vs.toArray)).run Try.prog w = .ok () (w.setCells B k vs) := by
  have hs := run_storeCells_cells (P := Try.prog) B k vs 0 w (fun j hj => by rw [show k + 0 + j = k + j by omega, hb.c (k + j) (by omega)]; rfl) (fun j hj => by rw [show k + 0 + j = k + j by omega]; exact hb.f (k + j) (by omega)) h1
  unfold storeVar
  simp [hZ, Value.cells, hs]

theorem at_loadPart {ops : Array Oper} {rest : List Oper} {d : Option Tmp} {t ty : TypeId} {s : Operand} {pos : String} {af : Array Edge} {a : Act} {Q : Exit → Act → World → Prop} {w : World} {B k : Nat} {us vs : List Value}
    (hA : ∀ w, (isAgg t).run Try.prog w = .ok true w) (hZ : ∀ w, (Go.sizeOf t).run Try.prog w = .ok vs.length w) (hs : a.eval s = .pointer (some ⟨B, k, none⟩)) (hb : Blk w B us) (hp : (us.drop k).take vs.length = vs)
    (hK : wpList Try.prog ops Q rest (a.put d (.agg vs.toArray)) w) : wpList Try.prog ops Q (⟨d, .load t s, ty, pos, af, none⟩ :: rest) a w := by
  refine wpList_plain rfl fun K hK' => ?_
  have hr := run_loadPart hA hZ hb hp
  unfold Oper.wp
  simp [execOp, hs, Instr.loadAt, Instr.sureAddr, hr, Result.andThen]
  exact hK' _ _ hK
theorem at_storePart {ops : Array Oper} {rest : List Oper} {t ty : TypeId} {s x : Operand} {pos : String} {af : Array Edge} {a : Act} {Q : Exit → Act → World → Prop} {w : World} {B k : Nat} {us vs us' : List Value}
    (hZ : ∀ w, (Go.sizeOf t).run Try.prog w = .ok vs.length w) (hs : a.eval s = .pointer (some ⟨B, k, none⟩)) (hx : a.eval x = .agg vs.toArray) (hb : Blk w B us) (hl : us.length = us'.length) (hk : k + vs.length ≤ us.length) (hp : (us'.drop k).take vs.length = vs) (ho : ∀ j, j < k ∨ k + vs.length ≤ j → us'[j]? = us[j]?) (h1 : ∀ v ∈ vs, v.oneCell' = true)
    (hK : ∀ w2, Blk w2 B us' → w.grownBy w2 (some B) → wpList Try.prog ops Q rest a w2) : wpList Try.prog ops Q (⟨none, .store t s x, ty, pos, af, none⟩ :: rest) a w := by
  refine wpList_plain rfl fun K hK' => ?_
  have hr := run_storePart hZ hk h1 hb
  have h2 := hb.setPart hl hk hp ho
  unfold Oper.wp
  simp [execOp, hs, hx, Instr.storeAt, Instr.sureAddr, hr, Result.andThen]
  exact hK' _ _ (hK _ h2.1 h2.2)

theorem at_storeMid {ops : Array Oper} {rest : List Oper} {t ty : TypeId} {s x : Operand} {pos : String} {af : Array Edge} {a : Act} {Q : Exit → Act → World → Prop} {w : World} {B : Nat} (pre old post vs : List Value)
    (hZ : ∀ w, (Go.sizeOf t).run Try.prog w = .ok vs.length w) (hs : a.eval s = .pointer (some ⟨B, pre.length, none⟩)) (hx : a.eval x = .agg vs.toArray) (hb : Blk w B (pre ++ (old ++ post))) (hl : old.length = vs.length) (h1 : ∀ v ∈ vs, v.oneCell' = true)
    (hK : ∀ w2, Blk w2 B (pre ++ (vs ++ post)) → w.grownBy w2 (some B) → wpList Try.prog ops Q rest a w2) : wpList Try.prog ops Q (⟨none, .store t s x, ty, pos, af, none⟩ :: rest) a w := by
  refine at_storePart (us' := pre ++ (vs ++ post)) hZ hs hx hb (by simp [hl]) (by simp; omega) (by simp) (fun j hj => ?_) h1 hK
  rcases hj with hj | hj
  · rw [List.getElem?_append_left hj, List.getElem?_append_left hj]
  · rw [List.getElem?_append_right (by omega), List.getElem?_append_right (by omega), List.getElem?_append_right (by omega), List.getElem?_append_right (by omega), hl]

/-- A whole struct whose value has a letter. -/
theorem at_loadV {ops : Array Oper} {rest : List Oper} {d : Option Tmp} {t ty : TypeId} {s : Operand} {pos : String} {af : Array Edge} {a : Act} {Q : Exit → Act → World → Prop} {w : World} {B : Nat} {vs : List Value} {V : Value} (hV : V = .agg vs.toArray)
    (hA : ∀ w, (isAgg t).run Try.prog w = .ok true w) (hZ : ∀ w, (Go.sizeOf t).run Try.prog w = .ok vs.length w) (hs : a.eval s = .pointer (some ⟨B, 0, none⟩)) (hb : Blk w B vs)
    (hK : wpList Try.prog ops Q rest (a.put d V) w) : wpList Try.prog ops Q (⟨d, .load t s, ty, pos, af, none⟩ :: rest) a w := by
  subst hV
  exact at_loadAgg hA hZ hs hb hK

end Go.Proofs.Ytglefolkecimabd
