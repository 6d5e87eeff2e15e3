/-
  What SumOf answers in the model: the plain sums and flag, at every list of items; nothing that was there is written.
-/
import Derived.Test.YtbaocifpifbldaaSumPure
import Derived.Test.YtbaocifpifbldaaSmall
namespace Go.Proofs.Ytbaocifpifbldaa
open Go.RowKit

/-- After k rounds: the variable in block V, the result in block R. -/
structure SumSt (w wr : World) (R V : Nat) (ps : List (Int × Int)) (k : Nat) : Prop where
  m : wr.cell? ⟨V, 0, none⟩ = some (.int .i64 (sumM ps k))
  q : wr.cell? ⟨V, 1, none⟩ = some (.int .i64 (sumQ ps k))
  fm : wr.frozen? ⟨V, 0, none⟩ = false
  fq : wr.frozen? ⟨V, 1, none⟩ = false
  r0 : wr.cell? ⟨R, 0, none⟩ = some (.int .i64 0)
  r1 : wr.cell? ⟨R, 1, none⟩ = some (.int .i64 0)
  f0 : wr.frozen? ⟨R, 0, none⟩ = false
  f1 : wr.frozen? ⟨R, 1, none⟩ = false
  bel : Below w.heap.size w wr
  lt : V < wr.heap.size
  ok : ∀ j, j < k → itemB (fstAt ps j) (sndAt ps j) = true

theorem SumSt.alloc {w wr : World} {R V : Nat} {ps : List (Int × Int)} {k : Nat} (h : SumSt w wr R V ps k) (hR : R < V) (o : Obj) : SumSt w (wr.alloc o) R V ps k := by
  have hlt := h.lt
  have hltR : R < wr.heap.size := by omega
  exact ⟨((bel1 o).cell (p := ⟨V, 0, none⟩) hlt).trans h.m, ((bel1 o).cell (p := ⟨V, 1, none⟩) hlt).trans h.q, ((bel1 o).frozen (p := ⟨V, 0, none⟩) hlt).trans h.fm, ((bel1 o).frozen (p := ⟨V, 1, none⟩) hlt).trans h.fq,
    ((bel1 o).cell (p := ⟨R, 0, none⟩) hltR).trans h.r0, ((bel1 o).cell (p := ⟨R, 1, none⟩) hltR).trans h.r1, ((bel1 o).frozen (p := ⟨R, 0, none⟩) hltR).trans h.f0, ((bel1 o).frozen (p := ⟨R, 1, none⟩) hltR).trans h.f1,
    h.bel.alloc h.bel.size o, by simp; omega, h.ok⟩

theorem SumSt.step {w wr : World} {R V : Nat} {ps : List (Int × Int)} {k : Nat} (h : SumSt w wr R V ps k) (hw : w.heap.size ≤ V) (hR : R < V) (hok : itemB (fstAt ps k) (sndAt ps k) = true) (o : Obj) :
    SumSt w (((wr.setCell ⟨V, 0, none⟩ (.int .i64 (sumM ps k + fstAt ps k))).setCell ⟨V, 1, none⟩ (.int .i64 (sumQ ps k + fstAt ps k * sndAt ps k))).alloc o) R V ps (k + 1) := by
  have hlt := h.lt
  refine SumSt.alloc ⟨?_, ?_, ?_, ?_, ?_, ?_, ?_, ?_, ?_, ?_, ?_⟩ hR o
  · rw [World.cell?_setCell_other _ _ _ _ (by simp)]
    exact World.cell?_setCell_same _ _ _ h.m
  · refine World.cell?_setCell_same (u := .int .i64 (sumQ ps k)) _ _ _ ?_
    rw [World.cell?_setCell_other _ _ _ _ (by simp)]
    exact h.q
  · simp [h.fm]
  · simp [h.fq]
  · rw [World.cell?_setCell_other _ _ _ _ (by simp), World.cell?_setCell_other _ _ _ _ (by simp)]; exact h.r0
  · rw [World.cell?_setCell_other _ _ _ _ (by simp), World.cell?_setCell_other _ _ _ _ (by simp)]; exact h.r1
  · simp [h.f0]
  · simp [h.f1]
  · exact (h.bel.setCell hw _).setCell hw _
  · simp [World.setCell]; omega
  · intro j hj
    rcases Nat.lt_succ_iff_lt_or_eq.1 hj with e | e
    · exact h.ok j e
    · subst e; exact hok

theorem SumSt.below {w wr w' : World} {R V : Nat} {ps : List (Int × Int)} {k : Nat} (h : SumSt w wr R V ps k) (hR : R < V) (b : Below wr.heap.size wr w') : SumSt w w' R V ps k := by
  have hlt := h.lt
  have hltR : R < wr.heap.size := by omega
  exact ⟨(b.cell (p := ⟨V, 0, none⟩) hlt).trans h.m, (b.cell (p := ⟨V, 1, none⟩) hlt).trans h.q, (b.frozen (p := ⟨V, 0, none⟩) hlt).trans h.fm, (b.frozen (p := ⟨V, 1, none⟩) hlt).trans h.fq,
    (b.cell (p := ⟨R, 0, none⟩) hltR).trans h.r0, (b.cell (p := ⟨R, 1, none⟩) hltR).trans h.r1, (b.frozen (p := ⟨R, 0, none⟩) hltR).trans h.f0, (b.frozen (p := ⟨R, 1, none⟩) hltR).trans h.f1,
    h.bel.trans (b.mono h.bel.size), by have := b.size; omega, h.ok⟩

theorem SumSt.set {w wr : World} {R V : Nat} {ps : List (Int × Int)} {k : Nat} (h : SumSt w wr R V ps k) (hw : w.heap.size ≤ V) (hR : R < V) (hok : itemB (fstAt ps k) (sndAt ps k) = true) :
    SumSt w ((wr.setCell ⟨V, 0, none⟩ (.int .i64 (sumM ps k + fstAt ps k))).setCell ⟨V, 1, none⟩ (.int .i64 (sumQ ps k + fstAt ps k * sndAt ps k))) R V ps (k + 1) := by
  have hlt := h.lt
  refine ⟨?_, ?_, ?_, ?_, ?_, ?_, ?_, ?_, ?_, ?_, ?_⟩
  · rw [World.cell?_setCell_other _ _ _ _ (by simp)]
    exact World.cell?_setCell_same _ _ _ h.m
  · refine World.cell?_setCell_same (u := .int .i64 (sumQ ps k)) _ _ _ ?_
    rw [World.cell?_setCell_other _ _ _ _ (by simp)]
    exact h.q
  · simp [h.fm]
  · simp [h.fq]
  · rw [World.cell?_setCell_other _ _ _ _ (by simp), World.cell?_setCell_other _ _ _ _ (by simp)]; exact h.r0
  · rw [World.cell?_setCell_other _ _ _ _ (by simp), World.cell?_setCell_other _ _ _ _ (by simp)]; exact h.r1
  · simp [h.f0]
  · simp [h.f1]
  · exact (h.bel.setCell hw _).setCell hw _
  · simp [World.setCell]; omega
  · intro j hj
    rcases Nat.lt_succ_iff_lt_or_eq.1 hj with e | e
    · exact h.ok j e
    · subst e; exact hok


end Go.Proofs.Ytbaocifpifbldaa
