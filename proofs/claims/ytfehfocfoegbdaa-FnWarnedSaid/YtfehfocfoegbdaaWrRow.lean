/-
  A slice of rules read as a list; the law's size of it. No condition.
-/
import Derived.Test.YtfehfocfoegbdaaMWrPure
import Derived.Test.YtfehfocfoegbdaaSmall
import Derived.Test.YtfehfocfoegbdaaMMake
namespace Go.Proofs.Ytfehfocfoegbdaa
open Go.RowKit

/-- The cells of the rule at a place of a block. -/
structure WrAt (w : World) (b o : Nat) (qa : Option Addr) (ql qc : Nat) (p : Wr) : Prop where
  c0 : w.cell? ⟨b, o, none⟩ = some (.string p.n)
  c1 : w.cell? ⟨b, o + 1, none⟩ = some (.int .i64 p.r)
  c2 : w.cell? ⟨b, o + 2, none⟩ = some (.slice qa ql qc)
  c3 : w.cell? ⟨b, o + 3, none⟩ = some (.bool p.l)
  c4 : w.cell? ⟨b, o + 4, none⟩ = some (.string p.d)
theorem WrAt.below {w w' : World} {b o : Nat} {qa : Option Addr} {ql qc : Nat} {p : Wr} (h : WrAt w b o qa ql qc p) (k : Below w.heap.size w w') : WrAt w' b o qa ql qc p :=
  ⟨(k.cell (block_lt_of_cell h.c0)).trans h.c0, (k.cell (block_lt_of_cell h.c1)).trans h.c1, (k.cell (block_lt_of_cell h.c2)).trans h.c2, (k.cell (block_lt_of_cell h.c3)).trans h.c3, (k.cell (block_lt_of_cell h.c4)).trans h.c4⟩
/-- Texts that can be told the length of. -/
def wrFit (p : Wr) : Prop := p.n.size ≤ 9223372036854775807 ∧ p.d.size ≤ 9223372036854775807
structure RowW (w : World) (a : Option Addr) (len : Nat) (rs : List Wr) : Prop where
  len_eq : rs.length = len
  small : len ≤ 9223372036854775807
  cells : ∀ i, i < len → ∃ b off qa ql qc, a = some ⟨b, off, none⟩ ∧ WrAt w b (off + i * 5) qa ql qc (elAt rs i) ∧ Row w qa ql (elAt rs i).q ∧ ql ≤ qc ∧ wrFit (elAt rs i)
theorem RowW.open_ {w : World} {a : Option Addr} {len : Nat} {rs : List Wr} (h : RowW w a len rs) :
    (len = 0 ∧ rs = []) ∨ ∃ b off, a = some ⟨b, off, none⟩ ∧ 0 < len ∧ ∀ i, i < len → ∃ qa ql qc, WrAt w b (off + i * 5) qa ql qc (elAt rs i) ∧ Row w qa ql (elAt rs i).q ∧ ql ≤ qc ∧ wrFit (elAt rs i) := by
  by_cases h0 : len = 0
  · exact .inl ⟨h0, List.length_eq_zero_iff.1 (by rw [h.len_eq, h0])⟩
  · obtain ⟨b, off, _, _, _, ha, _⟩ := h.cells 0 (by omega)
    refine .inr ⟨b, off, ha, by omega, fun i hi => ?_⟩
    obtain ⟨b', off', qa, ql, qc, ha', hc⟩ := h.cells i hi
    rw [ha] at ha'
    simp only [Option.some.injEq, Addr.mk.injEq] at ha'
    obtain ⟨rfl, rfl, _⟩ := ha'
    exact ⟨qa, ql, qc, hc⟩
theorem RowW.below {w w' : World} {a : Option Addr} {len : Nat} {rs : List Wr} (h : RowW w a len rs) (k : Below w.heap.size w w') : RowW w' a len rs := by
  refine ⟨h.len_eq, h.small, fun i hi => ?_⟩
  obtain ⟨b, off, qa, ql, qc, ha, hc, hr, hl⟩ := h.cells i hi
  exact ⟨b, off, qa, ql, qc, ha, hc.below k, hr.below k, hl⟩
theorem RowW.alloc {w : World} {a : Option Addr} {len : Nat} {rs : List Wr} (h : RowW w a len rs) (o : Obj) : RowW (w.alloc o) a len rs := h.below (bel1 o)
theorem RowW.drewN {w : World} {a : Option Addr} {len : Nat} {rs : List Wr} (h : RowW w a len rs) (n : Nat) : RowW (w.drewN n) a len rs := h.below (bel0d n)





end Go.Proofs.Ytfehfocfoegbdaa
