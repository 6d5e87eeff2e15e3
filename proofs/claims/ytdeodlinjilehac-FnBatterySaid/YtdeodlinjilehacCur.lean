/-
  The model's source of drawn numbers: a cursor over bytes in a block of its own; each number it tells lies within its bound, and only its own block is written. At every list of bytes.
-/
import Derived.Test.YtdeodlinjilehacChecked
import Derived.Test.YtdeodlinjilehacOwn2
import Derived.BigQuiet
namespace Go.Proofs.Ytdeodlinjilehac
open Go.RowKit

/-- A slice of bytes: each cell a byte. -/
structure Bytes (w : World) (a : Option Addr) (len : Nat) : Prop where
  small : len ≤ 9223372036854775807
  cells : ∀ i, i < len → ∃ b off, a = some ⟨b, off, none⟩ ∧ ∃ x : Int, w.cell? ⟨b, off + i, none⟩ = some (.int .u8 x) ∧ 0 ≤ x ∧ x ≤ 255

/-- The cursor in block C, over the bytes at a. -/
structure Cur (w : World) (C : Nat) (a : Option Addr) (len cap : Nat) : Prop where
  c0 : w.cell? ⟨C, 0, none⟩ = some (.slice a len cap)
  c1 : ∃ i : Nat, i ≤ len ∧ w.cell? ⟨C, 1, none⟩ = some (.int .i64 i)
  c2 : ∃ h : Int, w.cell? ⟨C, 2, none⟩ = some (.int .i64 h)
  f1 : w.frozen? ⟨C, 1, none⟩ = false
  f2 : w.frozen? ⟨C, 2, none⟩ = false
  lt : C < w.heap.size

theorem bits_255 (X : Int) : 0 ≤ bits .and .i64 X 255 ∧ bits .and .i64 X 255 ≤ 255 := by
  have h2 : (BitVec.ofInt 64 (255 : Int)).toNat = 255 := by decide
  have hx : (BitVec.ofInt 64 X).toNat &&& 255 ≤ 255 := Nat.and_le_right
  show 0 ≤ IntKind.i64.wrap ((BitVec.ofInt 64 X &&& BitVec.ofInt 64 255).toNat : Int) ∧ IntKind.i64.wrap ((BitVec.ofInt 64 X &&& BitVec.ofInt 64 255).toNat : Int) ≤ 255
  rw [BitVec.toNat_and, h2, IntKind.wrap_i64]
  omega

theorem Bytes.far {w w' : World} {a : Option Addr} {len : Nat} {row : Option Nat} (h : Bytes w a len) (k : w.grownBy w' row) (hne : ∀ b off, a = some ⟨b, off, none⟩ → some b ≠ row) : Bytes w' a len := by
  refine ⟨h.small, fun i hi => ?_⟩
  obtain ⟨b, off, ha, x, hc, hx⟩ := h.cells i hi
  exact ⟨b, off, ha, x, (World.cell?_of_block (a := ⟨b, off + i, none⟩) (k.block b (block_lt_of_cell hc) (hne b off ha))).trans hc, hx⟩
theorem Bytes.below {w w' : World} {a : Option Addr} {len : Nat} (h : Bytes w a len) (k : Below w.heap.size w w') : Bytes w' a len := by
  refine ⟨h.small, fun i hi => ?_⟩
  obtain ⟨b, off, ha, x, hc, hx⟩ := h.cells i hi
  exact ⟨b, off, ha, x, (k.cell (block_lt_of_cell hc)).trans hc, hx⟩
theorem Cur.below {w w' : World} {C : Nat} {a : Option Addr} {len cap : Nat} (h : Cur w C a len cap) (k : Below w.heap.size w w') : Cur w' C a len cap := by
  obtain ⟨i, hi, k1⟩ := h.c1
  obtain ⟨x, k2⟩ := h.c2
  exact ⟨(k.cell (p := ⟨C, 0, none⟩) h.lt).trans h.c0, ⟨i, hi, (k.cell (p := ⟨C, 1, none⟩) h.lt).trans k1⟩, ⟨x, (k.cell (p := ⟨C, 2, none⟩) h.lt).trans k2⟩, (k.frozen (p := ⟨C, 1, none⟩) h.lt).trans h.f1, (k.frozen (p := ⟨C, 2, none⟩) h.lt).trans h.f2, Nat.lt_of_lt_of_le h.lt k.size⟩
theorem Cur.far {w w' : World} {C : Nat} {a : Option Addr} {len cap : Nat} {row : Option Nat} (h : Cur w C a len cap) (k : w.grownBy w' row) (hne : some C ≠ row) : Cur w' C a len cap := by
  obtain ⟨i, hi, k1⟩ := h.c1
  obtain ⟨x, k2⟩ := h.c2
  have hb := k.block C h.lt hne
  exact ⟨(World.cell?_of_block (a := ⟨C, 0, none⟩) hb).trans h.c0, ⟨i, hi, (World.cell?_of_block (a := ⟨C, 1, none⟩) hb).trans k1⟩, ⟨x, (World.cell?_of_block (a := ⟨C, 2, none⟩) hb).trans k2⟩, (World.frozen?_of_block (a := ⟨C, 1, none⟩) hb).trans h.f1, (World.frozen?_of_block (a := ⟨C, 2, none⟩) hb).trans h.f2, Nat.lt_of_lt_of_le h.lt k.size⟩
theorem grown_trans {a b c : World} {row : Option Nat} (h : a.grownBy b row) (k : b.grownBy c row) : a.grownBy c row :=
  ⟨k.os.trans h.os, k.tape.trans h.tape, k.output.trans h.output, Nat.le_trans h.size k.size, fun i hi hne => (k.block i (Nat.lt_of_lt_of_le hi h.size) hne).trans (h.block i hi hne)⟩

end Go.Proofs.Ytdeodlinjilehac
