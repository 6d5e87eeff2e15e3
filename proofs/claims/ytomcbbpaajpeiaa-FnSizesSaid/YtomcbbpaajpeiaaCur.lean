/-
  The model's source of drawn numbers: a cursor over bytes in a block of its own; each number it tells lies within its bound, and only its own block is written. At every list of bytes.
-/
import Derived.Test.YtomcbbpaajpeiaaChecked
import Derived.Test.YtomcbbpaajpeiaaOwn2
import Derived.BigQuiet
namespace Go.Proofs.Ytomcbbpaajpeiaa
open Go.RowKit

/-- A slice of bytes: each cell a byte. -/
structure Bytes (w : World) (a : Option Addr) (len : Nat) : Prop where
  small : len ≤ 9223372036854775807
  cells : ∀ i, i < len → ∃ b off, a = some ⟨b, off, none⟩ ∧ ∃ x : Int, w.cell? ⟨b, off + i, none⟩ = some (.int .u8 x) ∧ 0 ≤ x ∧ x ≤ 255

/-- The cursor in block C, over the bytes at a. -/
structure Cur (w : World) (C : Nat) (a : Option Addr) (len cap : Nat) : Prop where
  c0 : w.cell? ⟨C, 0, none⟩ = some (.slice a len cap)
  c1 : ∃ i : Nat, i ≤ len ∧ w.cell? ⟨C, 1, none⟩ = some (.int .i64 i)
  c2 : ∃ h : Int, w.cell? ⟨C, 2, none⟩ = some (.int .i64 h)
  f1 : w.frozen? ⟨C, 1, none⟩ = false
  f2 : w.frozen? ⟨C, 2, none⟩ = false
  lt : C < w.heap.size

theorem bits_255 (X : Int) : 0 ≤ bits .and .i64 X 255 ∧ bits .and .i64 X 255 ≤ 255 := by
  have h2 : (BitVec.ofInt 64 (255 : Int)).toNat = 255 := by decide
  have hx : (BitVec.ofInt 64 X).toNat &&& 255 ≤ 255 := Nat.and_le_right
  show 0 ≤ IntKind.i64.wrap ((BitVec.ofInt 64 X &&& BitVec.ofInt 64 255).toNat : Int) ∧ IntKind.i64.wrap ((BitVec.ofInt 64 X &&& BitVec.ofInt 64 255).toNat : Int) ≤ 255
  rw [BitVec.toNat_and, h2, IntKind.wrap_i64]
  omega

set_option maxHeartbeats 2000000 in
theorem l1Byte_any (C : Nat) (a : Option Addr) (len cap : Nat) (w : World) (hc : Cur w C a len cap) (hb : Bytes w a len) (hne : ∀ b off, a = some ⟨b, off, none⟩ → b ≠ C) :
    Calls Try.prog 27 #[.pointer (some ⟨C, 0, none⟩)] w fun e w' => ∃ x : Int, e = .returned (.int .i64 x) ∧ (0 ≤ x ∧ x ≤ 255) ∧ Cur w' C a len cap ∧ w.grownBy w' (some C) := by
  obtain ⟨i, hi, k1⟩ := hc.c1
  obtain ⟨h, k2⟩ := hc.c2
  have k0 := hc.c0
  have z1 := hc.f1
  have z2 := hc.f2
  have hlt := hc.lt
  have hsm := hb.small
  go_enter Try.func27, Try.ntmps27
  go_wp2_with fail
  generalize wrap64 (wrap64 (h * 6364136223846793005) + 1442695040888963407) = H
  obtain ⟨w1, hw1⟩ : ∃ w1, w1 = w.setCell ⟨C, 2, none⟩ (.int .i64 H) := ⟨_, rfl⟩
  have j0 : w1.cell? ⟨C, 0, none⟩ = some (.slice a len cap) := by rw [hw1, World.cell?_setCell_other _ _ _ _ (by simp)]; exact k0
  have j1 : w1.cell? ⟨C, 1, none⟩ = some (.int .i64 i) := by rw [hw1, World.cell?_setCell_other _ _ _ _ (by simp)]; exact k1
  have j2 : w1.cell? ⟨C, 2, none⟩ = some (.int .i64 H) := by rw [hw1]; exact World.cell?_setCell_same _ _ _ k2
  have y1 : w1.frozen? ⟨C, 1, none⟩ = false := by rw [hw1]; simp [z1]
  have y2 : w1.frozen? ⟨C, 2, none⟩ = false := by rw [hw1]; simp [z2]
  have g1 : w.grownBy w1 (some C) := by rw [hw1]; exact grown_set (grown_refl w (some C)) _ _
  have hlt1 : C < w1.heap.size := by rw [hw1]; simpa [World.setCell] using hlt
  rw [← hw1]
  clear hw1 k0 k1 k2 z1 z2 hlt
  go_quiet (fail)
  have hx0 := bits_255 (bits BinOp.xor IntKind.i64 (H / 8589934592) (H / 35184372088832))
  generalize bits BinOp.and IntKind.i64 (bits BinOp.xor IntKind.i64 (H / 8589934592) (H / 35184372088832)) 255 = X at *
  obtain ⟨w2, hw2⟩ : ∃ w2, w2 = w1.drewN nq := ⟨_, rfl⟩
  have j0 : w2.cell? ⟨C, 0, none⟩ = some (.slice a len cap) := by rw [hw2]; exact j0
  have j1 : w2.cell? ⟨C, 1, none⟩ = some (.int .i64 i) := by rw [hw2]; exact j1
  have j2 : w2.cell? ⟨C, 2, none⟩ = some (.int .i64 H) := by rw [hw2]; exact j2
  have y1 : w2.frozen? ⟨C, 1, none⟩ = false := by rw [hw2]; exact y1
  have y2 : w2.frozen? ⟨C, 2, none⟩ = false := by rw [hw2]; exact y2
  have g2 : w.grownBy w2 (some C) := by rw [hw2]; exact grown_drewN g1 _
  have hlt2 : C < w2.heap.size := by rw [hw2]; exact hlt1
  rw [← hw2]
  clear hw2 g1 hlt1 hc
  by_cases hil : i < len
  · have hi1 : (i : Int) < (len : Int) := by omega
    have hi0 : (0 : Int) ≤ (i : Int) := by omega
    obtain ⟨b, off, rfl, x, hcell, hx1, hx2⟩ := hb.cells i hil
    have hbC := hne b off rfl
    have hcell2 : w2.cell? ⟨b, off + i, none⟩ = some (.int .u8 x) := (World.cell?_of_block (a := ⟨b, off + i, none⟩) (g2.block b (block_lt_of_cell hcell) (by simp [hbC]))).trans hcell
    have hu := hx2
    clear hb hcell hne
    have G2 := hide g2
    clear g2
    go_wp2_with fail
    go_quiet (fail)
    go_wp2_with fail
    go_quiet (fail)
    have hx3 := bits_255 (X + x)
    generalize bits BinOp.and IntKind.i64 (X + x) 255 = Y at *
    go_wp2
    go_ret
    refine ⟨Y, rfl, hx3, ⟨?_, ⟨i + 1, by omega, ?_⟩, ⟨H, ?_⟩, ?_, ?_, ?_⟩, ?_⟩
    · exact (World.cell?_setCell_other _ _ _ _ (by simp)).trans j0
    · exact World.cell?_setCell_same _ _ _ (u := .int .i64 i) j1
    · exact (World.cell?_setCell_other _ _ _ _ (by simp)).trans j2
    · simpa using y1
    · simpa using y2
    · simpa [World.setCell] using hlt2
    · exact grown_set (grown_drewN (unhide G2) _) _ _
  · have hi1 : ¬ (i : Int) < (len : Int) := by omega
    have G2 := hide g2
    clear g2 hb hne
    go_wp2_with fail
    go_quiet (fail)
    go_wp2
    go_ret
    refine ⟨X, rfl, hx0, ⟨j0, ⟨i, hi, j1⟩, ⟨H, j2⟩, y1, y2, hlt2⟩, grown_drewN (unhide G2) _⟩

theorem Bytes.far {w w' : World} {a : Option Addr} {len : Nat} {row : Option Nat} (h : Bytes w a len) (k : w.grownBy w' row) (hne : ∀ b off, a = some ⟨b, off, none⟩ → some b ≠ row) : Bytes w' a len := by
  refine ⟨h.small, fun i hi => ?_⟩
  obtain ⟨b, off, ha, x, hc, hx⟩ := h.cells i hi
  exact ⟨b, off, ha, x, (World.cell?_of_block (a := ⟨b, off + i, none⟩) (k.block b (block_lt_of_cell hc) (hne b off ha))).trans hc, hx⟩
theorem Bytes.below {w w' : World} {a : Option Addr} {len : Nat} (h : Bytes w a len) (k : Below w.heap.size w w') : Bytes w' a len := by
  refine ⟨h.small, fun i hi => ?_⟩
  obtain ⟨b, off, ha, x, hc, hx⟩ := h.cells i hi
  exact ⟨b, off, ha, x, (k.cell (block_lt_of_cell hc)).trans hc, hx⟩
theorem Cur.below {w w' : World} {C : Nat} {a : Option Addr} {len cap : Nat} (h : Cur w C a len cap) (k : Below w.heap.size w w') : Cur w' C a len cap := by
  obtain ⟨i, hi, k1⟩ := h.c1
  obtain ⟨x, k2⟩ := h.c2
  exact ⟨(k.cell (p := ⟨C, 0, none⟩) h.lt).trans h.c0, ⟨i, hi, (k.cell (p := ⟨C, 1, none⟩) h.lt).trans k1⟩, ⟨x, (k.cell (p := ⟨C, 2, none⟩) h.lt).trans k2⟩, (k.frozen (p := ⟨C, 1, none⟩) h.lt).trans h.f1, (k.frozen (p := ⟨C, 2, none⟩) h.lt).trans h.f2, Nat.lt_of_lt_of_le h.lt k.size⟩
theorem Cur.far {w w' : World} {C : Nat} {a : Option Addr} {len cap : Nat} {row : Option Nat} (h : Cur w C a len cap) (k : w.grownBy w' row) (hne : some C ≠ row) : Cur w' C a len cap := by
  obtain ⟨i, hi, k1⟩ := h.c1
  obtain ⟨x, k2⟩ := h.c2
  have hb := k.block C h.lt hne
  exact ⟨(World.cell?_of_block (a := ⟨C, 0, none⟩) hb).trans h.c0, ⟨i, hi, (World.cell?_of_block (a := ⟨C, 1, none⟩) hb).trans k1⟩, ⟨x, (World.cell?_of_block (a := ⟨C, 2, none⟩) hb).trans k2⟩, (World.frozen?_of_block (a := ⟨C, 1, none⟩) hb).trans h.f1, (World.frozen?_of_block (a := ⟨C, 2, none⟩) hb).trans h.f2, Nat.lt_of_lt_of_le h.lt k.size⟩
theorem grown_trans {a b c : World} {row : Option Nat} (h : a.grownBy b row) (k : b.grownBy c row) : a.grownBy c row :=
  ⟨k.os.trans h.os, k.tape.trans h.tape, k.output.trans h.output, Nat.le_trans h.size k.size, fun i hi hne => (k.block i (Nat.lt_of_lt_of_le hi h.size) hne).trans (h.block i hi hne)⟩

set_option maxHeartbeats 1000000 in
theorem l1Below_any (C : Nat) (a : Option Addr) (len cap : Nat) (n : Int) (w : World) (hc : Cur w C a len cap) (hb : Bytes w a len) (hne : ∀ b off, a = some ⟨b, off, none⟩ → b ≠ C) (hn : 1 ≤ n ∧ n ≤ 1000000) :
    Calls Try.prog 23 #[.pointer (some ⟨C, 0, none⟩), .int .i64 n] w fun e w' => ∃ x : Int, e = .returned (.int .i64 x) ∧ (0 ≤ x ∧ x < n) ∧ Cur w' C a len cap ∧ w.grownBy w' (some C) := by
  have hne' : ∀ b off, a = some ⟨b, off, none⟩ → some b ≠ some C := fun b off e => by simp [hne b off e]
  by_cases hle : n ≤ 256
  · have hn0 : ¬ n ≤ 0 := by omega
    go_enter Try.func23, Try.ntmps23
    go_wp2_with fail
    refine (l1Byte_any C a len cap w hc hb hne).mono ?_
    rintro e w1 ⟨x, rfl, hx, hc1, g1⟩
    have HC := hide hc1
    have HG := hide g1
    clear hc hb hc1 g1
    go_wp2_with fail
    go_ret
    exact ⟨x % n, rfl, ⟨Int.emod_nonneg _ (by omega), Int.emod_lt_of_pos _ (by omega)⟩, unhide HC, unhide HG⟩
  · have hn0 : ¬ n ≤ 0 := by omega
    have HC0 := hide hc
    have HB0 := hide hb
    have HG0 := hide (grown_refl w (some C))
    clear hc hb
    go_enter Try.func23, Try.ntmps23
    go_wp2_with fail
    refine (l1Byte_any C a len cap _ (unhide HC0) (unhide HB0) hne).mono ?_
    rintro e w1 ⟨x1, rfl, hx1, hc1, g1⟩
    have HC1 := hide hc1
    have HG1 := hide (grown_trans (unhide HG0) g1)
    have HB1 := hide ((unhide HB0).far g1 hne')
    clear hc1 g1
    go_wp2_with fail
    refine (l1Byte_any C a len cap _ (unhide HC1) (unhide HB1) hne).mono ?_
    rintro e w2 ⟨x2, rfl, hx2, hc2, g2⟩
    have HC2 := hide hc2
    have HG2 := hide (grown_trans (unhide HG1) g2)
    have HB2 := hide ((unhide HB1).far g2 hne')
    clear hc2 g2
    go_wp2_with fail
    refine (l1Byte_any C a len cap _ (unhide HC2) (unhide HB2) hne).mono ?_
    rintro e w3 ⟨x3, rfl, hx3, hc3, g3⟩
    have HC3 := hide hc3
    have HG3 := hide (grown_trans (unhide HG2) g3)
    have HB3 := hide ((unhide HB2).far g3 hne')
    clear hc3 g3
    go_wp2_with fail
    refine (l1Byte_any C a len cap _ (unhide HC3) (unhide HB3) hne).mono ?_
    rintro e w4 ⟨x4, rfl, hx4, hc4, g4⟩
    have HC4 := hide hc4
    have HG4 := hide (grown_trans (unhide HG3) g4)
    have HB4 := hide ((unhide HB3).far g4 hne')
    clear hc4 g4
    go_wp2_with fail
    go_ret
    exact ⟨_, rfl, ⟨Int.emod_nonneg _ (by omega), Int.emod_lt_of_pos _ (by omega)⟩, unhide HC4, unhide HG4⟩

end Go.Proofs.Ytomcbbpaajpeiaa
