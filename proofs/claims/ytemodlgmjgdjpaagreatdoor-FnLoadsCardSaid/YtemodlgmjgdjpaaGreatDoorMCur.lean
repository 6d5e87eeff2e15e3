/-
  The model's source of drawn numbers: a cursor over bytes in a block of its own; each number it tells lies within its bound, and only its own block is written. At every list of bytes.
  The model's new cursor, and the law's at and big: at every list of bytes.
  What the law's copy of a list of whole numbers answers (toIntS): a new slice that reads as the list did, at every list of at most 1048576 numbers; nothing that was there is written.
  A slice of whole numbers that a call has made: it owns its memory, from a block on; the law's copy of a list is such; its marks write nothing else. No condition but the lengths' bounds.
-/
import Derived.Test.YtemodlgmjgdjpaaGreatDoorChecked
import Derived.Test.YtemodlgmjgdjpaaGreatDoorMBase
import Derived.BigQuiet

namespace Go.Proofs.YtemodlgmjgdjpaaGreatDoor
open Go.RowKit

/-- A slice of bytes: each cell a byte. -/
structure Bytes (w : World) (a : Option Addr) (len : Nat) : Prop where
  small : len ≤ 9223372036854775807
  cells : ∀ i, i < len → ∃ b off, a = some ⟨b, off, none⟩ ∧ ∃ x : Int, w.cell? ⟨b, off + i, none⟩ = some (.int .u8 x) ∧ 0 ≤ x ∧ x ≤ 255

/-- The cursor in block C, over the bytes at a. -/
structure Cur (w : World) (C : Nat) (a : Option Addr) (len cap : Nat) : Prop where
  c0 : w.cell? ⟨C, 0, none⟩ = some (.slice a len cap)
  c1 : ∃ i : Nat, i ≤ len ∧ w.cell? ⟨C, 1, none⟩ = some (.int .i64 i)
  c2 : ∃ h : Int, w.cell? ⟨C, 2, none⟩ = some (.int .i64 h)
  f1 : w.frozen? ⟨C, 1, none⟩ = false
  f2 : w.frozen? ⟨C, 2, none⟩ = false
  lt : C < w.heap.size

theorem bits_255 (X : Int) : 0 ≤ bits .and .i64 X 255 ∧ bits .and .i64 X 255 ≤ 255 := by
  have h2 : (BitVec.ofInt 64 (255 : Int)).toNat = 255 := by decide
  have hx : (BitVec.ofInt 64 X).toNat &&& 255 ≤ 255 := Nat.and_le_right
  show 0 ≤ IntKind.i64.wrap ((BitVec.ofInt 64 X &&& BitVec.ofInt 64 255).toNat : Int) ∧ IntKind.i64.wrap ((BitVec.ofInt 64 X &&& BitVec.ofInt 64 255).toNat : Int) ≤ 255
  rw [BitVec.toNat_and, h2, IntKind.wrap_i64]
  omega

set_option maxHeartbeats 2000000 in
theorem l1Byte_any (C : Nat) (a : Option Addr) (len cap : Nat) (w : World) (hc : Cur w C a len cap) (hb : Bytes w a len) (hne : ∀ b off, a = some ⟨b, off, none⟩ → b ≠ C) :
    Calls Tryz.prog 71 #[.pointer (some ⟨C, 0, none⟩)] w fun e w' => ∃ x : Int, e = .returned (.int .i64 x) ∧ (0 ≤ x ∧ x ≤ 255) ∧ Cur w' C a len cap ∧ w.grownBy w' (some C) := by
  obtain ⟨i, hi, k1⟩ := hc.c1
  obtain ⟨h, k2⟩ := hc.c2
  have k0 := hc.c0
  have z1 := hc.f1
  have z2 := hc.f2
  have hlt := hc.lt
  have hsm := hb.small
  go_enter Tryz.func71, Tryz.ntmps71
  go_wp2_with fail
  generalize wrap64 (wrap64 (h * 6364136223846793005) + 1442695040888963407) = H
  obtain ⟨w1, hw1⟩ : ∃ w1, w1 = w.setCell ⟨C, 2, none⟩ (.int .i64 H) := ⟨_, rfl⟩
  have j0 : w1.cell? ⟨C, 0, none⟩ = some (.slice a len cap) := by rw [hw1, World.cell?_setCell_other _ _ _ _ (by simp)]; exact k0
  have j1 : w1.cell? ⟨C, 1, none⟩ = some (.int .i64 i) := by rw [hw1, World.cell?_setCell_other _ _ _ _ (by simp)]; exact k1
  have j2 : w1.cell? ⟨C, 2, none⟩ = some (.int .i64 H) := by rw [hw1]; exact World.cell?_setCell_same _ _ _ k2
  have y1 : w1.frozen? ⟨C, 1, none⟩ = false := by rw [hw1]; simp [z1]
  have y2 : w1.frozen? ⟨C, 2, none⟩ = false := by rw [hw1]; simp [z2]
  have g1 : w.grownBy w1 (some C) := by rw [hw1]; exact grown_set (grown_refl w (some C)) _ _
  have hlt1 : C < w1.heap.size := by rw [hw1]; simpa [World.setCell] using hlt
  rw [← hw1]
  clear hw1 k0 k1 k2 z1 z2 hlt
  go_quiet (fail)
  have hx0 := bits_255 (bits BinOp.xor IntKind.i64 (H / 8589934592) (H / 35184372088832))
  generalize bits BinOp.and IntKind.i64 (bits BinOp.xor IntKind.i64 (H / 8589934592) (H / 35184372088832)) 255 = X at *
  obtain ⟨w2, hw2⟩ : ∃ w2, w2 = w1.drewN nq := ⟨_, rfl⟩
  have j0 : w2.cell? ⟨C, 0, none⟩ = some (.slice a len cap) := by rw [hw2]; exact j0
  have j1 : w2.cell? ⟨C, 1, none⟩ = some (.int .i64 i) := by rw [hw2]; exact j1
  have j2 : w2.cell? ⟨C, 2, none⟩ = some (.int .i64 H) := by rw [hw2]; exact j2
  have y1 : w2.frozen? ⟨C, 1, none⟩ = false := by rw [hw2]; exact y1
  have y2 : w2.frozen? ⟨C, 2, none⟩ = false := by rw [hw2]; exact y2
  have g2 : w.grownBy w2 (some C) := by rw [hw2]; exact grown_drewN g1 _
  have hlt2 : C < w2.heap.size := by rw [hw2]; exact hlt1
  rw [← hw2]
  clear hw2 g1 hlt1 hc
  by_cases hil : i < len
  · have hi1 : (i : Int) < (len : Int) := by omega
    have hi0 : (0 : Int) ≤ (i : Int) := by omega
    obtain ⟨b, off, rfl, x, hcell, hx1, hx2⟩ := hb.cells i hil
    have hbC := hne b off rfl
    have hcell2 : w2.cell? ⟨b, off + i, none⟩ = some (.int .u8 x) := (World.cell?_of_block (a := ⟨b, off + i, none⟩) (g2.block b (block_lt_of_cell hcell) (by simp [hbC]))).trans hcell
    have hu := hx2
    clear hb hcell hne
    have G2 := hide g2
    clear g2
    go_wp2_with fail
    go_quiet (fail)
    go_wp2_with fail
    go_quiet (fail)
    have hx3 := bits_255 (X + x)
    generalize bits BinOp.and IntKind.i64 (X + x) 255 = Y at *
    go_wp2
    go_ret
    refine ⟨Y, rfl, hx3, ⟨?_, ⟨i + 1, by omega, ?_⟩, ⟨H, ?_⟩, ?_, ?_, ?_⟩, ?_⟩
    · exact (World.cell?_setCell_other _ _ _ _ (by simp)).trans j0
    · exact World.cell?_setCell_same _ _ _ (u := .int .i64 i) j1
    · exact (World.cell?_setCell_other _ _ _ _ (by simp)).trans j2
    · simpa using y1
    · simpa using y2
    · simpa [World.setCell] using hlt2
    · exact grown_set (grown_drewN (unhide G2) _) _ _
  · have hi1 : ¬ (i : Int) < (len : Int) := by omega
    have G2 := hide g2
    clear g2 hb hne
    go_wp2_with fail
    go_quiet (fail)
    go_wp2
    go_ret
    refine ⟨X, rfl, hx0, ⟨j0, ⟨i, hi, j1⟩, ⟨H, j2⟩, y1, y2, hlt2⟩, grown_drewN (unhide G2) _⟩

theorem Bytes.far {w w' : World} {a : Option Addr} {len : Nat} {row : Option Nat} (h : Bytes w a len) (k : w.grownBy w' row) (hne : ∀ b off, a = some ⟨b, off, none⟩ → some b ≠ row) : Bytes w' a len := by
  refine ⟨h.small, fun i hi => ?_⟩
  obtain ⟨b, off, ha, x, hc, hx⟩ := h.cells i hi
  exact ⟨b, off, ha, x, (World.cell?_of_block (a := ⟨b, off + i, none⟩) (k.block b (block_lt_of_cell hc) (hne b off ha))).trans hc, hx⟩
theorem Bytes.below {w w' : World} {a : Option Addr} {len : Nat} (h : Bytes w a len) (k : Below w.heap.size w w') : Bytes w' a len := by
  refine ⟨h.small, fun i hi => ?_⟩
  obtain ⟨b, off, ha, x, hc, hx⟩ := h.cells i hi
  exact ⟨b, off, ha, x, (k.cell (block_lt_of_cell hc)).trans hc, hx⟩
theorem Cur.below {w w' : World} {C : Nat} {a : Option Addr} {len cap : Nat} (h : Cur w C a len cap) (k : Below w.heap.size w w') : Cur w' C a len cap := by
  obtain ⟨i, hi, k1⟩ := h.c1
  obtain ⟨x, k2⟩ := h.c2
  exact ⟨(k.cell (p := ⟨C, 0, none⟩) h.lt).trans h.c0, ⟨i, hi, (k.cell (p := ⟨C, 1, none⟩) h.lt).trans k1⟩, ⟨x, (k.cell (p := ⟨C, 2, none⟩) h.lt).trans k2⟩, (k.frozen (p := ⟨C, 1, none⟩) h.lt).trans h.f1, (k.frozen (p := ⟨C, 2, none⟩) h.lt).trans h.f2, Nat.lt_of_lt_of_le h.lt k.size⟩
theorem Cur.far {w w' : World} {C : Nat} {a : Option Addr} {len cap : Nat} {row : Option Nat} (h : Cur w C a len cap) (k : w.grownBy w' row) (hne : some C ≠ row) : Cur w' C a len cap := by
  obtain ⟨i, hi, k1⟩ := h.c1
  obtain ⟨x, k2⟩ := h.c2
  have hb := k.block C h.lt hne
  exact ⟨(World.cell?_of_block (a := ⟨C, 0, none⟩) hb).trans h.c0, ⟨i, hi, (World.cell?_of_block (a := ⟨C, 1, none⟩) hb).trans k1⟩, ⟨x, (World.cell?_of_block (a := ⟨C, 2, none⟩) hb).trans k2⟩, (World.frozen?_of_block (a := ⟨C, 1, none⟩) hb).trans h.f1, (World.frozen?_of_block (a := ⟨C, 2, none⟩) hb).trans h.f2, Nat.lt_of_lt_of_le h.lt k.size⟩
theorem grown_trans {a b c : World} {row : Option Nat} (h : a.grownBy b row) (k : b.grownBy c row) : a.grownBy c row :=
  ⟨k.os.trans h.os, k.tape.trans h.tape, k.output.trans h.output, Nat.le_trans h.size k.size, fun i hi hne => (k.block i (Nat.lt_of_lt_of_le hi h.size) hne).trans (h.block i hi hne)⟩

set_option maxHeartbeats 1000000 in
theorem l1Below_any (C : Nat) (a : Option Addr) (len cap : Nat) (n : Int) (w : World) (hc : Cur w C a len cap) (hb : Bytes w a len) (hne : ∀ b off, a = some ⟨b, off, none⟩ → b ≠ C) (hn : 1 ≤ n ∧ n ≤ 1000000) :
    Calls Tryz.prog 35 #[.pointer (some ⟨C, 0, none⟩), .int .i64 n] w fun e w' => ∃ x : Int, e = .returned (.int .i64 x) ∧ (0 ≤ x ∧ x < n) ∧ Cur w' C a len cap ∧ w.grownBy w' (some C) := by
  have hne' : ∀ b off, a = some ⟨b, off, none⟩ → some b ≠ some C := fun b off e => by simp [hne b off e]
  by_cases hle : n ≤ 256
  · have hn0 : ¬ n ≤ 0 := by omega
    go_enter Tryz.func35, Tryz.ntmps35
    go_wp2_with fail
    refine (l1Byte_any C a len cap w hc hb hne).mono ?_
    rintro e w1 ⟨x, rfl, hx, hc1, g1⟩
    have HC := hide hc1
    have HG := hide g1
    clear hc hb hc1 g1
    go_wp2_with fail
    go_ret
    exact ⟨x % n, rfl, ⟨Int.emod_nonneg _ (by omega), Int.emod_lt_of_pos _ (by omega)⟩, unhide HC, unhide HG⟩
  · have hn0 : ¬ n ≤ 0 := by omega
    have HC0 := hide hc
    have HB0 := hide hb
    have HG0 := hide (grown_refl w (some C))
    clear hc hb
    go_enter Tryz.func35, Tryz.ntmps35
    go_wp2_with fail
    refine (l1Byte_any C a len cap _ (unhide HC0) (unhide HB0) hne).mono ?_
    rintro e w1 ⟨x1, rfl, hx1, hc1, g1⟩
    have HC1 := hide hc1
    have HG1 := hide (grown_trans (unhide HG0) g1)
    have HB1 := hide ((unhide HB0).far g1 hne')
    clear hc1 g1
    go_wp2_with fail
    refine (l1Byte_any C a len cap _ (unhide HC1) (unhide HB1) hne).mono ?_
    rintro e w2 ⟨x2, rfl, hx2, hc2, g2⟩
    have HC2 := hide hc2
    have HG2 := hide (grown_trans (unhide HG1) g2)
    have HB2 := hide ((unhide HB1).far g2 hne')
    clear hc2 g2
    go_wp2_with fail
    refine (l1Byte_any C a len cap _ (unhide HC2) (unhide HB2) hne).mono ?_
    rintro e w3 ⟨x3, rfl, hx3, hc3, g3⟩
    have HC3 := hide hc3
    have HG3 := hide (grown_trans (unhide HG2) g3)
    have HB3 := hide ((unhide HB2).far g3 hne')
    clear hc3 g3
    go_wp2_with fail
    refine (l1Byte_any C a len cap _ (unhide HC3) (unhide HB3) hne).mono ?_
    rintro e w4 ⟨x4, rfl, hx4, hc4, g4⟩
    have HC4 := hide hc4
    have HG4 := hide (grown_trans (unhide HG3) g4)
    have HB4 := hide ((unhide HB3).far g4 hne')
    clear hc4 g4
    go_wp2_with fail
    go_ret
    exact ⟨_, rfl, ⟨Int.emod_nonneg _ (by omega), Int.emod_lt_of_pos _ (by omega)⟩, unhide HC4, unhide HG4⟩

end Go.Proofs.YtemodlgmjgdjpaaGreatDoor

namespace Go.Proofs.YtemodlgmjgdjpaaGreatDoor
open Go.RowKit

set_option maxHeartbeats 1000000 in
theorem l1New_any (a : Option Addr) (len cap : Nat) (w : World) (hb : Bytes w a len) :
    Calls Tryz.prog 33 #[.slice a len cap] w fun e w' => e = .returned (.pointer (some ⟨w.heap.size, 0, none⟩)) ∧ Cur w' w.heap.size a len cap ∧ Below w.heap.size w w' := by
  have hsm := hb.small
  have HB := hide hb
  clear hb
  go_enter Tryz.func33, Tryz.ntmps33
  go_wp2_with fail
  go_loopw [3, 4] (fun hh i wr => ∃ (k : Nat) (v : Int), k ≤ len ∧ i = .int .i64 k ∧ hh = .int .i64 v ∧ wr = w) (fun _ i _ => len - (intOf i).toNat)
  case atStart => exact ⟨0, _, Nat.zero_le _, rfl, rfl, rfl⟩
  case round =>
    obtain ⟨k, v, hk, rfl, rfl, hwr⟩ := hrel
    subst wr
    by_cases hlt : k < len
    · have hi1 : (k : Int) < (len : Int) := by omega
      by_cases hlt2 : k < 4000
      · have hi2 : (k : Int) < 4000 := by omega
        obtain ⟨b, off, rfl, x, hc, hx1, hx2⟩ := (unhide HB).cells k hlt
        go_wp2
        go_roundw
        case rel => exact ⟨k + 1, _, by omega, by go_num, rfl, by first | rfl | trivial⟩
        case measure => simp [intOf]; omega
      · have hi2 : ¬ (k : Int) < 4000 := by omega
        go_wp2
        go_ret
        exact ⟨rfl, ⟨by simp [go_sem], ⟨0, by omega, by simp [go_sem]⟩, ⟨v, by simp [go_sem]⟩, by simp [go_sem], by simp [go_sem], by simp⟩, bel1 _⟩
    · have hi1 : ¬ (k : Int) < (len : Int) := by omega
      go_wp2
      go_ret
      exact ⟨rfl, ⟨by simp [go_sem], ⟨0, by omega, by simp [go_sem]⟩, ⟨v, by simp [go_sem]⟩, by simp [go_sem], by simp [go_sem], by simp⟩, bel1 _⟩

set_option maxHeartbeats 400000 in
theorem at_any (a : Option Addr) (len cap : Nat) (i : Nat) (w : World) (hb : Bytes w a len) (hl : len ≤ 1048576) (hi : i ≤ 1000) :
    Calls Tryz.prog 13 #[.slice a len cap, .int .i64 i] w fun e w' => ∃ x : Int, e = .returned (.int .i64 x) ∧ (0 ≤ x ∧ x ≤ 255) ∧ w' = w := by
  by_cases hlt : i < len
  · have hi1 : (i : Int) < (len : Int) := by omega
    have hi0 : (0 : Int) ≤ (i : Int) := by omega
    obtain ⟨b, off, rfl, x, hc, hx1, hx2⟩ := hb.cells i hlt
    clear hb
    go_enter Tryz.func13, Tryz.ntmps13
    go_wp2
    go_ret
    exact ⟨x, rfl, ⟨hx1, hx2⟩, rfl⟩
  · have hi1 : ¬ (i : Int) < (len : Int) := by omega
    clear hb
    go_enter Tryz.func13, Tryz.ntmps13
    go_wp2
    go_ret
    exact ⟨_, rfl, ⟨Int.emod_nonneg _ (by omega), by have := Int.emod_lt_of_pos ((i : Int) * 7 + len) (show (0 : Int) < 256 by omega); omega⟩, rfl⟩

set_option maxHeartbeats 400000 in
theorem big_any (a : Option Addr) (len cap : Nat) (w : World) :
    Calls Tryz.prog 6 #[.slice a len cap] w fun e w' => e = .returned (.bool (decide ((1048576 : Int) < len))) ∧ w' = w := by
  by_cases h : (1048576 : Int) < len
  · go_enter Tryz.func6, Tryz.ntmps6
    go_wp2
    go_ret
    exact ⟨ret_bool (by simp; omega), rfl⟩
  · go_enter Tryz.func6, Tryz.ntmps6
    go_wp2
    go_ret
    exact ⟨ret_bool (by simp; omega), rfl⟩

end Go.Proofs.YtemodlgmjgdjpaaGreatDoor

namespace Go.Proofs.YtemodlgmjgdjpaaGreatDoor
open Go.RowKit

theorem info_int : (Tryz.prog.info? 3).map (fun i => (i.zero, i.size, i.bytes)) = some (some (.int .i64 0), 1, 8) := by kernel_rfl

/-- After k rounds of the copying. -/
structure Copied (w wr : World) (zs : List Int) (k : Nat) : Prop where
  own : ∃ xs : List Value, wr.ownsRow w.heap.size 3 1 (.slice (some ⟨w.heap.size, 0, none⟩) zs.length zs.length) zs.length xs ∧ ∀ j, j < k → xs[j]? = some (.int .i64 (nth zs j))
  bel : Below w.heap.size w wr

theorem Copied.here {w wr : World} {zs : List Int} {k : Nat} (h : Copied w wr zs k) (hk : k < zs.length) :
    (∃ v, wr.cell? ⟨w.heap.size, k, none⟩ = some v) ∧ wr.frozen? ⟨w.heap.size, k, none⟩ = false := by
  obtain ⟨xs, ho, _⟩ := h.own
  refine ⟨?_, ho.frozenAt k⟩
  rw [ho.cellAt k (by omega)]
  have := ho.1
  exact ⟨xs[k]'(by omega), List.getElem?_eq_getElem (by omega)⟩

theorem Copied.step {w wr : World} {zs : List Int} {k : Nat} (h : Copied w wr zs k) (hk : k < zs.length) :
    Copied w (wr.setCell ⟨w.heap.size, k, none⟩ (.int .i64 (nth zs k))) zs (k + 1) := by
  obtain ⟨xs, ho, hx⟩ := h.own
  refine ⟨⟨_, (ho.stored k _).1, fun j hj => ?_⟩, h.bel.setCell (Nat.le_refl _) _⟩
  have hl := ho.1
  by_cases e : j = k
  · subst e; rw [List.getElem?_set_self (by omega)]
  · rw [List.getElem?_set_ne (by omega)]; exact hx j (by omega)

theorem Copied.row {w wr : World} {zs : List Int} (h : Copied w wr zs zs.length) (hs : zs.length ≤ 1048576) (hf : ∀ i : Nat, -9223372036854775808 ≤ nth zs i ∧ nth zs i ≤ 9223372036854775807) :
    Row wr (some ⟨w.heap.size, 0, none⟩) zs.length zs := by
  obtain ⟨xs, ho, hx⟩ := h.own
  refine ⟨rfl, by omega, fun i hi => ⟨_, _, rfl, ?_⟩, hf⟩
  rw [Nat.zero_add, ho.cellAt i (by omega), hx i hi]

end Go.Proofs.YtemodlgmjgdjpaaGreatDoor

namespace Go.Proofs.YtemodlgmjgdjpaaGreatDoor
open Go.RowKit

structure OwnI (w : World) (base : Nat) (v : Value) (zs : List Int) : Prop where
  own : ∃ xs : List Value, w.ownsRow base 3 1 v zs.length xs ∧ ∀ j, j < zs.length → xs[j]? = some (.int .i64 (nth zs j))
  fit : ∀ i : Nat, -9223372036854775808 ≤ nth zs i ∧ nth zs i ≤ 9223372036854775807

theorem OwnI.form {w : World} {base : Nat} {v : Value} {zs : List Int} (h : OwnI w base v zs) :
    (v = .slice none 0 0 ∧ zs = []) ∨ ∃ g cap, v = .slice (some ⟨g, 0, none⟩) zs.length cap ∧ base ≤ g ∧ g < w.heap.size ∧ zs.length ≤ cap ∧ cap ≤ maxLen := by
  obtain ⟨xs, ho, _⟩ := h.own
  rcases ho.2 with ⟨hv, h0⟩ | ⟨g, cap, cur, hv, hb, hg, hc, hm, _⟩
  · exact .inl ⟨hv, List.length_eq_zero_iff.1 h0⟩
  · refine .inr ⟨g, cap, hv, hb, ?_, hc, hm⟩
    rcases Nat.lt_or_ge g w.heap.size with hlt | hge
    · exact hlt
    · rw [Array.getElem?_eq_none hge] at hg; cases hg
theorem OwnI.lies {w : World} {base : Nat} {v : Value} {zs : List Int} (h : OwnI w base v zs) : ∀ g, v.ownBlock = some g → base ≤ g ∧ g < w.heap.size := by
  intro g hg
  rcases h.form with ⟨rfl, _⟩ | ⟨g', cap, rfl, h1, h2, _⟩
  · simp [Value.ownBlock] at hg
  · simp only [Value.ownBlock, Option.some.injEq] at hg
    omega
theorem OwnI.row {w : World} {base : Nat} {a : Option Addr} {len cap : Nat} {zs : List Int} (h : OwnI w base (.slice a len cap) zs) : Row w a len zs := by
  have hf := h.fit
  obtain ⟨xs, ho, hx⟩ := h.own
  rcases h.form with ⟨e, h0⟩ | ⟨g, cap', e, _, _, hc, hm⟩
  · simp only [Value.slice.injEq] at e
    obtain ⟨rfl, rfl, rfl⟩ := e
    subst h0
    exact ⟨rfl, by simp, fun i hi => by omega, hf⟩
  · simp only [Value.slice.injEq] at e
    obtain ⟨rfl, rfl, rfl⟩ := e
    refine ⟨rfl, by unfold maxLen at hm; omega, fun i hi => ⟨_, _, rfl, ?_⟩, hf⟩
    rw [Nat.zero_add, ho.cellAt i (by omega)]; exact hx i hi
theorem OwnI.below {w w' : World} {base : Nat} {v : Value} {zs : List Int} (h : OwnI w base v zs) (k : Below w.heap.size w w') : OwnI w' base v zs := by
  obtain ⟨xs, ho, hx⟩ := h.own
  exact ⟨⟨xs, ownsRow_below ho k, hx⟩, h.fit⟩
theorem OwnI.mono {w : World} {base base' : Nat} {v : Value} {zs : List Int} (h : OwnI w base v zs) (hb : base' ≤ base) : OwnI w base' v zs := by
  obtain ⟨xs, ⟨h1, h2⟩, hx⟩ := h.own
  refine ⟨⟨xs, ⟨h1, ?_⟩, hx⟩, h.fit⟩
  rcases h2 with h2 | ⟨g, cap, cur, a, b, c⟩
  · exact .inl h2
  · exact .inr ⟨g, cap, cur, a, by omega, c⟩
theorem OwnI.far {w w' : World} {base : Nat} {v : Value} {zs : List Int} {row : Option Nat} (h : OwnI w base v zs) (k : w.grownBy w' row) (hne : ∀ g, v.ownBlock = some g → some g ≠ row) : OwnI w' base v zs := by
  obtain ⟨xs, ⟨h1, h2⟩, hx⟩ := h.own
  refine ⟨⟨xs, ⟨h1, ?_⟩, hx⟩, h.fit⟩
  rcases h2 with h2 | ⟨g, cap, cur, rfl, b, c, d⟩
  · exact .inl h2
  · refine .inr ⟨g, cap, cur, rfl, b, ?_, d⟩
    have hg : g < w.heap.size := by
      rcases Nat.lt_or_ge g w.heap.size with hlt | hge
      · exact hlt
      · rw [Array.getElem?_eq_none hge] at c; cases c
    rw [k.block g hg (hne g rfl)]; exact c
theorem OwnI.set_other {w : World} {base : Nat} {v : Value} {zs : List Int} (h : OwnI w base v zs) {S o : Nat} (u : Value) (hne : v.ownBlock ≠ some S) : OwnI (w.setCell ⟨S, o, none⟩ u) base v zs :=
  h.far (grown_set (grown_refl w (some S)) o u) (fun _ hg e => hne (hg.trans e))
theorem OwnI.here {w : World} {base : Nat} {g cap : Nat} {zs : List Int} (h : OwnI w base (.slice (some ⟨g, 0, none⟩) zs.length cap) zs) (i : Nat) (hi : i < zs.length) : w.cell? ⟨g, i, none⟩ = some (.int .i64 (nth zs i)) ∧ w.frozen? ⟨g, i, none⟩ = false := by
  obtain ⟨xs, ho, hx⟩ := h.own
  exact ⟨by rw [ho.cellAt i (by omega)]; exact hx i hi, ho.frozenAt _⟩
theorem nth_set (zs : List Int) (i j : Nat) (a : Int) (hi : i < zs.length) : nth (zs.set i a) j = if j = i then a else nth zs j := by
  unfold nth
  by_cases e : j = i
  · subst e; rw [List.getElem?_set_self hi]; simp
  · rw [List.getElem?_set_ne (by omega)]; simp [e]
theorem OwnI.set {w : World} {base : Nat} {g cap : Nat} {zs : List Int} (h : OwnI w base (.slice (some ⟨g, 0, none⟩) zs.length cap) zs) (i : Nat) (hi : i < zs.length) (a : Int) (ha : -9223372036854775808 ≤ a ∧ a ≤ 9223372036854775807) :
    OwnI (w.setCell ⟨g, i, none⟩ (.int .i64 a)) base (.slice (some ⟨g, 0, none⟩) zs.length cap) (zs.set i a) := by
  have hf := h.fit
  obtain ⟨xs, ho, hx⟩ := h.own
  have hl := ho.1
  have o1 := (ho.stored i (.int .i64 a)).1
  refine ⟨⟨_, by rw [List.length_set]; exact o1, fun j hj => ?_⟩, fun j => ?_⟩
  · rw [List.length_set] at hj
    rw [nth_set _ _ _ _ hi]
    by_cases e : j = i
    · subst e; rw [if_pos rfl]; exact List.getElem?_set_self (by omega)
    · rw [if_neg e, List.getElem?_set_ne (by omega)]; exact hx j hj
  · rw [nth_set _ _ _ _ hi]
    by_cases e : j = i
    · rw [if_pos e]; exact ha
    · rw [if_neg e]; exact hf j


def markI (zs : List Int) (k : Int) : Nat → List Int
  | 0 => zs
  | n + 1 => (markI zs k n).set n (k + n)
theorem markI_len (zs : List Int) (k : Int) (n : Nat) : (markI zs k n).length = zs.length := by
  induction n with
  | zero => rfl
  | succ n ih => simp [markI, ih]

set_option maxHeartbeats 1000000 in
theorem markIntS_any (base : Nat) (a : Option Addr) (len c : Nat) (zs : List Int) (k : Int) (w : World) (ho : OwnI w base (.slice a len c) zs) (hl : zs.length = len) (h1 : len ≤ 1048576) (hk0 : 0 ≤ k) (hk1 : k ≤ 1000000000) :
    Calls Tryz.prog 31 #[.slice a len c, .int .i64 k] w fun e w' => e = .returned (.int .i64 (k + len)) ∧ w.grownBy w' (Value.slice a len c).ownBlock := by
  subst hl
  go_enter Tryz.func31, Tryz.ntmps31
  go_wp2
  go_loopw [1, 5] (fun kk i wr => ∃ j : Nat, j ≤ zs.length ∧ i = .int .i64 j ∧ kk = .int .i64 (k + j) ∧ OwnI wr base (.slice a zs.length c) (markI zs k j) ∧ w.grownBy wr (Value.slice a zs.length c).ownBlock) (fun _ i _ => zs.length - (intOf i).toNat)
  case atStart => exact ⟨0, Nat.zero_le _, rfl, by simp, ho, grown_refl _ _⟩
  case round =>
    obtain ⟨j, hj, rfl, rfl, how, hgr⟩ := hrel
    have hml := markI_len zs k j
    by_cases hlt : j < zs.length
    · rcases how.form with ⟨_, h0⟩ | ⟨g, c', hv, hg1, hg2, hc1, _⟩
      · rw [h0] at hml; simp at hml; omega
      simp only [Value.slice.injEq] at hv
      obtain ⟨rfl, hx, rfl⟩ := hv
      clear hx hc1
      have o1 := how
      rw [← hml] at o1
      obtain ⟨n0, z0⟩ := o1.here j (by omega)
      have o2 := o1.set j (by omega) (k + j) (by omega)
      rw [hml] at o2
      have O3 : Hid (OwnI (wr.setCell ⟨g, j, none⟩ (.int .i64 (k + j))) base (.slice (some ⟨g, 0, none⟩) zs.length c) (markI zs k (j + 1))) := hide o2
      have G3 : Hid (w.grownBy (wr.setCell ⟨g, j, none⟩ (.int .i64 (k + j))) (Value.slice (some ⟨g, 0, none⟩) zs.length c).ownBlock) := hide (grown_set hgr _ _)
      have hi1 : (j : Int) < (zs.length : Int) := by omega
      clear o1 o2 how hgr hml
      go_wp2
      go_roundw
      case rel => exact ⟨j + 1, by omega, by go_num, by go_num, unhide O3, unhide G3⟩
      case measure => simp [intOf]; omega
    · have hkk : j = zs.length := by omega
      subst hkk
      have G := hide hgr
      clear how hgr hml
      go_wp2
      go_ret
      exact ⟨rfl, unhide G⟩

end Go.Proofs.YtemodlgmjgdjpaaGreatDoor
