/-
  A slice of slices of whole numbers read as a list of lists, and the law's size, comparison and copy of it (szIntSS, eqIntSS, toIntSS). No condition but the length at most 1048576 where it is copied.
  The model's new cursor, and the law's at and big: at every list of bytes.
  Two, three, four variables in blocks of their own, one laid behind the other. No condition.
-/
import Derived.Test.YtfnnfldfnjnlfahMCkPure
import Derived.Test.YtfnnfldfnjnlfahMCur

namespace Go.Proofs.Ytfnnfldfnjnlfah
open Go.RowKit

def nthS (zss : List (List Int)) (i : Nat) : List Int := zss[i]?.getD []

structure RowS (w : World) (a : Option Addr) (len : Nat) (zss : List (List Int)) : Prop where
  len_eq : zss.length = len
  small : len ≤ 9223372036854775807
  cells : ∀ i, i < len → ∃ b off ai li ci, a = some ⟨b, off, none⟩ ∧ w.cell? ⟨b, off + i, none⟩ = some (.slice ai li ci) ∧ Row w ai li (nthS zss i) ∧ li ≤ ci

theorem RowS.open_ {w : World} {a : Option Addr} {len : Nat} {zss : List (List Int)} (h : RowS w a len zss) :
    (len = 0 ∧ zss = []) ∨ ∃ b off, a = some ⟨b, off, none⟩ ∧ 0 < len ∧ ∀ i, i < len → ∃ ai li ci, w.cell? ⟨b, off + i, none⟩ = some (.slice ai li ci) ∧ Row w ai li (nthS zss i) ∧ li ≤ ci := by
  by_cases h0 : len = 0
  · exact .inl ⟨h0, List.length_eq_zero_iff.1 (by rw [h.len_eq, h0])⟩
  · obtain ⟨b, off, _, _, _, ha, _⟩ := h.cells 0 (by omega)
    refine .inr ⟨b, off, ha, by omega, fun i hi => ?_⟩
    obtain ⟨b', off', ai, li, ci, ha', hc⟩ := h.cells i hi
    rw [ha] at ha'
    simp only [Option.some.injEq, Addr.mk.injEq] at ha'
    obtain ⟨rfl, rfl, _⟩ := ha'
    exact ⟨ai, li, ci, hc⟩

theorem RowS.below {w w' : World} {a : Option Addr} {len : Nat} {zss : List (List Int)} (h : RowS w a len zss) (k : Below w.heap.size w w') : RowS w' a len zss := by
  refine ⟨h.len_eq, h.small, fun i hi => ?_⟩
  obtain ⟨b, off, ai, li, ci, ha, hc, hr, hl⟩ := h.cells i hi
  exact ⟨b, off, ai, li, ci, ha, (k.cell (block_lt_of_cell hc)).trans hc, hr.below k, hl⟩
theorem RowS.alloc {w : World} {a : Option Addr} {len : Nat} {zss : List (List Int)} (h : RowS w a len zss) (o : Obj) : RowS (w.alloc o) a len zss := h.below (bel1 o)
theorem RowS.drewN {w : World} {a : Option Addr} {len : Nat} {zss : List (List Int)} (h : RowS w a len zss) (n : Nat) : RowS (w.drewN n) a len zss := h.below (bel0d n)

/-! The size. -/
/-! The comparison, of what reads alike. -/
end Go.Proofs.Ytfnnfldfnjnlfah

namespace Go.Proofs.Ytfnnfldfnjnlfah
open Go.RowKit

set_option maxHeartbeats 1000000 in
theorem l1New_any (a : Option Addr) (len cap : Nat) (w : World) (hb : Bytes w a len) :
    Calls Try.prog 26 #[.slice a len cap] w fun e w' => e = .returned (.pointer (some ⟨w.heap.size, 0, none⟩)) ∧ Cur w' w.heap.size a len cap ∧ Below w.heap.size w w' := by
  have hsm := hb.small
  have HB := hide hb
  clear hb
  go_enter Try.func26, Try.ntmps26
  go_wp2_with fail
  go_loopw [3, 4] (fun hh i wr => ∃ (k : Nat) (v : Int), k ≤ len ∧ i = .int .i64 k ∧ hh = .int .i64 v ∧ wr = w) (fun _ i _ => len - (intOf i).toNat)
  case atStart => exact ⟨0, _, Nat.zero_le _, rfl, rfl, rfl⟩
  case round =>
    obtain ⟨k, v, hk, rfl, rfl, hwr⟩ := hrel
    subst wr
    by_cases hlt : k < len
    · have hi1 : (k : Int) < (len : Int) := by omega
      by_cases hlt2 : k < 4000
      · have hi2 : (k : Int) < 4000 := by omega
        obtain ⟨b, off, rfl, x, hc, hx1, hx2⟩ := (unhide HB).cells k hlt
        go_wp2
        go_roundw
        case rel => exact ⟨k + 1, _, by omega, by go_num, rfl, by first | rfl | trivial⟩
        case measure => simp [intOf]; omega
      · have hi2 : ¬ (k : Int) < 4000 := by omega
        go_wp2
        go_ret
        exact ⟨rfl, ⟨by simp [go_sem], ⟨0, by omega, by simp [go_sem]⟩, ⟨v, by simp [go_sem]⟩, by simp [go_sem], by simp [go_sem], by simp⟩, bel1 _⟩
    · have hi1 : ¬ (k : Int) < (len : Int) := by omega
      go_wp2
      go_ret
      exact ⟨rfl, ⟨by simp [go_sem], ⟨0, by omega, by simp [go_sem]⟩, ⟨v, by simp [go_sem]⟩, by simp [go_sem], by simp [go_sem], by simp⟩, bel1 _⟩

set_option maxHeartbeats 400000 in
theorem big_any (a : Option Addr) (len cap : Nat) (w : World) :
    Calls Try.prog 8 #[.slice a len cap] w fun e w' => e = .returned (.bool (decide ((1048576 : Int) < len))) ∧ w' = w := by
  by_cases h : (1048576 : Int) < len
  · go_enter Try.func8, Try.ntmps8
    go_wp2
    go_ret
    exact ⟨ret_bool (by simp; omega), rfl⟩
  · go_enter Try.func8, Try.ntmps8
    go_wp2
    go_ret
    exact ⟨ret_bool (by simp; omega), rfl⟩

end Go.Proofs.Ytfnnfldfnjnlfah

namespace Go.Proofs.Ytfnnfldfnjnlfah
open Go.RowKit

theorem Blk.next {w : World} {B : Nat} (vs : List Value) (T : TypeId) (h : w.heap.size = B) : Blk (w.alloc (Obj.cells vs.toArray T)) B vs := by
  subst h; exact Blk.new vs T
theorem blkAt2_0 {w : World} {v1 v2 : List Value} {T1 T2 : TypeId} : Blk ((w.alloc (Obj.cells v1.toArray T1)).alloc (Obj.cells v2.toArray T2)) w.heap.size v1 := (Blk.new v1 T1).alloc _
theorem blkAt2_1 {w : World} {v1 v2 : List Value} {T1 T2 : TypeId} : Blk ((w.alloc (Obj.cells v1.toArray T1)).alloc (Obj.cells v2.toArray T2)) (w.heap.size + 1) v2 := Blk.next v2 T2 (by simp)
theorem blkAt3_0 {w : World} {v1 v2 v3 : List Value} {T1 T2 T3 : TypeId} : Blk (((w.alloc (Obj.cells v1.toArray T1)).alloc (Obj.cells v2.toArray T2)).alloc (Obj.cells v3.toArray T3)) w.heap.size v1 := blkAt2_0.alloc _
theorem blkAt3_1 {w : World} {v1 v2 v3 : List Value} {T1 T2 T3 : TypeId} : Blk (((w.alloc (Obj.cells v1.toArray T1)).alloc (Obj.cells v2.toArray T2)).alloc (Obj.cells v3.toArray T3)) (w.heap.size + 1) v2 := blkAt2_1.alloc _
theorem blkAt3_2 {w : World} {v1 v2 v3 : List Value} {T1 T2 T3 : TypeId} : Blk (((w.alloc (Obj.cells v1.toArray T1)).alloc (Obj.cells v2.toArray T2)).alloc (Obj.cells v3.toArray T3)) (w.heap.size + 1 + 1) v3 := Blk.next v3 T3 (by simp)

end Go.Proofs.Ytfnnfldfnjnlfah
