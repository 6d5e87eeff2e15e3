/-
  The sum of a frame's bytes, of the program: by the lowest eight bits. At every list of bytes; nothing is written.
  A slice of slices of bytes read as a list of lists, and the law's size and comparison of it. No condition.
-/
import Derived.Test.YticdccdkjepifaaMBuSum
import Derived.Test.YticdccdkjepifaaMRowS
import Derived.Test.YticdccdkjepifaaRowBy

namespace Go.Proofs.Yticdccdkjepifaa
open Go.RowKit

set_option maxRecDepth 20000 in
set_option maxHeartbeats 1000000 in
theorem frameSum_is {r : Int} (ad : Option Addr) (len cap : Nat) (zs : List Int) (w : World) (hr : RowE 1 byC w ad len zs) (hc : smB zs = r) :
    Calls Try.prog 37 #[.slice ad len cap] w fun e w' => e = .returned (.int .u8 r) ∧ ∃ n, w' = w.drewN n := by
  have hz := hr.len_eq
  have hs := hr.small
  have HO := hide hr.open1
  have HC := hide hc
  clear hr hc
  subst hz
  go_enter Try.func37, Try.ntmps37
  go_wp2_with fail
  go_loopw [3, 8] (fun s3 s4 wr => ∃ (k n : Nat) (x : Int), k ≤ zs.length ∧ s3 = .int .u8 x ∧ s4 = .int .i64 (k : Int) ∧ Hid (smK zs k = x) ∧ wr = w.drewN n) (fun _ s4 _ => zs.length - (intOf s4).toNat)
  case atStart => exact ⟨0, 0, 0, Nat.zero_le _, rfl, rfl, hide rfl, rfl⟩
  case round =>
    obtain ⟨k, n, x, hk, rfl, rfl, HK, rfl⟩ := hrel
    by_cases hlt : k < zs.length
    · rcases (unhide HO) with ⟨h0, _⟩ | ⟨bb, off, rfl, _, hcs⟩
      · omega
      have m0 : w.cell? ⟨bb, off + k, none⟩ = some (.int .u8 (elAt zs k)) := hcs k hlt
      have k0 : (0 : Int) ≤ (k : Int) := by omega
      have k1 : (k : Int) < (zs.length : Int) := by omega
      clear hcs
      go_wp2_with fail
      go_roundw
      case rel => exact ⟨k + 1, _, _, by omega, rfl, by go_num, hide (by rw [smK, unhide HK]), by first | rfl | exact rfl⟩
      case measure => simp [intOf]; omega
    · have hkl : k = zs.length := by omega
      have HE : Hid (smB zs = x) := hide (by rw [smB, ← hkl]; exact unhide HK)
      have k1 : ¬ (k : Int) < (zs.length : Int) := by omega
      clear hkl
      go_wp2_with fail
      go_ret
      exact ⟨ret_u8 ((unhide HE).symm.trans (unhide HC)), n, rfl⟩

end Go.Proofs.Yticdccdkjepifaa

namespace Go.Proofs.Yticdccdkjepifaa
open Go.RowKit


structure RowSB (w : World) (a : Option Addr) (len : Nat) (zss : List (List Int)) : Prop where
  len_eq : zss.length = len
  small : len ≤ 9223372036854775807
  cells : ∀ i, i < len → ∃ b off ai li ci, a = some ⟨b, off, none⟩ ∧ w.cell? ⟨b, off + i, none⟩ = some (.slice ai li ci) ∧ RowE 1 byC w ai li (nthS zss i) ∧ li ≤ ci

theorem RowSB.open_ {w : World} {a : Option Addr} {len : Nat} {zss : List (List Int)} (h : RowSB w a len zss) :
    (len = 0 ∧ zss = []) ∨ ∃ b off, a = some ⟨b, off, none⟩ ∧ 0 < len ∧ ∀ i, i < len → ∃ ai li ci, w.cell? ⟨b, off + i, none⟩ = some (.slice ai li ci) ∧ RowE 1 byC w ai li (nthS zss i) ∧ li ≤ ci := by
  by_cases h0 : len = 0
  · exact .inl ⟨h0, List.length_eq_zero_iff.1 (by rw [h.len_eq, h0])⟩
  · obtain ⟨b, off, _, _, _, ha, _⟩ := h.cells 0 (by omega)
    refine .inr ⟨b, off, ha, by omega, fun i hi => ?_⟩
    obtain ⟨b', off', ai, li, ci, ha', hc⟩ := h.cells i hi
    rw [ha] at ha'
    simp only [Option.some.injEq, Addr.mk.injEq] at ha'
    obtain ⟨rfl, rfl, _⟩ := ha'
    exact ⟨ai, li, ci, hc⟩

theorem RowSB.below {w w' : World} {a : Option Addr} {len : Nat} {zss : List (List Int)} (h : RowSB w a len zss) (k : Below w.heap.size w w') : RowSB w' a len zss := by
  refine ⟨h.len_eq, h.small, fun i hi => ?_⟩
  obtain ⟨b, off, ai, li, ci, ha, hc, hr, hl⟩ := h.cells i hi
  exact ⟨b, off, ai, li, ci, ha, (k.cell (block_lt_of_cell hc)).trans hc, hr.below k, hl⟩
theorem RowSB.alloc {w : World} {a : Option Addr} {len : Nat} {zss : List (List Int)} (h : RowSB w a len zss) (o : Obj) : RowSB (w.alloc o) a len zss := h.below (bel1 o)
theorem RowSB.drewN {w : World} {a : Option Addr} {len : Nat} {zss : List (List Int)} (h : RowSB w a len zss) (n : Nat) : RowSB (w.drewN n) a len zss := h.below (bel0d n)

/-! The size. -/
/-! The comparison, of what reads alike. -/
end Go.Proofs.Yticdccdkjepifaa
