/-
  A list of whole numbers that make has made, as an equation for the walk, and as it reads. At lists of at most 1048576.
-/
import Derived.Test.YtikhfacgoglcfaaBlk
import Derived.Test.YtikhfacgoglcfaaMarkI
import Derived.Laws.MakeOwn
import Derived.Laws.OwnMore
namespace Go.Proofs.Ytikhfacgoglcfaa
open Go.RowKit

theorem madeI_run {L : Nat} (hL : L ≤ 1048576) (W : World) :
    (Instr.makeSlice 24 (.int .i64 (L : Int)) (.int .i64 (L : Int))).run Try.prog W = .ok (.slice (some ⟨W.heap.size, 0, none⟩) L L) (W.alloc (.cells (madeCells #[.int .i64 0] L) 3)) := by
  obtain ⟨i0, h0, h1, h2, h3⟩ := info_parts info_int1
  have hbytes : (i0.bytes : Int) * (L : Int) ≤ 281474976710656 := by
    have hm : i0.bytes * L ≤ 8 * 1048576 := Nat.mul_le_mul (by omega) hL
    have : ((i0.bytes * L : Nat) : Int) ≤ 281474976710656 := by omega
    rwa [Int.natCast_mul] at this
  have hr := run_make (P := Try.prog) W 24 3 i0 (.int .i64 0) Try.underlying24 h0 h1 .i64 .i64 (L : Int) (L : Int) (by omega) (Int.le_refl _) hbytes (by omega)
  rw [show (Value.int IntKind.i64 0).cells = #[.int .i64 0] from rfl, h2] at hr
  simpa using hr
theorem nthZ (n i : Nat) : nth (List.replicate n (0 : Int)) i = 0 := by
  unfold nth
  by_cases h : i < n
  · simp [h]
  · have : (List.replicate n (0 : Int))[i]? = none := by simp; omega
    simp [this]
theorem madeI_row (W : World) {L : Nat} (hL : L ≤ 1048576) : Row (W.alloc (.cells (madeCells #[.int .i64 0] L) 3)) (some ⟨W.heap.size, 0, none⟩) L (List.replicate L 0) := by
  have e : madeCells #[.int .i64 0] L = (List.replicate L (Value.int .i64 0)).toArray := by
    apply Array.ext'
    rw [toList_madeCells_one]
  rw [e]
  refine ⟨by simp, by omega, fun i hi => ⟨_, _, rfl, ?_⟩, fun i => by rw [nthZ]; omega⟩
  rw [nthZ, Nat.zero_add]
  have := (Blk.new (w := W) (List.replicate L (Value.int .i64 0)) 3).c i (by simpa using hi)
  rw [this]; simp

end Go.Proofs.Ytikhfacgoglcfaa
