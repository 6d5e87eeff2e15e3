/-
  The law's marks in a net's own lists: nothing else is written. At lists of at most 1048576.
-/
import Derived.Test.YtfahhjgpgccdhapLists
namespace Go.Proofs.Ytfahhjgpgccdhap
open Go.RowKit

theorem Blk.far {w w' : World} {B : Nat} {vs : List Value} {row : Option Nat} (h : Blk w B vs) (k : w.grownBy w' row) (hne : some B ≠ row) : Blk w' B vs := by
  have hb := k.block B h.lt hne
  refine ⟨fun i hi => (World.cell?_of_block (a := ⟨B, i, none⟩) hb).trans (h.c i hi), fun i hi => ?_, Nat.lt_of_lt_of_le h.lt k.size⟩
  have h2 := h.f i hi
  unfold World.frozen? at h2 ⊢
  simp only at h2 ⊢
  rw [hb]; exact h2

set_option maxRecDepth 20000 in
set_option maxHeartbeats 2000000 in
theorem markNet7_any (n : Int) (base g1 g2 g3 l1 l2 l3 : Nat) (ss : List Sr) (ts : List Ti) (us : List Us) (w : World) (h : NetOwn w base g1 g2 g3 l1 l2 l3 ss ts us) (z1 : ss.length = l1) (z2 : ts.length = l2) (z3 : us.length = l3) (q1 : l1 ≤ 1048576) (q2 : l2 ≤ 1048576) (q3 : l3 ≤ 1048576) :
    Calls Try.prog 16 #[.agg #[.int .i64 n, .slice (some ⟨g1, 0, none⟩) l1 l1, .slice (some ⟨g2, 0, none⟩) l2 l2, .slice (some ⟨g3, 0, none⟩) l3 l3], .int .i64 1] w fun x w' => (∃ m : Int, x = .returned (.int .i64 m) ∧ 0 ≤ m) ∧ ∃ wa wb wc, Below w.heap.size w wa ∧ wa.grownBy wb (some g1) ∧ wb.grownBy wc (some g2) ∧ wc.grownBy w' (some g3) := by
  have s1 := (h.o1.lies g1 rfl).2
  have s2 := (h.o2.lies g2 rfl).2
  have s3 := (h.o3.lies g3 rfl).2
  have n12 := h.n12
  have n23 := h.n23
  have Z1 := hide z1
  have Z2 := hide z2
  have Z3 := hide z3
  obtain ⟨W, hW⟩ : ∃ W, W = w.alloc (Obj.cells #[.int .i64 n, .slice (some ⟨g1, 0, none⟩) l1 l1, .slice (some ⟨g2, 0, none⟩) l2 l2, .slice (some ⟨g3, 0, none⟩) l3 l3] 33) := ⟨_, rfl⟩
  have bW : Below w.heap.size w W := by rw [hW]; exact bel1 _
  have KP : Hid (Blk W w.heap.size [.int .i64 n, .slice (some ⟨g1, 0, none⟩) l1 l1, .slice (some ⟨g2, 0, none⟩) l2 l2, .slice (some ⟨g3, 0, none⟩) l3 l3]) := hide (by rw [hW]; exact Blk.new _ _)
  have HO := hide (h.below bW)
  have HW := hide hW
  have BW := hide bW
  clear h z1 z2 z3 hW bW
  go_enter Try.func16, Try.ntmps16
  go_wp2_with fail
  rw [← unhide HW]
  clear HW
  refine (markSourceS_any base _ l1 l1 ss 1 _ (unhide HO).o1 (unhide Z1) q1 (by omega) (by omega)).mono ?_
  rintro x v1 ⟨rfl, _, r1⟩
  have k1 := (unhide KP).far r1 (fun e => by have := Option.some.inj (show some w.heap.size = some g1 from e); omega)
  have O2 := hide ((unhide HO).o2.far r1 (fun g hg e => by have h1 := Option.some.inj (show some g2 = some g from hg); have h2 := Option.some.inj (show some g = some g1 from e); omega))
  have O3 := hide ((unhide HO).o3.far r1 (fun g hg e => by have h1 := Option.some.inj (show some g3 = some g from hg); have h2 := Option.some.inj (show some g = some g1 from e); omega))
  have m2 : v1.cell? ⟨w.heap.size, 2, none⟩ = some (.slice (some ⟨g2, 0, none⟩) l2 l2) := k1.c 2 (by simp)
  have R1 : Hid (W.grownBy v1 (some g1)) := hide r1
  have K1 := hide k1
  clear r1 k1 HO KP
  go_wp2_with fail
  refine (markTieS_any base _ l2 l2 ts (1 + 3 * l1) _ (unhide O2) (unhide Z2) q2 (by omega) (by omega)).mono ?_
  rintro x v2 ⟨rfl, _, r2⟩
  have k2 := (unhide K1).far r2 (fun e => by have := Option.some.inj (show some w.heap.size = some g2 from e); omega)
  have O3 := hide ((unhide O3).far r2 (fun g hg e => by have h1 := Option.some.inj (show some g3 = some g from hg); have h2 := Option.some.inj (show some g = some g2 from e); omega))
  have m3 : v2.cell? ⟨w.heap.size, 3, none⟩ = some (.slice (some ⟨g3, 0, none⟩) l3 l3) := k2.c 3 (by simp)
  have R2 : Hid (v1.grownBy v2 (some g2)) := hide r2
  clear r2 k2 K1 m2 O2
  go_wp2_with fail
  refine (markUseS_any base _ l3 l3 us (1 + 3 * l1 + 3 * l2) _ (unhide O3) (unhide Z3) q3 (by omega) (by omega)).mono ?_
  rintro x v3 ⟨rfl, _, r3⟩
  have R3 : Hid (v2.grownBy v3 (some g3)) := hide r3
  clear r3 m3 O3
  go_wp2_with fail
  go_ret
  exact ⟨⟨_, rfl, by omega⟩, W, v1, v2, unhide BW, unhide R1, unhide R2, unhide R3⟩

end Go.Proofs.Ytfahhjgpgccdhap
