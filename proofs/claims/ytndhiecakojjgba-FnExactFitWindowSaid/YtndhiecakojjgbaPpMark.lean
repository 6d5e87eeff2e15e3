/-
  The law's marks in the lists of a Plan17 that a call has made: nothing else is written, and the marks are found again. At lists of at most 1048576.
-/
import Derived.Test.YtndhiecakojjgbaPpTo
import Derived.Test.YtndhiecakojjgbaMarkWn
namespace Go.Proofs.Ytndhiecakojjgba
open Go.RowKit
set_option maxRecDepth 20000 in
set_option maxHeartbeats 2000000 in
theorem markPlan17_own (i0 i1 : Int) (base : Nat) (a1 : Option Addr) (l1 c1 : Nat) (z1 : List Wn) (k : Int) (w : World) (h : PpOwn w base a1 l1 c1 z1) (e1 : z1.length = l1) (q1 : l1 ≤ 1048576) (hk0 : 0 ≤ k) (hk1 : k ≤ 100000000) (b u : Nat) (hl : PpLies b u a1 l1 c1) (hu : u ≤ w.heap.size) :
    Calls Try.prog 9 #[.agg #[.int .i64 i0, .int .i64 i1, .slice a1 l1 c1], .int .i64 k] w fun x w' => x = .returned (.int .i64 (k + 3 * (l1 : Int))) ∧ PpOwn w' base a1 l1 c1 (markL mkWn 3 z1 k l1) ∧ Only b u w w' := by
  have LI := hide hl
  have E1 := hide e1
  obtain ⟨W, hW⟩ : ∃ W, W = w.alloc (Obj.cells #[.int .i64 i0, .int .i64 i1, .slice a1 l1 c1] 28) := ⟨_, rfl⟩
  have bW : Below w.heap.size w W := by rw [hW]; exact bel1 _
  have KP : Hid (Blk W w.heap.size [.int .i64 i0, .int .i64 i1, .slice a1 l1 c1]) := hide (by rw [hW]; exact Blk.new _ _)
  have O1 := hide (h.o1.below bW)
  have BO : Hid (Only b u w W) := hide (Only.of_below bW)
  have HW := hide hW
  have HU := hide hu
  clear h hW bW hl hu e1
  go_enter Try.func9, Try.ntmps9
  go_wp2_with fail
  rw [← unhide HW]
  clear HW
  refine (markWindowS_any base _ _ _ z1 (k) _ (unhide O1) (unhide E1) q1 (by omega) (by omega)).mono ?_
  rintro x v1 ⟨rfl, om, gr⟩
  have OM1 := hide om
  have on := Only.of_row (lo := b) (hi := u) gr (fun g hg => (unhide LI) g hg)
  have BO := hide ((unhide BO).trans on)
  have KP := hide ((unhide KP).only on (.inr (unhide HU)))
  clear om on gr O1
  go_wp2_with fail
  go_ret
  exact ⟨rfl, ⟨unhide OM1⟩, unhide BO⟩
set_option maxRecDepth 20000 in
set_option maxHeartbeats 2000000 in
theorem heldPlan17_any (i0 i1 : Int) (base : Nat) (a1 : Option Addr) (l1 c1 : Nat) (z1 : List Wn) (k : Int) (w : World) (h : PpOwn w base a1 l1 c1 (markL mkWn 3 z1 k l1)) (e1 : z1.length = l1) (q1 : l1 ≤ 1048576) (hk0 : 0 ≤ k) (hk1 : k ≤ 100000000) :
    Calls Try.prog 10 #[.agg #[.int .i64 i0, .int .i64 i1, .slice a1 l1 c1], .int .i64 k] w fun x w' => x = .returned (.int .i64 (k + 3 * (l1 : Int))) ∧ Below w.heap.size w w' := by
  have E1 := hide e1
  obtain ⟨W, hW⟩ : ∃ W, W = w.alloc (Obj.cells #[.int .i64 i0, .int .i64 i1, .slice a1 l1 c1] 28) := ⟨_, rfl⟩
  have bW : Below w.heap.size w W := by rw [hW]; exact bel1 _
  have KP : Hid (Blk W w.heap.size [.int .i64 i0, .int .i64 i1, .slice a1 l1 c1]) := hide (by rw [hW]; exact Blk.new _ _)
  have HO := hide (h.below bW)
  have BW := hide bW
  have HW := hide hW
  clear h hW bW e1
  go_enter Try.func10, Try.ntmps10
  go_wp2_with fail
  rw [← unhide HW]
  clear HW
  have n1 : ¬ (k + 3 * (l1 : Int) < 0) := by omega
  refine (heldWindowS_any base _ _ _ z1 (k) _ (unhide HO).o1 (unhide E1) q1 (by omega) (by omega)).mono ?_
  rintro x v1 ⟨rfl, hw⟩
  subst v1
  go_wp2_with fail
  go_ret
  exact ⟨rfl, unhide BW⟩

end Go.Proofs.Ytndhiecakojjgba
