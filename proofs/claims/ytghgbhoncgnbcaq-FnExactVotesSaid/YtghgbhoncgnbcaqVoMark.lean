/-
  The law's marks in the lists of a Voter that a call has made: nothing else is written, and the marks are found again. At lists of at most 1048576.
-/
import Derived.Test.YtghgbhoncgnbcaqVoTo
import Derived.Test.YtghgbhoncgnbcaqMarkI
namespace Go.Proofs.Ytghgbhoncgnbcaq
open Go.RowKit
set_option maxRecDepth 20000 in
set_option maxHeartbeats 2000000 in
theorem markVoter_own (i0 i1 : Int) (base : Nat) (a1 a2 : Option Addr) (l1 c1 l2 c2 : Nat) (z1 : List Bool) (z2 : List Int) (k : Int) (w : World) (h : VoOwn w base a1 a2 l1 c1 l2 c2 z1 z2) (e1 : z1.length = l1) (q1 : l1 ≤ 1048576) (e2 : z2.length = l2) (q2 : l2 ≤ 1048576) (hk0 : 0 ≤ k) (hk1 : k ≤ 100000000) (b u : Nat) (hl : VoLies b u a1 a2 l1 c1 l2 c2) (hu : u ≤ w.heap.size) :
    Calls Try.prog 16 #[.agg #[.int .i64 i0, .int .i64 i1, .slice a1 l1 c1, .slice a2 l2 c2], .int .i64 k] w fun x w' => x = .returned (.int .i64 (k + (l1 : Int) + (l2 : Int))) ∧ VoOwn w' base a1 a2 l1 c1 l2 c2 (markBo z1 k l1) (markI z2 (k + (l1 : Int)) l2) ∧ Only b u w w' := by
  have LI := hide hl
  have P12 := hide h.p12
  have E1 := hide e1
  have E2 := hide e2
  obtain ⟨W, hW⟩ : ∃ W, W = w.alloc (Obj.cells #[.int .i64 i0, .int .i64 i1, .slice a1 l1 c1, .slice a2 l2 c2] 28) := ⟨_, rfl⟩
  have bW : Below w.heap.size w W := by rw [hW]; exact bel1 _
  have KP : Hid (Blk W w.heap.size [.int .i64 i0, .int .i64 i1, .slice a1 l1 c1, .slice a2 l2 c2]) := hide (by rw [hW]; exact Blk.new _ _)
  have O1 := hide (h.o1.below bW)
  have O2 := hide (h.o2.below bW)
  have BO : Hid (Only b u w W) := hide (Only.of_below bW)
  have HW := hide hW
  have HU := hide hu
  clear h hW bW hl hu e1 e2
  go_enter Try.func16, Try.ntmps16
  go_wp2_with fail
  rw [← unhide HW]
  clear HW
  refine (markBoolS_any base _ _ _ z1 (k) _ (unhide O1) (unhide E1) q1 (by omega) (by omega)).mono ?_
  rintro x v1 ⟨rfl, om, gr⟩
  have OM1 := hide om
  have on := Only.of_row (lo := b) (hi := u) gr (fun g hg => (unhide LI).1 g hg)
  have O2 := hide ((unhide O2).far gr (fun g hg e => (unhide P12) g e.symm hg))
  have BO := hide ((unhide BO).trans on)
  have KP := hide ((unhide KP).only on (.inr (unhide HU)))
  clear om on gr O1
  have m2 : v1.cell? ⟨w.heap.size, 3, none⟩ = some (.slice a2 l2 c2) := (unhide KP).c 3 (by simp)
  go_wp2_with fail
  clear m2
  refine (markIntS_own base _ _ _ z2 (k + (l1 : Int)) _ (unhide O2) (unhide E2) q2 (by omega) (by omega)).mono ?_
  rintro x v2 ⟨rfl, om, gr⟩
  have OM2 := hide om
  have on := Only.of_row (lo := b) (hi := u) gr (fun g hg => (unhide LI).2 g hg)
  have OM1 := hide ((unhide OM1).far gr (fun g hg e => (unhide P12) g hg e.symm))
  have BO := hide ((unhide BO).trans on)
  have KP := hide ((unhide KP).only on (.inr (unhide HU)))
  clear om on gr O2
  go_wp2_with fail
  go_ret
  exact ⟨rfl, ⟨unhide OM1, unhide OM2, unhide P12⟩, unhide BO⟩
set_option maxRecDepth 20000 in
set_option maxHeartbeats 2000000 in
theorem heldVoter_any (i0 i1 : Int) (base : Nat) (a1 a2 : Option Addr) (l1 c1 l2 c2 : Nat) (z1 : List Bool) (z2 : List Int) (k : Int) (w : World) (h : VoOwn w base a1 a2 l1 c1 l2 c2 (markBo z1 k l1) (markI z2 (k + (l1 : Int)) l2)) (e1 : z1.length = l1) (q1 : l1 ≤ 1048576) (e2 : z2.length = l2) (q2 : l2 ≤ 1048576) (hk0 : 0 ≤ k) (hk1 : k ≤ 100000000) :
    Calls Try.prog 17 #[.agg #[.int .i64 i0, .int .i64 i1, .slice a1 l1 c1, .slice a2 l2 c2], .int .i64 k] w fun x w' => x = .returned (.int .i64 (k + (l1 : Int) + (l2 : Int))) ∧ Below w.heap.size w w' := by
  have E1 := hide e1
  have E2 := hide e2
  obtain ⟨W, hW⟩ : ∃ W, W = w.alloc (Obj.cells #[.int .i64 i0, .int .i64 i1, .slice a1 l1 c1, .slice a2 l2 c2] 28) := ⟨_, rfl⟩
  have bW : Below w.heap.size w W := by rw [hW]; exact bel1 _
  have KP : Hid (Blk W w.heap.size [.int .i64 i0, .int .i64 i1, .slice a1 l1 c1, .slice a2 l2 c2]) := hide (by rw [hW]; exact Blk.new _ _)
  have HO := hide (h.below bW)
  have BW := hide bW
  have HW := hide hW
  clear h hW bW e1 e2
  go_enter Try.func17, Try.ntmps17
  go_wp2_with fail
  rw [← unhide HW]
  clear HW
  have n1 : ¬ (k + (l1 : Int) < 0) := by omega
  refine (heldBoolS_any base _ _ _ z1 (k) _ (unhide HO).o1 (unhide E1) q1 (by omega) (by omega)).mono ?_
  rintro x v1 ⟨rfl, hw⟩
  subst v1
  have m2 : W.cell? ⟨w.heap.size, 3, none⟩ = some (.slice a2 l2 c2) := (unhide KP).c 3 (by simp)
  go_wp2_with fail
  have n2 : ¬ (k + (l1 : Int) + (l2 : Int) < 0) := by omega
  refine (heldIntS_any base _ _ _ z2 (k + (l1 : Int)) _ (unhide HO).o2 (unhide E2) q2 (by omega) (by omega)).mono ?_
  rintro x v2 ⟨rfl, hw⟩
  subst v2
  go_wp2_with fail
  go_ret
  exact ⟨rfl, unhide BW⟩

end Go.Proofs.Ytghgbhoncgnbcaq
