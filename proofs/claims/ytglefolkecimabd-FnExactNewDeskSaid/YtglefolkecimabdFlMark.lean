/-
  The law's marks in the lists of a Fleet that a call has made: nothing else is written, and the marks are found again. At lists of at most 1048576.
-/
import Derived.Test.YtglefolkecimabdFlTo
import Derived.Test.YtglefolkecimabdMkTs
import Derived.Test.YtglefolkecimabdMkCr
import Derived.Test.YtglefolkecimabdMkDf
namespace Go.Proofs.Ytglefolkecimabd
open Go.RowKit
set_option maxRecDepth 20000 in
set_option maxHeartbeats 2000000 in
theorem markFleet_own (nh nc nd : Int) (base : Nat) (a1 a2 a3 : Option Addr) (l1 c1 l2 c2 l3 c3 : Nat) (z1 : List Ts) (z2 : List Cr) (z3 : List Df) (k : Int) (w : World) (h : FlOwn w base a1 a2 a3 l1 c1 l2 c2 l3 c3 z1 z2 z3) (e1 : z1.length = l1) (q1 : l1 ≤ 1048576) (e2 : z2.length = l2) (q2 : l2 ≤ 1048576) (e3 : z3.length = l3) (q3 : l3 ≤ 1048576) (hk0 : 1 ≤ k) (hk1 : k ≤ 100000000) (b u : Nat) (hl : FlLies b u a1 a2 a3 l1 c1 l2 c2 l3 c3) (hu : u ≤ w.heap.size) :
    Calls Try.prog 66 #[.agg #[.slice a1 l1 c1, .slice a2 l2 c2, .slice a3 l3 c3, .int .i64 nh, .int .i64 nc, .int .i64 nd], .int .i64 k] w fun x w' => x = .returned (.int .i64 (k + 7 * (l1 : Int) + 3 * (l2 : Int) + 3 * (l3 : Int))) ∧ FlOwn w' base a1 a2 a3 l1 c1 l2 c2 l3 c3 (markL mkTs 7 z1 k l1) (markL mkCr 3 z2 (k + 7 * (l1 : Int)) l2) (markL mkDf 3 z3 (k + 7 * (l1 : Int) + 3 * (l2 : Int)) l3) ∧ Only b u w w' := by
  have LI := hide hl
  have P12 := hide h.p12
  have P13 := hide h.p13
  have P23 := hide h.p23
  have E1 := hide e1
  have E2 := hide e2
  have E3 := hide e3
  obtain ⟨W, hW⟩ : ∃ W, W = w.alloc (Obj.cells #[.slice a1 l1 c1, .slice a2 l2 c2, .slice a3 l3 c3, .int .i64 nh, .int .i64 nc, .int .i64 nd] 67) := ⟨_, rfl⟩
  have bW : Below w.heap.size w W := by rw [hW]; exact bel1 _
  have KP : Hid (Blk W w.heap.size [.slice a1 l1 c1, .slice a2 l2 c2, .slice a3 l3 c3, .int .i64 nh, .int .i64 nc, .int .i64 nd]) := hide (by rw [hW]; exact Blk.new _ _)
  have O1 := hide (h.o1.below bW)
  have O2 := hide (h.o2.below bW)
  have O3 := hide (h.o3.below bW)
  have BO : Hid (Only b u w W) := hide (Only.of_below bW)
  have HW := hide hW
  have HU := hide hu
  clear h hW bW hl hu e1 e2 e3
  go_enter Try.func66, Try.ntmps66
  go_wp2_with fail
  rw [← unhide HW]
  clear HW
  refine (markTaskS_any base _ _ _ z1 (k) _ (unhide O1) (unhide E1) q1 (by omega) (by omega)).mono ?_
  rintro x v1 ⟨rfl, om, gr⟩
  have OM1 := hide om
  have on := Only.of_row (lo := b) (hi := u) gr (fun g hg => (unhide LI).1 g hg)
  have O2 := hide ((unhide O2).far gr (fun g hg e => (unhide P12) g e.symm hg))
  have O3 := hide ((unhide O3).far gr (fun g hg e => (unhide P13) g e.symm hg))
  have BO := hide ((unhide BO).trans on)
  have KP := hide ((unhide KP).only on (.inr (unhide HU)))
  clear om on gr O1
  have m2 : v1.cell? ⟨w.heap.size, 1, none⟩ = some (.slice a2 l2 c2) := (unhide KP).c 1 (by simp)
  go_wp2_with fail
  clear m2
  refine (markCarryS_any base _ _ _ z2 (k + 7 * (l1 : Int)) _ (unhide O2) (unhide E2) q2 (by omega) (by omega)).mono ?_
  rintro x v2 ⟨rfl, om, gr⟩
  have OM2 := hide om
  have on := Only.of_row (lo := b) (hi := u) gr (fun g hg => (unhide LI).2.1 g hg)
  have OM1 := hide ((unhide OM1).far gr (fun g hg e => (unhide P12) g hg e.symm))
  have O3 := hide ((unhide O3).far gr (fun g hg e => (unhide P23) g e.symm hg))
  have BO := hide ((unhide BO).trans on)
  have KP := hide ((unhide KP).only on (.inr (unhide HU)))
  clear om on gr O2
  have m3 : v2.cell? ⟨w.heap.size, 2, none⟩ = some (.slice a3 l3 c3) := (unhide KP).c 2 (by simp)
  go_wp2_with fail
  clear m3
  refine (markDefectS_any base _ _ _ z3 (k + 7 * (l1 : Int) + 3 * (l2 : Int)) _ (unhide O3) (unhide E3) q3 (by omega) (by omega)).mono ?_
  rintro x v3 ⟨rfl, om, gr⟩
  have OM3 := hide om
  have on := Only.of_row (lo := b) (hi := u) gr (fun g hg => (unhide LI).2.2 g hg)
  have OM1 := hide ((unhide OM1).far gr (fun g hg e => (unhide P13) g hg e.symm))
  have OM2 := hide ((unhide OM2).far gr (fun g hg e => (unhide P23) g hg e.symm))
  have BO := hide ((unhide BO).trans on)
  have KP := hide ((unhide KP).only on (.inr (unhide HU)))
  clear om on gr O3
  go_wp2_with fail
  go_ret
  exact ⟨rfl, ⟨unhide OM1, unhide OM2, unhide OM3, unhide P12, unhide P13, unhide P23⟩, unhide BO⟩
set_option maxRecDepth 20000 in
set_option maxHeartbeats 2000000 in
theorem heldFleet_any (nh nc nd : Int) (base : Nat) (a1 a2 a3 : Option Addr) (l1 c1 l2 c2 l3 c3 : Nat) (z1 : List Ts) (z2 : List Cr) (z3 : List Df) (k : Int) (w : World) (h : FlOwn w base a1 a2 a3 l1 c1 l2 c2 l3 c3 (markL mkTs 7 z1 k l1) (markL mkCr 3 z2 (k + 7 * (l1 : Int)) l2) (markL mkDf 3 z3 (k + 7 * (l1 : Int) + 3 * (l2 : Int)) l3)) (e1 : z1.length = l1) (q1 : l1 ≤ 1048576) (e2 : z2.length = l2) (q2 : l2 ≤ 1048576) (e3 : z3.length = l3) (q3 : l3 ≤ 1048576) (hk0 : 1 ≤ k) (hk1 : k ≤ 100000000) :
    Calls Try.prog 68 #[.agg #[.slice a1 l1 c1, .slice a2 l2 c2, .slice a3 l3 c3, .int .i64 nh, .int .i64 nc, .int .i64 nd], .int .i64 k] w fun x w' => x = .returned (.int .i64 (k + 7 * (l1 : Int) + 3 * (l2 : Int) + 3 * (l3 : Int))) ∧ Below w.heap.size w w' := by
  have E1 := hide e1
  have E2 := hide e2
  have E3 := hide e3
  obtain ⟨W, hW⟩ : ∃ W, W = w.alloc (Obj.cells #[.slice a1 l1 c1, .slice a2 l2 c2, .slice a3 l3 c3, .int .i64 nh, .int .i64 nc, .int .i64 nd] 67) := ⟨_, rfl⟩
  have bW : Below w.heap.size w W := by rw [hW]; exact bel1 _
  have KP : Hid (Blk W w.heap.size [.slice a1 l1 c1, .slice a2 l2 c2, .slice a3 l3 c3, .int .i64 nh, .int .i64 nc, .int .i64 nd]) := hide (by rw [hW]; exact Blk.new _ _)
  have HO := hide (h.below bW)
  have BW := hide bW
  have HW := hide hW
  clear h hW bW e1 e2 e3
  go_enter Try.func68, Try.ntmps68
  go_wp2_with fail
  rw [← unhide HW]
  clear HW
  have n1 : ¬ (k + 7 * (l1 : Int) < 0) := by omega
  refine (heldTaskS_any base _ _ _ z1 (k) _ (unhide HO).o1 (unhide E1) q1 (by omega) (by omega)).mono ?_
  rintro x v1 ⟨rfl, b⟩
  have HO := hide ((unhide HO).below b)
  have KP := hide ((unhide KP).below b)
  have BW := hide ((unhide BW).trans (b.mono (unhide BW).size))
  clear b
  have m2 : v1.cell? ⟨w.heap.size, 1, none⟩ = some (.slice a2 l2 c2) := (unhide KP).c 1 (by simp)
  go_wp2_with fail
  clear m2
  have n2 : ¬ (k + 7 * (l1 : Int) + 3 * (l2 : Int) < 0) := by omega
  refine (heldCarryS_any base _ _ _ z2 (k + 7 * (l1 : Int)) _ (unhide HO).o2 (unhide E2) q2 (by omega) (by omega)).mono ?_
  rintro x v2 ⟨rfl, b⟩
  have HO := hide ((unhide HO).below b)
  have KP := hide ((unhide KP).below b)
  have BW := hide ((unhide BW).trans (b.mono (unhide BW).size))
  clear b
  have m3 : v2.cell? ⟨w.heap.size, 2, none⟩ = some (.slice a3 l3 c3) := (unhide KP).c 2 (by simp)
  go_wp2_with fail
  clear m3
  have n3 : ¬ (k + 7 * (l1 : Int) + 3 * (l2 : Int) + 3 * (l3 : Int) < 0) := by omega
  refine (heldDefectS_any base _ _ _ z3 (k + 7 * (l1 : Int) + 3 * (l2 : Int)) _ (unhide HO).o3 (unhide E3) q3 (by omega) (by omega)).mono ?_
  rintro x v3 ⟨rfl, b⟩
  have HO := hide ((unhide HO).below b)
  have KP := hide ((unhide KP).below b)
  have BW := hide ((unhide BW).trans (b.mono (unhide BW).size))
  clear b
  go_wp2_with fail
  go_ret
  exact ⟨rfl, unhide BW⟩

end Go.Proofs.Ytglefolkecimabd
