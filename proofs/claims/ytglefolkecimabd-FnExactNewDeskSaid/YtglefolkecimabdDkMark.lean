/-
  The law's marks in the lists of a Desk that a call has made: only the blocks of its lists have turned, and the marks are found again. At lists of at most 1048576.
-/
import Derived.Test.YtglefolkecimabdFlMarkA
import Derived.Test.YtglefolkecimabdDkTo
import Derived.Test.YtglefolkecimabdMarkLg
namespace Go.Proofs.Ytglefolkecimabd
open Go.RowKit

/-- The blocks of a desk's lists. -/
def dkS (g a1 a2 a3 : Option Addr) (n c0 l1 c1 l2 c2 l3 c3 : Nat) (k : Nat) : Prop := (Value.slice g n c0).ownBlock = some k ∨ flS a1 a2 a3 l1 c1 l2 c2 l3 c3 k
theorem DkOwn.in_ {w : World} {base : Nat} {g a1 a2 a3 : Option Addr} {n c0 l1 c1 l2 c2 l3 c3 : Nat} {ls : List Lg} {z1 : List Ts} {z2 : List Cr} {z3 : List Df} (h : DkOwn w base g a1 a2 a3 n c0 l1 c1 l2 c2 l3 c3 ls z1 z2 z3) {k : Nat} (hk : dkS g a1 a2 a3 n c0 l1 c1 l2 c2 l3 c3 k) : base ≤ k ∧ k < w.heap.size := by
  rcases hk with hk | hk
  · exact h.ol.lies k hk
  · exact h.fl.in_ hk
theorem dkS_top {w : World} {base : Nat} {g a1 a2 a3 : Option Addr} {n c0 l1 c1 l2 c2 l3 c3 : Nat} {ls : List Lg} {z1 : List Ts} {z2 : List Cr} {z3 : List Df} (h : DkOwn w base g a1 a2 a3 n c0 l1 c1 l2 c2 l3 c3 ls z1 z2 z3) : ¬ (dkS g a1 a2 a3 n c0 l1 c1 l2 c2 l3 c3) w.heap.size := fun e => by
  have := (h.in_ e).2
  omega
theorem DkOwn.aps {w : World} {base : Nat} {g a1 a2 a3 : Option Addr} {n c0 l1 c1 l2 c2 l3 c3 : Nat} {ls : List Lg} {z1 : List Ts} {z2 : List Cr} {z3 : List Df} {S : Nat → Prop} {w' : World} (h : DkOwn w base g a1 a2 a3 n c0 l1 c1 l2 c2 l3 c3 ls z1 z2 z3) (k : Aps S w w') (hne : ∀ i, (dkS g a1 a2 a3 n c0 l1 c1 l2 c2 l3 c3) i → ¬ S i) : DkOwn w' base g a1 a2 a3 n c0 l1 c1 l2 c2 l3 c3 ls z1 z2 z3 :=
  ⟨h.ol.aps k (fun i hi => hne i (.inl hi)), h.fl.aps k (fun i hi => hne i (.inr hi)), h.p1, h.p2, h.p3⟩
set_option maxRecDepth 20000 in
set_option maxHeartbeats 2000000 in
theorem markDesk_own (C : Cf) (P : Pl) (g : Option Addr) (n c0 : Nat) (nh nc nd : Int) (a1 a2 a3 : Option Addr) (l1 c1 l2 c2 l3 c3 : Nat) (ls : List Lg) (z1 : List Ts) (z2 : List Cr) (z3 : List Df) (base : Nat) (k : Int) (w : World) (h : DkOwn w base g a1 a2 a3 n c0 l1 c1 l2 c2 l3 c3 ls z1 z2 z3) (e0 : ls.length = n) (q0 : n ≤ 1048576) (e1 : z1.length = l1) (q1 : l1 ≤ 1048576) (e2 : z2.length = l2) (q2 : l2 ≤ 1048576) (e3 : z3.length = l3) (q3 : l3 ≤ 1048576) (hk0 : 1 ≤ k) (hk1 : k ≤ 90000000) :
    Calls Try.prog 35 #[.agg #[.int .i64 C.a0, .int .i64 C.a1, .int .i64 C.a2, .int .i64 C.a3, .int .i64 C.a4, .slice g n c0, .int .i64 P.a0, .int .i64 P.a1, .int .i64 P.a2, .int .i64 P.a3, .int .i64 P.a4, .int .i64 P.a5, .int .i64 P.a6, .int .i64 P.a7, .bool P.a8, .slice a1 l1 c1, .slice a2 l2 c2, .slice a3 l3 c3, .int .i64 nh, .int .i64 nc, .int .i64 nd], .int .i64 k] w fun x w' => x = .returned (.int .i64 (k + 4 * (n : Int) + 7 * (l1 : Int) + 3 * (l2 : Int) + 3 * (l3 : Int))) ∧ DkOwn w' base g a1 a2 a3 n c0 l1 c1 l2 c2 l3 c3 (markL mkLg 4 ls k n) (markL mkTs 7 z1 (k + 4 * (n : Int)) l1) (markL mkCr 3 z2 (k + 4 * (n : Int) + 7 * (l1 : Int)) l2) (markL mkDf 3 z3 (k + 4 * (n : Int) + 7 * (l1 : Int) + 3 * (l2 : Int)) l3) ∧ Aps (dkS g a1 a2 a3 n c0 l1 c1 l2 c2 l3 c3) w w' := by
  have NS : Hid (¬ (dkS g a1 a2 a3 n c0 l1 c1 l2 c2 l3 c3) w.heap.size) := hide (dkS_top h)
  have P1 := hide h.p1
  have P2 := hide h.p2
  have P3 := hide h.p3
  have E0 := hide e0
  have E1 := hide e1
  have E2 := hide e2
  have E3 := hide e3
  obtain ⟨W, hW⟩ : ∃ W, W = w.alloc (Obj.cells #[.int .i64 C.a0, .int .i64 C.a1, .int .i64 C.a2, .int .i64 C.a3, .int .i64 C.a4, .slice g n c0, .int .i64 P.a0, .int .i64 P.a1, .int .i64 P.a2, .int .i64 P.a3, .int .i64 P.a4, .int .i64 P.a5, .int .i64 P.a6, .int .i64 P.a7, .bool P.a8, .slice a1 l1 c1, .slice a2 l2 c2, .slice a3 l3 c3, .int .i64 nh, .int .i64 nc, .int .i64 nd] 69) := ⟨_, rfl⟩
  have bW : Below w.heap.size w W := by rw [hW]; exact bel1 _
  have KP : Hid (Blk W w.heap.size [.int .i64 C.a0, .int .i64 C.a1, .int .i64 C.a2, .int .i64 C.a3, .int .i64 C.a4, .slice g n c0, .int .i64 P.a0, .int .i64 P.a1, .int .i64 P.a2, .int .i64 P.a3, .int .i64 P.a4, .int .i64 P.a5, .int .i64 P.a6, .int .i64 P.a7, .bool P.a8, .slice a1 l1 c1, .slice a2 l2 c2, .slice a3 l3 c3, .int .i64 nh, .int .i64 nc, .int .i64 nd]) := hide (by rw [hW]; exact Blk.new _ _)
  have OL := hide (h.ol.below bW)
  have OF := hide (h.fl.below bW)
  have BO : Hid (Aps (dkS g a1 a2 a3 n c0 l1 c1 l2 c2 l3 c3) w W) := hide (Aps.of_below bW)
  have HW := hide hW
  clear h hW bW e0 e1 e2 e3
  go_enter Try.func35, Try.ntmps35
  go_wp2_with fail
  rw [← unhide HW]
  clear HW
  refine (markLegS_any base _ _ _ ls k _ (unhide OL) (unhide E0) q0 (by omega) (by omega)).mono ?_
  rintro x v1 ⟨rfl, om, gr⟩
  have OML := hide om
  have on := Aps.of_row (S := dkS g a1 a2 a3 n c0 l1 c1 l2 c2 l3 c3) gr (fun g hg => .inl hg)
  have OF := hide (show FlOwn v1 base a1 a2 a3 l1 c1 l2 c2 l3 c3 z1 z2 z3 from ⟨(unhide OF).o1.far gr (fun i hi e => (unhide P1) i e.symm hi), (unhide OF).o2.far gr (fun i hi e => (unhide P2) i e.symm hi), (unhide OF).o3.far gr (fun i hi e => (unhide P3) i e.symm hi), (unhide OF).p12, (unhide OF).p13, (unhide OF).p23⟩)
  have BO := hide ((unhide BO).trans on)
  have KP := hide ((unhide KP).aps on (unhide NS))
  clear om on gr OL
  go_wp2_with ((with_reducible show wpList _ _ _ (⟨_, .load 67 _, _, _, _, none⟩ :: _) _ _); refine at_loadPart (us := [.int .i64 C.a0, .int .i64 C.a1, .int .i64 C.a2, .int .i64 C.a3, .int .i64 C.a4, .slice g n c0, .int .i64 P.a0, .int .i64 P.a1, .int .i64 P.a2, .int .i64 P.a3, .int .i64 P.a4, .int .i64 P.a5, .int .i64 P.a6, .int .i64 P.a7, .bool P.a8, .slice a1 l1 c1, .slice a2 l2 c2, .slice a3 l3 c3, .int .i64 nh, .int .i64 nc, .int .i64 nd]) (vs := [.slice a1 l1 c1, .slice a2 l2 c2, .slice a3 l3 c3, .int .i64 nh, .int .i64 nc, .int .i64 nd]) Try.isAgg67 Try.sizeOf67 rfl (unhide KP) rfl ?_)
  refine (markFleet_aps _ _ _ base _ _ _ _ _ _ _ _ _ z1 z2 z3 (k + 4 * (n : Int)) _ (unhide OF) (unhide E1) q1 (unhide E2) q2 (unhide E3) q3 (by omega) (by omega)).mono ?_
  rintro x v2 ⟨rfl, om, on⟩
  have BO := hide ((unhide BO).trans (on.mono (fun k hk => .inr hk)))
  have OML := hide ((unhide OML).aps on (fun i hi e => by
    rcases e with e | e | e
    · exact (unhide P1) i hi e
    · exact (unhide P2) i hi e
    · exact (unhide P3) i hi e))
  have OMF := hide om
  clear om on OF
  go_wp2_with fail
  go_ret
  exact ⟨rfl, ⟨unhide OML, unhide OMF, unhide P1, unhide P2, unhide P3⟩, unhide BO⟩
set_option maxRecDepth 20000 in
set_option maxHeartbeats 2000000 in
theorem heldDesk_any (C : Cf) (P : Pl) (g : Option Addr) (n c0 : Nat) (nh nc nd : Int) (a1 a2 a3 : Option Addr) (l1 c1 l2 c2 l3 c3 : Nat) (ls : List Lg) (z1 : List Ts) (z2 : List Cr) (z3 : List Df) (base : Nat) (k : Int) (w : World) (h : DkOwn w base g a1 a2 a3 n c0 l1 c1 l2 c2 l3 c3 (markL mkLg 4 ls k n) (markL mkTs 7 z1 (k + 4 * (n : Int)) l1) (markL mkCr 3 z2 (k + 4 * (n : Int) + 7 * (l1 : Int)) l2) (markL mkDf 3 z3 (k + 4 * (n : Int) + 7 * (l1 : Int) + 3 * (l2 : Int)) l3)) (e0 : ls.length = n) (q0 : n ≤ 1048576) (e1 : z1.length = l1) (q1 : l1 ≤ 1048576) (e2 : z2.length = l2) (q2 : l2 ≤ 1048576) (e3 : z3.length = l3) (q3 : l3 ≤ 1048576) (hk0 : 1 ≤ k) (hk1 : k ≤ 90000000) :
    Calls Try.prog 36 #[.agg #[.int .i64 C.a0, .int .i64 C.a1, .int .i64 C.a2, .int .i64 C.a3, .int .i64 C.a4, .slice g n c0, .int .i64 P.a0, .int .i64 P.a1, .int .i64 P.a2, .int .i64 P.a3, .int .i64 P.a4, .int .i64 P.a5, .int .i64 P.a6, .int .i64 P.a7, .bool P.a8, .slice a1 l1 c1, .slice a2 l2 c2, .slice a3 l3 c3, .int .i64 nh, .int .i64 nc, .int .i64 nd], .int .i64 k] w fun x w' => x = .returned (.int .i64 (k + 4 * (n : Int) + 7 * (l1 : Int) + 3 * (l2 : Int) + 3 * (l3 : Int))) ∧ Below w.heap.size w w' := by
  have E0 := hide e0
  have E1 := hide e1
  have E2 := hide e2
  have E3 := hide e3
  obtain ⟨W, hW⟩ : ∃ W, W = w.alloc (Obj.cells #[.int .i64 C.a0, .int .i64 C.a1, .int .i64 C.a2, .int .i64 C.a3, .int .i64 C.a4, .slice g n c0, .int .i64 P.a0, .int .i64 P.a1, .int .i64 P.a2, .int .i64 P.a3, .int .i64 P.a4, .int .i64 P.a5, .int .i64 P.a6, .int .i64 P.a7, .bool P.a8, .slice a1 l1 c1, .slice a2 l2 c2, .slice a3 l3 c3, .int .i64 nh, .int .i64 nc, .int .i64 nd] 69) := ⟨_, rfl⟩
  have bW : Below w.heap.size w W := by rw [hW]; exact bel1 _
  have KP : Hid (Blk W w.heap.size [.int .i64 C.a0, .int .i64 C.a1, .int .i64 C.a2, .int .i64 C.a3, .int .i64 C.a4, .slice g n c0, .int .i64 P.a0, .int .i64 P.a1, .int .i64 P.a2, .int .i64 P.a3, .int .i64 P.a4, .int .i64 P.a5, .int .i64 P.a6, .int .i64 P.a7, .bool P.a8, .slice a1 l1 c1, .slice a2 l2 c2, .slice a3 l3 c3, .int .i64 nh, .int .i64 nc, .int .i64 nd]) := hide (by rw [hW]; exact Blk.new _ _)
  have HO := hide (h.below bW)
  have BW := hide bW
  have HW := hide hW
  clear h hW bW e0 e1 e2 e3
  go_enter Try.func36, Try.ntmps36
  go_wp2_with fail
  rw [← unhide HW]
  clear HW
  have n1 : ¬ (k + 4 * (n : Int) < 0) := by omega
  refine (heldLegS_any base _ _ _ ls k _ (unhide HO).ol (unhide E0) q0 (by omega) (by omega)).mono ?_
  rintro x v1 ⟨rfl, b⟩
  subst v1
  go_wp2_with ((with_reducible show wpList _ _ _ (⟨_, .load 67 _, _, _, _, none⟩ :: _) _ _); refine at_loadPart (us := [.int .i64 C.a0, .int .i64 C.a1, .int .i64 C.a2, .int .i64 C.a3, .int .i64 C.a4, .slice g n c0, .int .i64 P.a0, .int .i64 P.a1, .int .i64 P.a2, .int .i64 P.a3, .int .i64 P.a4, .int .i64 P.a5, .int .i64 P.a6, .int .i64 P.a7, .bool P.a8, .slice a1 l1 c1, .slice a2 l2 c2, .slice a3 l3 c3, .int .i64 nh, .int .i64 nc, .int .i64 nd]) (vs := [.slice a1 l1 c1, .slice a2 l2 c2, .slice a3 l3 c3, .int .i64 nh, .int .i64 nc, .int .i64 nd]) Try.isAgg67 Try.sizeOf67 rfl (unhide KP) rfl ?_)
  have n2 : ¬ ((k + 4 * (n : Int) + 7 * (l1 : Int) + 3 * (l2 : Int) + 3 * (l3 : Int)) < 0) := by omega
  refine (heldFleet_any _ _ _ base _ _ _ _ _ _ _ _ _ z1 z2 z3 (k + 4 * (n : Int)) _ (unhide HO).fl (unhide E1) q1 (unhide E2) q2 (unhide E3) q3 (by omega) (by omega)).mono ?_
  rintro x v2 ⟨rfl, b⟩
  have BW := hide ((unhide BW).trans (b.mono (unhide BW).size))
  clear b
  go_wp2_with fail
  go_ret
  exact ⟨rfl, unhide BW⟩

end Go.Proofs.Ytglefolkecimabd
