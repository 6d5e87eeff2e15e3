/-
  What the program's hangar is made of and what it hands out; DoWork. The fleet's and the deed's texts can be there, its lists are no longer than memory.
-/
import Derived.Test.YticdccdkjepifaaGreatHgAll
import Derived.Test.YticdccdkjepifaaGreatFcIs
namespace Go.Proofs.YticdccdkjepifaaGreat
open Go Go.RowKit

theorem Blk.low {w w' : World} {B b : Nat} {vs : List Value} (h : Blk w B vs) (k : Below b w w') (hb : B < b) : Blk w' B vs :=
  ⟨fun i hi => (k.cell (p := ⟨B, i, none⟩) hb).trans (h.c i hi), fun i hi => (k.frozen (p := ⟨B, i, none⟩) hb).trans (h.f i hi), Nat.lt_of_lt_of_le h.lt k.size⟩
set_option maxRecDepth 20000 in
set_option maxHeartbeats 4000000 in
theorem hangarOf_any (nh nc nd : Int) (a1 a2 a3 : Option Addr) (l1 c1 l2 c2 l3 c3 : Nat) (ts : List Ts) (cs : List Cr) (ds : List Df) (w : World) (hr : FlIn w a1 a2 a3 l1 l2 l3 ts cs ds) (m1 : l1 ≤ 1048600) (m2 : l2 ≤ 1048600) (m3 : l3 ≤ 1048600) :
    Calls Tryz.prog 30 #[.agg #[.slice a1 l1 c1, .slice a2 l2 c2, .slice a3 l3 c3, .int .i64 nh, .int .i64 nc, .int .i64 nd]] w fun e w' => ∃ G g1 p1 g2 p2 g3 p3 : Nat, e = .returned (.pointer (some ⟨G, 0, none⟩)) ∧ Hg w' w.heap.size G 0 (some ⟨g1, 0, none⟩) (some ⟨g2, 0, none⟩) (some ⟨g3, 0, none⟩) p1 p2 p3 ts cs ds nh nc nd ∧ Below w.heap.size w w' := by
  obtain ⟨V0, hV0⟩ : ∃ V, V = w.alloc (Obj.cells #[.slice a1 l1 c1, .slice a2 l2 c2, .slice a3 l3 c3, .int .i64 nh, .int .i64 nc, .int .i64 nd] 37) := ⟨_, rfl⟩
  have bV : Below w.heap.size w V0 := by rw [hV0]; exact bel1 _
  have K0 : Blk V0 w.heap.size [.slice a1 l1 c1, .slice a2 l2 c2, .slice a3 l3 c3, .int .i64 nh, .int .i64 nc, .int .i64 nd] := by rw [hV0]; exact Blk.new _ _
  have q0 : V0.cell? ⟨w.heap.size, 0, none⟩ = some (.slice a1 l1 c1) := K0.c 0 (by simp)
  have q1 : V0.cell? ⟨w.heap.size, 1, none⟩ = some (.slice a2 l2 c2) := K0.c 1 (by simp)
  have q2 : V0.cell? ⟨w.heap.size, 2, none⟩ = some (.slice a3 l3 c3) := K0.c 2 (by simp)
  have q3 : V0.cell? ⟨w.heap.size, 3, none⟩ = some (.int .i64 nh) := K0.c 3 (by simp)
  have q4 : V0.cell? ⟨w.heap.size, 4, none⟩ = some (.int .i64 nc) := K0.c 4 (by simp)
  have q5 : V0.cell? ⟨w.heap.size, 5, none⟩ = some (.int .i64 nd) := K0.c 5 (by simp)
  have CC := hide (copied19_any nh nc nd a1 a2 a3 l1 c1 l2 c2 l3 c3 ts cs ds V0 (hr.below bV) m1 m2 m3)
  have BV := hide bV
  have HW := hide hV0
  clear hV0 bV hr K0
  go_enter Tryz.func30, Tryz.ntmps30
  go_upto_region 1 with fail
  rw [← unhide HW]
  clear HW
  go_wp2_with fail
  refine (unhide CC).mono ?_
  rintro e w1 ⟨g1, p1, g2, p2, g3, p3, rfl, ho, b1⟩
  have HO := hide ho
  have B1 := hide ((unhide BV).trans (b1.mono (unhide BV).size))
  clear ho b1 CC q0 q1 q2 q3 q4 q5
  go_wp2_with fail
  go_ret
  have hs := (unhide B1).size
  refine ⟨w1.heap.size, g1, p1, g2, p2, g3, p3, rfl, ⟨Blk.new [.int .i32 0, .int .u32 0, .slice (some ⟨g1, 0, none⟩) ts.length p1, .slice (some ⟨g2, 0, none⟩) cs.length p2, .slice (some ⟨g3, 0, none⟩) ds.length p3, .int .i64 nh, .int .i64 nc, .int .i64 nd] _, ((unhide HO).below (bel1 _)).mono (unhide BV).size, hs, ?_, ?_, ?_, by simp⟩, (unhide B1).alloc hs _⟩
  · intro e; have := ((unhide HO).o1.lies _ e).2; omega
  · intro e; have := ((unhide HO).o2.lies _ e).2; omega
  · intro e; have := ((unhide HO).o3.lies _ e).2; omega
set_option maxRecDepth 20000 in
set_option maxHeartbeats 4000000 in
theorem lists_aps (base G : Nat) (a1 a2 a3 : Option Addr) (c1 c2 c3 : Nat) (ts : List Ts) (cs : List Cr) (ds : List Df) (nh nc nd : Int) (w : World) (h : Hg w base G 0 a1 a2 a3 c1 c2 c3 ts cs ds nh nc nd) (m1 : ts.length ≤ 1048600) (m2 : cs.length ≤ 1048600) (m3 : ds.length ≤ 1048600) :
    Calls Tryz.prog 32 #[.pointer (some ⟨G, 0, none⟩)] w fun e w' => ∃ g1 p1 g2 p2 g3 p3 : Nat, e = .returned (.agg #[.slice (some ⟨g1, 0, none⟩) ts.length p1, .slice (some ⟨g2, 0, none⟩) cs.length p2, .slice (some ⟨g3, 0, none⟩) ds.length p3, .int .i64 nh, .int .i64 nc, .int .i64 nd]) ∧ FlOwn w' w.heap.size (some ⟨g1, 0, none⟩) (some ⟨g2, 0, none⟩) (some ⟨g3, 0, none⟩) ts.length p1 cs.length p2 ds.length p3 ts cs ds ∧ Aps (hz G a1 a2 a3) w w' := by
  have hsz := h.size
  have hG := h.blk.lt
  have hne : w.heap.size ≠ G := Nat.ne_of_gt hG
  have z1 := fun g hg => (h.own.o1.lies g hg).2
  have z2 := fun g hg => (h.own.o2.lies g hg).2
  have z3 := fun g hg => (h.own.o3.lies g hg).2
  obtain ⟨V0, hV0⟩ : ∃ V, V = w.alloc (Obj.cells #[.slice none 0 0, .slice none 0 0, .slice none 0 0, .int .i64 0, .int .i64 0, .int .i64 0] 37) := ⟨_, rfl⟩
  have bV : Below w.heap.size w V0 := by rw [hV0]; exact bel1 _
  have K0 : Hid (Blk V0 w.heap.size [.slice none 0 0, .slice none 0 0, .slice none 0 0, .int .i64 0, .int .i64 0, .int .i64 0]) := hide (by rw [hV0]; exact Blk.new _ _)
  have B0 : Hid (Aps (hz G a1 a2 a3) w V0) := hide (Aps.of_below bV)
  have CL := hide (lockHg base G a1 a2 a3 c1 c2 c3 ts cs ds nh nc nd V0 (h.below bV))
  have HW := hide hV0
  clear hV0 bV h
  go_enter_defers Tryz.func32, Tryz.ntmps32
  go_upto_region 1 with fail
  rw [← unhide HW]
  clear HW
  go_wp2_with fail
  refine (unhide CL).mono ?_
  rintro e w1 ⟨rfl, h1, b1, hs1, ho⟩
  have H1 := hide h1
  have K1 := hide (ho _ _ hne (unhide K0))
  have B1 := hide ((unhide B0).trans b1)
  have hR := (unhide K1).lt
  have CC := hide (copied19_any nh nc nd a1 a2 a3 ts.length c1 cs.length c2 ds.length c3 ts cs ds w1 (fl_in h1) m1 m2 m3)
  have k2 : w1.cell? ⟨G, 2, none⟩ = some (.slice a1 ts.length c1) := (unhide H1).blk.c 2 (by simp)
  have k3 : w1.cell? ⟨G, 3, none⟩ = some (.slice a2 cs.length c2) := (unhide H1).blk.c 3 (by simp)
  have k4 : w1.cell? ⟨G, 4, none⟩ = some (.slice a3 ds.length c3) := (unhide H1).blk.c 4 (by simp)
  have k5 : w1.cell? ⟨G, 5, none⟩ = some (.int .i64 nh) := (unhide H1).blk.c 5 (by simp)
  have k6 : w1.cell? ⟨G, 6, none⟩ = some (.int .i64 nc) := (unhide H1).blk.c 6 (by simp)
  have k7 : w1.cell? ⟨G, 7, none⟩ = some (.int .i64 nd) := (unhide H1).blk.c 7 (by simp)
  clear h1 b1 hs1 ho CL K0 B0
  go_wp2_with fail
  refine (unhide CC).mono ?_
  rintro e w2 ⟨g1, p1, g2, p2, g3, p3, rfl, ho, b2⟩
  have H2 := hide ((unhide H1).below b2)
  have K2 := hide ((unhide K1).below b2)
  have B2 := hide ((unhide B1).trans (Aps.of_below b2))
  have HO := hide ho
  have hb := ho.lies
  have hW := hide b2.size
  clear b2 H1 K1 B1 CC ho k2 k3 k4 k5 k6 k7
  go_wp2_with (((with_reducible show wpList _ _ _ (⟨none, .store 37 _ _, _, _, _, none⟩ :: _) _ _); refine at_storeAgg (us := [.slice none 0 0, .slice none 0 0, .slice none 0 0, .int .i64 0, .int .i64 0, .int .i64 0]) (vs := [.slice (some ⟨g1, 0, none⟩) ts.length p1, .slice (some ⟨g2, 0, none⟩) cs.length p2, .slice (some ⟨g3, 0, none⟩) ds.length p3, .int .i64 nh, .int .i64 nc, .int .i64 nd]) Tryz.sizeOf37 rfl rfl (unhide K2) rfl (fun v hv => by simp at hv; rcases hv with rfl | rfl | rfl | rfl | rfl | rfl <;> rfl) ?_; intro w3 k9 g9; have K3 := hide k9; have G3 := hide g9; clear k9 g9))
  have hp1 := ((unhide HO).o1.lies g1 rfl).1
  have hp2 := ((unhide HO).o2.lies g2 rfl).1
  have hp3 := ((unhide HO).o3.lies g3 rfl).1
  have b3 := (unhide H2).blk.apart (unhide G3) (fun e => hne (Option.some.inj e).symm)
  have n1 := (unhide HO).o1.far (unhide G3) (fun q hq e => by have e1 : g1 = q := Option.some.inj hq; have e2 : q = w.heap.size := Option.some.inj e; omega)
  have n2 := (unhide HO).o2.far (unhide G3) (fun q hq e => by have e1 : g2 = q := Option.some.inj hq; have e2 : q = w.heap.size := Option.some.inj e; omega)
  have n3 := (unhide HO).o3.far (unhide G3) (fun q hq e => by have e1 : g3 = q := Option.some.inj hq; have e2 : q = w.heap.size := Option.some.inj e; omega)
  have B3 := hide ((unhide B2).growN (unhide G3) (fun q hq => .inr (by have e : w.heap.size = q := Option.some.inj hq; omega)))
  refine leaves_cons (f := 54) (args := #[.pointer (some ⟨G, 0, none⟩)]) (by simp) (by simp [go_sem]) ?_
  refine (muUnlock ⟨G, 0, none⟩ _ w3 (b3.c 0 (by simp)) (b3.f 0 (by simp))).mono ?_
  rintro e u' w4 ⟨rfl, rfl, rfl⟩
  refine ⟨_, results_cell (vs := [.slice (some ⟨g1, 0, none⟩) ts.length p1, .slice (some ⟨g2, 0, none⟩) cs.length p2, .slice (some ⟨g3, 0, none⟩) ds.length p3, .int .i64 nh, .int .i64 nc, .int .i64 nd]) rfl Tryz.isAgg37 Tryz.sizeOf37 rfl ((unhide K3).other (by simpa using Ne.symm hne) _), g1, p1, g2, p2, g3, p3, rfl, ?_, (unhide B3).setS (p := ⟨G, 0, none⟩) hz_G _⟩
  exact ⟨(n1.set_other _ (by intro e; have e1 : g1 = G := Option.some.inj e; omega)).mono (by omega), (n2.set_other _ (by intro e; have e1 : g2 = G := Option.some.inj e; omega)).mono (by omega), (n3.set_other _ (by intro e; have e1 : g3 = G := Option.some.inj e; omega)).mono (by omega), (unhide HO).p12, (unhide HO).p13, (unhide HO).p23⟩
theorem lists_any (base G : Nat) (a1 a2 a3 : Option Addr) (c1 c2 c3 : Nat) (ts : List Ts) (cs : List Cr) (ds : List Df) (nh nc nd : Int) (w : World) (h : Hg w base G 0 a1 a2 a3 c1 c2 c3 ts cs ds nh nc nd) (m1 : ts.length ≤ 1048600) (m2 : cs.length ≤ 1048600) (m3 : ds.length ≤ 1048600) :
    Calls Tryz.prog 32 #[.pointer (some ⟨G, 0, none⟩)] w fun e w' => ∃ g1 p1 g2 p2 g3 p3 : Nat, e = .returned (.agg #[.slice (some ⟨g1, 0, none⟩) ts.length p1, .slice (some ⟨g2, 0, none⟩) cs.length p2, .slice (some ⟨g3, 0, none⟩) ds.length p3, .int .i64 nh, .int .i64 nc, .int .i64 nd]) ∧ FlOwn w' w.heap.size (some ⟨g1, 0, none⟩) (some ⟨g2, 0, none⟩) (some ⟨g3, 0, none⟩) ts.length p1 cs.length p2 ds.length p3 ts cs ds ∧ Below base w w' := by
  refine (lists_aps base G a1 a2 a3 c1 c2 c3 ts cs ds nh nc nd w h m1 m2 m3).mono ?_
  rintro e w' ⟨g1, p1, g2, p2, g3, p3, h1, h2, h3⟩
  exact ⟨g1, p1, g2, p2, g3, p3, h1, h2, h3.below h.hz_low h.size⟩
theorem dw_len {f : Fl} {d : De} (m1 : f.ts.length ≤ 1048600) (m2 : f.cs.length ≤ 1048600) (m3 : f.ds.length ≤ 1048600) : (dwF f d).ts.length ≤ 1048600 ∧ (dwF f d).cs.length ≤ 1048600 ∧ (dwF f d).ds.length ≤ 1048600 := by
  rw [dwF]
  split
  · exact ⟨m1, m2, m3⟩
  split
  · exact ⟨m1, m2, m3⟩
  split
  · exact ⟨by simpa using m1, m2, m3⟩
  split
  · rename_i h0 _ _ h3
    have hp := plR_le d.i f.ds
    have e : dwB f d = true := by simpa using h0
    simp [dwB, h3, fndB] at e
    refine ⟨m1, m2, ?_⟩
    simp
    omega
  split
  · refine ⟨m1, m2, ?_⟩
    simp
    omega
  · exact ⟨m1, m2, m3⟩

end Go.Proofs.YticdccdkjepifaaGreat
