/-
  The law's size, copy and comparison of a Fleet. The copy at lists of at most 1048576; nothing that was there is written.
  The law's marks in a list of Tasks that a call has made: a text and numbers get the next numbers, and nothing else is written; the marks are found again. At lists of at most 1048576.
-/
import Derived.Test.YticdccdkjepifaaGreatMFlIn
import Derived.Test.YticdccdkjepifaaGreatMOnly
import Derived.Test.YticdccdkjepifaaGreatTxTs
import Derived.Test.YticdccdkjepifaaGreatMTxCr
import Derived.Deep.RegionHeld3

namespace Go.Proofs.YticdccdkjepifaaGreat
open Go.RowKit
set_option maxRecDepth 20000 in
set_option maxHeartbeats 2000000 in
theorem szFleet_any (nh nc nd : Int) (a1 a2 a3 : Option Addr) (l1 c1 l2 c2 l3 c3 : Nat) (z1 : List Ts) (z2 : List Cr) (z3 : List Df) (left : Int) (w : World) (hr : FlIn w a1 a2 a3 l1 l2 l3 z1 z2 z3) (f1 : ∀ i, fitT (elAt z1 i).nm) (f2 : ∀ i, fitT (elAt z2 i).n) (f3 : ∀ i, fitT (elAt z3 i).n) (hl0 : 0 ≤ left) (hl1 : left ≤ 1048576) :
    Calls Tryz.prog 4 #[.agg #[.slice a1 l1 c1, .slice a2 l2 c2, .slice a3 l3 c3, .int .i64 nh, .int .i64 nc, .int .i64 nd], .int .i64 left] w fun x w' => (∃ r : Int, x = .returned (.int .i64 r) ∧ (r < 0 ∨ (0 ≤ r ∧ r ≤ left ∧ l1 ≤ 1048576 ∧ l2 ≤ 1048576 ∧ l3 ≤ 1048576))) ∧ Below w.heap.size w w' := by
  obtain ⟨W, hW⟩ : ∃ W, W = w.alloc (Obj.cells #[.slice a1 l1 c1, .slice a2 l2 c2, .slice a3 l3 c3, .int .i64 nh, .int .i64 nc, .int .i64 nd] 28) := ⟨_, rfl⟩
  have KP : Hid (Blk W w.heap.size [.slice a1 l1 c1, .slice a2 l2 c2, .slice a3 l3 c3, .int .i64 nh, .int .i64 nc, .int .i64 nd]) := hide (by rw [hW]; exact Blk.new _ _)
  have HB : Hid (Below w.heap.size w W) := hide (by rw [hW]; exact bel1 _)
  have HR := hide hr
  have HW := hide hW
  have F1 := hide f1
  have F2 := hide f2
  have F3 := hide f3
  clear hr hW f1 f2 f3
  go_enter Tryz.func4, Tryz.ntmps4
  go_wp2_with fail
  rw [← unhide HW]
  clear HW
  refine (szTaskS_any _ _ _ z1 left _ ((unhide HR).r1.below (unhide HB)) (unhide F1) (by omega) (by omega)).mono ?_
  rintro x x1 ⟨⟨r1, rfl, hl⟩, b⟩
  have HB := hide ((unhide HB).trans (b.mono (unhide HB).size))
  have KP := hide ((unhide KP).below b)
  clear b
  rcases hl with hl | ⟨hl, hle1, h1⟩
  · go_wp2_with fail
    go_ret
    exact ⟨⟨-1, rfl, .inl (by omega)⟩, unhide HB⟩
  have nr1 : ¬ r1 < 0 := by omega
  have m2 : x1.cell? ⟨w.heap.size, 1, none⟩ = some (.slice a2 l2 c2) := (unhide KP).c 1 (by simp)
  go_wp2_with fail
  clear m2
  refine (szCarryS_any _ _ _ z2 r1 _ ((unhide HR).r2.below (unhide HB)) (unhide F2) (by omega) (by omega)).mono ?_
  rintro x x2 ⟨⟨r2, rfl, hl⟩, b⟩
  have HB := hide ((unhide HB).trans (b.mono (unhide HB).size))
  have KP := hide ((unhide KP).below b)
  clear b
  rcases hl with hl | ⟨hl, hle2, h2⟩
  · go_wp2_with fail
    go_ret
    exact ⟨⟨-1, rfl, .inl (by omega)⟩, unhide HB⟩
  have nr2 : ¬ r2 < 0 := by omega
  have m3 : x2.cell? ⟨w.heap.size, 2, none⟩ = some (.slice a3 l3 c3) := (unhide KP).c 2 (by simp)
  go_wp2_with fail
  clear m3
  refine (szDefectS_any _ _ _ z3 r2 _ ((unhide HR).r3.below (unhide HB)) (unhide F3) (by omega) (by omega)).mono ?_
  rintro x x3 ⟨⟨r3, rfl, hl⟩, b⟩
  have HB := hide ((unhide HB).trans (b.mono (unhide HB).size))
  have KP := hide ((unhide KP).below b)
  clear b
  rcases hl with hl | ⟨hl, hle3, h3⟩
  · go_wp2_with fail
    go_ret
    exact ⟨⟨-1, rfl, .inl (by omega)⟩, unhide HB⟩
  have nr3 : ¬ r3 < 0 := by omega
  go_wp2_with fail
  go_ret
  exact ⟨⟨_, rfl, .inr ⟨by omega, by omega, by omega, by omega, by omega⟩⟩, unhide HB⟩
set_option maxRecDepth 20000 in
set_option maxHeartbeats 4000000 in
theorem toFleet_own (nh nc nd : Int) (a1 a2 a3 : Option Addr) (l1 c1 l2 c2 l3 c3 : Nat) (z1 : List Ts) (z2 : List Cr) (z3 : List Df) (w : World) (hr : FlIn w a1 a2 a3 l1 l2 l3 z1 z2 z3) (h1 : l1 ≤ 1048576) (h2 : l2 ≤ 1048576) (h3 : l3 ≤ 1048576) :
    Calls Tryz.prog 7 #[.agg #[.slice a1 l1 c1, .slice a2 l2 c2, .slice a3 l3 c3, .int .i64 nh, .int .i64 nc, .int .i64 nd]] w fun x w' => (∃ g1 g2 g3, x = .returned (.agg #[.slice (some ⟨g1, 0, none⟩) l1 l1, .slice (some ⟨g2, 0, none⟩) l2 l2, .slice (some ⟨g3, 0, none⟩) l3 l3, .int .i64 nh, .int .i64 nc, .int .i64 nd]) ∧ FlOwn w' w.heap.size (some ⟨g1, 0, none⟩) (some ⟨g2, 0, none⟩) (some ⟨g3, 0, none⟩) l1 l1 l2 l2 l3 l3 z1 z2 z3) ∧ Below w.heap.size w w' := by
  obtain ⟨W, hW⟩ : ∃ W, W = ((w.alloc (Obj.cells #[.slice a1 l1 c1, .slice a2 l2 c2, .slice a3 l3 c3, .int .i64 nh, .int .i64 nc, .int .i64 nd] 28)).alloc (Obj.cells #[.slice none 0 0, .slice none 0 0, .slice none 0 0, .int .i64 0, .int .i64 0, .int .i64 0] 37)).alloc (Obj.cells #[.slice none 0 0, .slice none 0 0, .slice none 0 0, .int .i64 0, .int .i64 0, .int .i64 0] 37) := ⟨_, rfl⟩
  have KP : Hid (Blk W w.heap.size [.slice a1 l1 c1, .slice a2 l2 c2, .slice a3 l3 c3, .int .i64 nh, .int .i64 nc, .int .i64 nd]) := hide (by
    rw [hW]; exact ((Blk.new (w := w) [.slice a1 l1 c1, .slice a2 l2 c2, .slice a3 l3 c3, .int .i64 nh, .int .i64 nc, .int .i64 nd] 28).alloc _).alloc _)
  have KR : Hid (Blk W (w.heap.size + 1) [.slice none 0 0, .slice none 0 0, .slice none 0 0, .int .i64 0, .int .i64 0, .int .i64 0]) := hide (by
    rw [hW]
    have := (Blk.new (w := w.alloc (Obj.cells #[.slice a1 l1 c1, .slice a2 l2 c2, .slice a3 l3 c3, .int .i64 nh, .int .i64 nc, .int .i64 nd] 28)) [.slice none 0 0, .slice none 0 0, .slice none 0 0, .int .i64 0, .int .i64 0, .int .i64 0] 37).alloc (Obj.cells #[.slice none 0 0, .slice none 0 0, .slice none 0 0, .int .i64 0, .int .i64 0, .int .i64 0] 37)
    simpa using this)
  have KO : Hid (Blk W (w.heap.size + 1 + 1) [.slice none 0 0, .slice none 0 0, .slice none 0 0, .int .i64 0, .int .i64 0, .int .i64 0]) := hide (by
    rw [hW]
    have := Blk.new (w := (w.alloc (Obj.cells #[.slice a1 l1 c1, .slice a2 l2 c2, .slice a3 l3 c3, .int .i64 nh, .int .i64 nc, .int .i64 nd] 28)).alloc (Obj.cells #[.slice none 0 0, .slice none 0 0, .slice none 0 0, .int .i64 0, .int .i64 0, .int .i64 0] 37)) [.slice none 0 0, .slice none 0 0, .slice none 0 0, .int .i64 0, .int .i64 0, .int .i64 0] 37
    simpa using this)
  have HB : Hid (Below w.heap.size w W) := hide (by rw [hW]; exact bel3 _ _ _)
  have hsz : w.heap.size + 1 + 1 + 1 ≤ W.heap.size := by rw [hW]; simp
  have HI := hide (hr.below (unhide HB))
  have HR0 := hide hr
  have HW := hide hW
  clear hr hW
  go_enter Tryz.func7, Tryz.ntmps7
  go_wp2_with fail
  rw [← unhide HW]
  clear HW
  obtain ⟨G1, hG1⟩ : ∃ G, W.heap.size = G := ⟨_, rfl⟩
  refine (toTaskS_own a1 l1 c1 z1 W (unhide HI).r1 h1).mono ?_
  rintro x v1 ⟨rfl, ow, bw⟩
  rw [hG1] at ow ⊢
  have HB := hide ((unhide HB).trans (bw.mono (unhide HB).size))
  have KP := hide ((unhide KP).below bw)
  have KR := hide ((unhide KR).below bw)
  have KO := hide ((unhide KO).below bw)
  have sz1 : G1 < v1.heap.size := ((ow.lies G1 rfl).2)
  have O1 := hide ow
  have hsz : w.heap.size + 1 + 1 + 1 ≤ G1 := by omega
  clear ow bw HI
  obtain ⟨V1, hV1⟩ : ∃ V, V = v1.setCell ⟨w.heap.size + 1 + 1, 0, none⟩ (.slice (some ⟨G1, 0, none⟩) l1 l1) := ⟨_, rfl⟩
  have y1 : v1.cell? ⟨w.heap.size + 1 + 1, 0, none⟩ = some (.slice none 0 0) := (unhide KO).c 0 (by simp)
  have f1 : v1.frozen? ⟨w.heap.size + 1 + 1, 0, none⟩ = false := (unhide KO).f 0 (by simp)
  have KO := hide ((unhide KO).set 0 (by simp) (.slice (some ⟨G1, 0, none⟩) l1 l1))
  have KP := hide ((unhide KP).other (p := ⟨w.heap.size + 1 + 1, 0, none⟩) (by simp; omega) (.slice (some ⟨G1, 0, none⟩) l1 l1))
  have KR := hide ((unhide KR).other (p := ⟨w.heap.size + 1 + 1, 0, none⟩) (by simp) (.slice (some ⟨G1, 0, none⟩) l1 l1))
  have O1 := hide ((unhide O1).set_other (S := w.heap.size + 1 + 1) (o := 0) (.slice (some ⟨G1, 0, none⟩) l1 l1) (by simp only [Value.ownBlock, ne_eq, Option.some.injEq]; omega))
  have HB := hide ((unhide HB).setCell (p := ⟨w.heap.size + 1 + 1, 0, none⟩) (by simp; omega) (.slice (some ⟨G1, 0, none⟩) l1 l1))
  have szv1 : (v1.setCell ⟨w.heap.size + 1 + 1, 0, none⟩ (.slice (some ⟨G1, 0, none⟩) l1 l1)).heap.size = v1.heap.size := by simp [World.setCell]
  rw [← hV1] at KO KP KR HB szv1 O1
  have HI : Hid (FlIn V1 a1 a2 a3 l1 l2 l3 z1 z2 z3) := hide ((unhide HR0).below (unhide HB))
  have m2 : V1.cell? ⟨w.heap.size, 1, none⟩ = some (.slice a2 l2 c2) := (unhide KP).c 1 (by simp)
  rw [hV1] at m2
  have HV1 := hide hV1
  clear hV1
  go_wp2_with fail
  rw [← unhide HV1]
  clear HV1 m2 y1 f1
  rw [← szv1] at sz1
  obtain ⟨G2, hG2⟩ : ∃ G, V1.heap.size = G := ⟨_, rfl⟩
  refine (toCarryS_own a2 l2 c2 z2 V1 (unhide HI).r2 h2).mono ?_
  rintro x v2 ⟨rfl, ow, bw⟩
  rw [hG2] at ow ⊢
  have HB := hide ((unhide HB).trans (bw.mono (unhide HB).size))
  have KP := hide ((unhide KP).below bw)
  have KR := hide ((unhide KR).below bw)
  have KO := hide ((unhide KO).below bw)
  have sz2 : G2 < v2.heap.size := ((ow.lies G2 rfl).2)
  have O1 := hide ((unhide O1).below bw)
  have O2 := hide ow
  have hs2 : G1 < G2 := by rw [← hG2]; omega
  clear ow bw HI
  obtain ⟨V2, hV2⟩ : ∃ V, V = v2.setCell ⟨w.heap.size + 1 + 1, 1, none⟩ (.slice (some ⟨G2, 0, none⟩) l2 l2) := ⟨_, rfl⟩
  have y2 : v2.cell? ⟨w.heap.size + 1 + 1, 1, none⟩ = some (.slice none 0 0) := (unhide KO).c 1 (by simp)
  have f2 : v2.frozen? ⟨w.heap.size + 1 + 1, 1, none⟩ = false := (unhide KO).f 1 (by simp)
  have KO := hide ((unhide KO).set 1 (by simp) (.slice (some ⟨G2, 0, none⟩) l2 l2))
  have KP := hide ((unhide KP).other (p := ⟨w.heap.size + 1 + 1, 1, none⟩) (by simp; omega) (.slice (some ⟨G2, 0, none⟩) l2 l2))
  have KR := hide ((unhide KR).other (p := ⟨w.heap.size + 1 + 1, 1, none⟩) (by simp) (.slice (some ⟨G2, 0, none⟩) l2 l2))
  have O1 := hide ((unhide O1).set_other (S := w.heap.size + 1 + 1) (o := 1) (.slice (some ⟨G2, 0, none⟩) l2 l2) (by simp only [Value.ownBlock, ne_eq, Option.some.injEq]; omega))
  have O2 := hide ((unhide O2).set_other (S := w.heap.size + 1 + 1) (o := 1) (.slice (some ⟨G2, 0, none⟩) l2 l2) (by simp only [Value.ownBlock, ne_eq, Option.some.injEq]; omega))
  have HB := hide ((unhide HB).setCell (p := ⟨w.heap.size + 1 + 1, 1, none⟩) (by simp; omega) (.slice (some ⟨G2, 0, none⟩) l2 l2))
  have szv2 : (v2.setCell ⟨w.heap.size + 1 + 1, 1, none⟩ (.slice (some ⟨G2, 0, none⟩) l2 l2)).heap.size = v2.heap.size := by simp [World.setCell]
  rw [← hV2] at KO KP KR HB szv2 O1 O2
  have HI : Hid (FlIn V2 a1 a2 a3 l1 l2 l3 z1 z2 z3) := hide ((unhide HR0).below (unhide HB))
  have m3 : V2.cell? ⟨w.heap.size, 2, none⟩ = some (.slice a3 l3 c3) := (unhide KP).c 2 (by simp)
  rw [hV2] at m3
  have HV2 := hide hV2
  clear hV2
  go_wp2_with fail
  rw [← unhide HV2]
  clear HV2 m3 y2 f2
  rw [← szv2] at sz2
  obtain ⟨G3, hG3⟩ : ∃ G, V2.heap.size = G := ⟨_, rfl⟩
  refine (toDefectS_own a3 l3 c3 z3 V2 (unhide HI).r3 h3).mono ?_
  rintro x v3 ⟨rfl, ow, bw⟩
  rw [hG3] at ow ⊢
  have HB := hide ((unhide HB).trans (bw.mono (unhide HB).size))
  have KP := hide ((unhide KP).below bw)
  have KR := hide ((unhide KR).below bw)
  have KO := hide ((unhide KO).below bw)
  have sz3 : G3 < v3.heap.size := ((ow.lies G3 rfl).2)
  have O1 := hide ((unhide O1).below bw)
  have O2 := hide ((unhide O2).below bw)
  have O3 := hide ow
  have hs3 : G2 < G3 := by rw [← hG3]; omega
  clear ow bw HI
  obtain ⟨V3, hV3⟩ : ∃ V, V = v3.setCell ⟨w.heap.size + 1 + 1, 2, none⟩ (.slice (some ⟨G3, 0, none⟩) l3 l3) := ⟨_, rfl⟩
  have y3 : v3.cell? ⟨w.heap.size + 1 + 1, 2, none⟩ = some (.slice none 0 0) := (unhide KO).c 2 (by simp)
  have f3 : v3.frozen? ⟨w.heap.size + 1 + 1, 2, none⟩ = false := (unhide KO).f 2 (by simp)
  have KO := hide ((unhide KO).set 2 (by simp) (.slice (some ⟨G3, 0, none⟩) l3 l3))
  have KP := hide ((unhide KP).other (p := ⟨w.heap.size + 1 + 1, 2, none⟩) (by simp; omega) (.slice (some ⟨G3, 0, none⟩) l3 l3))
  have KR := hide ((unhide KR).other (p := ⟨w.heap.size + 1 + 1, 2, none⟩) (by simp) (.slice (some ⟨G3, 0, none⟩) l3 l3))
  have O1 := hide ((unhide O1).set_other (S := w.heap.size + 1 + 1) (o := 2) (.slice (some ⟨G3, 0, none⟩) l3 l3) (by simp only [Value.ownBlock, ne_eq, Option.some.injEq]; omega))
  have O2 := hide ((unhide O2).set_other (S := w.heap.size + 1 + 1) (o := 2) (.slice (some ⟨G3, 0, none⟩) l3 l3) (by simp only [Value.ownBlock, ne_eq, Option.some.injEq]; omega))
  have O3 := hide ((unhide O3).set_other (S := w.heap.size + 1 + 1) (o := 2) (.slice (some ⟨G3, 0, none⟩) l3 l3) (by simp only [Value.ownBlock, ne_eq, Option.some.injEq]; omega))
  have HB := hide ((unhide HB).setCell (p := ⟨w.heap.size + 1 + 1, 2, none⟩) (by simp; omega) (.slice (some ⟨G3, 0, none⟩) l3 l3))
  have szv3 : (v3.setCell ⟨w.heap.size + 1 + 1, 2, none⟩ (.slice (some ⟨G3, 0, none⟩) l3 l3)).heap.size = v3.heap.size := by simp [World.setCell]
  rw [← hV3] at KO KP KR HB szv3 O1 O2 O3
  have mt0 : V3.cell? ⟨w.heap.size, 3, none⟩ = some (.int .i64 nh) := (unhide KP).c 3 (by simp)
  have mt1 : V3.cell? ⟨w.heap.size, 4, none⟩ = some (.int .i64 nc) := (unhide KP).c 4 (by simp)
  have mt2 : V3.cell? ⟨w.heap.size, 5, none⟩ = some (.int .i64 nd) := (unhide KP).c 5 (by simp)
  rw [hV3] at mt0 mt1 mt2
  have HV3 := hide hV3
  clear hV3
  go_wp2_with fail
  rw [← unhide HV3]
  clear HV3 mt0 mt1 mt2 y3 f3
  rw [← szv3] at sz3
  refine (toClock_any nh nc nd V3).mono ?_
  rintro x v4 ⟨rfl, bw⟩
  have HB := hide ((unhide HB).trans (bw.mono (unhide HB).size))
  have KP := hide ((unhide KP).below bw)
  have KR := hide ((unhide KR).below bw)
  have KO := hide ((unhide KO).below bw)
  have O1 := hide ((unhide O1).below bw)
  have O2 := hide ((unhide O2).below bw)
  have O3 := hide ((unhide O3).below bw)
  clear bw
  have yt0 : v4.cell? ⟨w.heap.size + 1 + 1, 3, none⟩ = some (.int .i64 0) := (unhide KO).c 3 (by simp)
  have ft0 : v4.frozen? ⟨w.heap.size + 1 + 1, 3, none⟩ = false := (unhide KO).f 3 (by simp)
  have yt1 : v4.cell? ⟨w.heap.size + 1 + 1, 4, none⟩ = some (.int .i64 0) := (unhide KO).c 4 (by simp)
  have ft1 : v4.frozen? ⟨w.heap.size + 1 + 1, 4, none⟩ = false := (unhide KO).f 4 (by simp)
  have yt2 : v4.cell? ⟨w.heap.size + 1 + 1, 5, none⟩ = some (.int .i64 0) := (unhide KO).c 5 (by simp)
  have ft2 : v4.frozen? ⟨w.heap.size + 1 + 1, 5, none⟩ = false := (unhide KO).f 5 (by simp)
  obtain ⟨V4, hV4⟩ : ∃ V, V = (((v4.setCell ⟨w.heap.size + 1 + 1, 3, none⟩ (.int .i64 nh)).setCell ⟨w.heap.size + 1 + 1, 4, none⟩ (.int .i64 nc)).setCell ⟨w.heap.size + 1 + 1, 5, none⟩ (.int .i64 nd)) := ⟨_, rfl⟩
  have KO := hide ((unhide KO).set 3 (by simp) (.int .i64 nh))
  have KP := hide ((unhide KP).other (p := ⟨w.heap.size + 1 + 1, 3, none⟩) (by simp; omega) (.int .i64 nh))
  have KR := hide ((unhide KR).other (p := ⟨w.heap.size + 1 + 1, 3, none⟩) (by simp) (.int .i64 nh))
  have O1 := hide ((unhide O1).set_other (S := w.heap.size + 1 + 1) (o := 3) (.int .i64 nh) (by simp only [Value.ownBlock, ne_eq, Option.some.injEq]; omega))
  have O2 := hide ((unhide O2).set_other (S := w.heap.size + 1 + 1) (o := 3) (.int .i64 nh) (by simp only [Value.ownBlock, ne_eq, Option.some.injEq]; omega))
  have O3 := hide ((unhide O3).set_other (S := w.heap.size + 1 + 1) (o := 3) (.int .i64 nh) (by simp only [Value.ownBlock, ne_eq, Option.some.injEq]; omega))
  have HB := hide ((unhide HB).setCell (p := ⟨w.heap.size + 1 + 1, 3, none⟩) (by simp; omega) (.int .i64 nh))
  have KO := hide ((unhide KO).set 4 (by simp) (.int .i64 nc))
  have KP := hide ((unhide KP).other (p := ⟨w.heap.size + 1 + 1, 4, none⟩) (by simp; omega) (.int .i64 nc))
  have KR := hide ((unhide KR).other (p := ⟨w.heap.size + 1 + 1, 4, none⟩) (by simp) (.int .i64 nc))
  have O1 := hide ((unhide O1).set_other (S := w.heap.size + 1 + 1) (o := 4) (.int .i64 nc) (by simp only [Value.ownBlock, ne_eq, Option.some.injEq]; omega))
  have O2 := hide ((unhide O2).set_other (S := w.heap.size + 1 + 1) (o := 4) (.int .i64 nc) (by simp only [Value.ownBlock, ne_eq, Option.some.injEq]; omega))
  have O3 := hide ((unhide O3).set_other (S := w.heap.size + 1 + 1) (o := 4) (.int .i64 nc) (by simp only [Value.ownBlock, ne_eq, Option.some.injEq]; omega))
  have HB := hide ((unhide HB).setCell (p := ⟨w.heap.size + 1 + 1, 4, none⟩) (by simp; omega) (.int .i64 nc))
  have KO := hide ((unhide KO).set 5 (by simp) (.int .i64 nd))
  have KP := hide ((unhide KP).other (p := ⟨w.heap.size + 1 + 1, 5, none⟩) (by simp; omega) (.int .i64 nd))
  have KR := hide ((unhide KR).other (p := ⟨w.heap.size + 1 + 1, 5, none⟩) (by simp) (.int .i64 nd))
  have O1 := hide ((unhide O1).set_other (S := w.heap.size + 1 + 1) (o := 5) (.int .i64 nd) (by simp only [Value.ownBlock, ne_eq, Option.some.injEq]; omega))
  have O2 := hide ((unhide O2).set_other (S := w.heap.size + 1 + 1) (o := 5) (.int .i64 nd) (by simp only [Value.ownBlock, ne_eq, Option.some.injEq]; omega))
  have O3 := hide ((unhide O3).set_other (S := w.heap.size + 1 + 1) (o := 5) (.int .i64 nd) (by simp only [Value.ownBlock, ne_eq, Option.some.injEq]; omega))
  have HB := hide ((unhide HB).setCell (p := ⟨w.heap.size + 1 + 1, 5, none⟩) (by simp; omega) (.int .i64 nd))
  rw [← hV4] at KO KP KR HB O1 O2 O3
  have hO : Hid (Blk V4 (w.heap.size + 1 + 1) [(.slice (some ⟨G1, 0, none⟩) l1 l1), (.slice (some ⟨G2, 0, none⟩) l2 l2), (.slice (some ⟨G3, 0, none⟩) l3 l3), (.int .i64 nh), (.int .i64 nc), (.int .i64 nd)]) := KO
  have u0 : V4.cell? ⟨w.heap.size + 1 + 1, 0, none⟩ = some (.slice (some ⟨G1, 0, none⟩) l1 l1) := (unhide hO).c 0 (by simp)
  have r0 : V4.cell? ⟨w.heap.size + 1, 0, none⟩ = some (.slice none 0 0) := (unhide KR).c 0 (by simp)
  have t0 : V4.frozen? ⟨w.heap.size + 1, 0, none⟩ = false := (unhide KR).f 0 (by simp)
  have u1 : V4.cell? ⟨w.heap.size + 1 + 1, 1, none⟩ = some (.slice (some ⟨G2, 0, none⟩) l2 l2) := (unhide hO).c 1 (by simp)
  have r1 : V4.cell? ⟨w.heap.size + 1, 1, none⟩ = some (.slice none 0 0) := (unhide KR).c 1 (by simp)
  have t1 : V4.frozen? ⟨w.heap.size + 1, 1, none⟩ = false := (unhide KR).f 1 (by simp)
  have u2 : V4.cell? ⟨w.heap.size + 1 + 1, 2, none⟩ = some (.slice (some ⟨G3, 0, none⟩) l3 l3) := (unhide hO).c 2 (by simp)
  have r2 : V4.cell? ⟨w.heap.size + 1, 2, none⟩ = some (.slice none 0 0) := (unhide KR).c 2 (by simp)
  have t2 : V4.frozen? ⟨w.heap.size + 1, 2, none⟩ = false := (unhide KR).f 2 (by simp)
  have u3 : V4.cell? ⟨w.heap.size + 1 + 1, 3, none⟩ = some (.int .i64 nh) := (unhide hO).c 3 (by simp)
  have r3 : V4.cell? ⟨w.heap.size + 1, 3, none⟩ = some (.int .i64 0) := (unhide KR).c 3 (by simp)
  have t3 : V4.frozen? ⟨w.heap.size + 1, 3, none⟩ = false := (unhide KR).f 3 (by simp)
  have u4 : V4.cell? ⟨w.heap.size + 1 + 1, 4, none⟩ = some (.int .i64 nc) := (unhide hO).c 4 (by simp)
  have r4 : V4.cell? ⟨w.heap.size + 1, 4, none⟩ = some (.int .i64 0) := (unhide KR).c 4 (by simp)
  have t4 : V4.frozen? ⟨w.heap.size + 1, 4, none⟩ = false := (unhide KR).f 4 (by simp)
  have u5 : V4.cell? ⟨w.heap.size + 1 + 1, 5, none⟩ = some (.int .i64 nd) := (unhide hO).c 5 (by simp)
  have r5 : V4.cell? ⟨w.heap.size + 1, 5, none⟩ = some (.int .i64 0) := (unhide KR).c 5 (by simp)
  have t5 : V4.frozen? ⟨w.heap.size + 1, 5, none⟩ = false := (unhide KR).f 5 (by simp)
  rw [hV4] at u0 u1 u2 u3 u4 u5 r0 r1 r2 r3 r4 r5 t0 t1 t2 t3 t4 t5
  have HB := hide ((unhide HB).setCell (p := ⟨w.heap.size + 1, 0, none⟩) (by simp) (.slice (some ⟨G1, 0, none⟩) l1 l1))
  have O1 := hide ((unhide O1).set_other (S := w.heap.size + 1) (o := 0) (.slice (some ⟨G1, 0, none⟩) l1 l1) (by simp only [Value.ownBlock, ne_eq, Option.some.injEq]; omega))
  have O2 := hide ((unhide O2).set_other (S := w.heap.size + 1) (o := 0) (.slice (some ⟨G1, 0, none⟩) l1 l1) (by simp only [Value.ownBlock, ne_eq, Option.some.injEq]; omega))
  have O3 := hide ((unhide O3).set_other (S := w.heap.size + 1) (o := 0) (.slice (some ⟨G1, 0, none⟩) l1 l1) (by simp only [Value.ownBlock, ne_eq, Option.some.injEq]; omega))
  have HB := hide ((unhide HB).setCell (p := ⟨w.heap.size + 1, 1, none⟩) (by simp) (.slice (some ⟨G2, 0, none⟩) l2 l2))
  have O1 := hide ((unhide O1).set_other (S := w.heap.size + 1) (o := 1) (.slice (some ⟨G2, 0, none⟩) l2 l2) (by simp only [Value.ownBlock, ne_eq, Option.some.injEq]; omega))
  have O2 := hide ((unhide O2).set_other (S := w.heap.size + 1) (o := 1) (.slice (some ⟨G2, 0, none⟩) l2 l2) (by simp only [Value.ownBlock, ne_eq, Option.some.injEq]; omega))
  have O3 := hide ((unhide O3).set_other (S := w.heap.size + 1) (o := 1) (.slice (some ⟨G2, 0, none⟩) l2 l2) (by simp only [Value.ownBlock, ne_eq, Option.some.injEq]; omega))
  have HB := hide ((unhide HB).setCell (p := ⟨w.heap.size + 1, 2, none⟩) (by simp) (.slice (some ⟨G3, 0, none⟩) l3 l3))
  have O1 := hide ((unhide O1).set_other (S := w.heap.size + 1) (o := 2) (.slice (some ⟨G3, 0, none⟩) l3 l3) (by simp only [Value.ownBlock, ne_eq, Option.some.injEq]; omega))
  have O2 := hide ((unhide O2).set_other (S := w.heap.size + 1) (o := 2) (.slice (some ⟨G3, 0, none⟩) l3 l3) (by simp only [Value.ownBlock, ne_eq, Option.some.injEq]; omega))
  have O3 := hide ((unhide O3).set_other (S := w.heap.size + 1) (o := 2) (.slice (some ⟨G3, 0, none⟩) l3 l3) (by simp only [Value.ownBlock, ne_eq, Option.some.injEq]; omega))
  have HB := hide ((unhide HB).setCell (p := ⟨w.heap.size + 1, 3, none⟩) (by simp) (.int .i64 nh))
  have O1 := hide ((unhide O1).set_other (S := w.heap.size + 1) (o := 3) (.int .i64 nh) (by simp only [Value.ownBlock, ne_eq, Option.some.injEq]; omega))
  have O2 := hide ((unhide O2).set_other (S := w.heap.size + 1) (o := 3) (.int .i64 nh) (by simp only [Value.ownBlock, ne_eq, Option.some.injEq]; omega))
  have O3 := hide ((unhide O3).set_other (S := w.heap.size + 1) (o := 3) (.int .i64 nh) (by simp only [Value.ownBlock, ne_eq, Option.some.injEq]; omega))
  have HB := hide ((unhide HB).setCell (p := ⟨w.heap.size + 1, 4, none⟩) (by simp) (.int .i64 nc))
  have O1 := hide ((unhide O1).set_other (S := w.heap.size + 1) (o := 4) (.int .i64 nc) (by simp only [Value.ownBlock, ne_eq, Option.some.injEq]; omega))
  have O2 := hide ((unhide O2).set_other (S := w.heap.size + 1) (o := 4) (.int .i64 nc) (by simp only [Value.ownBlock, ne_eq, Option.some.injEq]; omega))
  have O3 := hide ((unhide O3).set_other (S := w.heap.size + 1) (o := 4) (.int .i64 nc) (by simp only [Value.ownBlock, ne_eq, Option.some.injEq]; omega))
  have HB := hide ((unhide HB).setCell (p := ⟨w.heap.size + 1, 5, none⟩) (by simp) (.int .i64 nd))
  have O1 := hide ((unhide O1).set_other (S := w.heap.size + 1) (o := 5) (.int .i64 nd) (by simp only [Value.ownBlock, ne_eq, Option.some.injEq]; omega))
  have O2 := hide ((unhide O2).set_other (S := w.heap.size + 1) (o := 5) (.int .i64 nd) (by simp only [Value.ownBlock, ne_eq, Option.some.injEq]; omega))
  have O3 := hide ((unhide O3).set_other (S := w.heap.size + 1) (o := 5) (.int .i64 nd) (by simp only [Value.ownBlock, ne_eq, Option.some.injEq]; omega))
  rw [hV4] at HB O1 O2 O3
  have HN := hide (FlOwn.mk ((unhide O1).mono (base' := w.heap.size) (by omega)) ((unhide O2).mono (base' := w.heap.size) (by omega)) ((unhide O3).mono (base' := w.heap.size) (by omega)) (fun g h1 h2 => by have e1 := fresh_own h1; have e2 := fresh_own h2; omega) (fun g h1 h2 => by have e1 := fresh_own h1; have e2 := fresh_own h2; omega) (fun g h1 h2 => by have e1 := fresh_own h1; have e2 := fresh_own h2; omega))
  clear O1 O2 O3 KO KP KR hO hV4 HR0
  go_wp2_with fail
  refine bodyPost_ret (v := .agg #[.slice (some ⟨G1, 0, none⟩) l1 l1, .slice (some ⟨G2, 0, none⟩) l2 l2, .slice (some ⟨G3, 0, none⟩) l3 l3, .int .i64 nh, .int .i64 nc, .int .i64 nd]) (by simp [results, Tryz.results7, go_sem, *]) rfl ⟨⟨G1, G2, G3, rfl, unhide HN⟩, unhide HB⟩
set_option maxHeartbeats 2000000 in
theorem eqFleet_same (nh nc nd : Int) (a1 a2 a3 : Option Addr) (l1 c1 l2 c2 l3 c3 : Nat) (b1 b2 b3 : Option Addr) (d1 d2 d3 : Nat) (z1 : List Ts) (z2 : List Cr) (z3 : List Df) (w : World) (hr : FlIn w a1 a2 a3 l1 l2 l3 z1 z2 z3) (hq : FlIn w b1 b2 b3 l1 l2 l3 z1 z2 z3) :
    Calls Tryz.prog 10 #[.agg #[.slice a1 l1 c1, .slice a2 l2 c2, .slice a3 l3 c3, .int .i64 nh, .int .i64 nc, .int .i64 nd], .agg #[.slice b1 l1 d1, .slice b2 l2 d2, .slice b3 l3 d3, .int .i64 nh, .int .i64 nc, .int .i64 nd]] w fun x w' => x = .returned (.bool true) ∧ Below w.heap.size w w' := by
  obtain ⟨W, hW⟩ : ∃ W, W = (w.alloc (Obj.cells #[.slice a1 l1 c1, .slice a2 l2 c2, .slice a3 l3 c3, .int .i64 nh, .int .i64 nc, .int .i64 nd] 37)).alloc (Obj.cells #[.slice b1 l1 d1, .slice b2 l2 d2, .slice b3 l3 d3, .int .i64 nh, .int .i64 nc, .int .i64 nd] 37) := ⟨_, rfl⟩
  have KA : Hid (Blk W w.heap.size [.slice a1 l1 c1, .slice a2 l2 c2, .slice a3 l3 c3, .int .i64 nh, .int .i64 nc, .int .i64 nd]) := hide (by rw [hW]; exact (Blk.new (w := w) [.slice a1 l1 c1, .slice a2 l2 c2, .slice a3 l3 c3, .int .i64 nh, .int .i64 nc, .int .i64 nd] 37).alloc _)
  have KB : Hid (Blk W (w.heap.size + 1) [.slice b1 l1 d1, .slice b2 l2 d2, .slice b3 l3 d3, .int .i64 nh, .int .i64 nc, .int .i64 nd]) := hide (by
    rw [hW]
    have := Blk.new (w := w.alloc (Obj.cells #[.slice a1 l1 c1, .slice a2 l2 c2, .slice a3 l3 c3, .int .i64 nh, .int .i64 nc, .int .i64 nd] 37)) [.slice b1 l1 d1, .slice b2 l2 d2, .slice b3 l3 d3, .int .i64 nh, .int .i64 nc, .int .i64 nd] 37
    simpa using this)
  have HB : Hid (Below w.heap.size w W) := hide (by rw [hW]; exact bel2 _ _)
  have HA := hide (hr.below (unhide HB))
  have HQ := hide (hq.below (unhide HB))
  have HW := hide hW
  clear hr hq hW
  go_enter Tryz.func10, Tryz.ntmps10
  go_wp2_with fail
  rw [← unhide HW]
  clear HW
  refine (eqTaskS_same _ _ _ _ _ _ z1 _ (unhide HA).r1 (unhide HQ).r1).mono ?_
  rintro x x1 ⟨rfl, bw⟩
  have HB := hide ((unhide HB).trans (bw.mono (unhide HB).size))
  have HA := hide ((unhide HA).below bw)
  have HQ := hide ((unhide HQ).below bw)
  have KA := hide ((unhide KA).below bw)
  have KB := hide ((unhide KB).below bw)
  clear bw
  have m2 : x1.cell? ⟨w.heap.size, 1, none⟩ = some (.slice a2 l2 c2) := (unhide KA).c 1 (by simp)
  have k2 : x1.cell? ⟨w.heap.size + 1, 1, none⟩ = some (.slice b2 l2 d2) := (unhide KB).c 1 (by simp)
  go_wp2_with fail
  clear m2 k2
  refine (eqCarryS_same _ _ _ _ _ _ z2 _ (unhide HA).r2 (unhide HQ).r2).mono ?_
  rintro x x2 ⟨rfl, bw⟩
  have HB := hide ((unhide HB).trans (bw.mono (unhide HB).size))
  have HA := hide ((unhide HA).below bw)
  have HQ := hide ((unhide HQ).below bw)
  have KA := hide ((unhide KA).below bw)
  have KB := hide ((unhide KB).below bw)
  clear bw
  have m3 : x2.cell? ⟨w.heap.size, 2, none⟩ = some (.slice a3 l3 c3) := (unhide KA).c 2 (by simp)
  have k3 : x2.cell? ⟨w.heap.size + 1, 2, none⟩ = some (.slice b3 l3 d3) := (unhide KB).c 2 (by simp)
  go_wp2_with fail
  clear m3 k3
  refine (eqDefectS_same _ _ _ _ _ _ z3 _ (unhide HA).r3 (unhide HQ).r3).mono ?_
  rintro x x3 ⟨rfl, bw⟩
  have HB := hide ((unhide HB).trans (bw.mono (unhide HB).size))
  have HA := hide ((unhide HA).below bw)
  have HQ := hide ((unhide HQ).below bw)
  have KA := hide ((unhide KA).below bw)
  have KB := hide ((unhide KB).below bw)
  clear bw
  have mt0 : x3.cell? ⟨w.heap.size, 3, none⟩ = some (.int .i64 nh) := (unhide KA).c 3 (by simp)
  have kt0 : x3.cell? ⟨w.heap.size + 1, 3, none⟩ = some (.int .i64 nh) := (unhide KB).c 3 (by simp)
  have mt1 : x3.cell? ⟨w.heap.size, 4, none⟩ = some (.int .i64 nc) := (unhide KA).c 4 (by simp)
  have kt1 : x3.cell? ⟨w.heap.size + 1, 4, none⟩ = some (.int .i64 nc) := (unhide KB).c 4 (by simp)
  have mt2 : x3.cell? ⟨w.heap.size, 5, none⟩ = some (.int .i64 nd) := (unhide KA).c 5 (by simp)
  have kt2 : x3.cell? ⟨w.heap.size + 1, 5, none⟩ = some (.int .i64 nd) := (unhide KB).c 5 (by simp)
  go_wp2_with fail
  clear mt0 mt1 mt2 kt0 kt1 kt2
  refine (eqClock_alike nh nc nd nh nc nd _ (ckAlike_refl ⟨nh, nc, nd⟩)).mono ?_
  rintro x xk ⟨rfl, bw⟩
  have HB := hide ((unhide HB).trans (bw.mono (unhide HB).size))
  clear bw
  go_wp2_with fail
  go_ret
  exact ⟨rfl, unhide HB⟩

end Go.Proofs.YticdccdkjepifaaGreat

namespace Go.Proofs.YticdccdkjepifaaGreat
open Go Go.RowKit

def mkTs (n : Int) : Ts := ⟨mkT n, n + 1, n + 1 + 1, n + 1 + 1 + 1, n + 1 + 1 + 1 + 1, n + 1 + 1 + 1 + 1 + 1, n + 1 + 1 + 1 + 1 + 1 + 1⟩
theorem grownBTs {w w' : World} (h : Below w.heap.size w w') (row : Option Nat) : w.grownBy w' row := ⟨h.os, h.tape, h.output, h.size, fun k hk _ => h.block k hk⟩
theorem grownTTs {w w1 w2 : World} {row : Option Nat} (h : w.grownBy w1 row) (k : w1.grownBy w2 row) : w.grownBy w2 row := ⟨k.os.trans h.os, k.tape.trans h.tape, k.output.trans h.output, Nat.le_trans h.size k.size, fun i hi hne => (k.block i (Nat.lt_of_lt_of_le hi h.size) hne).trans (h.block i hi hne)⟩
set_option maxRecDepth 20000 in
set_option maxHeartbeats 2000000 in
theorem markTaskS_any (base : Nat) (a : Option Addr) (len c : Nat) (ps : List Ts) (k : Int) (w : World) (ho : OwnE 7 tsC w base 90 (.slice a len c) ps) (hl : ps.length = len) (h1 : len ≤ 1048576) (hk0 : 1 ≤ k) (hk1 : k ≤ 900000000) :
    Calls Tryz.prog 38 #[.slice a len c, .int .i64 k] w fun e w' => e = .returned (.int .i64 (k + 7 * len)) ∧ OwnE 7 tsC w' base 90 (.slice a len c) (markL mkTs 7 ps k len) ∧ w.grownBy w' (Value.slice a len c).ownBlock := by
  subst hl
  go_enter Tryz.func38, Tryz.ntmps38
  go_wp2
  go_loopw [1, 5] (fun kk i wr => ∃ j : Nat, j ≤ ps.length ∧ i = .int .i64 j ∧ kk = .int .i64 (k + 7 * j) ∧ OwnE 7 tsC wr base 90 (.slice a ps.length c) (markL mkTs 7 ps k j) ∧ w.grownBy wr (Value.slice a ps.length c).ownBlock) (fun _ i _ => ps.length - (intOf i).toNat)
  case atStart => exact ⟨0, Nat.zero_le _, rfl, by simp, ho, grown_refl _ _⟩
  case round =>
    obtain ⟨j, hj, rfl, rfl, how, hgr⟩ := hrel
    have hml := markL_len mkTs 7 ps k j
    by_cases hlt : j < ps.length
    · have hi1 : (j : Int) < (ps.length : Int) := by omega
      have HOW := hide how
      have HGR := hide hgr
      have HML := hide hml
      clear how hgr hml
      go_wp2_with fail
      refine (markText_any _ _ (by omega) (by omega)).mono ?_
      rintro e w1 ⟨rfl, b1⟩
      have how := (unhide HOW).below b1
      have hgr := grownTTs (unhide HGR) (grownBTs b1 _)
      have hml := unhide HML
      rcases how.form with ⟨_, h0⟩ | ⟨g, c', hv, hg1, hg2, hc1, _⟩
      · rw [h0] at hml; simp at hml; omega
      simp only [Value.slice.injEq] at hv
      obtain ⟨rfl, hx, rfl⟩ := hv
      clear hx hc1
      have n0 : w1.cell? ⟨g, j * 7, none⟩ = some (.string (elAt (markL mkTs 7 ps k j) j).nm) := (how.here hml j hlt 0 (by omega)).1
      have z0 : w1.frozen? ⟨g, j * 7, none⟩ = false := (how.here hml j hlt 0 (by omega)).2
      have n1 : w1.cell? ⟨g, j * 7 + 1, none⟩ = some (.int .i64 (elAt (markL mkTs 7 ps k j) j).h) := (how.here hml j hlt 1 (by omega)).1
      have z1 : w1.frozen? ⟨g, j * 7 + 1, none⟩ = false := (how.here hml j hlt 1 (by omega)).2
      have n2 : w1.cell? ⟨g, j * 7 + 2, none⟩ = some (.int .i64 (elAt (markL mkTs 7 ps k j) j).c) := (how.here hml j hlt 2 (by omega)).1
      have z2 : w1.frozen? ⟨g, j * 7 + 2, none⟩ = false := (how.here hml j hlt 2 (by omega)).2
      have n3 : w1.cell? ⟨g, j * 7 + 3, none⟩ = some (.int .i64 (elAt (markL mkTs 7 ps k j) j).d) := (how.here hml j hlt 3 (by omega)).1
      have z3 : w1.frozen? ⟨g, j * 7 + 3, none⟩ = false := (how.here hml j hlt 3 (by omega)).2
      have n4 : w1.cell? ⟨g, j * 7 + 4, none⟩ = some (.int .i64 (elAt (markL mkTs 7 ps k j) j).dh) := (how.here hml j hlt 4 (by omega)).1
      have z4 : w1.frozen? ⟨g, j * 7 + 4, none⟩ = false := (how.here hml j hlt 4 (by omega)).2
      have n5 : w1.cell? ⟨g, j * 7 + 5, none⟩ = some (.int .i64 (elAt (markL mkTs 7 ps k j) j).dc) := (how.here hml j hlt 5 (by omega)).1
      have z5 : w1.frozen? ⟨g, j * 7 + 5, none⟩ = false := (how.here hml j hlt 5 (by omega)).2
      have n6 : w1.cell? ⟨g, j * 7 + 6, none⟩ = some (.int .i64 (elAt (markL mkTs 7 ps k j) j).dd) := (how.here hml j hlt 6 (by omega)).1
      have z6 : w1.frozen? ⟨g, j * 7 + 6, none⟩ = false := (how.here hml j hlt 6 (by omega)).2
      have o0 := how.setOne hml j hlt 0 (by omega) (.string (mkT (k + 7 * (j : Int)))) ⟨mkT (k + 7 * (j : Int)), (elAt (markL mkTs 7 ps k j) j).h, (elAt (markL mkTs 7 ps k j) j).c, (elAt (markL mkTs 7 ps k j) j).d, (elAt (markL mkTs 7 ps k j) j).dh, (elAt (markL mkTs 7 ps k j) j).dc, (elAt (markL mkTs 7 ps k j) j).dd⟩ (by intro p hp; rcases (show p = 0 ∨ p = 1 ∨ p = 2 ∨ p = 3 ∨ p = 4 ∨ p = 5 ∨ p = 6 from by omega) with rfl | rfl | rfl | rfl | rfl | rfl | rfl <;> rfl)
      have o1 := o0.setMore hml hlt 1 (by omega) (.int .i64 (k + 7 * (j : Int) + 1)) ⟨mkT (k + 7 * (j : Int)), k + 7 * (j : Int) + 1, (elAt (markL mkTs 7 ps k j) j).c, (elAt (markL mkTs 7 ps k j) j).d, (elAt (markL mkTs 7 ps k j) j).dh, (elAt (markL mkTs 7 ps k j) j).dc, (elAt (markL mkTs 7 ps k j) j).dd⟩ (by intro p hp; rcases (show p = 0 ∨ p = 1 ∨ p = 2 ∨ p = 3 ∨ p = 4 ∨ p = 5 ∨ p = 6 from by omega) with rfl | rfl | rfl | rfl | rfl | rfl | rfl <;> rfl)
      have o2 := o1.setMore hml hlt 2 (by omega) (.int .i64 (k + 7 * (j : Int) + 1 + 1)) ⟨mkT (k + 7 * (j : Int)), k + 7 * (j : Int) + 1, k + 7 * (j : Int) + 1 + 1, (elAt (markL mkTs 7 ps k j) j).d, (elAt (markL mkTs 7 ps k j) j).dh, (elAt (markL mkTs 7 ps k j) j).dc, (elAt (markL mkTs 7 ps k j) j).dd⟩ (by intro p hp; rcases (show p = 0 ∨ p = 1 ∨ p = 2 ∨ p = 3 ∨ p = 4 ∨ p = 5 ∨ p = 6 from by omega) with rfl | rfl | rfl | rfl | rfl | rfl | rfl <;> rfl)
      have o3 := o2.setMore hml hlt 3 (by omega) (.int .i64 (k + 7 * (j : Int) + 1 + 1 + 1)) ⟨mkT (k + 7 * (j : Int)), k + 7 * (j : Int) + 1, k + 7 * (j : Int) + 1 + 1, k + 7 * (j : Int) + 1 + 1 + 1, (elAt (markL mkTs 7 ps k j) j).dh, (elAt (markL mkTs 7 ps k j) j).dc, (elAt (markL mkTs 7 ps k j) j).dd⟩ (by intro p hp; rcases (show p = 0 ∨ p = 1 ∨ p = 2 ∨ p = 3 ∨ p = 4 ∨ p = 5 ∨ p = 6 from by omega) with rfl | rfl | rfl | rfl | rfl | rfl | rfl <;> rfl)
      have o4 := o3.setMore hml hlt 4 (by omega) (.int .i64 (k + 7 * (j : Int) + 1 + 1 + 1 + 1)) ⟨mkT (k + 7 * (j : Int)), k + 7 * (j : Int) + 1, k + 7 * (j : Int) + 1 + 1, k + 7 * (j : Int) + 1 + 1 + 1, k + 7 * (j : Int) + 1 + 1 + 1 + 1, (elAt (markL mkTs 7 ps k j) j).dc, (elAt (markL mkTs 7 ps k j) j).dd⟩ (by intro p hp; rcases (show p = 0 ∨ p = 1 ∨ p = 2 ∨ p = 3 ∨ p = 4 ∨ p = 5 ∨ p = 6 from by omega) with rfl | rfl | rfl | rfl | rfl | rfl | rfl <;> rfl)
      have o5 := o4.setMore hml hlt 5 (by omega) (.int .i64 (k + 7 * (j : Int) + 1 + 1 + 1 + 1 + 1)) ⟨mkT (k + 7 * (j : Int)), k + 7 * (j : Int) + 1, k + 7 * (j : Int) + 1 + 1, k + 7 * (j : Int) + 1 + 1 + 1, k + 7 * (j : Int) + 1 + 1 + 1 + 1, k + 7 * (j : Int) + 1 + 1 + 1 + 1 + 1, (elAt (markL mkTs 7 ps k j) j).dd⟩ (by intro p hp; rcases (show p = 0 ∨ p = 1 ∨ p = 2 ∨ p = 3 ∨ p = 4 ∨ p = 5 ∨ p = 6 from by omega) with rfl | rfl | rfl | rfl | rfl | rfl | rfl <;> rfl)
      have o6 := o5.setMore hml hlt 6 (by omega) (.int .i64 (k + 7 * (j : Int) + 1 + 1 + 1 + 1 + 1 + 1)) ⟨mkT (k + 7 * (j : Int)), k + 7 * (j : Int) + 1, k + 7 * (j : Int) + 1 + 1, k + 7 * (j : Int) + 1 + 1 + 1, k + 7 * (j : Int) + 1 + 1 + 1 + 1, k + 7 * (j : Int) + 1 + 1 + 1 + 1 + 1, k + 7 * (j : Int) + 1 + 1 + 1 + 1 + 1 + 1⟩ (by intro p hp; rcases (show p = 0 ∨ p = 1 ∨ p = 2 ∨ p = 3 ∨ p = 4 ∨ p = 5 ∨ p = 6 from by omega) with rfl | rfl | rfl | rfl | rfl | rfl | rfl <;> rfl)
      have O3 : Hid (OwnE 7 tsC (((((((w1.setCell ⟨g, j * 7, none⟩ (.string (mkT (k + 7 * (j : Int))))).setCell ⟨g, j * 7 + 1, none⟩ (.int .i64 (k + 7 * (j : Int) + 1))).setCell ⟨g, j * 7 + 2, none⟩ (.int .i64 (k + 7 * (j : Int) + 1 + 1))).setCell ⟨g, j * 7 + 3, none⟩ (.int .i64 (k + 7 * (j : Int) + 1 + 1 + 1))).setCell ⟨g, j * 7 + 4, none⟩ (.int .i64 (k + 7 * (j : Int) + 1 + 1 + 1 + 1))).setCell ⟨g, j * 7 + 5, none⟩ (.int .i64 (k + 7 * (j : Int) + 1 + 1 + 1 + 1 + 1))).setCell ⟨g, j * 7 + 6, none⟩ (.int .i64 (k + 7 * (j : Int) + 1 + 1 + 1 + 1 + 1 + 1))) base 90 (.slice (some ⟨g, 0, none⟩) ps.length c) (markL mkTs 7 ps k (j + 1))) := hide o6
      have G3 : Hid (w.grownBy (((((((w1.setCell ⟨g, j * 7, none⟩ (.string (mkT (k + 7 * (j : Int))))).setCell ⟨g, j * 7 + 1, none⟩ (.int .i64 (k + 7 * (j : Int) + 1))).setCell ⟨g, j * 7 + 2, none⟩ (.int .i64 (k + 7 * (j : Int) + 1 + 1))).setCell ⟨g, j * 7 + 3, none⟩ (.int .i64 (k + 7 * (j : Int) + 1 + 1 + 1))).setCell ⟨g, j * 7 + 4, none⟩ (.int .i64 (k + 7 * (j : Int) + 1 + 1 + 1 + 1))).setCell ⟨g, j * 7 + 5, none⟩ (.int .i64 (k + 7 * (j : Int) + 1 + 1 + 1 + 1 + 1))).setCell ⟨g, j * 7 + 6, none⟩ (.int .i64 (k + 7 * (j : Int) + 1 + 1 + 1 + 1 + 1 + 1))) (Value.slice (some ⟨g, 0, none⟩) ps.length c).ownBlock) := hide (grown_set (grown_set (grown_set (grown_set (grown_set (grown_set (grown_set hgr _ _) _ _) _ _) _ _) _ _) _ _) _ _)
      clear o0 o1 o2 o3 o4 o5 o6 how hgr hml b1
      go_wp2
      go_roundw
      case rel => exact ⟨j + 1, by omega, by go_num, by go_num, unhide O3, unhide G3⟩
      case measure => simp [intOf]; omega
    · have hkk : j = ps.length := by omega
      subst hkk
      have O := hide how
      have G := hide hgr
      clear how hgr hml
      go_wp2
      go_ret
      exact ⟨rfl, unhide O, unhide G⟩
set_option maxRecDepth 20000 in
set_option maxHeartbeats 2000000 in
theorem heldTaskS_any (base : Nat) (a : Option Addr) (len c : Nat) (ps : List Ts) (k : Int) (w : World) (ho : OwnE 7 tsC w base 90 (.slice a len c) (markL mkTs 7 ps k len)) (hl : ps.length = len) (h1 : len ≤ 1048576) (hk0 : 1 ≤ k) (hk1 : k ≤ 900000000) :
    Calls Tryz.prog 42 #[.slice a len c, .int .i64 k] w fun e w' => e = .returned (.int .i64 (k + 7 * len)) ∧ Below w.heap.size w w' := by
  subst hl
  have HO := hide (OwnE.row ho).open_
  clear ho
  go_enter Tryz.func42, Tryz.ntmps42
  go_wp2
  go_loopw [1, 5] (fun kk i wr => ∃ j : Nat, j ≤ ps.length ∧ i = .int .i64 j ∧ kk = .int .i64 (k + 7 * j) ∧ Below w.heap.size w wr) (fun _ i _ => ps.length - (intOf i).toNat)
  case atStart => exact ⟨0, Nat.zero_le _, rfl, by simp, Below.refl _ _⟩
  case round =>
    obtain ⟨j, hj, rfl, rfl, hbel⟩ := hrel
    have BW := hide hbel
    by_cases hlt : j < ps.length
    · rcases (unhide HO) with ⟨h0, _⟩ | ⟨bb, off, rfl, _, hc⟩
      · omega
      have hm := markL_at mkTs 7 ps k ps.length (Nat.le_refl _) j hlt
      obtain ⟨ι, fW, _, hcb, hcl⟩ := belClass wr
      have HB := hide hcb
      have HA := hide hcl
      obtain ⟨y0, hy0⟩ := hcl wr (Below.refl _ _)
      rw [hy0]
      have c0 : ∀ x, (fW x).cell? ⟨bb, off + j * 7, none⟩ = some (.string (mkT (k + 7 * (j : Int)))) := fun x => by have h := hc j hlt 0 (by omega); rw [hm] at h; exact ((hbel.trans ((hcb x).mono hbel.size)).cell (block_lt_of_cell h)).trans h
      have c1 : ∀ x, (fW x).cell? ⟨bb, off + j * 7 + 1, none⟩ = some (.int .i64 (k + 7 * (j : Int) + 1)) := fun x => by have h := hc j hlt 1 (by omega); rw [hm] at h; exact ((hbel.trans ((hcb x).mono hbel.size)).cell (block_lt_of_cell h)).trans h
      have c2 : ∀ x, (fW x).cell? ⟨bb, off + j * 7 + 2, none⟩ = some (.int .i64 (k + 7 * (j : Int) + 1 + 1)) := fun x => by have h := hc j hlt 2 (by omega); rw [hm] at h; exact ((hbel.trans ((hcb x).mono hbel.size)).cell (block_lt_of_cell h)).trans h
      have c3 : ∀ x, (fW x).cell? ⟨bb, off + j * 7 + 3, none⟩ = some (.int .i64 (k + 7 * (j : Int) + 1 + 1 + 1)) := fun x => by have h := hc j hlt 3 (by omega); rw [hm] at h; exact ((hbel.trans ((hcb x).mono hbel.size)).cell (block_lt_of_cell h)).trans h
      have c4 : ∀ x, (fW x).cell? ⟨bb, off + j * 7 + 4, none⟩ = some (.int .i64 (k + 7 * (j : Int) + 1 + 1 + 1 + 1)) := fun x => by have h := hc j hlt 4 (by omega); rw [hm] at h; exact ((hbel.trans ((hcb x).mono hbel.size)).cell (block_lt_of_cell h)).trans h
      have c5 : ∀ x, (fW x).cell? ⟨bb, off + j * 7 + 5, none⟩ = some (.int .i64 (k + 7 * (j : Int) + 1 + 1 + 1 + 1 + 1)) := fun x => by have h := hc j hlt 5 (by omega); rw [hm] at h; exact ((hbel.trans ((hcb x).mono hbel.size)).cell (block_lt_of_cell h)).trans h
      have c6 : ∀ x, (fW x).cell? ⟨bb, off + j * 7 + 6, none⟩ = some (.int .i64 (k + 7 * (j : Int) + 1 + 1 + 1 + 1 + 1 + 1)) := fun x => by have h := hc j hlt 6 (by omega); rw [hm] at h; exact ((hbel.trans ((hcb x).mono hbel.size)).cell (block_lt_of_cell h)).trans h
      have hi1 : (j : Int) < (ps.length : Int) := by omega
      clear hc hm hcb hcl hy0 hbel
      go_wp2_with fail
      repeat (refine wp_region_bel (fun w' h => (unhide HA) w' ((unhide HB _).trans (h.mono (unhide HB _).size))) (by kernel_rfl) (by kernel_rfl) ?_; (repeat (go_big_quiet_step (first | (go_at_call 41; exact belQ (unhide HB) (unhide HA) (markText_any _ _ (by omega) (by omega)))))); refine wpQuiet_nil ?_; rintro _ ⟨y, rfl⟩; (first | go_wp2_with fail | go_wp2))
      go_roundw
      case rel => exact ⟨j + 1, by omega, by go_num, by go_num, (unhide BW).trans ((unhide HB _).mono (unhide BW).size)⟩
      case measure => simp [intOf]; omega
    · have hkk : j = ps.length := by omega
      subst hkk
      clear hbel
      go_wp2
      go_ret
      exact ⟨rfl, unhide BW⟩

end Go.Proofs.YticdccdkjepifaaGreat
