/-
  The law's size, copy, comparison and marks of a net. The copy at lists of at most 1048576; nothing that was there is written, the marks only into the net's own lists.
-/
import Derived.Test.YtpmplcbagkhigapBlk
import Derived.Test.YtpmplcbagkhigapRowSr
import Derived.Test.YtpmplcbagkhigapRowTi
import Derived.Test.YtpmplcbagkhigapRowUs
import Derived.Test.YtpmplcbagkhigapMarkSr
import Derived.Test.YtpmplcbagkhigapMarkTi
import Derived.Test.YtpmplcbagkhigapMarkUs
namespace Go.Proofs.Ytpmplcbagkhigap
open Go.RowKit

/-- A net's three lists, read. -/
structure NetIn (w : World) (a1 a2 a3 : Option Addr) (l1 l2 l3 : Nat) (ss : List Sr) (ts : List Ti) (us : List Us) : Prop where
  r1 : RowE 3 srC w a1 l1 ss
  r2 : RowE 3 tiC w a2 l2 ts
  r3 : RowE 3 usC w a3 l3 us
theorem NetIn.below {w w' : World} {a1 a2 a3 : Option Addr} {l1 l2 l3 : Nat} {ss : List Sr} {ts : List Ti} {us : List Us} (h : NetIn w a1 a2 a3 l1 l2 l3 ss ts us) (k : Below w.heap.size w w') : NetIn w' a1 a2 a3 l1 l2 l3 ss ts us :=
  ⟨h.r1.below k, h.r2.below k, h.r3.below k⟩
/-- A net's three lists that a call has made, each in a block of its own. -/
structure NetOwn (w : World) (base : Nat) (g1 g2 g3 l1 l2 l3 : Nat) (ss : List Sr) (ts : List Ti) (us : List Us) : Prop where
  o1 : OwnE 3 srC w base 66 (.slice (some ⟨g1, 0, none⟩) l1 l1) ss
  o2 : OwnE 3 tiC w base 68 (.slice (some ⟨g2, 0, none⟩) l2 l2) ts
  o3 : OwnE 3 usC w base 70 (.slice (some ⟨g3, 0, none⟩) l3 l3) us
  n12 : g1 < g2
  n23 : g2 < g3
theorem NetOwn.below {w w' : World} {base g1 g2 g3 l1 l2 l3 : Nat} {ss : List Sr} {ts : List Ti} {us : List Us} (h : NetOwn w base g1 g2 g3 l1 l2 l3 ss ts us) (k : Below w.heap.size w w') : NetOwn w' base g1 g2 g3 l1 l2 l3 ss ts us :=
  ⟨h.o1.below k, h.o2.below k, h.o3.below k, h.n12, h.n23⟩
theorem NetOwn.mono {w : World} {base base' g1 g2 g3 l1 l2 l3 : Nat} {ss : List Sr} {ts : List Ti} {us : List Us} (h : NetOwn w base g1 g2 g3 l1 l2 l3 ss ts us) (hb : base' ≤ base) : NetOwn w base' g1 g2 g3 l1 l2 l3 ss ts us :=
  ⟨h.o1.mono hb, h.o2.mono hb, h.o3.mono hb, h.n12, h.n23⟩
theorem NetOwn.read {w : World} {base g1 g2 g3 l1 l2 l3 : Nat} {ss : List Sr} {ts : List Ti} {us : List Us} (h : NetOwn w base g1 g2 g3 l1 l2 l3 ss ts us) : NetIn w (some ⟨g1, 0, none⟩) (some ⟨g2, 0, none⟩) (some ⟨g3, 0, none⟩) l1 l2 l3 ss ts us :=
  ⟨h.o1.row, h.o2.row, h.o3.row⟩

set_option maxHeartbeats 2000000 in
theorem szNet7_any (n : Int) (a1 a2 a3 : Option Addr) (l1 c1 l2 c2 l3 c3 : Nat) (w : World) (h1 : l1 ≤ 9223372036854775807) (h2 : l2 ≤ 9223372036854775807) (h3 : l3 ≤ 9223372036854775807) :
    Calls Try.prog 8 #[.agg #[.int .i64 n, .slice a1 l1 c1, .slice a2 l2 c2, .slice a3 l3 c3], .int .i64 1048576] w fun x w' => (∃ r : Int, x = .returned (.int .i64 r) ∧ (r < 0 ∨ (0 ≤ r ∧ l1 ≤ 1048576 ∧ l2 ≤ 1048576 ∧ l3 ≤ 1048576))) ∧ Below w.heap.size w w' := by
  by_cases q1 : (l1 : Int) ≤ 1048576
  · by_cases q2 : (l2 : Int) ≤ 1048576 - l1
    · by_cases q3 : (l3 : Int) ≤ 1048576 - l1 - l2
      · go_enter Try.func8, Try.ntmps8
        go_wp2_with (first
          | (go_at_call 29; refine (szSourceS_yes a1 l1 c1 1048576 _ (by omega) q1).mono ?_; rintro e w' ⟨rfl, hw⟩; subst w')
          | (go_at_call 30; refine (szTieS_yes a2 l2 c2 (1048576 - l1) _ (by omega) q2).mono ?_; rintro e w' ⟨rfl, hw⟩; subst w')
          | (go_at_call 31; refine (szUseS_yes a3 l3 c3 (1048576 - l1 - l2) _ (by omega) q3).mono ?_; rintro e w' ⟨rfl, hw⟩; subst w'))
        go_ret
        exact ⟨⟨_, rfl, .inr ⟨by omega, by omega, by omega, by omega⟩⟩, bel1 _⟩
      · go_enter Try.func8, Try.ntmps8
        go_wp2_with (first
          | (go_at_call 29; refine (szSourceS_yes a1 l1 c1 1048576 _ (by omega) q1).mono ?_; rintro e w' ⟨rfl, hw⟩; subst w')
          | (go_at_call 30; refine (szTieS_yes a2 l2 c2 (1048576 - l1) _ (by omega) q2).mono ?_; rintro e w' ⟨rfl, hw⟩; subst w')
          | (go_at_call 31; refine (szUseS_no a3 l3 c3 (1048576 - l1 - l2) _ (by omega) (by omega) h3 (by omega)).mono ?_; rintro e w' ⟨rfl, hw⟩; subst w'))
        go_ret
        exact ⟨⟨-1, rfl, .inl (by omega)⟩, bel1 _⟩
    · go_enter Try.func8, Try.ntmps8
      go_wp2_with (first
        | (go_at_call 29; refine (szSourceS_yes a1 l1 c1 1048576 _ (by omega) q1).mono ?_; rintro e w' ⟨rfl, hw⟩; subst w')
        | (go_at_call 30; refine (szTieS_no a2 l2 c2 (1048576 - l1) _ (by omega) (by omega) h2 (by omega)).mono ?_; rintro e w' ⟨rfl, hw⟩; subst w'))
      go_ret
      exact ⟨⟨-1, rfl, .inl (by omega)⟩, bel1 _⟩
  · go_enter Try.func8, Try.ntmps8
    go_wp2_with (go_at_call 29; refine (szSourceS_no a1 l1 c1 1048576 _ (by omega) (by omega) h1 (by omega)).mono ?_; rintro e w' ⟨rfl, hw⟩; subst w')
    go_ret
    exact ⟨⟨-1, rfl, .inl (by omega)⟩, bel1 _⟩
set_option maxRecDepth 20000 in
set_option maxHeartbeats 4000000 in
theorem toNet7_own (n : Int) (a1 a2 a3 : Option Addr) (l1 c1 l2 c2 l3 c3 : Nat) (ss : List Sr) (ts : List Ti) (us : List Us) (w : World) (hr : NetIn w a1 a2 a3 l1 l2 l3 ss ts us) (h1 : l1 ≤ 1048576) (h2 : l2 ≤ 1048576) (h3 : l3 ≤ 1048576) :
    Calls Try.prog 10 #[.agg #[.int .i64 n, .slice a1 l1 c1, .slice a2 l2 c2, .slice a3 l3 c3]] w fun x w' => (∃ g1 g2 g3, x = .returned (.agg #[.int .i64 n, .slice (some ⟨g1, 0, none⟩) l1 l1, .slice (some ⟨g2, 0, none⟩) l2 l2, .slice (some ⟨g3, 0, none⟩) l3 l3]) ∧ NetOwn w' w.heap.size g1 g2 g3 l1 l2 l3 ss ts us) ∧ Below w.heap.size w w' := by
  obtain ⟨W, hW⟩ : ∃ W, W = ((w.alloc (Obj.cells #[.int .i64 n, .slice a1 l1 c1, .slice a2 l2 c2, .slice a3 l3 c3] 26)).alloc (Obj.cells #[.int .i64 0, .slice none 0 0, .slice none 0 0, .slice none 0 0] 33)).alloc (Obj.cells #[.int .i64 n, .slice none 0 0, .slice none 0 0, .slice none 0 0] 33) := ⟨_, rfl⟩
  have KP : Hid (Blk W w.heap.size [.int .i64 n, .slice a1 l1 c1, .slice a2 l2 c2, .slice a3 l3 c3]) := hide (by
    rw [hW]; exact ((Blk.new (w := w) [.int .i64 n, .slice a1 l1 c1, .slice a2 l2 c2, .slice a3 l3 c3] 26).alloc _).alloc _)
  have KR : Hid (Blk W (w.heap.size + 1) [.int .i64 0, .slice none 0 0, .slice none 0 0, .slice none 0 0]) := hide (by
    rw [hW]
    have := (Blk.new (w := w.alloc (Obj.cells #[.int .i64 n, .slice a1 l1 c1, .slice a2 l2 c2, .slice a3 l3 c3] 26)) [.int .i64 0, .slice none 0 0, .slice none 0 0, .slice none 0 0] 33).alloc (Obj.cells #[.int .i64 n, .slice none 0 0, .slice none 0 0, .slice none 0 0] 33)
    simpa using this)
  have KO : Hid (Blk W (w.heap.size + 1 + 1) [.int .i64 n, .slice none 0 0, .slice none 0 0, .slice none 0 0]) := hide (by
    rw [hW]
    have := Blk.new (w := (w.alloc (Obj.cells #[.int .i64 n, .slice a1 l1 c1, .slice a2 l2 c2, .slice a3 l3 c3] 26)).alloc (Obj.cells #[.int .i64 0, .slice none 0 0, .slice none 0 0, .slice none 0 0] 33)) [.int .i64 n, .slice none 0 0, .slice none 0 0, .slice none 0 0] 33
    simpa using this)
  have HB : Hid (Below w.heap.size w W) := hide (by rw [hW]; exact bel3 _ _ _)
  have hsz : w.heap.size + 1 + 1 + 1 ≤ W.heap.size := by rw [hW]; simp
  have HI := hide (hr.below (unhide HB))
  have HR0 := hide hr
  have HW := hide hW
  clear hr hW
  go_enter Try.func10, Try.ntmps10
  go_wp2_with fail
  rw [← unhide HW]
  clear HW
  obtain ⟨G1, hG1⟩ : ∃ G, W.heap.size = G := ⟨_, rfl⟩
  refine (toSourceS_own a1 l1 c1 ss W (unhide HI).r1 h1).mono ?_
  rintro x v1 ⟨rfl, ow, bw⟩
  rw [hG1] at ow ⊢
  have HB := hide ((unhide HB).trans (bw.mono (unhide HB).size))
  have HI := hide ((unhide HI).below bw)
  have KP := hide ((unhide KP).below bw)
  have KR := hide ((unhide KR).below bw)
  have KO := hide ((unhide KO).below bw)
  have sz1 : G1 < v1.heap.size := ((ow.lies G1 rfl).2)
  have O1 := hide ow
  have hsz : w.heap.size + 1 + 1 + 1 ≤ G1 := by omega
  clear ow bw
  obtain ⟨V1, hV1⟩ : ∃ V, V = v1.setCell ⟨w.heap.size + 1 + 1, 1, none⟩ (.slice (some ⟨G1, 0, none⟩) l1 l1) := ⟨_, rfl⟩
  have y1 : v1.cell? ⟨w.heap.size + 1 + 1, 1, none⟩ = some (.slice none 0 0) := (unhide KO).c 1 (by simp)
  have z1 : v1.frozen? ⟨w.heap.size + 1 + 1, 1, none⟩ = false := (unhide KO).f 1 (by simp)
  have KO := hide ((unhide KO).set 1 (by simp) (.slice (some ⟨G1, 0, none⟩) l1 l1))
  have KP := hide ((unhide KP).other (p := ⟨w.heap.size + 1 + 1, 1, none⟩) (by simp; omega) (.slice (some ⟨G1, 0, none⟩) l1 l1))
  have KR := hide ((unhide KR).other (p := ⟨w.heap.size + 1 + 1, 1, none⟩) (by simp) (.slice (some ⟨G1, 0, none⟩) l1 l1))
  have O1 := hide ((unhide O1).set_other (S := w.heap.size + 1 + 1) (o := 1) (.slice (some ⟨G1, 0, none⟩) l1 l1) (by simp only [Value.ownBlock, ne_eq, Option.some.injEq]; omega))
  have HB := hide ((unhide HB).setCell (p := ⟨w.heap.size + 1 + 1, 1, none⟩) (by simp; omega) (.slice (some ⟨G1, 0, none⟩) l1 l1))
  have szv1 : (v1.setCell ⟨w.heap.size + 1 + 1, 1, none⟩ (.slice (some ⟨G1, 0, none⟩) l1 l1)).heap.size = v1.heap.size := by simp [World.setCell]
  rw [← hV1] at KO KP KR HB szv1 O1
  have HI : Hid (NetIn V1 a1 a2 a3 l1 l2 l3 ss ts us) := hide ((unhide HR0).below (unhide HB))
  have m2 : V1.cell? ⟨w.heap.size, 2, none⟩ = some (.slice a2 l2 c2) := (unhide KP).c 2 (by simp)
  rw [hV1] at m2
  have HV1 := hide hV1
  clear hV1
  go_wp2_with fail
  rw [← unhide HV1]
  clear HV1 m2 y1 z1
  rw [← szv1] at sz1
  obtain ⟨G2, hG2⟩ : ∃ G, V1.heap.size = G := ⟨_, rfl⟩
  refine (toTieS_own a2 l2 c2 ts V1 (unhide HI).r2 h2).mono ?_
  rintro x v2 ⟨rfl, ow, bw⟩
  rw [hG2] at ow ⊢
  have HB := hide ((unhide HB).trans (bw.mono (unhide HB).size))
  have HI := hide ((unhide HI).below bw)
  have KP := hide ((unhide KP).below bw)
  have KR := hide ((unhide KR).below bw)
  have KO := hide ((unhide KO).below bw)
  have sz2 : G2 < v2.heap.size := ((ow.lies G2 rfl).2)
  have O1 := hide ((unhide O1).below bw)
  have O2 := hide ow
  have hs2 : G1 < G2 := by rw [← hG2]; omega
  clear ow bw
  obtain ⟨V2, hV2⟩ : ∃ V, V = v2.setCell ⟨w.heap.size + 1 + 1, 2, none⟩ (.slice (some ⟨G2, 0, none⟩) l2 l2) := ⟨_, rfl⟩
  have y2 : v2.cell? ⟨w.heap.size + 1 + 1, 2, none⟩ = some (.slice none 0 0) := (unhide KO).c 2 (by simp)
  have z2 : v2.frozen? ⟨w.heap.size + 1 + 1, 2, none⟩ = false := (unhide KO).f 2 (by simp)
  have KO := hide ((unhide KO).set 2 (by simp) (.slice (some ⟨G2, 0, none⟩) l2 l2))
  have KP := hide ((unhide KP).other (p := ⟨w.heap.size + 1 + 1, 2, none⟩) (by simp; omega) (.slice (some ⟨G2, 0, none⟩) l2 l2))
  have KR := hide ((unhide KR).other (p := ⟨w.heap.size + 1 + 1, 2, none⟩) (by simp) (.slice (some ⟨G2, 0, none⟩) l2 l2))
  have O1 := hide ((unhide O1).set_other (S := w.heap.size + 1 + 1) (o := 2) (.slice (some ⟨G2, 0, none⟩) l2 l2) (by simp only [Value.ownBlock, ne_eq, Option.some.injEq]; omega))
  have O2 := hide ((unhide O2).set_other (S := w.heap.size + 1 + 1) (o := 2) (.slice (some ⟨G2, 0, none⟩) l2 l2) (by simp only [Value.ownBlock, ne_eq, Option.some.injEq]; omega))
  have HB := hide ((unhide HB).setCell (p := ⟨w.heap.size + 1 + 1, 2, none⟩) (by simp; omega) (.slice (some ⟨G2, 0, none⟩) l2 l2))
  have szv2 : (v2.setCell ⟨w.heap.size + 1 + 1, 2, none⟩ (.slice (some ⟨G2, 0, none⟩) l2 l2)).heap.size = v2.heap.size := by simp [World.setCell]
  rw [← hV2] at KO KP KR HB szv2 O1 O2
  have HI : Hid (NetIn V2 a1 a2 a3 l1 l2 l3 ss ts us) := hide ((unhide HR0).below (unhide HB))
  have m3 : V2.cell? ⟨w.heap.size, 3, none⟩ = some (.slice a3 l3 c3) := (unhide KP).c 3 (by simp)
  rw [hV2] at m3
  have HV2 := hide hV2
  clear hV2
  go_wp2_with fail
  rw [← unhide HV2]
  clear HV2 m3 y2 z2
  rw [← szv2] at sz2
  obtain ⟨G3, hG3⟩ : ∃ G, V2.heap.size = G := ⟨_, rfl⟩
  refine (toUseS_own a3 l3 c3 us V2 (unhide HI).r3 h3).mono ?_
  rintro x v3 ⟨rfl, ow, bw⟩
  rw [hG3] at ow ⊢
  have HB := hide ((unhide HB).trans (bw.mono (unhide HB).size))
  have HI := hide ((unhide HI).below bw)
  have KP := hide ((unhide KP).below bw)
  have KR := hide ((unhide KR).below bw)
  have KO := hide ((unhide KO).below bw)
  have sz3 : G3 < v3.heap.size := ((ow.lies G3 rfl).2)
  have O1 := hide ((unhide O1).below bw)
  have O2 := hide ((unhide O2).below bw)
  have O3 := hide ow
  have hs3 : G2 < G3 := by rw [← hG3]; omega
  clear ow bw
  obtain ⟨V3, hV3⟩ : ∃ V, V = v3.setCell ⟨w.heap.size + 1 + 1, 3, none⟩ (.slice (some ⟨G3, 0, none⟩) l3 l3) := ⟨_, rfl⟩
  have y3 : v3.cell? ⟨w.heap.size + 1 + 1, 3, none⟩ = some (.slice none 0 0) := (unhide KO).c 3 (by simp)
  have z3 : v3.frozen? ⟨w.heap.size + 1 + 1, 3, none⟩ = false := (unhide KO).f 3 (by simp)
  have KO := hide ((unhide KO).set 3 (by simp) (.slice (some ⟨G3, 0, none⟩) l3 l3))
  have KP := hide ((unhide KP).other (p := ⟨w.heap.size + 1 + 1, 3, none⟩) (by simp; omega) (.slice (some ⟨G3, 0, none⟩) l3 l3))
  have KR := hide ((unhide KR).other (p := ⟨w.heap.size + 1 + 1, 3, none⟩) (by simp) (.slice (some ⟨G3, 0, none⟩) l3 l3))
  have O1 := hide ((unhide O1).set_other (S := w.heap.size + 1 + 1) (o := 3) (.slice (some ⟨G3, 0, none⟩) l3 l3) (by simp only [Value.ownBlock, ne_eq, Option.some.injEq]; omega))
  have O2 := hide ((unhide O2).set_other (S := w.heap.size + 1 + 1) (o := 3) (.slice (some ⟨G3, 0, none⟩) l3 l3) (by simp only [Value.ownBlock, ne_eq, Option.some.injEq]; omega))
  have O3 := hide ((unhide O3).set_other (S := w.heap.size + 1 + 1) (o := 3) (.slice (some ⟨G3, 0, none⟩) l3 l3) (by simp only [Value.ownBlock, ne_eq, Option.some.injEq]; omega))
  have HB := hide ((unhide HB).setCell (p := ⟨w.heap.size + 1 + 1, 3, none⟩) (by simp; omega) (.slice (some ⟨G3, 0, none⟩) l3 l3))
  have szv3 : (v3.setCell ⟨w.heap.size + 1 + 1, 3, none⟩ (.slice (some ⟨G3, 0, none⟩) l3 l3)).heap.size = v3.heap.size := by simp [World.setCell]
  rw [← hV3] at KO KP KR HB szv3 O1 O2 O3
  have hO : Hid (Blk V3 (w.heap.size + 1 + 1) [(.int .i64 n), (.slice (some ⟨G1, 0, none⟩) l1 l1), (.slice (some ⟨G2, 0, none⟩) l2 l2), (.slice (some ⟨G3, 0, none⟩) l3 l3)]) := KO
  have u0 : V3.cell? ⟨w.heap.size + 1 + 1, 0, none⟩ = some (.int .i64 n) := (unhide hO).c 0 (by simp)
  have r0 : V3.cell? ⟨w.heap.size + 1, 0, none⟩ = some (.int .i64 0) := (unhide KR).c 0 (by simp)
  have t0 : V3.frozen? ⟨w.heap.size + 1, 0, none⟩ = false := (unhide KR).f 0 (by simp)
  have u1 : V3.cell? ⟨w.heap.size + 1 + 1, 1, none⟩ = some (.slice (some ⟨G1, 0, none⟩) l1 l1) := (unhide hO).c 1 (by simp)
  have r1 : V3.cell? ⟨w.heap.size + 1, 1, none⟩ = some (.slice none 0 0) := (unhide KR).c 1 (by simp)
  have t1 : V3.frozen? ⟨w.heap.size + 1, 1, none⟩ = false := (unhide KR).f 1 (by simp)
  have u2 : V3.cell? ⟨w.heap.size + 1 + 1, 2, none⟩ = some (.slice (some ⟨G2, 0, none⟩) l2 l2) := (unhide hO).c 2 (by simp)
  have r2 : V3.cell? ⟨w.heap.size + 1, 2, none⟩ = some (.slice none 0 0) := (unhide KR).c 2 (by simp)
  have t2 : V3.frozen? ⟨w.heap.size + 1, 2, none⟩ = false := (unhide KR).f 2 (by simp)
  have u3 : V3.cell? ⟨w.heap.size + 1 + 1, 3, none⟩ = some (.slice (some ⟨G3, 0, none⟩) l3 l3) := (unhide hO).c 3 (by simp)
  have r3 : V3.cell? ⟨w.heap.size + 1, 3, none⟩ = some (.slice none 0 0) := (unhide KR).c 3 (by simp)
  have t3 : V3.frozen? ⟨w.heap.size + 1, 3, none⟩ = false := (unhide KR).f 3 (by simp)
  rw [hV3] at u0 u1 u2 u3 r0 r1 r2 r3 t0 t1 t2 t3
  have HB := hide ((unhide HB).setCell (p := ⟨w.heap.size + 1, 0, none⟩) (by simp) (.int .i64 n))
  have O1 := hide ((unhide O1).set_other (S := w.heap.size + 1) (o := 0) (.int .i64 n) (by simp only [Value.ownBlock, ne_eq, Option.some.injEq]; omega))
  have O2 := hide ((unhide O2).set_other (S := w.heap.size + 1) (o := 0) (.int .i64 n) (by simp only [Value.ownBlock, ne_eq, Option.some.injEq]; omega))
  have O3 := hide ((unhide O3).set_other (S := w.heap.size + 1) (o := 0) (.int .i64 n) (by simp only [Value.ownBlock, ne_eq, Option.some.injEq]; omega))
  have HB := hide ((unhide HB).setCell (p := ⟨w.heap.size + 1, 1, none⟩) (by simp) (.slice (some ⟨G1, 0, none⟩) l1 l1))
  have O1 := hide ((unhide O1).set_other (S := w.heap.size + 1) (o := 1) (.slice (some ⟨G1, 0, none⟩) l1 l1) (by simp only [Value.ownBlock, ne_eq, Option.some.injEq]; omega))
  have O2 := hide ((unhide O2).set_other (S := w.heap.size + 1) (o := 1) (.slice (some ⟨G1, 0, none⟩) l1 l1) (by simp only [Value.ownBlock, ne_eq, Option.some.injEq]; omega))
  have O3 := hide ((unhide O3).set_other (S := w.heap.size + 1) (o := 1) (.slice (some ⟨G1, 0, none⟩) l1 l1) (by simp only [Value.ownBlock, ne_eq, Option.some.injEq]; omega))
  have HB := hide ((unhide HB).setCell (p := ⟨w.heap.size + 1, 2, none⟩) (by simp) (.slice (some ⟨G2, 0, none⟩) l2 l2))
  have O1 := hide ((unhide O1).set_other (S := w.heap.size + 1) (o := 2) (.slice (some ⟨G2, 0, none⟩) l2 l2) (by simp only [Value.ownBlock, ne_eq, Option.some.injEq]; omega))
  have O2 := hide ((unhide O2).set_other (S := w.heap.size + 1) (o := 2) (.slice (some ⟨G2, 0, none⟩) l2 l2) (by simp only [Value.ownBlock, ne_eq, Option.some.injEq]; omega))
  have O3 := hide ((unhide O3).set_other (S := w.heap.size + 1) (o := 2) (.slice (some ⟨G2, 0, none⟩) l2 l2) (by simp only [Value.ownBlock, ne_eq, Option.some.injEq]; omega))
  have HB := hide ((unhide HB).setCell (p := ⟨w.heap.size + 1, 3, none⟩) (by simp) (.slice (some ⟨G3, 0, none⟩) l3 l3))
  have O1 := hide ((unhide O1).set_other (S := w.heap.size + 1) (o := 3) (.slice (some ⟨G3, 0, none⟩) l3 l3) (by simp only [Value.ownBlock, ne_eq, Option.some.injEq]; omega))
  have O2 := hide ((unhide O2).set_other (S := w.heap.size + 1) (o := 3) (.slice (some ⟨G3, 0, none⟩) l3 l3) (by simp only [Value.ownBlock, ne_eq, Option.some.injEq]; omega))
  have O3 := hide ((unhide O3).set_other (S := w.heap.size + 1) (o := 3) (.slice (some ⟨G3, 0, none⟩) l3 l3) (by simp only [Value.ownBlock, ne_eq, Option.some.injEq]; omega))
  rw [hV3] at HB O1 O2 O3
  have HN := hide (NetOwn.mk ((unhide O1).mono (base' := w.heap.size) (by omega)) ((unhide O2).mono (base' := w.heap.size) (by omega)) ((unhide O3).mono (base' := w.heap.size) (by omega)) hs2 hs3)
  clear O1 O2 O3 KO KP KR hO hV3
  go_wp2_with fail
  refine bodyPost_ret (v := .agg #[(.int .i64 n), (.slice (some ⟨G1, 0, none⟩) l1 l1), (.slice (some ⟨G2, 0, none⟩) l2 l2), (.slice (some ⟨G3, 0, none⟩) l3 l3)]) (by simp [results, Try.results10, go_sem, *]) rfl ⟨⟨G1, G2, G3, rfl, unhide HN⟩, unhide HB⟩
theorem alike_all_sr (ss : List Sr) : ∀ i, i < ss.length → srAlike (elAt ss i) (elAt ss i) := fun _ _ => srAlike_refl _
theorem alike_all_ti (ts : List Ti) : ∀ i, i < ts.length → tiAlike (elAt ts i) (elAt ts i) := fun _ _ => tiAlike_refl _
theorem alike_all_us (us : List Us) : ∀ i, i < us.length → usAlike (elAt us i) (elAt us i) := fun _ _ => usAlike_refl _

set_option maxHeartbeats 2000000 in
theorem eqNet7_any (n : Int) (a1 a2 a3 : Option Addr) (l1 c1 l2 c2 l3 c3 : Nat) (b1 b2 b3 : Option Addr) (d1 d2 d3 : Nat) (ss : List Sr) (ts : List Ti) (us : List Us) (w : World) (hr : NetIn w a1 a2 a3 l1 l2 l3 ss ts us) (hq : NetIn w b1 b2 b3 l1 l2 l3 ss ts us) :
    Calls Try.prog 12 #[.agg #[.int .i64 n, .slice a1 l1 c1, .slice a2 l2 c2, .slice a3 l3 c3], .agg #[.int .i64 n, .slice b1 l1 d1, .slice b2 l2 d2, .slice b3 l3 d3]] w fun x w' => x = .returned (.bool true) ∧ Below w.heap.size w w' := by
  obtain ⟨W, hW⟩ : ∃ W, W = (w.alloc (Obj.cells #[.int .i64 n, .slice a1 l1 c1, .slice a2 l2 c2, .slice a3 l3 c3] 33)).alloc (Obj.cells #[.int .i64 n, .slice b1 l1 d1, .slice b2 l2 d2, .slice b3 l3 d3] 33) := ⟨_, rfl⟩
  have KA : Hid (Blk W w.heap.size [.int .i64 n, .slice a1 l1 c1, .slice a2 l2 c2, .slice a3 l3 c3]) := hide (by rw [hW]; exact (Blk.new (w := w) [.int .i64 n, .slice a1 l1 c1, .slice a2 l2 c2, .slice a3 l3 c3] 33).alloc _)
  have KB : Hid (Blk W (w.heap.size + 1) [.int .i64 n, .slice b1 l1 d1, .slice b2 l2 d2, .slice b3 l3 d3]) := hide (by
    rw [hW]
    have := Blk.new (w := w.alloc (Obj.cells #[.int .i64 n, .slice a1 l1 c1, .slice a2 l2 c2, .slice a3 l3 c3] 33)) [.int .i64 n, .slice b1 l1 d1, .slice b2 l2 d2, .slice b3 l3 d3] 33
    simpa using this)
  have HB : Hid (Below w.heap.size w W) := hide (by rw [hW]; exact bel2 _ _)
  have HA := hide (hr.below (unhide HB))
  have HQ := hide (hq.below (unhide HB))
  have hnn : (n != n) = false := by simp
  have HW := hide hW
  clear hr hq hW
  go_enter Try.func12, Try.ntmps12
  go_wp2_with fail
  rw [← unhide HW]
  clear HW
  refine (eqSourceS_alike _ _ _ _ _ _ ss ss _ (unhide HA).r1 (unhide HQ).r1 rfl (alike_all_sr ss)).mono ?_
  rintro x x1 ⟨rfl, bw⟩
  have HB := hide ((unhide HB).trans (bw.mono (unhide HB).size))
  have HA := hide ((unhide HA).below bw)
  have HQ := hide ((unhide HQ).below bw)
  have KA := hide ((unhide KA).below bw)
  have KB := hide ((unhide KB).below bw)
  clear bw
  have m2 : x1.cell? ⟨w.heap.size, 2, none⟩ = some (.slice a2 l2 c2) := (unhide KA).c 2 (by simp)
  have k2 : x1.cell? ⟨w.heap.size + 1, 2, none⟩ = some (.slice b2 l2 d2) := (unhide KB).c 2 (by simp)
  go_wp2_with fail
  clear m2 k2
  refine (eqTieS_alike _ _ _ _ _ _ ts ts _ (unhide HA).r2 (unhide HQ).r2 rfl (alike_all_ti ts)).mono ?_
  rintro x x2 ⟨rfl, bw⟩
  have HB := hide ((unhide HB).trans (bw.mono (unhide HB).size))
  have HA := hide ((unhide HA).below bw)
  have HQ := hide ((unhide HQ).below bw)
  have KA := hide ((unhide KA).below bw)
  have KB := hide ((unhide KB).below bw)
  clear bw
  have m3 : x2.cell? ⟨w.heap.size, 3, none⟩ = some (.slice a3 l3 c3) := (unhide KA).c 3 (by simp)
  have k3 : x2.cell? ⟨w.heap.size + 1, 3, none⟩ = some (.slice b3 l3 d3) := (unhide KB).c 3 (by simp)
  go_wp2_with fail
  clear m3 k3
  refine (eqUseS_alike _ _ _ _ _ _ us us _ (unhide HA).r3 (unhide HQ).r3 rfl (alike_all_us us)).mono ?_
  rintro x x3 ⟨rfl, bw⟩
  have HB := hide ((unhide HB).trans (bw.mono (unhide HB).size))
  have HA := hide ((unhide HA).below bw)
  have HQ := hide ((unhide HQ).below bw)
  have KA := hide ((unhide KA).below bw)
  have KB := hide ((unhide KB).below bw)
  clear bw
  go_wp2_with fail
  go_ret
  exact ⟨rfl, unhide HB⟩
end Go.Proofs.Ytpmplcbagkhigap
