/-
  The law's size, copy and comparison of a Panel. The copy at lists of at most 1048576; nothing that was there is written.
-/
import Derived.Test.YtjalfalgffphmawOnly
import Derived.Test.YtjalfalgffphmawStrTo
namespace Go.Proofs.Ytjalfalgffphmaw
open Go.RowKit
/-- Its lists, read. -/
structure PnIn (w : World) (a1 a2 a3 : Option Addr) (l1 l2 l3 : Nat) (z1 : List ByteArray) (z2 : List ByteArray) (z3 : List ByteArray) : Prop where
  r1 : RowE 1 stC w a1 l1 z1
  r2 : RowE 1 stC w a2 l2 z2
  r3 : RowE 1 stC w a3 l3 z3
theorem PnIn.below {w w' : World} {a1 a2 a3 : Option Addr} {l1 l2 l3 : Nat} {z1 : List ByteArray} {z2 : List ByteArray} {z3 : List ByteArray} (h : PnIn w a1 a2 a3 l1 l2 l3 z1 z2 z3) (k : Below w.heap.size w w') : PnIn w' a1 a2 a3 l1 l2 l3 z1 z2 z3 :=
  ⟨h.r1.below k, h.r2.below k, h.r3.below k⟩
/-- Its lists that a call has made, each in memory of its own. -/
structure PnOwn (w : World) (base : Nat) (a1 a2 a3 : Option Addr) (l1 c1 l2 c2 l3 c3 : Nat) (z1 : List ByteArray) (z2 : List ByteArray) (z3 : List ByteArray) : Prop where
  o1 : OwnE 1 stC w base 9 (.slice a1 l1 c1) z1
  o2 : OwnE 1 stC w base 9 (.slice a2 l2 c2) z2
  o3 : OwnE 1 stC w base 9 (.slice a3 l3 c3) z3
  p12 : ∀ g, (Value.slice a1 l1 c1).ownBlock = some g → (Value.slice a2 l2 c2).ownBlock ≠ some g
  p13 : ∀ g, (Value.slice a1 l1 c1).ownBlock = some g → (Value.slice a3 l3 c3).ownBlock ≠ some g
  p23 : ∀ g, (Value.slice a2 l2 c2).ownBlock = some g → (Value.slice a3 l3 c3).ownBlock ≠ some g
theorem PnOwn.below {w w' : World} {base : Nat} {a1 a2 a3 : Option Addr} {l1 c1 l2 c2 l3 c3 : Nat} {z1 : List ByteArray} {z2 : List ByteArray} {z3 : List ByteArray} (h : PnOwn w base a1 a2 a3 l1 c1 l2 c2 l3 c3 z1 z2 z3) (k : Below w.heap.size w w') : PnOwn w' base a1 a2 a3 l1 c1 l2 c2 l3 c3 z1 z2 z3 :=
  ⟨h.o1.below k, h.o2.below k, h.o3.below k, h.p12, h.p13, h.p23⟩
theorem PnOwn.mono {w : World} {base : Nat} {a1 a2 a3 : Option Addr} {l1 c1 l2 c2 l3 c3 : Nat} {z1 : List ByteArray} {z2 : List ByteArray} {z3 : List ByteArray} (h : PnOwn w base a1 a2 a3 l1 c1 l2 c2 l3 c3 z1 z2 z3) {base' : Nat} (hb : base' ≤ base) : PnOwn w base' a1 a2 a3 l1 c1 l2 c2 l3 c3 z1 z2 z3 :=
  ⟨h.o1.mono hb, h.o2.mono hb, h.o3.mono hb, h.p12, h.p13, h.p23⟩
theorem PnOwn.read {w : World} {base : Nat} {a1 a2 a3 : Option Addr} {l1 c1 l2 c2 l3 c3 : Nat} {z1 : List ByteArray} {z2 : List ByteArray} {z3 : List ByteArray} (h : PnOwn w base a1 a2 a3 l1 c1 l2 c2 l3 c3 z1 z2 z3) : PnIn w a1 a2 a3 l1 l2 l3 z1 z2 z3 :=
  ⟨h.o1.row, h.o2.row, h.o3.row⟩
/-- Blocks of its lists lie from base on, below a number. -/
def PnLies (base hi : Nat) (a1 a2 a3 : Option Addr) (l1 c1 l2 c2 l3 c3 : Nat) : Prop :=
  (∀ g, (Value.slice a1 l1 c1).ownBlock = some g → base ≤ g ∧ g < hi) ∧ (∀ g, (Value.slice a2 l2 c2).ownBlock = some g → base ≤ g ∧ g < hi) ∧ (∀ g, (Value.slice a3 l3 c3).ownBlock = some g → base ≤ g ∧ g < hi)
theorem PnOwn.lies {w : World} {base : Nat} {a1 a2 a3 : Option Addr} {l1 c1 l2 c2 l3 c3 : Nat} {z1 : List ByteArray} {z2 : List ByteArray} {z3 : List ByteArray} (h : PnOwn w base a1 a2 a3 l1 c1 l2 c2 l3 c3 z1 z2 z3) : PnLies base w.heap.size a1 a2 a3 l1 c1 l2 c2 l3 c3 :=
  ⟨h.o1.lies, h.o2.lies, h.o3.lies⟩
theorem PnOwn.only {w w' : World} {base : Nat} {a1 a2 a3 : Option Addr} {l1 c1 l2 c2 l3 c3 : Nat} {z1 : List ByteArray} {z2 : List ByteArray} {z3 : List ByteArray} {lo hi b u : Nat} (h : PnOwn w base a1 a2 a3 l1 c1 l2 c2 l3 c3 z1 z2 z3) (k : Only lo hi w w') (hl : PnLies b u a1 a2 a3 l1 c1 l2 c2 l3 c3) (hs : u ≤ lo ∨ hi ≤ b) : PnOwn w' base a1 a2 a3 l1 c1 l2 c2 l3 c3 z1 z2 z3 :=
  ⟨h.o1.only k (fun g hg => by have := hl.1 g hg; omega), h.o2.only k (fun g hg => by have := hl.2.1 g hg; omega), h.o3.only k (fun g hg => by have := hl.2.2 g hg; omega), h.p12, h.p13, h.p23⟩
theorem PnOwn.set_other {w : World} {base : Nat} {a1 a2 a3 : Option Addr} {l1 c1 l2 c2 l3 c3 : Nat} {z1 : List ByteArray} {z2 : List ByteArray} {z3 : List ByteArray} (h : PnOwn w base a1 a2 a3 l1 c1 l2 c2 l3 c3 z1 z2 z3) {S o : Nat} (u : Value) (n1 : (Value.slice a1 l1 c1).ownBlock ≠ some S) (n2 : (Value.slice a2 l2 c2).ownBlock ≠ some S) (n3 : (Value.slice a3 l3 c3).ownBlock ≠ some S) : PnOwn (w.setCell ⟨S, o, none⟩ u) base a1 a2 a3 l1 c1 l2 c2 l3 c3 z1 z2 z3 :=
  ⟨h.o1.set_other u n1, h.o2.set_other u n2, h.o3.set_other u n3, h.p12, h.p13, h.p23⟩
set_option maxRecDepth 20000 in
set_option maxHeartbeats 4000000 in
theorem toPanel_own (a1 a2 a3 : Option Addr) (l1 c1 l2 c2 l3 c3 : Nat) (z1 : List ByteArray) (z2 : List ByteArray) (z3 : List ByteArray) (w : World) (hr : PnIn w a1 a2 a3 l1 l2 l3 z1 z2 z3) (h1 : l1 ≤ 1048576) (h2 : l2 ≤ 1048576) (h3 : l3 ≤ 1048576) :
    Calls Try.prog 10 #[.agg #[.slice a1 l1 c1, .slice a2 l2 c2, .slice a3 l3 c3]] w fun x w' => (∃ g1 g2 g3, x = .returned (.agg #[.slice (some ⟨g1, 0, none⟩) l1 l1, .slice (some ⟨g2, 0, none⟩) l2 l2, .slice (some ⟨g3, 0, none⟩) l3 l3]) ∧ PnOwn w' w.heap.size (some ⟨g1, 0, none⟩) (some ⟨g2, 0, none⟩) (some ⟨g3, 0, none⟩) l1 l1 l2 l2 l3 l3 z1 z2 z3) ∧ Below w.heap.size w w' := by
  obtain ⟨W, hW⟩ : ∃ W, W = ((w.alloc (Obj.cells #[.slice a1 l1 c1, .slice a2 l2 c2, .slice a3 l3 c3] 25)).alloc (Obj.cells #[.slice none 0 0, .slice none 0 0, .slice none 0 0] 28)).alloc (Obj.cells #[.slice none 0 0, .slice none 0 0, .slice none 0 0] 28) := ⟨_, rfl⟩
  have KP : Hid (Blk W w.heap.size [.slice a1 l1 c1, .slice a2 l2 c2, .slice a3 l3 c3]) := hide (by
    rw [hW]; exact ((Blk.new (w := w) [.slice a1 l1 c1, .slice a2 l2 c2, .slice a3 l3 c3] 25).alloc _).alloc _)
  have KR : Hid (Blk W (w.heap.size + 1) [.slice none 0 0, .slice none 0 0, .slice none 0 0]) := hide (by
    rw [hW]
    have := (Blk.new (w := w.alloc (Obj.cells #[.slice a1 l1 c1, .slice a2 l2 c2, .slice a3 l3 c3] 25)) [.slice none 0 0, .slice none 0 0, .slice none 0 0] 28).alloc (Obj.cells #[.slice none 0 0, .slice none 0 0, .slice none 0 0] 28)
    simpa using this)
  have KO : Hid (Blk W (w.heap.size + 1 + 1) [.slice none 0 0, .slice none 0 0, .slice none 0 0]) := hide (by
    rw [hW]
    have := Blk.new (w := (w.alloc (Obj.cells #[.slice a1 l1 c1, .slice a2 l2 c2, .slice a3 l3 c3] 25)).alloc (Obj.cells #[.slice none 0 0, .slice none 0 0, .slice none 0 0] 28)) [.slice none 0 0, .slice none 0 0, .slice none 0 0] 28
    simpa using this)
  have HB : Hid (Below w.heap.size w W) := hide (by rw [hW]; exact bel3 _ _ _)
  have hsz : w.heap.size + 1 + 1 + 1 ≤ W.heap.size := by rw [hW]; simp
  have HI := hide (hr.below (unhide HB))
  have HR0 := hide hr
  have HW := hide hW
  clear hr hW
  go_enter Try.func10, Try.ntmps10
  go_wp2_with fail
  rw [← unhide HW]
  clear HW
  obtain ⟨G1, hG1⟩ : ∃ G, W.heap.size = G := ⟨_, rfl⟩
  refine (toStringS_own a1 l1 c1 z1 W (unhide HI).r1 h1).mono ?_
  rintro x v1 ⟨rfl, ow, bw⟩
  rw [hG1] at ow ⊢
  have HB := hide ((unhide HB).trans (bw.mono (unhide HB).size))
  have KP := hide ((unhide KP).below bw)
  have KR := hide ((unhide KR).below bw)
  have KO := hide ((unhide KO).below bw)
  have sz1 : G1 < v1.heap.size := ((ow.lies G1 rfl).2)
  have O1 := hide ow
  have hsz : w.heap.size + 1 + 1 + 1 ≤ G1 := by omega
  clear ow bw HI
  obtain ⟨V1, hV1⟩ : ∃ V, V = v1.setCell ⟨w.heap.size + 1 + 1, 0, none⟩ (.slice (some ⟨G1, 0, none⟩) l1 l1) := ⟨_, rfl⟩
  have y1 : v1.cell? ⟨w.heap.size + 1 + 1, 0, none⟩ = some (.slice none 0 0) := (unhide KO).c 0 (by simp)
  have f1 : v1.frozen? ⟨w.heap.size + 1 + 1, 0, none⟩ = false := (unhide KO).f 0 (by simp)
  have KO := hide ((unhide KO).set 0 (by simp) (.slice (some ⟨G1, 0, none⟩) l1 l1))
  have KP := hide ((unhide KP).other (p := ⟨w.heap.size + 1 + 1, 0, none⟩) (by simp; omega) (.slice (some ⟨G1, 0, none⟩) l1 l1))
  have KR := hide ((unhide KR).other (p := ⟨w.heap.size + 1 + 1, 0, none⟩) (by simp) (.slice (some ⟨G1, 0, none⟩) l1 l1))
  have O1 := hide ((unhide O1).set_other (S := w.heap.size + 1 + 1) (o := 0) (.slice (some ⟨G1, 0, none⟩) l1 l1) (by simp only [Value.ownBlock, ne_eq, Option.some.injEq]; omega))
  have HB := hide ((unhide HB).setCell (p := ⟨w.heap.size + 1 + 1, 0, none⟩) (by simp; omega) (.slice (some ⟨G1, 0, none⟩) l1 l1))
  have szv1 : (v1.setCell ⟨w.heap.size + 1 + 1, 0, none⟩ (.slice (some ⟨G1, 0, none⟩) l1 l1)).heap.size = v1.heap.size := by simp [World.setCell]
  rw [← hV1] at KO KP KR HB szv1 O1
  have HI : Hid (PnIn V1 a1 a2 a3 l1 l2 l3 z1 z2 z3) := hide ((unhide HR0).below (unhide HB))
  have m2 : V1.cell? ⟨w.heap.size, 1, none⟩ = some (.slice a2 l2 c2) := (unhide KP).c 1 (by simp)
  rw [hV1] at m2
  have HV1 := hide hV1
  clear hV1
  go_wp2_with fail
  rw [← unhide HV1]
  clear HV1 m2 y1 f1
  rw [← szv1] at sz1
  obtain ⟨G2, hG2⟩ : ∃ G, V1.heap.size = G := ⟨_, rfl⟩
  refine (toStringS_own a2 l2 c2 z2 V1 (unhide HI).r2 h2).mono ?_
  rintro x v2 ⟨rfl, ow, bw⟩
  rw [hG2] at ow ⊢
  have HB := hide ((unhide HB).trans (bw.mono (unhide HB).size))
  have KP := hide ((unhide KP).below bw)
  have KR := hide ((unhide KR).below bw)
  have KO := hide ((unhide KO).below bw)
  have sz2 : G2 < v2.heap.size := ((ow.lies G2 rfl).2)
  have O1 := hide ((unhide O1).below bw)
  have O2 := hide ow
  have hs2 : G1 < G2 := by rw [← hG2]; omega
  clear ow bw HI
  obtain ⟨V2, hV2⟩ : ∃ V, V = v2.setCell ⟨w.heap.size + 1 + 1, 1, none⟩ (.slice (some ⟨G2, 0, none⟩) l2 l2) := ⟨_, rfl⟩
  have y2 : v2.cell? ⟨w.heap.size + 1 + 1, 1, none⟩ = some (.slice none 0 0) := (unhide KO).c 1 (by simp)
  have f2 : v2.frozen? ⟨w.heap.size + 1 + 1, 1, none⟩ = false := (unhide KO).f 1 (by simp)
  have KO := hide ((unhide KO).set 1 (by simp) (.slice (some ⟨G2, 0, none⟩) l2 l2))
  have KP := hide ((unhide KP).other (p := ⟨w.heap.size + 1 + 1, 1, none⟩) (by simp; omega) (.slice (some ⟨G2, 0, none⟩) l2 l2))
  have KR := hide ((unhide KR).other (p := ⟨w.heap.size + 1 + 1, 1, none⟩) (by simp) (.slice (some ⟨G2, 0, none⟩) l2 l2))
  have O1 := hide ((unhide O1).set_other (S := w.heap.size + 1 + 1) (o := 1) (.slice (some ⟨G2, 0, none⟩) l2 l2) (by simp only [Value.ownBlock, ne_eq, Option.some.injEq]; omega))
  have O2 := hide ((unhide O2).set_other (S := w.heap.size + 1 + 1) (o := 1) (.slice (some ⟨G2, 0, none⟩) l2 l2) (by simp only [Value.ownBlock, ne_eq, Option.some.injEq]; omega))
  have HB := hide ((unhide HB).setCell (p := ⟨w.heap.size + 1 + 1, 1, none⟩) (by simp; omega) (.slice (some ⟨G2, 0, none⟩) l2 l2))
  have szv2 : (v2.setCell ⟨w.heap.size + 1 + 1, 1, none⟩ (.slice (some ⟨G2, 0, none⟩) l2 l2)).heap.size = v2.heap.size := by simp [World.setCell]
  rw [← hV2] at KO KP KR HB szv2 O1 O2
  have HI : Hid (PnIn V2 a1 a2 a3 l1 l2 l3 z1 z2 z3) := hide ((unhide HR0).below (unhide HB))
  have m3 : V2.cell? ⟨w.heap.size, 2, none⟩ = some (.slice a3 l3 c3) := (unhide KP).c 2 (by simp)
  rw [hV2] at m3
  have HV2 := hide hV2
  clear hV2
  go_wp2_with fail
  rw [← unhide HV2]
  clear HV2 m3 y2 f2
  rw [← szv2] at sz2
  obtain ⟨G3, hG3⟩ : ∃ G, V2.heap.size = G := ⟨_, rfl⟩
  refine (toStringS_own a3 l3 c3 z3 V2 (unhide HI).r3 h3).mono ?_
  rintro x v3 ⟨rfl, ow, bw⟩
  rw [hG3] at ow ⊢
  have HB := hide ((unhide HB).trans (bw.mono (unhide HB).size))
  have KP := hide ((unhide KP).below bw)
  have KR := hide ((unhide KR).below bw)
  have KO := hide ((unhide KO).below bw)
  have sz3 : G3 < v3.heap.size := ((ow.lies G3 rfl).2)
  have O1 := hide ((unhide O1).below bw)
  have O2 := hide ((unhide O2).below bw)
  have O3 := hide ow
  have hs3 : G2 < G3 := by rw [← hG3]; omega
  clear ow bw HI
  obtain ⟨V3, hV3⟩ : ∃ V, V = v3.setCell ⟨w.heap.size + 1 + 1, 2, none⟩ (.slice (some ⟨G3, 0, none⟩) l3 l3) := ⟨_, rfl⟩
  have y3 : v3.cell? ⟨w.heap.size + 1 + 1, 2, none⟩ = some (.slice none 0 0) := (unhide KO).c 2 (by simp)
  have f3 : v3.frozen? ⟨w.heap.size + 1 + 1, 2, none⟩ = false := (unhide KO).f 2 (by simp)
  have KO := hide ((unhide KO).set 2 (by simp) (.slice (some ⟨G3, 0, none⟩) l3 l3))
  have KP := hide ((unhide KP).other (p := ⟨w.heap.size + 1 + 1, 2, none⟩) (by simp; omega) (.slice (some ⟨G3, 0, none⟩) l3 l3))
  have KR := hide ((unhide KR).other (p := ⟨w.heap.size + 1 + 1, 2, none⟩) (by simp) (.slice (some ⟨G3, 0, none⟩) l3 l3))
  have O1 := hide ((unhide O1).set_other (S := w.heap.size + 1 + 1) (o := 2) (.slice (some ⟨G3, 0, none⟩) l3 l3) (by simp only [Value.ownBlock, ne_eq, Option.some.injEq]; omega))
  have O2 := hide ((unhide O2).set_other (S := w.heap.size + 1 + 1) (o := 2) (.slice (some ⟨G3, 0, none⟩) l3 l3) (by simp only [Value.ownBlock, ne_eq, Option.some.injEq]; omega))
  have O3 := hide ((unhide O3).set_other (S := w.heap.size + 1 + 1) (o := 2) (.slice (some ⟨G3, 0, none⟩) l3 l3) (by simp only [Value.ownBlock, ne_eq, Option.some.injEq]; omega))
  have HB := hide ((unhide HB).setCell (p := ⟨w.heap.size + 1 + 1, 2, none⟩) (by simp; omega) (.slice (some ⟨G3, 0, none⟩) l3 l3))
  have szv3 : (v3.setCell ⟨w.heap.size + 1 + 1, 2, none⟩ (.slice (some ⟨G3, 0, none⟩) l3 l3)).heap.size = v3.heap.size := by simp [World.setCell]
  rw [← hV3] at KO KP KR HB szv3 O1 O2 O3
  have hO : Hid (Blk V3 (w.heap.size + 1 + 1) [(.slice (some ⟨G1, 0, none⟩) l1 l1), (.slice (some ⟨G2, 0, none⟩) l2 l2), (.slice (some ⟨G3, 0, none⟩) l3 l3)]) := KO
  have u0 : V3.cell? ⟨w.heap.size + 1 + 1, 0, none⟩ = some (.slice (some ⟨G1, 0, none⟩) l1 l1) := (unhide hO).c 0 (by simp)
  have r0 : V3.cell? ⟨w.heap.size + 1, 0, none⟩ = some (.slice none 0 0) := (unhide KR).c 0 (by simp)
  have t0 : V3.frozen? ⟨w.heap.size + 1, 0, none⟩ = false := (unhide KR).f 0 (by simp)
  have u1 : V3.cell? ⟨w.heap.size + 1 + 1, 1, none⟩ = some (.slice (some ⟨G2, 0, none⟩) l2 l2) := (unhide hO).c 1 (by simp)
  have r1 : V3.cell? ⟨w.heap.size + 1, 1, none⟩ = some (.slice none 0 0) := (unhide KR).c 1 (by simp)
  have t1 : V3.frozen? ⟨w.heap.size + 1, 1, none⟩ = false := (unhide KR).f 1 (by simp)
  have u2 : V3.cell? ⟨w.heap.size + 1 + 1, 2, none⟩ = some (.slice (some ⟨G3, 0, none⟩) l3 l3) := (unhide hO).c 2 (by simp)
  have r2 : V3.cell? ⟨w.heap.size + 1, 2, none⟩ = some (.slice none 0 0) := (unhide KR).c 2 (by simp)
  have t2 : V3.frozen? ⟨w.heap.size + 1, 2, none⟩ = false := (unhide KR).f 2 (by simp)
  rw [hV3] at u0 u1 u2 r0 r1 r2 t0 t1 t2
  have HB := hide ((unhide HB).setCell (p := ⟨w.heap.size + 1, 0, none⟩) (by simp) (.slice (some ⟨G1, 0, none⟩) l1 l1))
  have O1 := hide ((unhide O1).set_other (S := w.heap.size + 1) (o := 0) (.slice (some ⟨G1, 0, none⟩) l1 l1) (by simp only [Value.ownBlock, ne_eq, Option.some.injEq]; omega))
  have O2 := hide ((unhide O2).set_other (S := w.heap.size + 1) (o := 0) (.slice (some ⟨G1, 0, none⟩) l1 l1) (by simp only [Value.ownBlock, ne_eq, Option.some.injEq]; omega))
  have O3 := hide ((unhide O3).set_other (S := w.heap.size + 1) (o := 0) (.slice (some ⟨G1, 0, none⟩) l1 l1) (by simp only [Value.ownBlock, ne_eq, Option.some.injEq]; omega))
  have HB := hide ((unhide HB).setCell (p := ⟨w.heap.size + 1, 1, none⟩) (by simp) (.slice (some ⟨G2, 0, none⟩) l2 l2))
  have O1 := hide ((unhide O1).set_other (S := w.heap.size + 1) (o := 1) (.slice (some ⟨G2, 0, none⟩) l2 l2) (by simp only [Value.ownBlock, ne_eq, Option.some.injEq]; omega))
  have O2 := hide ((unhide O2).set_other (S := w.heap.size + 1) (o := 1) (.slice (some ⟨G2, 0, none⟩) l2 l2) (by simp only [Value.ownBlock, ne_eq, Option.some.injEq]; omega))
  have O3 := hide ((unhide O3).set_other (S := w.heap.size + 1) (o := 1) (.slice (some ⟨G2, 0, none⟩) l2 l2) (by simp only [Value.ownBlock, ne_eq, Option.some.injEq]; omega))
  have HB := hide ((unhide HB).setCell (p := ⟨w.heap.size + 1, 2, none⟩) (by simp) (.slice (some ⟨G3, 0, none⟩) l3 l3))
  have O1 := hide ((unhide O1).set_other (S := w.heap.size + 1) (o := 2) (.slice (some ⟨G3, 0, none⟩) l3 l3) (by simp only [Value.ownBlock, ne_eq, Option.some.injEq]; omega))
  have O2 := hide ((unhide O2).set_other (S := w.heap.size + 1) (o := 2) (.slice (some ⟨G3, 0, none⟩) l3 l3) (by simp only [Value.ownBlock, ne_eq, Option.some.injEq]; omega))
  have O3 := hide ((unhide O3).set_other (S := w.heap.size + 1) (o := 2) (.slice (some ⟨G3, 0, none⟩) l3 l3) (by simp only [Value.ownBlock, ne_eq, Option.some.injEq]; omega))
  rw [hV3] at HB O1 O2 O3
  have HN := hide (PnOwn.mk ((unhide O1).mono (base' := w.heap.size) (by omega)) ((unhide O2).mono (base' := w.heap.size) (by omega)) ((unhide O3).mono (base' := w.heap.size) (by omega)) (fun g h1 h2 => by have e1 := fresh_own h1; have e2 := fresh_own h2; omega) (fun g h1 h2 => by have e1 := fresh_own h1; have e2 := fresh_own h2; omega) (fun g h1 h2 => by have e1 := fresh_own h1; have e2 := fresh_own h2; omega))
  clear O1 O2 O3 KO KP KR hO hV3 HR0
  go_wp2_with fail
  refine bodyPost_ret (v := .agg #[(.slice (some ⟨G1, 0, none⟩) l1 l1), (.slice (some ⟨G2, 0, none⟩) l2 l2), (.slice (some ⟨G3, 0, none⟩) l3 l3)]) (by simp [results, Try.results10, go_sem, *]) rfl ⟨⟨G1, G2, G3, rfl, unhide HN⟩, unhide HB⟩
set_option maxHeartbeats 2000000 in
theorem eqPanel_same (a1 a2 a3 : Option Addr) (l1 c1 l2 c2 l3 c3 : Nat) (b1 b2 b3 : Option Addr) (d1 d2 d3 : Nat) (z1 : List ByteArray) (z2 : List ByteArray) (z3 : List ByteArray) (w : World) (hr : PnIn w a1 a2 a3 l1 l2 l3 z1 z2 z3) (hq : PnIn w b1 b2 b3 l1 l2 l3 z1 z2 z3) :
    Calls Try.prog 12 #[.agg #[.slice a1 l1 c1, .slice a2 l2 c2, .slice a3 l3 c3], .agg #[.slice b1 l1 d1, .slice b2 l2 d2, .slice b3 l3 d3]] w fun x w' => x = .returned (.bool true) ∧ Below w.heap.size w w' := by
  obtain ⟨W, hW⟩ : ∃ W, W = (w.alloc (Obj.cells #[.slice a1 l1 c1, .slice a2 l2 c2, .slice a3 l3 c3] 28)).alloc (Obj.cells #[.slice b1 l1 d1, .slice b2 l2 d2, .slice b3 l3 d3] 28) := ⟨_, rfl⟩
  have KA : Hid (Blk W w.heap.size [.slice a1 l1 c1, .slice a2 l2 c2, .slice a3 l3 c3]) := hide (by rw [hW]; exact (Blk.new (w := w) [.slice a1 l1 c1, .slice a2 l2 c2, .slice a3 l3 c3] 28).alloc _)
  have KB : Hid (Blk W (w.heap.size + 1) [.slice b1 l1 d1, .slice b2 l2 d2, .slice b3 l3 d3]) := hide (by
    rw [hW]
    have := Blk.new (w := w.alloc (Obj.cells #[.slice a1 l1 c1, .slice a2 l2 c2, .slice a3 l3 c3] 28)) [.slice b1 l1 d1, .slice b2 l2 d2, .slice b3 l3 d3] 28
    simpa using this)
  have HB : Hid (Below w.heap.size w W) := hide (by rw [hW]; exact bel2 _ _)
  have HA := hide (hr.below (unhide HB))
  have HQ := hide (hq.below (unhide HB))
  have HW := hide hW
  clear hr hq hW
  go_enter Try.func12, Try.ntmps12
  go_wp2_with fail
  rw [← unhide HW]
  clear HW
  refine (eqStringS_two _ _ _ _ _ _ z1 _ (unhide HA).r1 (unhide HQ).r1).mono ?_
  rintro x x1 ⟨rfl, bw⟩
  have HB := hide ((unhide HB).trans (bw.mono (unhide HB).size))
  have HA := hide ((unhide HA).below bw)
  have HQ := hide ((unhide HQ).below bw)
  have KA := hide ((unhide KA).below bw)
  have KB := hide ((unhide KB).below bw)
  clear bw
  have m2 : x1.cell? ⟨w.heap.size, 1, none⟩ = some (.slice a2 l2 c2) := (unhide KA).c 1 (by simp)
  have k2 : x1.cell? ⟨w.heap.size + 1, 1, none⟩ = some (.slice b2 l2 d2) := (unhide KB).c 1 (by simp)
  go_wp2_with fail
  clear m2 k2
  refine (eqStringS_two _ _ _ _ _ _ z2 _ (unhide HA).r2 (unhide HQ).r2).mono ?_
  rintro x x2 ⟨rfl, bw⟩
  have HB := hide ((unhide HB).trans (bw.mono (unhide HB).size))
  have HA := hide ((unhide HA).below bw)
  have HQ := hide ((unhide HQ).below bw)
  have KA := hide ((unhide KA).below bw)
  have KB := hide ((unhide KB).below bw)
  clear bw
  have m3 : x2.cell? ⟨w.heap.size, 2, none⟩ = some (.slice a3 l3 c3) := (unhide KA).c 2 (by simp)
  have k3 : x2.cell? ⟨w.heap.size + 1, 2, none⟩ = some (.slice b3 l3 d3) := (unhide KB).c 2 (by simp)
  go_wp2_with fail
  clear m3 k3
  refine (eqStringS_two _ _ _ _ _ _ z3 _ (unhide HA).r3 (unhide HQ).r3).mono ?_
  rintro x x3 ⟨rfl, bw⟩
  have HB := hide ((unhide HB).trans (bw.mono (unhide HB).size))
  have HA := hide ((unhide HA).below bw)
  have HQ := hide ((unhide HQ).below bw)
  have KA := hide ((unhide KA).below bw)
  have KB := hide ((unhide KB).below bw)
  clear bw
  go_wp2_with fail
  go_ret
  exact ⟨rfl, unhide HB⟩

end Go.Proofs.Ytjalfalgffphmaw
