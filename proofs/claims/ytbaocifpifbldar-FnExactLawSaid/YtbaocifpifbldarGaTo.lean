/-
  The law's size, copy and comparison of a Gain. The copy at lists of at most 1048576; nothing that was there is written.
-/
import Derived.Test.YtbaocifpifbldarOnly
import Derived.Test.YtbaocifpifbldarOwnI
namespace Go.Proofs.Ytbaocifpifbldar
open Go.RowKit
/-- Its lists, read. -/
structure GaIn (w : World) (a1 a2 : Option Addr) (l1 l2 : Nat) (z1 : List Int) (z2 : List Int) : Prop where
  r1 : Row w a1 l1 z1
  r2 : Row w a2 l2 z2
theorem GaIn.below {w w' : World} {a1 a2 : Option Addr} {l1 l2 : Nat} {z1 : List Int} {z2 : List Int} (h : GaIn w a1 a2 l1 l2 z1 z2) (k : Below w.heap.size w w') : GaIn w' a1 a2 l1 l2 z1 z2 :=
  ⟨h.r1.below k, h.r2.below k⟩
/-- Its lists that a call has made, each in memory of its own. -/
structure GaOwn (w : World) (base : Nat) (a1 a2 : Option Addr) (l1 c1 l2 c2 : Nat) (z1 : List Int) (z2 : List Int) : Prop where
  o1 : OwnI w base (.slice a1 l1 c1) z1
  o2 : OwnI w base (.slice a2 l2 c2) z2
  p12 : ∀ g, (Value.slice a1 l1 c1).ownBlock = some g → (Value.slice a2 l2 c2).ownBlock ≠ some g
theorem GaOwn.below {w w' : World} {base : Nat} {a1 a2 : Option Addr} {l1 c1 l2 c2 : Nat} {z1 : List Int} {z2 : List Int} (h : GaOwn w base a1 a2 l1 c1 l2 c2 z1 z2) (k : Below w.heap.size w w') : GaOwn w' base a1 a2 l1 c1 l2 c2 z1 z2 :=
  ⟨h.o1.below k, h.o2.below k, h.p12⟩
theorem GaOwn.mono {w : World} {base : Nat} {a1 a2 : Option Addr} {l1 c1 l2 c2 : Nat} {z1 : List Int} {z2 : List Int} (h : GaOwn w base a1 a2 l1 c1 l2 c2 z1 z2) {base' : Nat} (hb : base' ≤ base) : GaOwn w base' a1 a2 l1 c1 l2 c2 z1 z2 :=
  ⟨h.o1.mono hb, h.o2.mono hb, h.p12⟩
theorem GaOwn.read {w : World} {base : Nat} {a1 a2 : Option Addr} {l1 c1 l2 c2 : Nat} {z1 : List Int} {z2 : List Int} (h : GaOwn w base a1 a2 l1 c1 l2 c2 z1 z2) : GaIn w a1 a2 l1 l2 z1 z2 :=
  ⟨h.o1.row, h.o2.row⟩
/-- Blocks of its lists lie from base on, below a number. -/
def GaLies (base hi : Nat) (a1 a2 : Option Addr) (l1 c1 l2 c2 : Nat) : Prop :=
  (∀ g, (Value.slice a1 l1 c1).ownBlock = some g → base ≤ g ∧ g < hi) ∧ (∀ g, (Value.slice a2 l2 c2).ownBlock = some g → base ≤ g ∧ g < hi)
theorem GaOwn.lies {w : World} {base : Nat} {a1 a2 : Option Addr} {l1 c1 l2 c2 : Nat} {z1 : List Int} {z2 : List Int} (h : GaOwn w base a1 a2 l1 c1 l2 c2 z1 z2) : GaLies base w.heap.size a1 a2 l1 c1 l2 c2 :=
  ⟨h.o1.lies, h.o2.lies⟩
theorem GaOwn.only {w w' : World} {base : Nat} {a1 a2 : Option Addr} {l1 c1 l2 c2 : Nat} {z1 : List Int} {z2 : List Int} {lo hi b u : Nat} (h : GaOwn w base a1 a2 l1 c1 l2 c2 z1 z2) (k : Only lo hi w w') (hl : GaLies b u a1 a2 l1 c1 l2 c2) (hs : u ≤ lo ∨ hi ≤ b) : GaOwn w' base a1 a2 l1 c1 l2 c2 z1 z2 :=
  ⟨h.o1.only k (fun g hg => by have := hl.1 g hg; omega), h.o2.only k (fun g hg => by have := hl.2 g hg; omega), h.p12⟩
theorem GaOwn.set_other {w : World} {base : Nat} {a1 a2 : Option Addr} {l1 c1 l2 c2 : Nat} {z1 : List Int} {z2 : List Int} (h : GaOwn w base a1 a2 l1 c1 l2 c2 z1 z2) {S o : Nat} (u : Value) (n1 : (Value.slice a1 l1 c1).ownBlock ≠ some S) (n2 : (Value.slice a2 l2 c2).ownBlock ≠ some S) : GaOwn (w.setCell ⟨S, o, none⟩ u) base a1 a2 l1 c1 l2 c2 z1 z2 :=
  ⟨h.o1.set_other u n1, h.o2.set_other u n2, h.p12⟩
set_option maxHeartbeats 2000000 in
theorem szGain_any (a1 a2 : Option Addr) (l1 c1 l2 c2 : Nat) (left : Int) (w : World) (h1 : l1 ≤ 9223372036854775807) (h2 : l2 ≤ 9223372036854775807) (hl0 : 0 ≤ left) (hl1 : left ≤ 1048576) :
    Calls Try.prog 13 #[.agg #[.slice a1 l1 c1, .slice a2 l2 c2], .int .i64 left] w fun x w' => (∃ r : Int, x = .returned (.int .i64 r) ∧ (r < 0 ∨ (0 ≤ r ∧ r ≤ left ∧ l1 ≤ 1048576 ∧ l2 ≤ 1048576))) ∧ Below w.heap.size w w' := by
  by_cases q1 : (l1 : Int) ≤ left
  · skip
    by_cases q2 : (l2 : Int) ≤ left - l1
    · skip
      go_enter Try.func13, Try.ntmps13
      go_wp2_with fail
      refine (szIntS_yes a1 l1 c1 (left) _ (by omega) q1).mono ?_
      rintro e w' ⟨rfl, hw⟩
      subst w'
      go_wp2_with fail
      refine (szIntS_yes a2 l2 c2 (left - l1) _ (by omega) q2).mono ?_
      rintro e w' ⟨rfl, hw⟩
      subst w'
      go_wp2_with fail
      go_ret
      exact ⟨⟨_, rfl, .inr ⟨by omega, by omega, by omega, by omega⟩⟩, bel1 _⟩
    · skip
      go_enter Try.func13, Try.ntmps13
      go_wp2_with fail
      refine (szIntS_yes a1 l1 c1 (left) _ (by omega) q1).mono ?_
      rintro e w' ⟨rfl, hw⟩
      subst w'
      go_wp2_with fail
      refine (szIntS_no a2 l2 c2 (left - l1) _ (by omega) (by omega) h2 (by omega)).mono ?_
      rintro e w' ⟨rfl, hw⟩
      subst w'
      go_wp2_with fail
      go_ret
      exact ⟨⟨-1, rfl, .inl (by omega)⟩, bel1 _⟩
  · skip
    go_enter Try.func13, Try.ntmps13
    go_wp2_with fail
    refine (szIntS_no a1 l1 c1 (left) _ (by omega) (by omega) h1 (by omega)).mono ?_
    rintro e w' ⟨rfl, hw⟩
    subst w'
    go_wp2_with fail
    go_ret
    exact ⟨⟨-1, rfl, .inl (by omega)⟩, bel1 _⟩
set_option maxRecDepth 20000 in
set_option maxHeartbeats 4000000 in
theorem toGain_own (a1 a2 : Option Addr) (l1 c1 l2 c2 : Nat) (z1 : List Int) (z2 : List Int) (w : World) (hr : GaIn w a1 a2 l1 l2 z1 z2) (h1 : l1 ≤ 1048576) (h2 : l2 ≤ 1048576) :
    Calls Try.prog 15 #[.agg #[.slice a1 l1 c1, .slice a2 l2 c2]] w fun x w' => (∃ g1 g2, x = .returned (.agg #[.slice (some ⟨g1, 0, none⟩) l1 l1, .slice (some ⟨g2, 0, none⟩) l2 l2]) ∧ GaOwn w' w.heap.size (some ⟨g1, 0, none⟩) (some ⟨g2, 0, none⟩) l1 l1 l2 l2 z1 z2) ∧ Below w.heap.size w w' := by
  obtain ⟨W, hW⟩ : ∃ W, W = ((w.alloc (Obj.cells #[.slice a1 l1 c1, .slice a2 l2 c2] 29)).alloc (Obj.cells #[.slice none 0 0, .slice none 0 0] 32)).alloc (Obj.cells #[.slice none 0 0, .slice none 0 0] 32) := ⟨_, rfl⟩
  have KP : Hid (Blk W w.heap.size [.slice a1 l1 c1, .slice a2 l2 c2]) := hide (by
    rw [hW]; exact ((Blk.new (w := w) [.slice a1 l1 c1, .slice a2 l2 c2] 29).alloc _).alloc _)
  have KR : Hid (Blk W (w.heap.size + 1) [.slice none 0 0, .slice none 0 0]) := hide (by
    rw [hW]
    have := (Blk.new (w := w.alloc (Obj.cells #[.slice a1 l1 c1, .slice a2 l2 c2] 29)) [.slice none 0 0, .slice none 0 0] 32).alloc (Obj.cells #[.slice none 0 0, .slice none 0 0] 32)
    simpa using this)
  have KO : Hid (Blk W (w.heap.size + 1 + 1) [.slice none 0 0, .slice none 0 0]) := hide (by
    rw [hW]
    have := Blk.new (w := (w.alloc (Obj.cells #[.slice a1 l1 c1, .slice a2 l2 c2] 29)).alloc (Obj.cells #[.slice none 0 0, .slice none 0 0] 32)) [.slice none 0 0, .slice none 0 0] 32
    simpa using this)
  have HB : Hid (Below w.heap.size w W) := hide (by rw [hW]; exact bel3 _ _ _)
  have hsz : w.heap.size + 1 + 1 + 1 ≤ W.heap.size := by rw [hW]; simp
  have HI := hide (hr.below (unhide HB))
  have HR0 := hide hr
  have HW := hide hW
  clear hr hW
  go_enter Try.func15, Try.ntmps15
  go_wp2_with fail
  rw [← unhide HW]
  clear HW
  obtain ⟨G1, hG1⟩ : ∃ G, W.heap.size = G := ⟨_, rfl⟩
  refine (toIntS_own a1 l1 c1 z1 W (unhide HI).r1 h1).mono ?_
  rintro x v1 ⟨rfl, ow, bw⟩
  rw [hG1] at ow ⊢
  have HB := hide ((unhide HB).trans (bw.mono (unhide HB).size))
  have KP := hide ((unhide KP).below bw)
  have KR := hide ((unhide KR).below bw)
  have KO := hide ((unhide KO).below bw)
  have sz1 : G1 < v1.heap.size := ((ow.lies G1 rfl).2)
  have O1 := hide ow
  have hsz : w.heap.size + 1 + 1 + 1 ≤ G1 := by omega
  clear ow bw HI
  obtain ⟨V1, hV1⟩ : ∃ V, V = v1.setCell ⟨w.heap.size + 1 + 1, 0, none⟩ (.slice (some ⟨G1, 0, none⟩) l1 l1) := ⟨_, rfl⟩
  have y1 : v1.cell? ⟨w.heap.size + 1 + 1, 0, none⟩ = some (.slice none 0 0) := (unhide KO).c 0 (by simp)
  have f1 : v1.frozen? ⟨w.heap.size + 1 + 1, 0, none⟩ = false := (unhide KO).f 0 (by simp)
  have KO := hide ((unhide KO).set 0 (by simp) (.slice (some ⟨G1, 0, none⟩) l1 l1))
  have KP := hide ((unhide KP).other (p := ⟨w.heap.size + 1 + 1, 0, none⟩) (by simp; omega) (.slice (some ⟨G1, 0, none⟩) l1 l1))
  have KR := hide ((unhide KR).other (p := ⟨w.heap.size + 1 + 1, 0, none⟩) (by simp) (.slice (some ⟨G1, 0, none⟩) l1 l1))
  have O1 := hide ((unhide O1).set_other (S := w.heap.size + 1 + 1) (o := 0) (.slice (some ⟨G1, 0, none⟩) l1 l1) (by simp only [Value.ownBlock, ne_eq, Option.some.injEq]; omega))
  have HB := hide ((unhide HB).setCell (p := ⟨w.heap.size + 1 + 1, 0, none⟩) (by simp; omega) (.slice (some ⟨G1, 0, none⟩) l1 l1))
  have szv1 : (v1.setCell ⟨w.heap.size + 1 + 1, 0, none⟩ (.slice (some ⟨G1, 0, none⟩) l1 l1)).heap.size = v1.heap.size := by simp [World.setCell]
  rw [← hV1] at KO KP KR HB szv1 O1
  have HI : Hid (GaIn V1 a1 a2 l1 l2 z1 z2) := hide ((unhide HR0).below (unhide HB))
  have m2 : V1.cell? ⟨w.heap.size, 1, none⟩ = some (.slice a2 l2 c2) := (unhide KP).c 1 (by simp)
  rw [hV1] at m2
  have HV1 := hide hV1
  clear hV1
  go_wp2_with fail
  rw [← unhide HV1]
  clear HV1 m2 y1 f1
  rw [← szv1] at sz1
  obtain ⟨G2, hG2⟩ : ∃ G, V1.heap.size = G := ⟨_, rfl⟩
  refine (toIntS_own a2 l2 c2 z2 V1 (unhide HI).r2 h2).mono ?_
  rintro x v2 ⟨rfl, ow, bw⟩
  rw [hG2] at ow ⊢
  have HB := hide ((unhide HB).trans (bw.mono (unhide HB).size))
  have KP := hide ((unhide KP).below bw)
  have KR := hide ((unhide KR).below bw)
  have KO := hide ((unhide KO).below bw)
  have sz2 : G2 < v2.heap.size := ((ow.lies G2 rfl).2)
  have O1 := hide ((unhide O1).below bw)
  have O2 := hide ow
  have hs2 : G1 < G2 := by rw [← hG2]; omega
  clear ow bw HI
  obtain ⟨V2, hV2⟩ : ∃ V, V = v2.setCell ⟨w.heap.size + 1 + 1, 1, none⟩ (.slice (some ⟨G2, 0, none⟩) l2 l2) := ⟨_, rfl⟩
  have y2 : v2.cell? ⟨w.heap.size + 1 + 1, 1, none⟩ = some (.slice none 0 0) := (unhide KO).c 1 (by simp)
  have f2 : v2.frozen? ⟨w.heap.size + 1 + 1, 1, none⟩ = false := (unhide KO).f 1 (by simp)
  have KO := hide ((unhide KO).set 1 (by simp) (.slice (some ⟨G2, 0, none⟩) l2 l2))
  have KP := hide ((unhide KP).other (p := ⟨w.heap.size + 1 + 1, 1, none⟩) (by simp; omega) (.slice (some ⟨G2, 0, none⟩) l2 l2))
  have KR := hide ((unhide KR).other (p := ⟨w.heap.size + 1 + 1, 1, none⟩) (by simp) (.slice (some ⟨G2, 0, none⟩) l2 l2))
  have O1 := hide ((unhide O1).set_other (S := w.heap.size + 1 + 1) (o := 1) (.slice (some ⟨G2, 0, none⟩) l2 l2) (by simp only [Value.ownBlock, ne_eq, Option.some.injEq]; omega))
  have O2 := hide ((unhide O2).set_other (S := w.heap.size + 1 + 1) (o := 1) (.slice (some ⟨G2, 0, none⟩) l2 l2) (by simp only [Value.ownBlock, ne_eq, Option.some.injEq]; omega))
  have HB := hide ((unhide HB).setCell (p := ⟨w.heap.size + 1 + 1, 1, none⟩) (by simp; omega) (.slice (some ⟨G2, 0, none⟩) l2 l2))
  have szv2 : (v2.setCell ⟨w.heap.size + 1 + 1, 1, none⟩ (.slice (some ⟨G2, 0, none⟩) l2 l2)).heap.size = v2.heap.size := by simp [World.setCell]
  rw [← hV2] at KO KP KR HB szv2 O1 O2
  have hO : Hid (Blk V2 (w.heap.size + 1 + 1) [(.slice (some ⟨G1, 0, none⟩) l1 l1), (.slice (some ⟨G2, 0, none⟩) l2 l2)]) := KO
  have u0 : V2.cell? ⟨w.heap.size + 1 + 1, 0, none⟩ = some (.slice (some ⟨G1, 0, none⟩) l1 l1) := (unhide hO).c 0 (by simp)
  have r0 : V2.cell? ⟨w.heap.size + 1, 0, none⟩ = some (.slice none 0 0) := (unhide KR).c 0 (by simp)
  have t0 : V2.frozen? ⟨w.heap.size + 1, 0, none⟩ = false := (unhide KR).f 0 (by simp)
  have u1 : V2.cell? ⟨w.heap.size + 1 + 1, 1, none⟩ = some (.slice (some ⟨G2, 0, none⟩) l2 l2) := (unhide hO).c 1 (by simp)
  have r1 : V2.cell? ⟨w.heap.size + 1, 1, none⟩ = some (.slice none 0 0) := (unhide KR).c 1 (by simp)
  have t1 : V2.frozen? ⟨w.heap.size + 1, 1, none⟩ = false := (unhide KR).f 1 (by simp)
  rw [hV2] at u0 u1 r0 r1 t0 t1
  have HB := hide ((unhide HB).setCell (p := ⟨w.heap.size + 1, 0, none⟩) (by simp) (.slice (some ⟨G1, 0, none⟩) l1 l1))
  have O1 := hide ((unhide O1).set_other (S := w.heap.size + 1) (o := 0) (.slice (some ⟨G1, 0, none⟩) l1 l1) (by simp only [Value.ownBlock, ne_eq, Option.some.injEq]; omega))
  have O2 := hide ((unhide O2).set_other (S := w.heap.size + 1) (o := 0) (.slice (some ⟨G1, 0, none⟩) l1 l1) (by simp only [Value.ownBlock, ne_eq, Option.some.injEq]; omega))
  have HB := hide ((unhide HB).setCell (p := ⟨w.heap.size + 1, 1, none⟩) (by simp) (.slice (some ⟨G2, 0, none⟩) l2 l2))
  have O1 := hide ((unhide O1).set_other (S := w.heap.size + 1) (o := 1) (.slice (some ⟨G2, 0, none⟩) l2 l2) (by simp only [Value.ownBlock, ne_eq, Option.some.injEq]; omega))
  have O2 := hide ((unhide O2).set_other (S := w.heap.size + 1) (o := 1) (.slice (some ⟨G2, 0, none⟩) l2 l2) (by simp only [Value.ownBlock, ne_eq, Option.some.injEq]; omega))
  rw [hV2] at HB O1 O2
  have HN := hide (GaOwn.mk ((unhide O1).mono (base' := w.heap.size) (by omega)) ((unhide O2).mono (base' := w.heap.size) (by omega)) (fun g h1 h2 => by have e1 := fresh_own h1; have e2 := fresh_own h2; omega))
  clear O1 O2 KO KP KR hO hV2 HR0
  go_wp2_with fail
  refine bodyPost_ret (v := .agg #[(.slice (some ⟨G1, 0, none⟩) l1 l1), (.slice (some ⟨G2, 0, none⟩) l2 l2)]) (by simp [results, Try.results15, go_sem, *]) rfl ⟨⟨G1, G2, rfl, unhide HN⟩, unhide HB⟩
set_option maxHeartbeats 2000000 in
theorem eqGain_same (a1 a2 : Option Addr) (l1 c1 l2 c2 : Nat) (b1 b2 : Option Addr) (d1 d2 : Nat) (z1 : List Int) (z2 : List Int) (w : World) (hr : GaIn w a1 a2 l1 l2 z1 z2) (hq : GaIn w b1 b2 l1 l2 z1 z2) :
    Calls Try.prog 17 #[.agg #[.slice a1 l1 c1, .slice a2 l2 c2], .agg #[.slice b1 l1 d1, .slice b2 l2 d2]] w fun x w' => x = .returned (.bool true) ∧ Below w.heap.size w w' := by
  obtain ⟨W, hW⟩ : ∃ W, W = (w.alloc (Obj.cells #[.slice a1 l1 c1, .slice a2 l2 c2] 32)).alloc (Obj.cells #[.slice b1 l1 d1, .slice b2 l2 d2] 32) := ⟨_, rfl⟩
  have KA : Hid (Blk W w.heap.size [.slice a1 l1 c1, .slice a2 l2 c2]) := hide (by rw [hW]; exact (Blk.new (w := w) [.slice a1 l1 c1, .slice a2 l2 c2] 32).alloc _)
  have KB : Hid (Blk W (w.heap.size + 1) [.slice b1 l1 d1, .slice b2 l2 d2]) := hide (by
    rw [hW]
    have := Blk.new (w := w.alloc (Obj.cells #[.slice a1 l1 c1, .slice a2 l2 c2] 32)) [.slice b1 l1 d1, .slice b2 l2 d2] 32
    simpa using this)
  have HB : Hid (Below w.heap.size w W) := hide (by rw [hW]; exact bel2 _ _)
  have HA := hide (hr.below (unhide HB))
  have HQ := hide (hq.below (unhide HB))
  have HW := hide hW
  clear hr hq hW
  go_enter Try.func17, Try.ntmps17
  go_wp2_with fail
  rw [← unhide HW]
  clear HW
  refine (eqIntS_same _ _ _ _ _ _ z1 _ (unhide HA).r1 (unhide HQ).r1).mono ?_
  rintro x x1 ⟨rfl, bw⟩
  have HB := hide ((unhide HB).trans (bw.mono (unhide HB).size))
  have HA := hide ((unhide HA).below bw)
  have HQ := hide ((unhide HQ).below bw)
  have KA := hide ((unhide KA).below bw)
  have KB := hide ((unhide KB).below bw)
  clear bw
  have m2 : x1.cell? ⟨w.heap.size, 1, none⟩ = some (.slice a2 l2 c2) := (unhide KA).c 1 (by simp)
  have k2 : x1.cell? ⟨w.heap.size + 1, 1, none⟩ = some (.slice b2 l2 d2) := (unhide KB).c 1 (by simp)
  go_wp2_with fail
  clear m2 k2
  refine (eqIntS_same _ _ _ _ _ _ z2 _ (unhide HA).r2 (unhide HQ).r2).mono ?_
  rintro x x2 ⟨rfl, bw⟩
  have HB := hide ((unhide HB).trans (bw.mono (unhide HB).size))
  have HA := hide ((unhide HA).below bw)
  have HQ := hide ((unhide HQ).below bw)
  have KA := hide ((unhide KA).below bw)
  have KB := hide ((unhide KB).below bw)
  clear bw
  go_wp2_with fail
  go_ret
  exact ⟨rfl, unhide HB⟩

end Go.Proofs.Ytbaocifpifbldar
