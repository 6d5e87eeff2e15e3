/-
  The law's size, copy and comparison of a Plan17. The copy at lists of at most 1048576; nothing that was there is written.
-/
import Derived.Test.YtndhiecakojjgbaOnly
import Derived.Test.YtndhiecakojjgbaRowWn
namespace Go.Proofs.Ytndhiecakojjgba
open Go.RowKit
/-- Its lists, read. -/
structure PpIn (w : World) (a1 : Option Addr) (l1 : Nat) (z1 : List Wn) : Prop where
  r1 : RowE 3 wnC w a1 l1 z1
theorem PpIn.below {w w' : World} {a1 : Option Addr} {l1 : Nat} {z1 : List Wn} (h : PpIn w a1 l1 z1) (k : Below w.heap.size w w') : PpIn w' a1 l1 z1 :=
  ⟨h.r1.below k⟩
/-- Its lists that a call has made, each in memory of its own. -/
structure PpOwn (w : World) (base : Nat) (a1 : Option Addr) (l1 c1 : Nat) (z1 : List Wn) : Prop where
  o1 : OwnE 3 wnC w base 39 (.slice a1 l1 c1) z1
theorem PpOwn.below {w w' : World} {base : Nat} {a1 : Option Addr} {l1 c1 : Nat} {z1 : List Wn} (h : PpOwn w base a1 l1 c1 z1) (k : Below w.heap.size w w') : PpOwn w' base a1 l1 c1 z1 :=
  ⟨h.o1.below k⟩
theorem PpOwn.mono {w : World} {base : Nat} {a1 : Option Addr} {l1 c1 : Nat} {z1 : List Wn} (h : PpOwn w base a1 l1 c1 z1) {base' : Nat} (hb : base' ≤ base) : PpOwn w base' a1 l1 c1 z1 :=
  ⟨h.o1.mono hb⟩
theorem PpOwn.read {w : World} {base : Nat} {a1 : Option Addr} {l1 c1 : Nat} {z1 : List Wn} (h : PpOwn w base a1 l1 c1 z1) : PpIn w a1 l1 z1 :=
  ⟨h.o1.row⟩
/-- Blocks of its lists lie from base on, below a number. -/
def PpLies (base hi : Nat) (a1 : Option Addr) (l1 c1 : Nat) : Prop :=
  (∀ g, (Value.slice a1 l1 c1).ownBlock = some g → base ≤ g ∧ g < hi)
theorem PpOwn.lies {w : World} {base : Nat} {a1 : Option Addr} {l1 c1 : Nat} {z1 : List Wn} (h : PpOwn w base a1 l1 c1 z1) : PpLies base w.heap.size a1 l1 c1 := h.o1.lies
theorem PpOwn.only {w w' : World} {base : Nat} {a1 : Option Addr} {l1 c1 : Nat} {z1 : List Wn} {lo hi b u : Nat} (h : PpOwn w base a1 l1 c1 z1) (k : Only lo hi w w') (hl : PpLies b u a1 l1 c1) (hs : u ≤ lo ∨ hi ≤ b) : PpOwn w' base a1 l1 c1 z1 :=
  ⟨h.o1.only k (fun g hg => by have := hl g hg; omega)⟩
theorem PpOwn.set_other {w : World} {base : Nat} {a1 : Option Addr} {l1 c1 : Nat} {z1 : List Wn} (h : PpOwn w base a1 l1 c1 z1) {S o : Nat} (u : Value) (n1 : (Value.slice a1 l1 c1).ownBlock ≠ some S) : PpOwn (w.setCell ⟨S, o, none⟩ u) base a1 l1 c1 z1 :=
  ⟨h.o1.set_other u n1⟩
set_option maxHeartbeats 2000000 in
theorem szPlan17_any (i0 i1 : Int) (a1 : Option Addr) (l1 c1 : Nat) (left : Int) (w : World) (h1 : l1 ≤ 9223372036854775807) (hl0 : 0 ≤ left) (hl1 : left ≤ 1048576) :
    Calls Try.prog 4 #[.agg #[.int .i64 i0, .int .i64 i1, .slice a1 l1 c1], .int .i64 left] w fun x w' => (∃ r : Int, x = .returned (.int .i64 r) ∧ (r < 0 ∨ (0 ≤ r ∧ r ≤ left ∧ l1 ≤ 1048576))) ∧ Below w.heap.size w w' := by
  by_cases q1 : (l1 : Int) ≤ left
  · skip
    go_enter Try.func4, Try.ntmps4
    go_wp2_with fail
    refine (szWindowS_yes a1 l1 c1 (left) _ (by omega) q1).mono ?_
    rintro e w' ⟨rfl, hw⟩
    subst w'
    go_wp2_with fail
    go_ret
    exact ⟨⟨_, rfl, .inr ⟨by omega, by omega, by omega⟩⟩, bel1 _⟩
  · skip
    go_enter Try.func4, Try.ntmps4
    go_wp2_with fail
    refine (szWindowS_no a1 l1 c1 (left) _ (by omega) (by omega) h1 (by omega)).mono ?_
    rintro e w' ⟨rfl, hw⟩
    subst w'
    go_wp2_with fail
    go_ret
    exact ⟨⟨-1, rfl, .inl (by omega)⟩, bel1 _⟩
set_option maxRecDepth 20000 in
set_option maxHeartbeats 4000000 in
theorem toPlan17_own (i0 i1 : Int) (a1 : Option Addr) (l1 c1 : Nat) (z1 : List Wn) (w : World) (hr : PpIn w a1 l1 z1) (h1 : l1 ≤ 1048576) :
    Calls Try.prog 6 #[.agg #[.int .i64 i0, .int .i64 i1, .slice a1 l1 c1]] w fun x w' => (∃ g1, x = .returned (.agg #[.int .i64 i0, .int .i64 i1, .slice (some ⟨g1, 0, none⟩) l1 l1]) ∧ PpOwn w' w.heap.size (some ⟨g1, 0, none⟩) l1 l1 z1) ∧ Below w.heap.size w w' := by
  obtain ⟨W, hW⟩ : ∃ W, W = ((w.alloc (Obj.cells #[.int .i64 i0, .int .i64 i1, .slice a1 l1 c1] 24)).alloc (Obj.cells #[.int .i64 0, .int .i64 0, .slice none 0 0] 28)).alloc (Obj.cells #[.int .i64 i0, .int .i64 i1, .slice none 0 0] 28) := ⟨_, rfl⟩
  have KP : Hid (Blk W w.heap.size [.int .i64 i0, .int .i64 i1, .slice a1 l1 c1]) := hide (by
    rw [hW]; exact ((Blk.new (w := w) [.int .i64 i0, .int .i64 i1, .slice a1 l1 c1] 24).alloc _).alloc _)
  have KR : Hid (Blk W (w.heap.size + 1) [.int .i64 0, .int .i64 0, .slice none 0 0]) := hide (by
    rw [hW]
    have := (Blk.new (w := w.alloc (Obj.cells #[.int .i64 i0, .int .i64 i1, .slice a1 l1 c1] 24)) [.int .i64 0, .int .i64 0, .slice none 0 0] 28).alloc (Obj.cells #[.int .i64 i0, .int .i64 i1, .slice none 0 0] 28)
    simpa using this)
  have KO : Hid (Blk W (w.heap.size + 1 + 1) [.int .i64 i0, .int .i64 i1, .slice none 0 0]) := hide (by
    rw [hW]
    have := Blk.new (w := (w.alloc (Obj.cells #[.int .i64 i0, .int .i64 i1, .slice a1 l1 c1] 24)).alloc (Obj.cells #[.int .i64 0, .int .i64 0, .slice none 0 0] 28)) [.int .i64 i0, .int .i64 i1, .slice none 0 0] 28
    simpa using this)
  have HB : Hid (Below w.heap.size w W) := hide (by rw [hW]; exact bel3 _ _ _)
  have hsz : w.heap.size + 1 + 1 + 1 ≤ W.heap.size := by rw [hW]; simp
  have HI := hide (hr.below (unhide HB))
  have HR0 := hide hr
  have HW := hide hW
  clear hr hW
  go_enter Try.func6, Try.ntmps6
  go_wp2_with fail
  rw [← unhide HW]
  clear HW
  obtain ⟨G1, hG1⟩ : ∃ G, W.heap.size = G := ⟨_, rfl⟩
  refine (toWindowS_own a1 l1 c1 z1 W (unhide HI).r1 h1).mono ?_
  rintro x v1 ⟨rfl, ow, bw⟩
  rw [hG1] at ow ⊢
  have HB := hide ((unhide HB).trans (bw.mono (unhide HB).size))
  have KP := hide ((unhide KP).below bw)
  have KR := hide ((unhide KR).below bw)
  have KO := hide ((unhide KO).below bw)
  have sz1 : G1 < v1.heap.size := ((ow.lies G1 rfl).2)
  have O1 := hide ow
  have hsz : w.heap.size + 1 + 1 + 1 ≤ G1 := by omega
  clear ow bw HI
  obtain ⟨V1, hV1⟩ : ∃ V, V = v1.setCell ⟨w.heap.size + 1 + 1, 2, none⟩ (.slice (some ⟨G1, 0, none⟩) l1 l1) := ⟨_, rfl⟩
  have y1 : v1.cell? ⟨w.heap.size + 1 + 1, 2, none⟩ = some (.slice none 0 0) := (unhide KO).c 2 (by simp)
  have f1 : v1.frozen? ⟨w.heap.size + 1 + 1, 2, none⟩ = false := (unhide KO).f 2 (by simp)
  have KO := hide ((unhide KO).set 2 (by simp) (.slice (some ⟨G1, 0, none⟩) l1 l1))
  have KP := hide ((unhide KP).other (p := ⟨w.heap.size + 1 + 1, 2, none⟩) (by simp; omega) (.slice (some ⟨G1, 0, none⟩) l1 l1))
  have KR := hide ((unhide KR).other (p := ⟨w.heap.size + 1 + 1, 2, none⟩) (by simp) (.slice (some ⟨G1, 0, none⟩) l1 l1))
  have O1 := hide ((unhide O1).set_other (S := w.heap.size + 1 + 1) (o := 2) (.slice (some ⟨G1, 0, none⟩) l1 l1) (by simp only [Value.ownBlock, ne_eq, Option.some.injEq]; omega))
  have HB := hide ((unhide HB).setCell (p := ⟨w.heap.size + 1 + 1, 2, none⟩) (by simp; omega) (.slice (some ⟨G1, 0, none⟩) l1 l1))
  have szv1 : (v1.setCell ⟨w.heap.size + 1 + 1, 2, none⟩ (.slice (some ⟨G1, 0, none⟩) l1 l1)).heap.size = v1.heap.size := by simp [World.setCell]
  rw [← hV1] at KO KP KR HB szv1 O1
  have hO : Hid (Blk V1 (w.heap.size + 1 + 1) [(.int .i64 i0), (.int .i64 i1), (.slice (some ⟨G1, 0, none⟩) l1 l1)]) := KO
  have u0 : V1.cell? ⟨w.heap.size + 1 + 1, 0, none⟩ = some (.int .i64 i0) := (unhide hO).c 0 (by simp)
  have r0 : V1.cell? ⟨w.heap.size + 1, 0, none⟩ = some (.int .i64 0) := (unhide KR).c 0 (by simp)
  have t0 : V1.frozen? ⟨w.heap.size + 1, 0, none⟩ = false := (unhide KR).f 0 (by simp)
  have u1 : V1.cell? ⟨w.heap.size + 1 + 1, 1, none⟩ = some (.int .i64 i1) := (unhide hO).c 1 (by simp)
  have r1 : V1.cell? ⟨w.heap.size + 1, 1, none⟩ = some (.int .i64 0) := (unhide KR).c 1 (by simp)
  have t1 : V1.frozen? ⟨w.heap.size + 1, 1, none⟩ = false := (unhide KR).f 1 (by simp)
  have u2 : V1.cell? ⟨w.heap.size + 1 + 1, 2, none⟩ = some (.slice (some ⟨G1, 0, none⟩) l1 l1) := (unhide hO).c 2 (by simp)
  have r2 : V1.cell? ⟨w.heap.size + 1, 2, none⟩ = some (.slice none 0 0) := (unhide KR).c 2 (by simp)
  have t2 : V1.frozen? ⟨w.heap.size + 1, 2, none⟩ = false := (unhide KR).f 2 (by simp)
  rw [hV1] at u0 u1 u2 r0 r1 r2 t0 t1 t2
  have HB := hide ((unhide HB).setCell (p := ⟨w.heap.size + 1, 0, none⟩) (by simp) (.int .i64 i0))
  have O1 := hide ((unhide O1).set_other (S := w.heap.size + 1) (o := 0) (.int .i64 i0) (by simp only [Value.ownBlock, ne_eq, Option.some.injEq]; omega))
  have HB := hide ((unhide HB).setCell (p := ⟨w.heap.size + 1, 1, none⟩) (by simp) (.int .i64 i1))
  have O1 := hide ((unhide O1).set_other (S := w.heap.size + 1) (o := 1) (.int .i64 i1) (by simp only [Value.ownBlock, ne_eq, Option.some.injEq]; omega))
  have HB := hide ((unhide HB).setCell (p := ⟨w.heap.size + 1, 2, none⟩) (by simp) (.slice (some ⟨G1, 0, none⟩) l1 l1))
  have O1 := hide ((unhide O1).set_other (S := w.heap.size + 1) (o := 2) (.slice (some ⟨G1, 0, none⟩) l1 l1) (by simp only [Value.ownBlock, ne_eq, Option.some.injEq]; omega))
  rw [hV1] at HB O1
  have HN := hide (PpOwn.mk ((unhide O1).mono (base' := w.heap.size) (by omega)) )
  clear O1 KO KP KR hO hV1 HR0
  go_wp2_with fail
  refine bodyPost_ret (v := .agg #[(.int .i64 i0), (.int .i64 i1), (.slice (some ⟨G1, 0, none⟩) l1 l1)]) (by simp [results, Try.results6, go_sem, *]) rfl ⟨⟨G1, rfl, unhide HN⟩, unhide HB⟩
set_option maxHeartbeats 2000000 in
theorem eqPlan17_same (i0 i1 : Int) (a1 : Option Addr) (l1 c1 : Nat) (b1 : Option Addr) (d1 : Nat) (z1 : List Wn) (w : World) (hr : PpIn w a1 l1 z1) (hq : PpIn w b1 l1 z1) :
    Calls Try.prog 8 #[.agg #[.int .i64 i0, .int .i64 i1, .slice a1 l1 c1], .agg #[.int .i64 i0, .int .i64 i1, .slice b1 l1 d1]] w fun x w' => x = .returned (.bool true) ∧ Below w.heap.size w w' := by
  obtain ⟨W, hW⟩ : ∃ W, W = (w.alloc (Obj.cells #[.int .i64 i0, .int .i64 i1, .slice a1 l1 c1] 28)).alloc (Obj.cells #[.int .i64 i0, .int .i64 i1, .slice b1 l1 d1] 28) := ⟨_, rfl⟩
  have KA : Hid (Blk W w.heap.size [.int .i64 i0, .int .i64 i1, .slice a1 l1 c1]) := hide (by rw [hW]; exact (Blk.new (w := w) [.int .i64 i0, .int .i64 i1, .slice a1 l1 c1] 28).alloc _)
  have KB : Hid (Blk W (w.heap.size + 1) [.int .i64 i0, .int .i64 i1, .slice b1 l1 d1]) := hide (by
    rw [hW]
    have := Blk.new (w := w.alloc (Obj.cells #[.int .i64 i0, .int .i64 i1, .slice a1 l1 c1] 28)) [.int .i64 i0, .int .i64 i1, .slice b1 l1 d1] 28
    simpa using this)
  have HB : Hid (Below w.heap.size w W) := hide (by rw [hW]; exact bel2 _ _)
  have HA := hide (hr.below (unhide HB))
  have HQ := hide (hq.below (unhide HB))
  have qi0 : (i0 != i0) = false := by simp
  have qi1 : (i1 != i1) = false := by simp
  have HW := hide hW
  clear hr hq hW
  go_enter Try.func8, Try.ntmps8
  go_wp2_with fail
  rw [← unhide HW]
  clear HW
  refine (eqWindowS_alike _ _ _ _ _ _ z1 z1 _ (unhide HA).r1 (unhide HQ).r1 rfl (fun _ _ => wnAlike_refl _)).mono ?_
  rintro x x1 ⟨rfl, bw⟩
  have HB := hide ((unhide HB).trans (bw.mono (unhide HB).size))
  have HA := hide ((unhide HA).below bw)
  have HQ := hide ((unhide HQ).below bw)
  have KA := hide ((unhide KA).below bw)
  have KB := hide ((unhide KB).below bw)
  clear bw
  go_wp2_with fail
  go_ret
  exact ⟨rfl, unhide HB⟩

end Go.Proofs.Ytndhiecakojjgba
