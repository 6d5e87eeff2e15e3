/-
  The law's size, copy and comparison of a Load18. The copy at lists of at most 1048576; nothing that was there is written.
-/
import Derived.Test.YtemodlgmjgdjpaaGreatDoorMMake
import Derived.Test.YtemodlgmjgdjpaaGreatDoorMRowBy
namespace Go.Proofs.YtemodlgmjgdjpaaGreatDoor
open Go.RowKit
/-- Its lists, read. -/
structure LdIn (w : World) (a1 : Option Addr) (l1 : Nat) (z1 : List Int) : Prop where
  r1 : RowE 1 byC w a1 l1 z1
theorem LdIn.below {w w' : World} {a1 : Option Addr} {l1 : Nat} {z1 : List Int} (h : LdIn w a1 l1 z1) (k : Below w.heap.size w w') : LdIn w' a1 l1 z1 :=
  ⟨h.r1.below k⟩
/-- Its lists that a call has made, each in memory of its own. -/
structure LdOwn (w : World) (base : Nat) (a1 : Option Addr) (l1 c1 : Nat) (z1 : List Int) : Prop where
  o1 : OwnE 1 byC w base 5 (.slice a1 l1 c1) z1
theorem LdOwn.below {w w' : World} {base : Nat} {a1 : Option Addr} {l1 c1 : Nat} {z1 : List Int} (h : LdOwn w base a1 l1 c1 z1) (k : Below w.heap.size w w') : LdOwn w' base a1 l1 c1 z1 :=
  ⟨h.o1.below k⟩
theorem LdOwn.mono {w : World} {base : Nat} {a1 : Option Addr} {l1 c1 : Nat} {z1 : List Int} (h : LdOwn w base a1 l1 c1 z1) {base' : Nat} (hb : base' ≤ base) : LdOwn w base' a1 l1 c1 z1 :=
  ⟨h.o1.mono hb⟩
theorem LdOwn.read {w : World} {base : Nat} {a1 : Option Addr} {l1 c1 : Nat} {z1 : List Int} (h : LdOwn w base a1 l1 c1 z1) : LdIn w a1 l1 z1 :=
  ⟨h.o1.row⟩
/-- Blocks of its lists lie from base on, below a number. -/
def LdLies (base hi : Nat) (a1 : Option Addr) (l1 c1 : Nat) : Prop :=
  (∀ g, (Value.slice a1 l1 c1).ownBlock = some g → base ≤ g ∧ g < hi)
theorem LdOwn.lies {w : World} {base : Nat} {a1 : Option Addr} {l1 c1 : Nat} {z1 : List Int} (h : LdOwn w base a1 l1 c1 z1) : LdLies base w.heap.size a1 l1 c1 := h.o1.lies
theorem LdOwn.only {w w' : World} {base : Nat} {a1 : Option Addr} {l1 c1 : Nat} {z1 : List Int} {lo hi b u : Nat} (h : LdOwn w base a1 l1 c1 z1) (k : Only lo hi w w') (hl : LdLies b u a1 l1 c1) (hs : u ≤ lo ∨ hi ≤ b) : LdOwn w' base a1 l1 c1 z1 :=
  ⟨h.o1.only k (fun g hg => by have := hl g hg; omega)⟩
theorem LdOwn.set_other {w : World} {base : Nat} {a1 : Option Addr} {l1 c1 : Nat} {z1 : List Int} (h : LdOwn w base a1 l1 c1 z1) {S o : Nat} (u : Value) (n1 : (Value.slice a1 l1 c1).ownBlock ≠ some S) : LdOwn (w.setCell ⟨S, o, none⟩ u) base a1 l1 c1 z1 :=
  ⟨h.o1.set_other u n1⟩
set_option maxHeartbeats 1000000 in
theorem toFits_any (le mo : Int) (w : World) :
    Calls Tryz.prog 63 #[.agg #[.int .i64 le, .int .i64 mo]] w fun e w' => e = .returned (.agg #[.int .i64 le, .int .i64 mo]) ∧ Below w.heap.size w w' := by
  go_enter Tryz.func63, Tryz.ntmps63
  go_wp2
  refine bodyPost_ret (v := .agg #[.int .i64 le, .int .i64 mo]) (by simp [results, Tryz.results63, go_sem]) rfl ⟨rfl, ?_⟩
  repeat (first | exact bel3 _ _ _ | refine Below.setCell ?_ (by simp; try omega) _)
set_option maxHeartbeats 1000000 in
theorem eqFits_same (le mo : Int) (w : World) :
    Calls Tryz.prog 65 #[.agg #[.int .i64 le, .int .i64 mo], .agg #[.int .i64 le, .int .i64 mo]] w fun e w' => e = .returned (.bool true) ∧ Below w.heap.size w w' := by
  go_enter Tryz.func65, Tryz.ntmps65
  go_wp2_with fail
  go_ret
  exact ⟨rfl, by simpa using bel2 _ _⟩
set_option maxHeartbeats 2000000 in
theorem szLoad18_any (p : ByteArray) (nb le mo ne : Int) (a1 : Option Addr) (l1 c1 : Nat) (left : Int) (w : World) (hp : p.size ≤ 9223372036854775807) (h1 : l1 ≤ 9223372036854775807) (hl0 : 0 ≤ left) (hl1 : left ≤ 1048576) :
    Calls Tryz.prog 16 #[.agg #[.string p, .int .i64 nb, .int .i64 le, .int .i64 mo, .int .i64 ne, .slice a1 l1 c1], .int .i64 left] w fun x w' => (∃ r : Int, x = .returned (.int .i64 r) ∧ (r < 0 ∨ (0 ≤ r ∧ r ≤ left ∧ p.size ≤ 1048576 ∧ l1 ≤ 1048576))) ∧ Below w.heap.size w w' := by
  by_cases q0 : (p.size : Int) ≤ left
  · have n0 : ¬ left - (p.size : Int) < 0 := by omega
    by_cases q1 : (l1 : Int) ≤ left - (p.size : Int)
    · have n1 : ¬ left - (p.size : Int) - (l1 : Int) < 0 := by omega
      go_enter Tryz.func16, Tryz.ntmps16
      go_wp2_with fail
      refine (szByteS_yes a1 l1 c1 (left - (p.size : Int)) _ (by omega) q1).mono ?_
      rintro e w' ⟨rfl, hw⟩
      subst w'
      go_wp2_with fail
      go_ret
      exact ⟨⟨_, rfl, .inr ⟨by omega, by omega, by omega, by omega⟩⟩, bel1 _⟩
    · go_enter Tryz.func16, Tryz.ntmps16
      go_wp2_with fail
      refine (szByteS_no a1 l1 c1 (left - (p.size : Int)) _ (by omega) (by omega) h1 (by omega)).mono ?_
      rintro e w' ⟨rfl, hw⟩
      subst w'
      go_wp2_with fail
      go_ret
      exact ⟨⟨-1, rfl, .inl (by omega)⟩, bel1 _⟩
  · have n0 : left - (p.size : Int) < 0 := by omega
    go_enter Tryz.func16, Tryz.ntmps16
    go_wp2_with fail
    go_ret
    exact ⟨⟨-1, rfl, .inl (by omega)⟩, bel1 _⟩
set_option maxRecDepth 20000 in
set_option maxHeartbeats 4000000 in
theorem toLoad18_own (p : ByteArray) (nb le mo ne : Int) (a1 : Option Addr) (l1 c1 : Nat) (z1 : List Int) (w : World) (hr : LdIn w a1 l1 z1) (h1 : l1 ≤ 1048576) :
    Calls Tryz.prog 19 #[.agg #[.string p, .int .i64 nb, .int .i64 le, .int .i64 mo, .int .i64 ne, .slice a1 l1 c1]] w fun x w' => (∃ g1, x = .returned (.agg #[.string p, .int .i64 nb, .int .i64 le, .int .i64 mo, .int .i64 ne, .slice (some ⟨g1, 0, none⟩) l1 l1]) ∧ LdOwn w' w.heap.size (some ⟨g1, 0, none⟩) l1 l1 z1) ∧ Below w.heap.size w w' := by
  obtain ⟨W, hW⟩ : ∃ W, W = ((w.alloc (Obj.cells #[.string p, .int .i64 nb, .int .i64 le, .int .i64 mo, .int .i64 ne, .slice a1 l1 c1] 50)).alloc (Obj.cells #[.string ⟨#[]⟩, .int .i64 0, .int .i64 0, .int .i64 0, .int .i64 0, .slice none 0 0] 32)).alloc (Obj.cells #[.string p, .int .i64 nb, .int .i64 0, .int .i64 0, .int .i64 0, .slice none 0 0] 32) := ⟨_, rfl⟩
  have KP : Hid (Blk W w.heap.size [.string p, .int .i64 nb, .int .i64 le, .int .i64 mo, .int .i64 ne, .slice a1 l1 c1]) := hide (by
    rw [hW]; exact ((Blk.new (w := w) [.string p, .int .i64 nb, .int .i64 le, .int .i64 mo, .int .i64 ne, .slice a1 l1 c1] 50).alloc _).alloc _)
  have KR : Hid (Blk W (w.heap.size + 1) [.string ⟨#[]⟩, .int .i64 0, .int .i64 0, .int .i64 0, .int .i64 0, .slice none 0 0]) := hide (by
    rw [hW]
    have := (Blk.new (w := (w.alloc (Obj.cells #[.string p, .int .i64 nb, .int .i64 le, .int .i64 mo, .int .i64 ne, .slice a1 l1 c1] 50))) [.string ⟨#[]⟩, .int .i64 0, .int .i64 0, .int .i64 0, .int .i64 0, .slice none 0 0] 32).alloc (Obj.cells #[.string p, .int .i64 nb, .int .i64 0, .int .i64 0, .int .i64 0, .slice none 0 0] 32)
    simpa using this)
  have KO : Hid (Blk W (w.heap.size + 1 + 1) [.string p, .int .i64 nb, .int .i64 0, .int .i64 0, .int .i64 0, .slice none 0 0]) := hide (by
    rw [hW]
    have := Blk.new (w := ((w.alloc (Obj.cells #[.string p, .int .i64 nb, .int .i64 le, .int .i64 mo, .int .i64 ne, .slice a1 l1 c1] 50)).alloc (Obj.cells #[.string ⟨#[]⟩, .int .i64 0, .int .i64 0, .int .i64 0, .int .i64 0, .slice none 0 0] 32))) [.string p, .int .i64 nb, .int .i64 0, .int .i64 0, .int .i64 0, .slice none 0 0] 32
    simpa using this)
  have HB : Hid (Below w.heap.size w W) := hide (by rw [hW]; exact bel3 _ _ _)
  have hsz : w.heap.size + 1 + 1 + 1 ≤ W.heap.size := by rw [hW]; simp
  have HR0 := hide hr
  have HW := hide hW
  clear hr hW
  go_enter Tryz.func19, Tryz.ntmps19
  go_wp2_with fail
  rw [← unhide HW]
  clear HW
  refine (toFits_any le mo W).mono ?_
  rintro x v0 ⟨rfl, bw⟩
  have HB := hide ((unhide HB).trans (bw.mono (unhide HB).size))
  have KP := hide ((unhide KP).below bw)
  have KR := hide ((unhide KR).below bw)
  have KO := hide ((unhide KO).below bw)
  have hsz : w.heap.size + 1 + 1 + 1 ≤ v0.heap.size := Nat.le_trans hsz bw.size
  clear bw
  have y2 : (v0).cell? ⟨w.heap.size + 1 + 1, 2, none⟩ = some (.int .i64 0) := (unhide KO).c 2 (by simp)
  have f2 : (v0).frozen? ⟨w.heap.size + 1 + 1, 2, none⟩ = false := (unhide KO).f 2 (by simp)
  have HB := hide ((unhide HB).setCell (p := ⟨w.heap.size + 1 + 1, 2, none⟩) (by simp; omega) (.int .i64 le))
  have KO := hide ((unhide KO).set 2 (by simp) (.int .i64 le))
  have KP := hide ((unhide KP).other (p := ⟨w.heap.size + 1 + 1, 2, none⟩) (by simp; omega) (.int .i64 le))
  have KR := hide ((unhide KR).other (p := ⟨w.heap.size + 1 + 1, 2, none⟩) (by simp) (.int .i64 le))
  have y3 : (v0.setCell ⟨w.heap.size + 1 + 1, 2, none⟩ (.int .i64 le)).cell? ⟨w.heap.size + 1 + 1, 3, none⟩ = some (.int .i64 0) := (unhide KO).c 3 (by simp)
  have f3 : (v0.setCell ⟨w.heap.size + 1 + 1, 2, none⟩ (.int .i64 le)).frozen? ⟨w.heap.size + 1 + 1, 3, none⟩ = false := (unhide KO).f 3 (by simp)
  have HB := hide ((unhide HB).setCell (p := ⟨w.heap.size + 1 + 1, 3, none⟩) (by simp; omega) (.int .i64 mo))
  have KO := hide ((unhide KO).set 3 (by simp) (.int .i64 mo))
  have KP := hide ((unhide KP).other (p := ⟨w.heap.size + 1 + 1, 3, none⟩) (by simp; omega) (.int .i64 mo))
  have KR := hide ((unhide KR).other (p := ⟨w.heap.size + 1 + 1, 3, none⟩) (by simp) (.int .i64 mo))
  have y4 : ((v0.setCell ⟨w.heap.size + 1 + 1, 2, none⟩ (.int .i64 le)).setCell ⟨w.heap.size + 1 + 1, 3, none⟩ (.int .i64 mo)).cell? ⟨w.heap.size + 1 + 1, 4, none⟩ = some (.int .i64 0) := (unhide KO).c 4 (by simp)
  have f4 : ((v0.setCell ⟨w.heap.size + 1 + 1, 2, none⟩ (.int .i64 le)).setCell ⟨w.heap.size + 1 + 1, 3, none⟩ (.int .i64 mo)).frozen? ⟨w.heap.size + 1 + 1, 4, none⟩ = false := (unhide KO).f 4 (by simp)
  have p4 : ((v0.setCell ⟨w.heap.size + 1 + 1, 2, none⟩ (.int .i64 le)).setCell ⟨w.heap.size + 1 + 1, 3, none⟩ (.int .i64 mo)).cell? ⟨w.heap.size, 4, none⟩ = some (.int .i64 ne) := (unhide KP).c 4 (by simp)
  have HB := hide ((unhide HB).setCell (p := ⟨w.heap.size + 1 + 1, 4, none⟩) (by simp; omega) (.int .i64 ne))
  have KO := hide ((unhide KO).set 4 (by simp) (.int .i64 ne))
  have KP := hide ((unhide KP).other (p := ⟨w.heap.size + 1 + 1, 4, none⟩) (by simp; omega) (.int .i64 ne))
  have KR := hide ((unhide KR).other (p := ⟨w.heap.size + 1 + 1, 4, none⟩) (by simp) (.int .i64 ne))
  have p5 : (((v0.setCell ⟨w.heap.size + 1 + 1, 2, none⟩ (.int .i64 le)).setCell ⟨w.heap.size + 1 + 1, 3, none⟩ (.int .i64 mo)).setCell ⟨w.heap.size + 1 + 1, 4, none⟩ (.int .i64 ne)).cell? ⟨w.heap.size, 5, none⟩ = some (.slice a1 l1 c1) := (unhide KP).c 5 (by simp)
  obtain ⟨U, hU⟩ : ∃ U, U = ((v0.setCell ⟨w.heap.size + 1 + 1, 2, none⟩ (.int .i64 le)).setCell ⟨w.heap.size + 1 + 1, 3, none⟩ (.int .i64 mo)).setCell ⟨w.heap.size + 1 + 1, 4, none⟩ (.int .i64 ne) := ⟨_, rfl⟩
  have hszU : U.heap.size = v0.heap.size := by rw [hU]; simp [World.setCell]
  rw [← hU] at HB KO KP KR
  have HI := hide ((unhide HR0).below (unhide HB))
  have HU := hide hU
  clear hU
  go_wp2_with fail
  rw [← unhide HU]
  clear HU y2 y3 y4 f2 f3 f4 p4 p5
  obtain ⟨G1, hG1⟩ : ∃ G, U.heap.size = G := ⟨_, rfl⟩
  refine (toByteS_own a1 l1 c1 z1 U (unhide HI).r1 h1).mono ?_
  rintro x v1 ⟨rfl, ow, bw⟩
  rw [hG1] at ow ⊢
  have HB := hide ((unhide HB).trans (bw.mono (unhide HB).size))
  have KP := hide ((unhide KP).below bw)
  have KR := hide ((unhide KR).below bw)
  have KO := hide ((unhide KO).below bw)
  have sz1 : G1 < v1.heap.size := ((ow.lies G1 rfl).2)
  have O1 := hide ow
  have hsz : w.heap.size + 1 + 1 + 1 ≤ G1 := by omega
  clear ow bw HI hszU
  obtain ⟨V1, hV1⟩ : ∃ V, V = v1.setCell ⟨w.heap.size + 1 + 1, 5, none⟩ (.slice (some ⟨G1, 0, none⟩) l1 l1) := ⟨_, rfl⟩
  have y5 : v1.cell? ⟨w.heap.size + 1 + 1, 5, none⟩ = some (.slice none 0 0) := (unhide KO).c 5 (by simp)
  have f5 : v1.frozen? ⟨w.heap.size + 1 + 1, 5, none⟩ = false := (unhide KO).f 5 (by simp)
  have KO := hide ((unhide KO).set 5 (by simp) (.slice (some ⟨G1, 0, none⟩) l1 l1))
  have KR := hide ((unhide KR).other (p := ⟨w.heap.size + 1 + 1, 5, none⟩) (by simp) (.slice (some ⟨G1, 0, none⟩) l1 l1))
  have O1 := hide ((unhide O1).set_other (S := w.heap.size + 1 + 1) (o := 5) (.slice (some ⟨G1, 0, none⟩) l1 l1) (by simp only [Value.ownBlock, ne_eq, Option.some.injEq]; omega))
  have HB := hide ((unhide HB).setCell (p := ⟨w.heap.size + 1 + 1, 5, none⟩) (by simp; omega) (.slice (some ⟨G1, 0, none⟩) l1 l1))
  rw [← hV1] at KO KR HB O1
  have hO : Hid (Blk V1 (w.heap.size + 1 + 1) [(.string p), (.int .i64 nb), (.int .i64 le), (.int .i64 mo), (.int .i64 ne), (.slice (some ⟨G1, 0, none⟩) l1 l1)]) := KO
  have u0 : V1.cell? ⟨w.heap.size + 1 + 1, 0, none⟩ = some (.string p) := (unhide hO).c 0 (by simp)
  have r0 : V1.cell? ⟨w.heap.size + 1, 0, none⟩ = some (.string ⟨#[]⟩) := (unhide KR).c 0 (by simp)
  have t0 : V1.frozen? ⟨w.heap.size + 1, 0, none⟩ = false := (unhide KR).f 0 (by simp)
  have u1 : V1.cell? ⟨w.heap.size + 1 + 1, 1, none⟩ = some (.int .i64 nb) := (unhide hO).c 1 (by simp)
  have r1 : V1.cell? ⟨w.heap.size + 1, 1, none⟩ = some (.int .i64 0) := (unhide KR).c 1 (by simp)
  have t1 : V1.frozen? ⟨w.heap.size + 1, 1, none⟩ = false := (unhide KR).f 1 (by simp)
  have u2 : V1.cell? ⟨w.heap.size + 1 + 1, 2, none⟩ = some (.int .i64 le) := (unhide hO).c 2 (by simp)
  have r2 : V1.cell? ⟨w.heap.size + 1, 2, none⟩ = some (.int .i64 0) := (unhide KR).c 2 (by simp)
  have t2 : V1.frozen? ⟨w.heap.size + 1, 2, none⟩ = false := (unhide KR).f 2 (by simp)
  have u3 : V1.cell? ⟨w.heap.size + 1 + 1, 3, none⟩ = some (.int .i64 mo) := (unhide hO).c 3 (by simp)
  have r3 : V1.cell? ⟨w.heap.size + 1, 3, none⟩ = some (.int .i64 0) := (unhide KR).c 3 (by simp)
  have t3 : V1.frozen? ⟨w.heap.size + 1, 3, none⟩ = false := (unhide KR).f 3 (by simp)
  have u4 : V1.cell? ⟨w.heap.size + 1 + 1, 4, none⟩ = some (.int .i64 ne) := (unhide hO).c 4 (by simp)
  have r4 : V1.cell? ⟨w.heap.size + 1, 4, none⟩ = some (.int .i64 0) := (unhide KR).c 4 (by simp)
  have t4 : V1.frozen? ⟨w.heap.size + 1, 4, none⟩ = false := (unhide KR).f 4 (by simp)
  have u5 : V1.cell? ⟨w.heap.size + 1 + 1, 5, none⟩ = some (.slice (some ⟨G1, 0, none⟩) l1 l1) := (unhide hO).c 5 (by simp)
  have r5 : V1.cell? ⟨w.heap.size + 1, 5, none⟩ = some (.slice none 0 0) := (unhide KR).c 5 (by simp)
  have t5 : V1.frozen? ⟨w.heap.size + 1, 5, none⟩ = false := (unhide KR).f 5 (by simp)
  rw [hV1] at u0 u1 u2 u3 u4 u5 r0 r1 r2 r3 r4 r5 t0 t1 t2 t3 t4 t5
  have HB := hide ((unhide HB).setCell (p := ⟨w.heap.size + 1, 0, none⟩) (by simp) (.string p))
  have O1 := hide ((unhide O1).set_other (S := w.heap.size + 1) (o := 0) (.string p) (by simp only [Value.ownBlock, ne_eq, Option.some.injEq]; omega))
  have HB := hide ((unhide HB).setCell (p := ⟨w.heap.size + 1, 1, none⟩) (by simp) (.int .i64 nb))
  have O1 := hide ((unhide O1).set_other (S := w.heap.size + 1) (o := 1) (.int .i64 nb) (by simp only [Value.ownBlock, ne_eq, Option.some.injEq]; omega))
  have HB := hide ((unhide HB).setCell (p := ⟨w.heap.size + 1, 2, none⟩) (by simp) (.int .i64 le))
  have O1 := hide ((unhide O1).set_other (S := w.heap.size + 1) (o := 2) (.int .i64 le) (by simp only [Value.ownBlock, ne_eq, Option.some.injEq]; omega))
  have HB := hide ((unhide HB).setCell (p := ⟨w.heap.size + 1, 3, none⟩) (by simp) (.int .i64 mo))
  have O1 := hide ((unhide O1).set_other (S := w.heap.size + 1) (o := 3) (.int .i64 mo) (by simp only [Value.ownBlock, ne_eq, Option.some.injEq]; omega))
  have HB := hide ((unhide HB).setCell (p := ⟨w.heap.size + 1, 4, none⟩) (by simp) (.int .i64 ne))
  have O1 := hide ((unhide O1).set_other (S := w.heap.size + 1) (o := 4) (.int .i64 ne) (by simp only [Value.ownBlock, ne_eq, Option.some.injEq]; omega))
  have HB := hide ((unhide HB).setCell (p := ⟨w.heap.size + 1, 5, none⟩) (by simp) (.slice (some ⟨G1, 0, none⟩) l1 l1))
  have O1 := hide ((unhide O1).set_other (S := w.heap.size + 1) (o := 5) (.slice (some ⟨G1, 0, none⟩) l1 l1) (by simp only [Value.ownBlock, ne_eq, Option.some.injEq]; omega))
  rw [hV1] at HB O1
  have HN := hide (LdOwn.mk ((unhide O1).mono (base' := w.heap.size) (by omega)))
  clear O1 KO KP KR hO hV1 HR0
  go_wp2_with fail
  refine bodyPost_ret (v := .agg #[(.string p), (.int .i64 nb), (.int .i64 le), (.int .i64 mo), (.int .i64 ne), (.slice (some ⟨G1, 0, none⟩) l1 l1)]) (by simp [results, Tryz.results19, go_sem, *]) rfl ⟨⟨G1, rfl, unhide HN⟩, unhide HB⟩
set_option maxRecDepth 20000 in
set_option maxHeartbeats 2000000 in
theorem eqLoad18_same (p : ByteArray) (nb le mo ne : Int) (a1 : Option Addr) (l1 c1 : Nat) (b1 : Option Addr) (d1 : Nat) (z1 : List Int) (w : World) (hr : LdIn w a1 l1 z1) (hq : LdIn w b1 l1 z1) :
    Calls Tryz.prog 21 #[.agg #[.string p, .int .i64 nb, .int .i64 le, .int .i64 mo, .int .i64 ne, .slice a1 l1 c1], .agg #[.string p, .int .i64 nb, .int .i64 le, .int .i64 mo, .int .i64 ne, .slice b1 l1 d1]] w fun x w' => x = .returned (.bool true) ∧ Below w.heap.size w w' := by
  obtain ⟨W, hW⟩ : ∃ W, W = (w.alloc (Obj.cells #[.string p, .int .i64 nb, .int .i64 le, .int .i64 mo, .int .i64 ne, .slice a1 l1 c1] 32)).alloc (Obj.cells #[.string p, .int .i64 nb, .int .i64 le, .int .i64 mo, .int .i64 ne, .slice b1 l1 d1] 32) := ⟨_, rfl⟩
  have KA : Hid (Blk W w.heap.size [.string p, .int .i64 nb, .int .i64 le, .int .i64 mo, .int .i64 ne, .slice a1 l1 c1]) := hide (by rw [hW]; exact (Blk.new (w := w) [.string p, .int .i64 nb, .int .i64 le, .int .i64 mo, .int .i64 ne, .slice a1 l1 c1] 32).alloc _)
  have KB : Hid (Blk W (w.heap.size + 1) [.string p, .int .i64 nb, .int .i64 le, .int .i64 mo, .int .i64 ne, .slice b1 l1 d1]) := hide (by
    rw [hW]
    have := Blk.new (w := w.alloc (Obj.cells #[.string p, .int .i64 nb, .int .i64 le, .int .i64 mo, .int .i64 ne, .slice a1 l1 c1] 32)) [.string p, .int .i64 nb, .int .i64 le, .int .i64 mo, .int .i64 ne, .slice b1 l1 d1] 32
    simpa using this)
  have HB : Hid (Below w.heap.size w W) := hide (by rw [hW]; exact bel2 _ _)
  have qi0 : (nb != nb) = false := by simp
  have qi1 : (ne != ne) = false := by simp
  have HA := hide hr
  have HQ := hide hq
  have HW := hide hW
  clear hr hq hW
  go_enter Tryz.func21, Tryz.ntmps21
  go_wp2_with fail
  rw [← unhide HW]
  clear HW
  refine (eqFits_same le mo _).mono ?_
  rintro x v0 ⟨rfl, bw⟩
  have HB := hide ((unhide HB).trans (bw.mono (unhide HB).size))
  have KA := hide ((unhide KA).below bw)
  have KB := hide ((unhide KB).below bw)
  clear bw
  have a3 : v0.cell? ⟨w.heap.size, 4, none⟩ = some (.int .i64 ne) := (unhide KA).c 4 (by simp)
  have a4 : v0.cell? ⟨w.heap.size, 5, none⟩ = some (.slice a1 l1 c1) := (unhide KA).c 5 (by simp)
  have b3 : v0.cell? ⟨w.heap.size + 1, 4, none⟩ = some (.int .i64 ne) := (unhide KB).c 4 (by simp)
  have b4 : v0.cell? ⟨w.heap.size + 1, 5, none⟩ = some (.slice b1 l1 d1) := (unhide KB).c 5 (by simp)
  go_wp2_with fail
  clear a3 a4 b3 b4
  refine (eqByteS_same _ _ _ _ _ _ z1 _ ((unhide HA).below (unhide HB)).r1 ((unhide HQ).below (unhide HB)).r1).mono ?_
  rintro x x1 ⟨rfl, bw⟩
  have HB := hide ((unhide HB).trans (bw.mono (unhide HB).size))
  clear bw KA KB
  go_wp2_with fail
  go_ret
  exact ⟨rfl, unhide HB⟩

end Go.Proofs.YtemodlgmjgdjpaaGreatDoor
