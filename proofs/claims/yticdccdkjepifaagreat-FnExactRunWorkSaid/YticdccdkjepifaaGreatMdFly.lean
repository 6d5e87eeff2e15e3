/-
  What the model does with a deed: a flight, days that pass. The fleet is so, it lies in memory of its own, its texts can be there.
-/
import Derived.Test.YticdccdkjepifaaGreatHgRun
import Derived.Test.YticdccdkjepifaaGreatRlSpec
namespace Go.Proofs.YticdccdkjepifaaGreat
open Go Go.RowKit

/-- What stays: memory ahead of base, and every block but the tasks' own. -/
structure MdG (base g : Nat) (w w' : World) : Prop where
  b : Below base w w'
  g : w.grownBy w' (some g)
theorem mdG_of {base g : Nat} {w w' : World} (h : Below w.heap.size w w') (hb : base ≤ w.heap.size) : MdG base g w w' := ⟨h.mono hb, ⟨h.os, h.tape, h.output, h.size, fun k hk _ => h.block k hk⟩⟩
theorem grown_newM {w w1 w2 : World} {row : Option Nat} {g : Nat} (h : w.grownBy w1 row) (k : w1.grownBy w2 (some g)) (hg : w.heap.size ≤ g) : w.grownBy w2 row :=
  ⟨k.os.trans h.os, k.tape.trans h.tape, k.output.trans h.output, Nat.le_trans h.size k.size, fun i hi hne => (k.block i (Nat.lt_of_lt_of_le hi h.size) (fun e => by have := Option.some.inj e; omega)).trans (h.block i hi hne)⟩
theorem bel_grownM {w w' : World} (h : Below w.heap.size w w') (row : Option Nat) : w.grownBy w' row := ⟨h.os, h.tape, h.output, h.size, fun k hk _ => h.block k hk⟩
/-- A fleet handed back, as it lies; where it counts, it is that one. -/
def MdO (w : World) (base : Nat) (v : Value) (f : Fl) (b : Bool) : Prop := ∃ (g1 n1 p1 g2 n2 p2 g3 n3 p3 : Nat) (h c d : Int), v = .agg #[.slice (some ⟨g1, 0, none⟩) n1 p1, .slice (some ⟨g2, 0, none⟩) n2 p2, .slice (some ⟨g3, 0, none⟩) n3 p3, .int .i64 h, .int .i64 c, .int .i64 d] ∧ (b = true → FlOwn w base (some ⟨g1, 0, none⟩) (some ⟨g2, 0, none⟩) (some ⟨g3, 0, none⟩) n1 p1 n2 p2 n3 p3 f.ts f.cs f.ds ∧ h = f.nh ∧ c = f.nc ∧ d = f.nd)
structure Md8 (w : World) (V3 : World) (g1 : Nat) (p1 : Nat) (g2 : Nat) (p2 : Nat) (g3 : Nat) (p3 : Nat) (ts : List Ts) (cs : List Cr) (ds : List Df) (nh : Int) (nc : Int) (nd : Int) (m : Int) (B : Bool) (t0 t1 t2 t3 t4 t5 : Bool) (v0 v1 v2 v3 v5 : Value) (W : World) : Prop where
  bel : Below w.heap.size w W
  sz : V3.heap.size ≤ W.heap.size
  kf : Blk W (w.heap.size) [.slice (some ⟨g1, 0, none⟩) ts.length p1, .slice (some ⟨g2, 0, none⟩) cs.length p2, .slice (some ⟨g3, 0, none⟩) ds.length p3, .int .i64 (nh + m), .int .i64 (nc + 1), .int .i64 nd]
  rc : Blk W (w.heap.size + 1 + 1) (bif t4 then [.slice (some ⟨g1, 0, none⟩) ts.length p1, .slice (some ⟨g2, 0, none⟩) cs.length p2, .slice (some ⟨g3, 0, none⟩) ds.length p3, .int .i64 (nh + m), .int .i64 (nc + 1), .int .i64 nd] else [.slice none 0 0, .slice none 0 0, .slice none 0 0, .int .i64 0, .int .i64 0, .int .i64 0])
  e0 : t0 = true → v0 = .agg #[.slice (some ⟨g1, 0, none⟩) ts.length p1, .slice (some ⟨g2, 0, none⟩) cs.length p2, .slice (some ⟨g3, 0, none⟩) ds.length p3, .int .i64 (nh + m), .int .i64 (nc + 1), .int .i64 nd]
  e1 : t1 = true → v1 = .pointer (some ⟨w.heap.size, 3, none⟩)
  e2 : t2 = true → v2 = .agg #[.int .i64 (nh + m), .int .i64 (nc + 1), .int .i64 nd]
  e3 : t3 = true → v3 = .bool B
  e5 : t5 = true → v5 = .bool B
theorem Md8.below {w : World} {V3 : World} {g1 : Nat} {p1 : Nat} {g2 : Nat} {p2 : Nat} {g3 : Nat} {p3 : Nat} {ts : List Ts} {cs : List Cr} {ds : List Df} {nh : Int} {nc : Int} {nd : Int} {m : Int} {B : Bool} {t0 t1 t2 t3 t4 t5 : Bool} {v0 v1 v2 v3 v5 : Value} {W W' : World} (K : Md8 w V3 g1 p1 g2 p2 g3 p3 ts cs ds nh nc nd m B t0 t1 t2 t3 t4 t5 v0 v1 v2 v3 v5 W) (hbw : Below W.heap.size W W') : Md8 w V3 g1 p1 g2 p2 g3 p3 ts cs ds nh nc nd m B t0 t1 t2 t3 t4 t5 v0 v1 v2 v3 v5 W' :=
  ⟨K.bel.trans (hbw.mono K.bel.size), Nat.le_trans K.sz hbw.size, K.kf.below hbw, K.rc.below hbw, K.e0, K.e1, K.e2, K.e3, K.e5⟩
def Md8J (w : World) (V3 : World) (g1 : Nat) (p1 : Nat) (g2 : Nat) (p2 : Nat) (g3 : Nat) (p3 : Nat) (ts : List Ts) (cs : List Cr) (ds : List Df) (nh : Int) (nc : Int) (nd : Int) (m : Int) (B : Bool) (A0 : Act) (l : Nat → Bool) (a : Act) (V : World) : Prop := ∃ (v0 v1 v2 v3 v5 : Value), a = (((((A0.put (some 44) v0).put (some 45) v1).put (some 46) v2).put (some 47) v3).put (some 5) v5) ∧ Md8 w V3 g1 p1 g2 p2 g3 p3 ts cs ds nh nc nd m B (l 0) (l 1) (l 2) (l 3) (l 4) (l 5) v0 v1 v2 v3 v5 V
theorem Md8J.mk {w : World} {V3 : World} {g1 : Nat} {p1 : Nat} {g2 : Nat} {p2 : Nat} {g3 : Nat} {p3 : Nat} {ts : List Ts} {cs : List Cr} {ds : List Df} {nh : Int} {nc : Int} {nd : Int} {m : Int} {B : Bool} {A0 : Act} {l : Nat → Bool} {a : Act} {V : World} {v0 v1 v2 v3 v5 : Value} (K : Md8 w V3 g1 p1 g2 p2 g3 p3 ts cs ds nh nc nd m B (l 0) (l 1) (l 2) (l 3) (l 4) (l 5) v0 v1 v2 v3 v5 V) (hq : a = (((((A0.put (some 44) v0).put (some 45) v1).put (some 46) v2).put (some 47) v3).put (some 5) v5)) : Md8J w V3 g1 p1 g2 p2 g3 p3 ts cs ds nh nc nd m B A0 l a V := ⟨v0, v1, v2, v3, v5, hq, K⟩
structure Md13 (w : World) (V3 : World) (g1 : Nat) (p1 : Nat) (g2 : Nat) (p2 : Nat) (g3 : Nat) (p3 : Nat) (ts : List Ts) (cs : List Cr) (ds : List Df) (nh : Int) (nc : Int) (nd : Int) (m : Int) (B : Bool) (t0 t1 t2 t3 t4 t5 : Bool) (v0 v1 v2 v3 v5 : Value) (W : World) : Prop where
  bel : Below w.heap.size w W
  sz : V3.heap.size ≤ W.heap.size
  kf : Blk W (w.heap.size) [.slice (some ⟨g1, 0, none⟩) ts.length p1, .slice (some ⟨g2, 0, none⟩) cs.length p2, .slice (some ⟨g3, 0, none⟩) ds.length p3, .int .i64 nh, .int .i64 nc, .int .i64 (nd + m)]
  rc : Blk W (w.heap.size + 1 + 1) (bif t4 then [.slice (some ⟨g1, 0, none⟩) ts.length p1, .slice (some ⟨g2, 0, none⟩) cs.length p2, .slice (some ⟨g3, 0, none⟩) ds.length p3, .int .i64 nh, .int .i64 nc, .int .i64 (nd + m)] else [.slice none 0 0, .slice none 0 0, .slice none 0 0, .int .i64 0, .int .i64 0, .int .i64 0])
  e0 : t0 = true → v0 = .agg #[.slice (some ⟨g1, 0, none⟩) ts.length p1, .slice (some ⟨g2, 0, none⟩) cs.length p2, .slice (some ⟨g3, 0, none⟩) ds.length p3, .int .i64 nh, .int .i64 nc, .int .i64 (nd + m)]
  e1 : t1 = true → v1 = .pointer (some ⟨w.heap.size, 3, none⟩)
  e2 : t2 = true → v2 = .agg #[.int .i64 nh, .int .i64 nc, .int .i64 (nd + m)]
  e3 : t3 = true → v3 = .bool B
  e5 : t5 = true → v5 = .bool B
theorem Md13.below {w : World} {V3 : World} {g1 : Nat} {p1 : Nat} {g2 : Nat} {p2 : Nat} {g3 : Nat} {p3 : Nat} {ts : List Ts} {cs : List Cr} {ds : List Df} {nh : Int} {nc : Int} {nd : Int} {m : Int} {B : Bool} {t0 t1 t2 t3 t4 t5 : Bool} {v0 v1 v2 v3 v5 : Value} {W W' : World} (K : Md13 w V3 g1 p1 g2 p2 g3 p3 ts cs ds nh nc nd m B t0 t1 t2 t3 t4 t5 v0 v1 v2 v3 v5 W) (hbw : Below W.heap.size W W') : Md13 w V3 g1 p1 g2 p2 g3 p3 ts cs ds nh nc nd m B t0 t1 t2 t3 t4 t5 v0 v1 v2 v3 v5 W' :=
  ⟨K.bel.trans (hbw.mono K.bel.size), Nat.le_trans K.sz hbw.size, K.kf.below hbw, K.rc.below hbw, K.e0, K.e1, K.e2, K.e3, K.e5⟩
def Md13J (w : World) (V3 : World) (g1 : Nat) (p1 : Nat) (g2 : Nat) (p2 : Nat) (g3 : Nat) (p3 : Nat) (ts : List Ts) (cs : List Cr) (ds : List Df) (nh : Int) (nc : Int) (nd : Int) (m : Int) (B : Bool) (A0 : Act) (l : Nat → Bool) (a : Act) (V : World) : Prop := ∃ (v0 v1 v2 v3 v5 : Value), a = (((((A0.put (some 63) v0).put (some 64) v1).put (some 65) v2).put (some 66) v3).put (some 5) v5) ∧ Md13 w V3 g1 p1 g2 p2 g3 p3 ts cs ds nh nc nd m B (l 0) (l 1) (l 2) (l 3) (l 4) (l 5) v0 v1 v2 v3 v5 V
theorem Md13J.mk {w : World} {V3 : World} {g1 : Nat} {p1 : Nat} {g2 : Nat} {p2 : Nat} {g3 : Nat} {p3 : Nat} {ts : List Ts} {cs : List Cr} {ds : List Df} {nh : Int} {nc : Int} {nd : Int} {m : Int} {B : Bool} {A0 : Act} {l : Nat → Bool} {a : Act} {V : World} {v0 v1 v2 v3 v5 : Value} (K : Md13 w V3 g1 p1 g2 p2 g3 p3 ts cs ds nh nc nd m B (l 0) (l 1) (l 2) (l 3) (l 4) (l 5) v0 v1 v2 v3 v5 V) (hq : a = (((((A0.put (some 63) v0).put (some 64) v1).put (some 65) v2).put (some 66) v3).put (some 5) v5)) : Md13J w V3 g1 p1 g2 p2 g3 p3 ts cs ds nh nc nd m B A0 l a V := ⟨v0, v1, v2, v3, v5, hq, K⟩
set_option maxRecDepth 20000 in
set_option maxHeartbeats 4000000 in
theorem md_1n (base g1 p1 g2 p2 g3 p3 : Nat) (ts : List Ts) (cs : List Cr) (ds : List Df) (nh nc nd : Int) (n : ByteArray) (i m : Int) (w : World) (ho : FlOwn w base (some ⟨g1, 0, none⟩) (some ⟨g2, 0, none⟩) (some ⟨g3, 0, none⟩) ts.length p1 cs.length p2 ds.length p3 ts cs ds) (ff : FitF ⟨ts, cs, ds, nh, nc, nd⟩) (hf : flB ⟨ts, cs, ds, nh, nc, nd⟩ = true) (q : inB m 1 100 = false) :
    Calls Tryz.prog 49 #[.agg #[.slice (some ⟨g1, 0, none⟩) ts.length p1, .slice (some ⟨g2, 0, none⟩) cs.length p2, .slice (some ⟨g3, 0, none⟩) ds.length p3, .int .i64 nh, .int .i64 nc, .int .i64 nd], .agg #[.int .i64 1, .string n, .int .i64 i, .int .i64 m]] w fun e w' => ∃ v, e = .returned (.tuple #[v, .bool (dwB ⟨ts, cs, ds, nh, nc, nd⟩ ⟨1, n, i, m⟩)]) ∧ MdO w' base v (dwF ⟨ts, cs, ds, nh, nc, nd⟩ ⟨1, n, i, m⟩) (dwB ⟨ts, cs, ds, nh, nc, nd⟩ ⟨1, n, i, m⟩) ∧ MdG base g1 w w' := by
  have EB : dwB ⟨ts, cs, ds, nh, nc, nd⟩ ⟨1, n, i, m⟩ = false := by rw [(dw1 hf).1]; simp [flyB, q]
  obtain ⟨f', hf'⟩ : ∃ x, dwF ⟨ts, cs, ds, nh, nc, nd⟩ ⟨1, n, i, m⟩ = x := ⟨_, rfl⟩
  rw [EB, hf']
  clear EB hf'
  obtain ⟨S, hS⟩ : ∃ x, (rlR ⟨ts, cs, ds, nh, nc, nd⟩).2 = x := ⟨_, rfl⟩
  obtain ⟨R0, hR⟩ : ∃ x, (rlR ⟨ts, cs, ds, nh, nc, nd⟩).1 = x := ⟨_, rfl⟩
  have CR : Hid (∀ V, FlIn V (some ⟨g1, 0, none⟩) (some ⟨g2, 0, none⟩) (some ⟨g3, 0, none⟩) ts.length cs.length ds.length ts cs ds → Calls Tryz.prog 71 #[.agg #[.slice (some ⟨g1, 0, none⟩) ts.length p1, .slice (some ⟨g2, 0, none⟩) cs.length p2, .slice (some ⟨g3, 0, none⟩) ds.length p3, .int .i64 nh, .int .i64 nc, .int .i64 nd]] V fun e w' => e = .returned (.tuple #[.int .i64 R0, .string S]) ∧ Below V.heap.size V w') := hide (fun V hV => by have k := specRelease_any nh nc nd (some ⟨g1, 0, none⟩) (some ⟨g2, 0, none⟩) (some ⟨g3, 0, none⟩) ts.length p1 cs.length p2 ds.length p3 ts cs ds V hV ff.t ff.c ff.d; rw [hS, hR] at k; exact k)
  clear hS hR
  have hsz : base ≤ w.heap.size := by have := ho.o1.lies g1 rfl; omega
  obtain ⟨V0, hV0⟩ : ∃ V, V = ((w.alloc (Obj.cells #[.slice (some ⟨g1, 0, none⟩) ts.length p1, .slice (some ⟨g2, 0, none⟩) cs.length p2, .slice (some ⟨g3, 0, none⟩) ds.length p3, .int .i64 nh, .int .i64 nc, .int .i64 nd] 37)).alloc (Obj.cells #[.int .i64 1, .string n, .int .i64 i, .int .i64 m] 60)).alloc (Obj.cells #[.slice none 0 0, .slice none 0 0, .slice none 0 0, .int .i64 0, .int .i64 0, .int .i64 0] 37) := ⟨_, rfl⟩
  have bV : Below w.heap.size w V0 := by rw [hV0]; exact bel3 _ _ _
  have KF0 : Hid (Blk V0 (w.heap.size) [.slice (some ⟨g1, 0, none⟩) ts.length p1, .slice (some ⟨g2, 0, none⟩) cs.length p2, .slice (some ⟨g3, 0, none⟩) ds.length p3, .int .i64 nh, .int .i64 nc, .int .i64 nd]) := hide (by rw [hV0]; exact blkAt3_0)
  have KD0 : Hid (Blk V0 (w.heap.size + 1) [.int .i64 1, .string n, .int .i64 i, .int .i64 m]) := hide (by rw [hV0]; exact blkAt3_1)
  have KR0 : Hid (Blk V0 (w.heap.size + 1 + 1) [.slice none 0 0, .slice none 0 0, .slice none 0 0, .int .i64 0, .int .i64 0, .int .i64 0]) := hide (by rw [hV0]; exact blkAt3_2)
  have B0 := hide bV
  have HO := hide ho
  have HW := hide hV0
  have FF := hide ff
  have y0 : V0.cell? ⟨w.heap.size + 1, 0, none⟩ = some (.int .i64 1) := (unhide KD0).c 0 (by simp)
  have y1 : V0.cell? ⟨w.heap.size + 1, 1, none⟩ = some (.string n) := (unhide KD0).c 1 (by simp)
  have y2 : V0.cell? ⟨w.heap.size + 1, 2, none⟩ = some (.int .i64 i) := (unhide KD0).c 2 (by simp)
  have y3 : V0.cell? ⟨w.heap.size + 1, 3, none⟩ = some (.int .i64 m) := (unhide KD0).c 3 (by simp)
  have q0 : V0.cell? ⟨w.heap.size, 0, none⟩ = some (.slice (some ⟨g1, 0, none⟩) ts.length p1) := (unhide KF0).c 0 (by simp)
  have q1 : V0.cell? ⟨w.heap.size, 1, none⟩ = some (.slice (some ⟨g2, 0, none⟩) cs.length p2) := (unhide KF0).c 1 (by simp)
  have q2 : V0.cell? ⟨w.heap.size, 2, none⟩ = some (.slice (some ⟨g3, 0, none⟩) ds.length p3) := (unhide KF0).c 2 (by simp)
  have q3 : V0.cell? ⟨w.heap.size, 3, none⟩ = some (.int .i64 nh) := (unhide KF0).c 3 (by simp)
  have q4 : V0.cell? ⟨w.heap.size, 4, none⟩ = some (.int .i64 nc) := (unhide KF0).c 4 (by simp)
  have q5 : V0.cell? ⟨w.heap.size, 5, none⟩ = some (.int .i64 nd) := (unhide KF0).c 5 (by simp)
  clear hV0 ff
  go_enter Tryz.func49, Tryz.ntmps49
  go_upto_region 1 with fail
  rw [← unhide HW]
  clear HW
  go_wp2_with fail
  refine ((unhide CR) V0 ((unhide HO).below (unhide B0)).read).mono ?_
  rintro e w1 ⟨rfl, b1⟩
  have KF1 := hide ((unhide KF0).below b1)
  have KD1 := hide ((unhide KD0).below b1)
  have KR1 := hide ((unhide KR0).below b1)
  have B1 := hide ((unhide B0).trans (b1.mono (unhide B0).size))
  clear b1 y0 y1 y2 y3 q0 q1 q2 q3 q4 q5
  have y0 : w1.cell? ⟨w.heap.size + 1, 0, none⟩ = some (.int .i64 1) := (unhide KD1).c 0 (by simp)
  have y1 : w1.cell? ⟨w.heap.size + 1, 1, none⟩ = some (.string n) := (unhide KD1).c 1 (by simp)
  have y2 : w1.cell? ⟨w.heap.size + 1, 2, none⟩ = some (.int .i64 i) := (unhide KD1).c 2 (by simp)
  have y3 : w1.cell? ⟨w.heap.size + 1, 3, none⟩ = some (.int .i64 m) := (unhide KD1).c 3 (by simp)
  have q0 : w1.cell? ⟨w.heap.size, 0, none⟩ = some (.slice (some ⟨g1, 0, none⟩) ts.length p1) := (unhide KF1).c 0 (by simp)
  have q1 : w1.cell? ⟨w.heap.size, 1, none⟩ = some (.slice (some ⟨g2, 0, none⟩) cs.length p2) := (unhide KF1).c 1 (by simp)
  have q2 : w1.cell? ⟨w.heap.size, 2, none⟩ = some (.slice (some ⟨g3, 0, none⟩) ds.length p3) := (unhide KF1).c 2 (by simp)
  have q3 : w1.cell? ⟨w.heap.size, 3, none⟩ = some (.int .i64 nh) := (unhide KF1).c 3 (by simp)
  have q4 : w1.cell? ⟨w.heap.size, 4, none⟩ = some (.int .i64 nc) := (unhide KF1).c 4 (by simp)
  have q5 : w1.cell? ⟨w.heap.size, 5, none⟩ = some (.int .i64 nd) := (unhide KF1).c 5 (by simp)
  go_wp2_with fail
  refine (l1In_is _ _ _ _ q).mono ?_
  rintro e w' ⟨rfl, hw⟩
  subst w'
  go_wp2_with (((with_reducible show wpList _ _ _ (⟨none, .store 37 _ _, _, _, _, none⟩ :: _) _ _); refine at_storeAgg (us := [.slice none 0 0, .slice none 0 0, .slice none 0 0, .int .i64 0, .int .i64 0, .int .i64 0]) (vs := [.slice (some ⟨g1, 0, none⟩) ts.length p1, .slice (some ⟨g2, 0, none⟩) cs.length p2, .slice (some ⟨g3, 0, none⟩) ds.length p3, .int .i64 nh, .int .i64 nc, .int .i64 nd]) Tryz.sizeOf37 rfl rfl (unhide KR1) rfl (fun v hv => by simp at hv; rcases hv with rfl | rfl | rfl | rfl | rfl | rfl <;> rfl) ?_; intro w9 k9 g9; have K9 := hide k9; have G9 := hide g9; clear k9 g9))
  refine bodyPost_ret (results_cellB (vs := [.slice (some ⟨g1, 0, none⟩) ts.length p1, .slice (some ⟨g2, 0, none⟩) cs.length p2, .slice (some ⟨g3, 0, none⟩) ds.length p3, .int .i64 nh, .int .i64 nc, .int .i64 nd]) rfl Tryz.isAgg37 Tryz.sizeOf37 rfl (unhide K9) rfl) rfl ⟨_, rfl, ⟨_, _, _, _, _, _, _, _, _, _, _, _, rfl, fun h => by cases h⟩, mdG_of ((unhide B1).grown (unhide G9) (unhide B1).size (fun q hq => by have e : w.heap.size + 1 + 1 = q := Option.some.inj hq; omega)) hsz⟩
set_option maxRecDepth 20000 in
set_option maxHeartbeats 4000000 in
theorem md_1f (base g1 p1 g2 p2 g3 p3 : Nat) (ts : List Ts) (cs : List Cr) (ds : List Df) (nh nc nd : Int) (n : ByteArray) (i m : Int) (w : World) (ho : FlOwn w base (some ⟨g1, 0, none⟩) (some ⟨g2, 0, none⟩) (some ⟨g3, 0, none⟩) ts.length p1 cs.length p2 ds.length p3 ts cs ds) (ff : FitF ⟨ts, cs, ds, nh, nc, nd⟩) (hf : flB ⟨ts, cs, ds, nh, nc, nd⟩ = true) (q : inB m 1 100 = true) (q2 : (rlR ⟨ts, cs, ds, nh, nc, nd⟩).1 ≠ 0) :
    Calls Tryz.prog 49 #[.agg #[.slice (some ⟨g1, 0, none⟩) ts.length p1, .slice (some ⟨g2, 0, none⟩) cs.length p2, .slice (some ⟨g3, 0, none⟩) ds.length p3, .int .i64 nh, .int .i64 nc, .int .i64 nd], .agg #[.int .i64 1, .string n, .int .i64 i, .int .i64 m]] w fun e w' => ∃ v, e = .returned (.tuple #[v, .bool (dwB ⟨ts, cs, ds, nh, nc, nd⟩ ⟨1, n, i, m⟩)]) ∧ MdO w' base v (dwF ⟨ts, cs, ds, nh, nc, nd⟩ ⟨1, n, i, m⟩) (dwB ⟨ts, cs, ds, nh, nc, nd⟩ ⟨1, n, i, m⟩) ∧ MdG base g1 w w' := by
  have EB : dwB ⟨ts, cs, ds, nh, nc, nd⟩ ⟨1, n, i, m⟩ = false := by rw [(dw1 hf).1]; simp [flyB, q2]
  obtain ⟨f', hf'⟩ : ∃ x, dwF ⟨ts, cs, ds, nh, nc, nd⟩ ⟨1, n, i, m⟩ = x := ⟨_, rfl⟩
  rw [EB, hf']
  clear EB hf'
  obtain ⟨S, hS⟩ : ∃ x, (rlR ⟨ts, cs, ds, nh, nc, nd⟩).2 = x := ⟨_, rfl⟩
  obtain ⟨R0, hR⟩ : ∃ x, (rlR ⟨ts, cs, ds, nh, nc, nd⟩).1 = x := ⟨_, rfl⟩
  have CR : Hid (∀ V, FlIn V (some ⟨g1, 0, none⟩) (some ⟨g2, 0, none⟩) (some ⟨g3, 0, none⟩) ts.length cs.length ds.length ts cs ds → Calls Tryz.prog 71 #[.agg #[.slice (some ⟨g1, 0, none⟩) ts.length p1, .slice (some ⟨g2, 0, none⟩) cs.length p2, .slice (some ⟨g3, 0, none⟩) ds.length p3, .int .i64 nh, .int .i64 nc, .int .i64 nd]] V fun e w' => e = .returned (.tuple #[.int .i64 R0, .string S]) ∧ Below V.heap.size V w') := hide (fun V hV => by have k := specRelease_any nh nc nd (some ⟨g1, 0, none⟩) (some ⟨g2, 0, none⟩) (some ⟨g3, 0, none⟩) ts.length p1 cs.length p2 ds.length p3 ts cs ds V hV ff.t ff.c ff.d; rw [hS, hR] at k; exact k)
  rw [hR] at q2
  clear hS hR
  have hsz : base ≤ w.heap.size := by have := ho.o1.lies g1 rfl; omega
  obtain ⟨V0, hV0⟩ : ∃ V, V = ((w.alloc (Obj.cells #[.slice (some ⟨g1, 0, none⟩) ts.length p1, .slice (some ⟨g2, 0, none⟩) cs.length p2, .slice (some ⟨g3, 0, none⟩) ds.length p3, .int .i64 nh, .int .i64 nc, .int .i64 nd] 37)).alloc (Obj.cells #[.int .i64 1, .string n, .int .i64 i, .int .i64 m] 60)).alloc (Obj.cells #[.slice none 0 0, .slice none 0 0, .slice none 0 0, .int .i64 0, .int .i64 0, .int .i64 0] 37) := ⟨_, rfl⟩
  have bV : Below w.heap.size w V0 := by rw [hV0]; exact bel3 _ _ _
  have KF0 : Hid (Blk V0 (w.heap.size) [.slice (some ⟨g1, 0, none⟩) ts.length p1, .slice (some ⟨g2, 0, none⟩) cs.length p2, .slice (some ⟨g3, 0, none⟩) ds.length p3, .int .i64 nh, .int .i64 nc, .int .i64 nd]) := hide (by rw [hV0]; exact blkAt3_0)
  have KD0 : Hid (Blk V0 (w.heap.size + 1) [.int .i64 1, .string n, .int .i64 i, .int .i64 m]) := hide (by rw [hV0]; exact blkAt3_1)
  have KR0 : Hid (Blk V0 (w.heap.size + 1 + 1) [.slice none 0 0, .slice none 0 0, .slice none 0 0, .int .i64 0, .int .i64 0, .int .i64 0]) := hide (by rw [hV0]; exact blkAt3_2)
  have B0 := hide bV
  have HO := hide ho
  have HW := hide hV0
  have FF := hide ff
  have y0 : V0.cell? ⟨w.heap.size + 1, 0, none⟩ = some (.int .i64 1) := (unhide KD0).c 0 (by simp)
  have y1 : V0.cell? ⟨w.heap.size + 1, 1, none⟩ = some (.string n) := (unhide KD0).c 1 (by simp)
  have y2 : V0.cell? ⟨w.heap.size + 1, 2, none⟩ = some (.int .i64 i) := (unhide KD0).c 2 (by simp)
  have y3 : V0.cell? ⟨w.heap.size + 1, 3, none⟩ = some (.int .i64 m) := (unhide KD0).c 3 (by simp)
  have q0 : V0.cell? ⟨w.heap.size, 0, none⟩ = some (.slice (some ⟨g1, 0, none⟩) ts.length p1) := (unhide KF0).c 0 (by simp)
  have q1 : V0.cell? ⟨w.heap.size, 1, none⟩ = some (.slice (some ⟨g2, 0, none⟩) cs.length p2) := (unhide KF0).c 1 (by simp)
  have q2 : V0.cell? ⟨w.heap.size, 2, none⟩ = some (.slice (some ⟨g3, 0, none⟩) ds.length p3) := (unhide KF0).c 2 (by simp)
  have q3 : V0.cell? ⟨w.heap.size, 3, none⟩ = some (.int .i64 nh) := (unhide KF0).c 3 (by simp)
  have q4 : V0.cell? ⟨w.heap.size, 4, none⟩ = some (.int .i64 nc) := (unhide KF0).c 4 (by simp)
  have q5 : V0.cell? ⟨w.heap.size, 5, none⟩ = some (.int .i64 nd) := (unhide KF0).c 5 (by simp)
  clear hV0 ff
  go_enter Tryz.func49, Tryz.ntmps49
  go_upto_region 1 with fail
  rw [← unhide HW]
  clear HW
  go_wp2_with fail
  refine ((unhide CR) V0 ((unhide HO).below (unhide B0)).read).mono ?_
  rintro e w1 ⟨rfl, b1⟩
  have KF1 := hide ((unhide KF0).below b1)
  have KD1 := hide ((unhide KD0).below b1)
  have KR1 := hide ((unhide KR0).below b1)
  have B1 := hide ((unhide B0).trans (b1.mono (unhide B0).size))
  clear b1 y0 y1 y2 y3 q0 q1 q2 q3 q4 q5
  have y0 : w1.cell? ⟨w.heap.size + 1, 0, none⟩ = some (.int .i64 1) := (unhide KD1).c 0 (by simp)
  have y1 : w1.cell? ⟨w.heap.size + 1, 1, none⟩ = some (.string n) := (unhide KD1).c 1 (by simp)
  have y2 : w1.cell? ⟨w.heap.size + 1, 2, none⟩ = some (.int .i64 i) := (unhide KD1).c 2 (by simp)
  have y3 : w1.cell? ⟨w.heap.size + 1, 3, none⟩ = some (.int .i64 m) := (unhide KD1).c 3 (by simp)
  have q0 : w1.cell? ⟨w.heap.size, 0, none⟩ = some (.slice (some ⟨g1, 0, none⟩) ts.length p1) := (unhide KF1).c 0 (by simp)
  have q1 : w1.cell? ⟨w.heap.size, 1, none⟩ = some (.slice (some ⟨g2, 0, none⟩) cs.length p2) := (unhide KF1).c 1 (by simp)
  have q2 : w1.cell? ⟨w.heap.size, 2, none⟩ = some (.slice (some ⟨g3, 0, none⟩) ds.length p3) := (unhide KF1).c 2 (by simp)
  have q3 : w1.cell? ⟨w.heap.size, 3, none⟩ = some (.int .i64 nh) := (unhide KF1).c 3 (by simp)
  have q4 : w1.cell? ⟨w.heap.size, 4, none⟩ = some (.int .i64 nc) := (unhide KF1).c 4 (by simp)
  have q5 : w1.cell? ⟨w.heap.size, 5, none⟩ = some (.int .i64 nd) := (unhide KF1).c 5 (by simp)
  go_wp2_with fail
  refine (l1In_is _ _ _ _ q).mono ?_
  rintro e w' ⟨rfl, hw⟩
  subst w'
  go_wp2_with (((with_reducible show wpList _ _ _ (⟨none, .store 37 _ _, _, _, _, none⟩ :: _) _ _); refine at_storeAgg (us := [.slice none 0 0, .slice none 0 0, .slice none 0 0, .int .i64 0, .int .i64 0, .int .i64 0]) (vs := [.slice (some ⟨g1, 0, none⟩) ts.length p1, .slice (some ⟨g2, 0, none⟩) cs.length p2, .slice (some ⟨g3, 0, none⟩) ds.length p3, .int .i64 nh, .int .i64 nc, .int .i64 nd]) Tryz.sizeOf37 rfl rfl (unhide KR1) rfl (fun v hv => by simp at hv; rcases hv with rfl | rfl | rfl | rfl | rfl | rfl <;> rfl) ?_; intro w9 k9 g9; have K9 := hide k9; have G9 := hide g9; clear k9 g9))
  refine bodyPost_ret (results_cellB (vs := [.slice (some ⟨g1, 0, none⟩) ts.length p1, .slice (some ⟨g2, 0, none⟩) cs.length p2, .slice (some ⟨g3, 0, none⟩) ds.length p3, .int .i64 nh, .int .i64 nc, .int .i64 nd]) rfl Tryz.isAgg37 Tryz.sizeOf37 rfl (unhide K9) rfl) rfl ⟨_, rfl, ⟨_, _, _, _, _, _, _, _, _, _, _, _, rfl, fun h => by cases h⟩, mdG_of ((unhide B1).grown (unhide G9) (unhide B1).size (fun q hq => by have e : w.heap.size + 1 + 1 = q := Option.some.inj hq; omega)) hsz⟩
set_option maxRecDepth 20000 in
set_option maxHeartbeats 4000000 in
theorem md_1t (base g1 p1 g2 p2 g3 p3 : Nat) (ts : List Ts) (cs : List Cr) (ds : List Df) (nh nc nd : Int) (n : ByteArray) (i m : Int) (w : World) (ho : FlOwn w base (some ⟨g1, 0, none⟩) (some ⟨g2, 0, none⟩) (some ⟨g3, 0, none⟩) ts.length p1 cs.length p2 ds.length p3 ts cs ds) (ff : FitF ⟨ts, cs, ds, nh, nc, nd⟩) (hf : flB ⟨ts, cs, ds, nh, nc, nd⟩ = true) (q : inB m 1 100 = true) (q2 : (rlR ⟨ts, cs, ds, nh, nc, nd⟩).1 = 0) :
    Calls Tryz.prog 49 #[.agg #[.slice (some ⟨g1, 0, none⟩) ts.length p1, .slice (some ⟨g2, 0, none⟩) cs.length p2, .slice (some ⟨g3, 0, none⟩) ds.length p3, .int .i64 nh, .int .i64 nc, .int .i64 nd], .agg #[.int .i64 1, .string n, .int .i64 i, .int .i64 m]] w fun e w' => ∃ v, e = .returned (.tuple #[v, .bool (dwB ⟨ts, cs, ds, nh, nc, nd⟩ ⟨1, n, i, m⟩)]) ∧ MdO w' base v (dwF ⟨ts, cs, ds, nh, nc, nd⟩ ⟨1, n, i, m⟩) (dwB ⟨ts, cs, ds, nh, nc, nd⟩ ⟨1, n, i, m⟩) ∧ MdG base g1 w w' := by
  obtain ⟨f1, _, _, _⟩ := flB_facts hf
  obtain ⟨n1, n2, n3⟩ := ckB_facts f1
  simp only at n1 n2 n3
  clear f1
  have m1 : 1 ≤ m ∧ m ≤ 100 := of_decide_eq_true q
  have HQ : Hid (ckB (nh + m) (nc + 1) nd = dwB ⟨ts, cs, ds, nh, nc, nd⟩ ⟨1, n, i, m⟩) := hide (by rw [(dw1 hf).1]; simp [flyB, q, q2])
  have HF : Hid (dwB ⟨ts, cs, ds, nh, nc, nd⟩ ⟨1, n, i, m⟩ = true → dwF ⟨ts, cs, ds, nh, nc, nd⟩ ⟨1, n, i, m⟩ = ⟨ts, cs, ds, nh + m, nc + 1, nd⟩) := hide (fun h => by rw [(dw1 hf).1] at h; rw [(dw1 hf).2, if_pos h])
  obtain ⟨f', hf'⟩ : ∃ x, dwF ⟨ts, cs, ds, nh, nc, nd⟩ ⟨1, n, i, m⟩ = x := ⟨_, rfl⟩
  obtain ⟨B, hB⟩ : ∃ x, dwB ⟨ts, cs, ds, nh, nc, nd⟩ ⟨1, n, i, m⟩ = x := ⟨_, rfl⟩
  rw [hf', hB]
  rw [hB] at HQ HF
  rw [hf'] at HF
  clear hf' hB
  obtain ⟨S, hS⟩ : ∃ x, (rlR ⟨ts, cs, ds, nh, nc, nd⟩).2 = x := ⟨_, rfl⟩
  obtain ⟨R0, hR⟩ : ∃ x, (rlR ⟨ts, cs, ds, nh, nc, nd⟩).1 = x := ⟨_, rfl⟩
  have CR : Hid (∀ V, FlIn V (some ⟨g1, 0, none⟩) (some ⟨g2, 0, none⟩) (some ⟨g3, 0, none⟩) ts.length cs.length ds.length ts cs ds → Calls Tryz.prog 71 #[.agg #[.slice (some ⟨g1, 0, none⟩) ts.length p1, .slice (some ⟨g2, 0, none⟩) cs.length p2, .slice (some ⟨g3, 0, none⟩) ds.length p3, .int .i64 nh, .int .i64 nc, .int .i64 nd]] V fun e w' => e = .returned (.tuple #[.int .i64 R0, .string S]) ∧ Below V.heap.size V w') := hide (fun V hV => by have k := specRelease_any nh nc nd (some ⟨g1, 0, none⟩) (some ⟨g2, 0, none⟩) (some ⟨g3, 0, none⟩) ts.length p1 cs.length p2 ds.length p3 ts cs ds V hV ff.t ff.c ff.d; rw [hS, hR] at k; exact k)
  obtain rfl : R0 = 0 := hR.symm.trans q2
  clear hS hR q2
  have hsz : base ≤ w.heap.size := by have := ho.o1.lies g1 rfl; omega
  obtain ⟨V0, hV0⟩ : ∃ V, V = ((w.alloc (Obj.cells #[.slice (some ⟨g1, 0, none⟩) ts.length p1, .slice (some ⟨g2, 0, none⟩) cs.length p2, .slice (some ⟨g3, 0, none⟩) ds.length p3, .int .i64 nh, .int .i64 nc, .int .i64 nd] 37)).alloc (Obj.cells #[.int .i64 1, .string n, .int .i64 i, .int .i64 m] 60)).alloc (Obj.cells #[.slice none 0 0, .slice none 0 0, .slice none 0 0, .int .i64 0, .int .i64 0, .int .i64 0] 37) := ⟨_, rfl⟩
  have bV : Below w.heap.size w V0 := by rw [hV0]; exact bel3 _ _ _
  have KF0 : Hid (Blk V0 (w.heap.size) [.slice (some ⟨g1, 0, none⟩) ts.length p1, .slice (some ⟨g2, 0, none⟩) cs.length p2, .slice (some ⟨g3, 0, none⟩) ds.length p3, .int .i64 nh, .int .i64 nc, .int .i64 nd]) := hide (by rw [hV0]; exact blkAt3_0)
  have KD0 : Hid (Blk V0 (w.heap.size + 1) [.int .i64 1, .string n, .int .i64 i, .int .i64 m]) := hide (by rw [hV0]; exact blkAt3_1)
  have KR0 : Hid (Blk V0 (w.heap.size + 1 + 1) [.slice none 0 0, .slice none 0 0, .slice none 0 0, .int .i64 0, .int .i64 0, .int .i64 0]) := hide (by rw [hV0]; exact blkAt3_2)
  have B0 := hide bV
  have HO := hide ho
  have HW := hide hV0
  have FF := hide ff
  have y0 : V0.cell? ⟨w.heap.size + 1, 0, none⟩ = some (.int .i64 1) := (unhide KD0).c 0 (by simp)
  have y1 : V0.cell? ⟨w.heap.size + 1, 1, none⟩ = some (.string n) := (unhide KD0).c 1 (by simp)
  have y2 : V0.cell? ⟨w.heap.size + 1, 2, none⟩ = some (.int .i64 i) := (unhide KD0).c 2 (by simp)
  have y3 : V0.cell? ⟨w.heap.size + 1, 3, none⟩ = some (.int .i64 m) := (unhide KD0).c 3 (by simp)
  have q0 : V0.cell? ⟨w.heap.size, 0, none⟩ = some (.slice (some ⟨g1, 0, none⟩) ts.length p1) := (unhide KF0).c 0 (by simp)
  have q1 : V0.cell? ⟨w.heap.size, 1, none⟩ = some (.slice (some ⟨g2, 0, none⟩) cs.length p2) := (unhide KF0).c 1 (by simp)
  have q2 : V0.cell? ⟨w.heap.size, 2, none⟩ = some (.slice (some ⟨g3, 0, none⟩) ds.length p3) := (unhide KF0).c 2 (by simp)
  have q3 : V0.cell? ⟨w.heap.size, 3, none⟩ = some (.int .i64 nh) := (unhide KF0).c 3 (by simp)
  have q4 : V0.cell? ⟨w.heap.size, 4, none⟩ = some (.int .i64 nc) := (unhide KF0).c 4 (by simp)
  have q5 : V0.cell? ⟨w.heap.size, 5, none⟩ = some (.int .i64 nd) := (unhide KF0).c 5 (by simp)
  clear hV0 ff
  go_enter Tryz.func49, Tryz.ntmps49
  go_upto_region 1 with fail
  rw [← unhide HW]
  clear HW
  go_wp2_with fail
  refine ((unhide CR) V0 ((unhide HO).below (unhide B0)).read).mono ?_
  rintro e w1 ⟨rfl, b1⟩
  have KF1 := hide ((unhide KF0).below b1)
  have KD1 := hide ((unhide KD0).below b1)
  have KR1 := hide ((unhide KR0).below b1)
  have B1 := hide ((unhide B0).trans (b1.mono (unhide B0).size))
  clear b1 y0 y1 y2 y3 q0 q1 q2 q3 q4 q5
  have y0 : w1.cell? ⟨w.heap.size + 1, 0, none⟩ = some (.int .i64 1) := (unhide KD1).c 0 (by simp)
  have y1 : w1.cell? ⟨w.heap.size + 1, 1, none⟩ = some (.string n) := (unhide KD1).c 1 (by simp)
  have y2 : w1.cell? ⟨w.heap.size + 1, 2, none⟩ = some (.int .i64 i) := (unhide KD1).c 2 (by simp)
  have y3 : w1.cell? ⟨w.heap.size + 1, 3, none⟩ = some (.int .i64 m) := (unhide KD1).c 3 (by simp)
  have q0 : w1.cell? ⟨w.heap.size, 0, none⟩ = some (.slice (some ⟨g1, 0, none⟩) ts.length p1) := (unhide KF1).c 0 (by simp)
  have q1 : w1.cell? ⟨w.heap.size, 1, none⟩ = some (.slice (some ⟨g2, 0, none⟩) cs.length p2) := (unhide KF1).c 1 (by simp)
  have q2 : w1.cell? ⟨w.heap.size, 2, none⟩ = some (.slice (some ⟨g3, 0, none⟩) ds.length p3) := (unhide KF1).c 2 (by simp)
  have q3 : w1.cell? ⟨w.heap.size, 3, none⟩ = some (.int .i64 nh) := (unhide KF1).c 3 (by simp)
  have q4 : w1.cell? ⟨w.heap.size, 4, none⟩ = some (.int .i64 nc) := (unhide KF1).c 4 (by simp)
  have q5 : w1.cell? ⟨w.heap.size, 5, none⟩ = some (.int .i64 nd) := (unhide KF1).c 5 (by simp)
  go_wp2_with fail
  refine (l1In_is _ _ _ _ q).mono ?_
  rintro e w' ⟨rfl, hw⟩
  subst w'
  have z4 : w1.frozen? ⟨w.heap.size, 4, none⟩ = false := (unhide KF1).f 4 (by simp)
  go_upto_region 7 with fail
  obtain ⟨V2, hV2⟩ : ∃ V, V = w1.setCell ⟨w.heap.size, 4, none⟩ (.int .i64 (nc + 1)) := ⟨_, rfl⟩
  rw [← hV2]
  have KF2 : Hid (Blk V2 (w.heap.size) [.slice (some ⟨g1, 0, none⟩) ts.length p1, .slice (some ⟨g2, 0, none⟩) cs.length p2, .slice (some ⟨g3, 0, none⟩) ds.length p3, .int .i64 nh, .int .i64 (nc + 1), .int .i64 nd]) := hide (by rw [hV2]; exact (unhide KF1).set 4 (by simp) _)
  have KD2 := hide ((unhide KD1).other (p := ⟨w.heap.size, 4, none⟩) (by show w.heap.size ≠ w.heap.size + 1; omega) (.int .i64 (nc + 1)))
  rw [← hV2] at KD2
  have KR2 := hide ((unhide KR1).other (p := ⟨w.heap.size, 4, none⟩) (by show w.heap.size ≠ w.heap.size + 1 + 1; omega) (.int .i64 (nc + 1)))
  rw [← hV2] at KR2
  have B2 := hide ((unhide B1).setCell (p := ⟨w.heap.size, 4, none⟩) (Nat.le_refl _) (.int .i64 (nc + 1)))
  rw [← hV2] at B2
  clear hV2
  clear z4 y0 y1 y2 y3 q0 q1 q2 q3 q4 q5
  have x3 : V2.cell? ⟨w.heap.size, 3, none⟩ = some (.int .i64 nh) := (unhide KF2).c 3 (by simp)
  have z3 : V2.frozen? ⟨w.heap.size, 3, none⟩ = false := (unhide KF2).f 3 (by simp)
  have y3 : V2.cell? ⟨w.heap.size + 1, 3, none⟩ = some (.int .i64 m) := (unhide KD2).c 3 (by simp)
  go_upto_region 8 with fail
  obtain ⟨V3, hV3⟩ : ∃ V, V = V2.setCell ⟨w.heap.size, 3, none⟩ (.int .i64 (nh + m)) := ⟨_, rfl⟩
  rw [← hV3]
  have KF3 : Hid (Blk V3 (w.heap.size) [.slice (some ⟨g1, 0, none⟩) ts.length p1, .slice (some ⟨g2, 0, none⟩) cs.length p2, .slice (some ⟨g3, 0, none⟩) ds.length p3, .int .i64 (nh + m), .int .i64 (nc + 1), .int .i64 nd]) := hide (by rw [hV3]; exact (unhide KF2).set 3 (by simp) _)
  have KD3 := hide ((unhide KD2).other (p := ⟨w.heap.size, 3, none⟩) (by show w.heap.size ≠ w.heap.size + 1; omega) (.int .i64 (nh + m)))
  rw [← hV3] at KD3
  have KR3 := hide ((unhide KR2).other (p := ⟨w.heap.size, 3, none⟩) (by show w.heap.size ≠ w.heap.size + 1 + 1; omega) (.int .i64 (nh + m)))
  rw [← hV3] at KR3
  have B3 := hide ((unhide B2).setCell (p := ⟨w.heap.size, 3, none⟩) (Nat.le_refl _) (.int .i64 (nh + m)))
  rw [← hV3] at B3
  clear hV3
  clear x3 z3 y3
  refine wp_region_flagsA (by kernel_rfl) (by kernel_rfl) (Md8J w V3 g1 p1 g2 p2 g3 p3 ts cs ds nh nc nd m B) ?_ ?_ ?_
  · exact Md8J.mk (v0 := undef) (v1 := undef) (v2 := undef) (v3 := undef) (v5 := .bool false) ⟨(unhide B3).trans (bel0d' 1), Nat.le_refl _, ((unhide KF3).below (bel0d 1) : _), ((unhide KR3).below (bel0d 1) : _), (fun h => by cases h), (fun h => by cases h), (fun h => by cases h), (fun h => by cases h), (fun h => by cases h)⟩ (by kernel_rfl)
  rotate_left 1
  · rintro l a V i o ho hl hd ⟨v0, v1, v2, v3, v5, rfl, K⟩
    have hi : i < 6 := (Array.getElem?_eq_some_iff.1 ho).1
    rcases (show i = 0 ∨ i = 1 ∨ i = 2 ∨ i = 3 ∨ i = 4 ∨ i = 5 from by omega) with rfl | rfl | rfl | rfl | rfl | rfl
    · simp at ho
      subst ho
      have yy0 : V.cell? ⟨w.heap.size, 0, none⟩ = some (.slice (some ⟨g1, 0, none⟩) ts.length p1) := K.kf.c 0 (by simp)
      have yy1 : V.cell? ⟨w.heap.size, 1, none⟩ = some (.slice (some ⟨g2, 0, none⟩) cs.length p2) := K.kf.c 1 (by simp)
      have yy2 : V.cell? ⟨w.heap.size, 2, none⟩ = some (.slice (some ⟨g3, 0, none⟩) ds.length p3) := K.kf.c 2 (by simp)
      have yy3 : V.cell? ⟨w.heap.size, 3, none⟩ = some (.int .i64 (nh + m)) := K.kf.c 3 (by simp)
      have yy4 : V.cell? ⟨w.heap.size, 4, none⟩ = some (.int .i64 (nc + 1)) := K.kf.c 4 (by simp)
      have yy5 : V.cell? ⟨w.heap.size, 5, none⟩ = some (.int .i64 nd) := K.kf.c 5 (by simp)
      have HK : Hid (Md8 w V3 g1 p1 g2 p2 g3 p3 ts cs ds nh nc nd m B true (l 1) (l 2) (l 3) (l 4) (l 5) (.agg #[.slice (some ⟨g1, 0, none⟩) ts.length p1, .slice (some ⟨g2, 0, none⟩) cs.length p2, .slice (some ⟨g3, 0, none⟩) ds.length p3, .int .i64 (nh + m), .int .i64 (nc + 1), .int .i64 nd]) v1 v2 v3 v5 V) := hide ⟨(K.bel), (K.sz), (K.kf), (K.rc), (fun _ => rfl), (K.e1), (K.e2), (K.e3), (K.e5)⟩
      clear K hd hl
      go_wp2_with fail
      exact ⟨rfl, Md8J.mk (unhide HK) (by kernel_rfl)⟩
    · simp at ho
      subst ho
      have HK : Hid (Md8 w V3 g1 p1 g2 p2 g3 p3 ts cs ds nh nc nd m B (l 0) true (l 2) (l 3) (l 4) (l 5) v0 (.pointer (some ⟨w.heap.size, 3, none⟩)) v2 v3 v5 V) := hide ⟨(K.bel), (K.sz), (K.kf), (K.rc), (K.e0), (fun _ => rfl), (K.e2), (K.e3), (K.e5)⟩
      clear K hd hl
      go_wp2_with fail
      exact ⟨rfl, Md8J.mk (unhide HK) (by kernel_rfl)⟩
    · simp at ho
      subst ho
      have d1 : l 1 = true := hd ⟨1, .data⟩ (by simp) rfl
      have x1 := K.e1 d1
      subst x1
      have yy0 : V.cell? ⟨w.heap.size, 3, none⟩ = some (.int .i64 (nh + m)) := K.kf.c 3 (by simp)
      have yy1 : V.cell? ⟨w.heap.size, 4, none⟩ = some (.int .i64 (nc + 1)) := K.kf.c 4 (by simp)
      have yy2 : V.cell? ⟨w.heap.size, 5, none⟩ = some (.int .i64 nd) := K.kf.c 5 (by simp)
      have HK : Hid (Md8 w V3 g1 p1 g2 p2 g3 p3 ts cs ds nh nc nd m B (l 0) (l 1) true (l 3) (l 4) (l 5) v0 (.pointer (some ⟨w.heap.size, 3, none⟩)) (.agg #[.int .i64 (nh + m), .int .i64 (nc + 1), .int .i64 nd]) v3 v5 V) := hide ⟨(K.bel), (K.sz), (K.kf), (K.rc), (K.e0), (K.e1), (fun _ => rfl), (K.e3), (K.e5)⟩
      clear K hd hl
      go_wp2_with fail
      exact ⟨rfl, Md8J.mk (unhide HK) (by kernel_rfl)⟩
    · simp at ho
      subst ho
      have d2 : l 2 = true := hd ⟨2, .data⟩ (by simp) rfl
      have x2 := K.e2 d2
      subst x2
      have HK0 := hide K
      clear K hd hl
      go_wp2_with (go_at_call 65; refine (specClockOk_is _ _ _ _ (unhide HQ)).mono ?_; rintro e V2 ⟨rfl, b2⟩; have K := (unhide HK0).below b2; have HK : Hid (Md8 w V3 g1 p1 g2 p2 g3 p3 ts cs ds nh nc nd m B (l 0) (l 1) (l 2) true (l 4) (l 5) v0 v1 (.agg #[.int .i64 (nh + m), .int .i64 (nc + 1), .int .i64 nd]) (.bool B) v5 V2) := hide ⟨(K.bel), (K.sz), (K.kf), (K.rc), (K.e0), (K.e1), (K.e2), (fun _ => rfl), (K.e5)⟩; clear K b2)
      exact ⟨rfl, Md8J.mk (unhide HK) (by kernel_rfl)⟩
    · simp at ho
      subst ho
      have d0 : l 0 = true := hd ⟨0, .data⟩ (by simp) rfl
      have x0 := K.e0 d0
      subst x0
      have x3 := K.rc
      rw [hl] at x3
      have yy0 : V.cell? ⟨w.heap.size + 1 + 1, 0, none⟩ = some (.slice none 0 0) := x3.c 0 (by simp)
      have ff0 : V.frozen? ⟨w.heap.size + 1 + 1, 0, none⟩ = false := x3.f 0 (by simp)
      have yy1 : V.cell? ⟨w.heap.size + 1 + 1, 1, none⟩ = some (.slice none 0 0) := x3.c 1 (by simp)
      have ff1 : V.frozen? ⟨w.heap.size + 1 + 1, 1, none⟩ = false := x3.f 1 (by simp)
      have yy2 : V.cell? ⟨w.heap.size + 1 + 1, 2, none⟩ = some (.slice none 0 0) := x3.c 2 (by simp)
      have ff2 : V.frozen? ⟨w.heap.size + 1 + 1, 2, none⟩ = false := x3.f 2 (by simp)
      have yy3 : V.cell? ⟨w.heap.size + 1 + 1, 3, none⟩ = some (.int .i64 0) := x3.c 3 (by simp)
      have ff3 : V.frozen? ⟨w.heap.size + 1 + 1, 3, none⟩ = false := x3.f 3 (by simp)
      have yy4 : V.cell? ⟨w.heap.size + 1 + 1, 4, none⟩ = some (.int .i64 0) := x3.c 4 (by simp)
      have ff4 : V.frozen? ⟨w.heap.size + 1 + 1, 4, none⟩ = false := x3.f 4 (by simp)
      have yy5 : V.cell? ⟨w.heap.size + 1 + 1, 5, none⟩ = some (.int .i64 0) := x3.c 5 (by simp)
      have ff5 : V.frozen? ⟨w.heap.size + 1 + 1, 5, none⟩ = false := x3.f 5 (by simp)
      have HK : Hid (Md8 w V3 g1 p1 g2 p2 g3 p3 ts cs ds nh nc nd m B (l 0) (l 1) (l 2) (l 3) true (l 5) (.agg #[.slice (some ⟨g1, 0, none⟩) ts.length p1, .slice (some ⟨g2, 0, none⟩) cs.length p2, .slice (some ⟨g3, 0, none⟩) ds.length p3, .int .i64 (nh + m), .int .i64 (nc + 1), .int .i64 nd]) v1 v2 v3 v5 ((((((V.setCell ⟨w.heap.size + 1 + 1, 0, none⟩ (.slice (some ⟨g1, 0, none⟩) ts.length p1)).setCell ⟨w.heap.size + 1 + 1, 1, none⟩ (.slice (some ⟨g2, 0, none⟩) cs.length p2)).setCell ⟨w.heap.size + 1 + 1, 2, none⟩ (.slice (some ⟨g3, 0, none⟩) ds.length p3)).setCell ⟨w.heap.size + 1 + 1, 3, none⟩ (.int .i64 (nh + m))).setCell ⟨w.heap.size + 1 + 1, 4, none⟩ (.int .i64 (nc + 1))).setCell ⟨w.heap.size + 1 + 1, 5, none⟩ (.int .i64 nd))) := hide ⟨(((((((K.bel.setCell (p := ⟨w.heap.size + 1 + 1, 0, none⟩) (by show w.heap.size ≤ w.heap.size + 1 + 1; omega) _).setCell (p := ⟨w.heap.size + 1 + 1, 1, none⟩) (by show w.heap.size ≤ w.heap.size + 1 + 1; omega) _).setCell (p := ⟨w.heap.size + 1 + 1, 2, none⟩) (by show w.heap.size ≤ w.heap.size + 1 + 1; omega) _).setCell (p := ⟨w.heap.size + 1 + 1, 3, none⟩) (by show w.heap.size ≤ w.heap.size + 1 + 1; omega) _).setCell (p := ⟨w.heap.size + 1 + 1, 4, none⟩) (by show w.heap.size ≤ w.heap.size + 1 + 1; omega) _).setCell (p := ⟨w.heap.size + 1 + 1, 5, none⟩) (by show w.heap.size ≤ w.heap.size + 1 + 1; omega) _)), (by simpa [World.setCell] using K.sz), (((((((K.kf.other (p := ⟨w.heap.size + 1 + 1, 0, none⟩) (by show w.heap.size + 1 + 1 ≠ w.heap.size; omega) _).other (p := ⟨w.heap.size + 1 + 1, 1, none⟩) (by show w.heap.size + 1 + 1 ≠ w.heap.size; omega) _).other (p := ⟨w.heap.size + 1 + 1, 2, none⟩) (by show w.heap.size + 1 + 1 ≠ w.heap.size; omega) _).other (p := ⟨w.heap.size + 1 + 1, 3, none⟩) (by show w.heap.size + 1 + 1 ≠ w.heap.size; omega) _).other (p := ⟨w.heap.size + 1 + 1, 4, none⟩) (by show w.heap.size + 1 + 1 ≠ w.heap.size; omega) _).other (p := ⟨w.heap.size + 1 + 1, 5, none⟩) (by show w.heap.size + 1 + 1 ≠ w.heap.size; omega) _)), (((((((x3.set 0 (by simp) _).set 1 (by simp) _).set 2 (by simp) _).set 3 (by simp) _).set 4 (by simp) _).set 5 (by simp) _)), (K.e0), (K.e1), (K.e2), (K.e3), (K.e5)⟩
      clear K hd hl x3
      go_wp2_with fail
      exact ⟨rfl, Md8J.mk (unhide HK) (by kernel_rfl)⟩
    · simp at ho
      subst ho
      have d3 : l 3 = true := hd ⟨3, .data⟩ (by simp) rfl
      have x3 := K.e3 d3
      subst x3
      have HK : Hid (Md8 w V3 g1 p1 g2 p2 g3 p3 ts cs ds nh nc nd m B (l 0) (l 1) (l 2) (l 3) (l 4) true v0 v1 v2 (.bool B) (.bool B) V) := hide ⟨(K.bel), (K.sz), (K.kf), (K.rc), (K.e0), (K.e1), (K.e2), (K.e3), (fun _ => rfl)⟩
      clear K hd hl
      go_wp2_with fail
      exact ⟨rfl, Md8J.mk (unhide HK) (by kernel_rfl)⟩
  rintro l a V9 hall ⟨v0, v1, v2, v3, v5, rfl, K⟩
  have gg0 := hall 0 (by decide)
  have gg1 := hall 1 (by decide)
  have gg2 := hall 2 (by decide)
  have gg3 := hall 3 (by decide)
  have gg4 := hall 4 (by decide)
  have gg5 := hall 5 (by decide)
  clear hall
  have px0 := K.e0 gg0
  have px1 := K.e1 gg1
  have px2 := K.e2 gg2
  have px3 := K.e3 gg3
  have px5 := K.e5 gg5
  have KBf : Hid (Blk V9 (w.heap.size) [.slice (some ⟨g1, 0, none⟩) ts.length p1, .slice (some ⟨g2, 0, none⟩) cs.length p2, .slice (some ⟨g3, 0, none⟩) ds.length p3, .int .i64 (nh + m), .int .i64 (nc + 1), .int .i64 nd]) := hide K.kf
  have KRc : Hid (Blk V9 (w.heap.size + 1 + 1) [.slice (some ⟨g1, 0, none⟩) ts.length p1, .slice (some ⟨g2, 0, none⟩) cs.length p2, .slice (some ⟨g3, 0, none⟩) ds.length p3, .int .i64 (nh + m), .int .i64 (nc + 1), .int .i64 nd]) := hide (by have := K.rc; rw [gg4] at this; exact this)
  have KBEL : Hid (Below w.heap.size w V9) := hide K.bel
  have KSZ : Hid (V3.heap.size ≤ V9.heap.size) := hide K.sz
  clear K gg0 gg1 gg2 gg3 gg4 gg5
  subst px0
  subst px1
  subst px2
  subst px3
  subst px5
  go_wp2_with fail
  refine bodyPost_ret (results_cellB (vs := [.slice (some ⟨g1, 0, none⟩) ts.length p1, .slice (some ⟨g2, 0, none⟩) cs.length p2, .slice (some ⟨g3, 0, none⟩) ds.length p3, .int .i64 (nh + m), .int .i64 (nc + 1), .int .i64 nd]) rfl Tryz.isAgg37 Tryz.sizeOf37 rfl (unhide KRc) rfl) rfl ⟨_, rfl, ⟨_, _, _, _, _, _, _, _, _, _, _, _, rfl, fun h => by rw [unhide HF h]; exact ⟨(unhide HO).below (unhide KBEL), rfl, rfl, rfl⟩⟩, mdG_of (unhide KBEL) hsz⟩
set_option maxRecDepth 20000 in
set_option maxHeartbeats 4000000 in
theorem md_5n (base g1 p1 g2 p2 g3 p3 : Nat) (ts : List Ts) (cs : List Cr) (ds : List Df) (nh nc nd : Int) (n : ByteArray) (i m : Int) (w : World) (ho : FlOwn w base (some ⟨g1, 0, none⟩) (some ⟨g2, 0, none⟩) (some ⟨g3, 0, none⟩) ts.length p1 cs.length p2 ds.length p3 ts cs ds) (ff : FitF ⟨ts, cs, ds, nh, nc, nd⟩) (hf : flB ⟨ts, cs, ds, nh, nc, nd⟩ = true) (q : inB m 1 100 = false) :
    Calls Tryz.prog 49 #[.agg #[.slice (some ⟨g1, 0, none⟩) ts.length p1, .slice (some ⟨g2, 0, none⟩) cs.length p2, .slice (some ⟨g3, 0, none⟩) ds.length p3, .int .i64 nh, .int .i64 nc, .int .i64 nd], .agg #[.int .i64 5, .string n, .int .i64 i, .int .i64 m]] w fun e w' => ∃ v, e = .returned (.tuple #[v, .bool (dwB ⟨ts, cs, ds, nh, nc, nd⟩ ⟨5, n, i, m⟩)]) ∧ MdO w' base v (dwF ⟨ts, cs, ds, nh, nc, nd⟩ ⟨5, n, i, m⟩) (dwB ⟨ts, cs, ds, nh, nc, nd⟩ ⟨5, n, i, m⟩) ∧ MdG base g1 w w' := by
  have EB : dwB ⟨ts, cs, ds, nh, nc, nd⟩ ⟨5, n, i, m⟩ = false := by rw [(dw5 hf).1]; simp [q]
  obtain ⟨f', hf'⟩ : ∃ x, dwF ⟨ts, cs, ds, nh, nc, nd⟩ ⟨5, n, i, m⟩ = x := ⟨_, rfl⟩
  rw [EB, hf']
  clear EB hf'
  have hsz : base ≤ w.heap.size := by have := ho.o1.lies g1 rfl; omega
  obtain ⟨V0, hV0⟩ : ∃ V, V = ((w.alloc (Obj.cells #[.slice (some ⟨g1, 0, none⟩) ts.length p1, .slice (some ⟨g2, 0, none⟩) cs.length p2, .slice (some ⟨g3, 0, none⟩) ds.length p3, .int .i64 nh, .int .i64 nc, .int .i64 nd] 37)).alloc (Obj.cells #[.int .i64 5, .string n, .int .i64 i, .int .i64 m] 60)).alloc (Obj.cells #[.slice none 0 0, .slice none 0 0, .slice none 0 0, .int .i64 0, .int .i64 0, .int .i64 0] 37) := ⟨_, rfl⟩
  have bV : Below w.heap.size w V0 := by rw [hV0]; exact bel3 _ _ _
  have KF0 : Hid (Blk V0 (w.heap.size) [.slice (some ⟨g1, 0, none⟩) ts.length p1, .slice (some ⟨g2, 0, none⟩) cs.length p2, .slice (some ⟨g3, 0, none⟩) ds.length p3, .int .i64 nh, .int .i64 nc, .int .i64 nd]) := hide (by rw [hV0]; exact blkAt3_0)
  have KD0 : Hid (Blk V0 (w.heap.size + 1) [.int .i64 5, .string n, .int .i64 i, .int .i64 m]) := hide (by rw [hV0]; exact blkAt3_1)
  have KR0 : Hid (Blk V0 (w.heap.size + 1 + 1) [.slice none 0 0, .slice none 0 0, .slice none 0 0, .int .i64 0, .int .i64 0, .int .i64 0]) := hide (by rw [hV0]; exact blkAt3_2)
  have B0 := hide bV
  have HO := hide ho
  have HW := hide hV0
  have FF := hide ff
  have y0 : V0.cell? ⟨w.heap.size + 1, 0, none⟩ = some (.int .i64 5) := (unhide KD0).c 0 (by simp)
  have y1 : V0.cell? ⟨w.heap.size + 1, 1, none⟩ = some (.string n) := (unhide KD0).c 1 (by simp)
  have y2 : V0.cell? ⟨w.heap.size + 1, 2, none⟩ = some (.int .i64 i) := (unhide KD0).c 2 (by simp)
  have y3 : V0.cell? ⟨w.heap.size + 1, 3, none⟩ = some (.int .i64 m) := (unhide KD0).c 3 (by simp)
  have q0 : V0.cell? ⟨w.heap.size, 0, none⟩ = some (.slice (some ⟨g1, 0, none⟩) ts.length p1) := (unhide KF0).c 0 (by simp)
  have q1 : V0.cell? ⟨w.heap.size, 1, none⟩ = some (.slice (some ⟨g2, 0, none⟩) cs.length p2) := (unhide KF0).c 1 (by simp)
  have q2 : V0.cell? ⟨w.heap.size, 2, none⟩ = some (.slice (some ⟨g3, 0, none⟩) ds.length p3) := (unhide KF0).c 2 (by simp)
  have q3 : V0.cell? ⟨w.heap.size, 3, none⟩ = some (.int .i64 nh) := (unhide KF0).c 3 (by simp)
  have q4 : V0.cell? ⟨w.heap.size, 4, none⟩ = some (.int .i64 nc) := (unhide KF0).c 4 (by simp)
  have q5 : V0.cell? ⟨w.heap.size, 5, none⟩ = some (.int .i64 nd) := (unhide KF0).c 5 (by simp)
  clear hV0 ff
  go_enter Tryz.func49, Tryz.ntmps49
  go_upto_region 1 with fail
  rw [← unhide HW]
  clear HW
  go_wp2_with fail
  refine (l1In_is _ _ _ _ q).mono ?_
  rintro e w' ⟨rfl, hw⟩
  subst w'
  go_wp2_with (((with_reducible show wpList _ _ _ (⟨none, .store 37 _ _, _, _, _, none⟩ :: _) _ _); refine at_storeAgg (us := [.slice none 0 0, .slice none 0 0, .slice none 0 0, .int .i64 0, .int .i64 0, .int .i64 0]) (vs := [.slice (some ⟨g1, 0, none⟩) ts.length p1, .slice (some ⟨g2, 0, none⟩) cs.length p2, .slice (some ⟨g3, 0, none⟩) ds.length p3, .int .i64 nh, .int .i64 nc, .int .i64 nd]) Tryz.sizeOf37 rfl rfl (unhide KR0) rfl (fun v hv => by simp at hv; rcases hv with rfl | rfl | rfl | rfl | rfl | rfl <;> rfl) ?_; intro w9 k9 g9; have K9 := hide k9; have G9 := hide g9; clear k9 g9))
  refine bodyPost_ret (results_cellB (vs := [.slice (some ⟨g1, 0, none⟩) ts.length p1, .slice (some ⟨g2, 0, none⟩) cs.length p2, .slice (some ⟨g3, 0, none⟩) ds.length p3, .int .i64 nh, .int .i64 nc, .int .i64 nd]) rfl Tryz.isAgg37 Tryz.sizeOf37 rfl (unhide K9) rfl) rfl ⟨_, rfl, ⟨_, _, _, _, _, _, _, _, _, _, _, _, rfl, fun h => by cases h⟩, mdG_of ((unhide B0).grown (unhide G9) (unhide B0).size (fun q hq => by have e : w.heap.size + 1 + 1 = q := Option.some.inj hq; omega)) hsz⟩
set_option maxRecDepth 20000 in
set_option maxHeartbeats 4000000 in
theorem md_5t (base g1 p1 g2 p2 g3 p3 : Nat) (ts : List Ts) (cs : List Cr) (ds : List Df) (nh nc nd : Int) (n : ByteArray) (i m : Int) (w : World) (ho : FlOwn w base (some ⟨g1, 0, none⟩) (some ⟨g2, 0, none⟩) (some ⟨g3, 0, none⟩) ts.length p1 cs.length p2 ds.length p3 ts cs ds) (ff : FitF ⟨ts, cs, ds, nh, nc, nd⟩) (hf : flB ⟨ts, cs, ds, nh, nc, nd⟩ = true) (q : inB m 1 100 = true) :
    Calls Tryz.prog 49 #[.agg #[.slice (some ⟨g1, 0, none⟩) ts.length p1, .slice (some ⟨g2, 0, none⟩) cs.length p2, .slice (some ⟨g3, 0, none⟩) ds.length p3, .int .i64 nh, .int .i64 nc, .int .i64 nd], .agg #[.int .i64 5, .string n, .int .i64 i, .int .i64 m]] w fun e w' => ∃ v, e = .returned (.tuple #[v, .bool (dwB ⟨ts, cs, ds, nh, nc, nd⟩ ⟨5, n, i, m⟩)]) ∧ MdO w' base v (dwF ⟨ts, cs, ds, nh, nc, nd⟩ ⟨5, n, i, m⟩) (dwB ⟨ts, cs, ds, nh, nc, nd⟩ ⟨5, n, i, m⟩) ∧ MdG base g1 w w' := by
  obtain ⟨f1, _, _, _⟩ := flB_facts hf
  obtain ⟨n1, n2, n3⟩ := ckB_facts f1
  simp only at n1 n2 n3
  clear f1
  have m1 : 1 ≤ m ∧ m ≤ 100 := of_decide_eq_true q
  have HQ : Hid (ckB nh nc (nd + m) = dwB ⟨ts, cs, ds, nh, nc, nd⟩ ⟨5, n, i, m⟩) := hide (by rw [(dw5 hf).1]; simp [q])
  have HF : Hid (dwB ⟨ts, cs, ds, nh, nc, nd⟩ ⟨5, n, i, m⟩ = true → dwF ⟨ts, cs, ds, nh, nc, nd⟩ ⟨5, n, i, m⟩ = ⟨ts, cs, ds, nh, nc, nd + m⟩) := hide (fun h => by rw [(dw5 hf).1] at h; rw [(dw5 hf).2, if_pos h])
  obtain ⟨f', hf'⟩ : ∃ x, dwF ⟨ts, cs, ds, nh, nc, nd⟩ ⟨5, n, i, m⟩ = x := ⟨_, rfl⟩
  obtain ⟨B, hB⟩ : ∃ x, dwB ⟨ts, cs, ds, nh, nc, nd⟩ ⟨5, n, i, m⟩ = x := ⟨_, rfl⟩
  rw [hf', hB]
  rw [hB] at HQ HF
  rw [hf'] at HF
  clear hf' hB
  have hsz : base ≤ w.heap.size := by have := ho.o1.lies g1 rfl; omega
  obtain ⟨V0, hV0⟩ : ∃ V, V = ((w.alloc (Obj.cells #[.slice (some ⟨g1, 0, none⟩) ts.length p1, .slice (some ⟨g2, 0, none⟩) cs.length p2, .slice (some ⟨g3, 0, none⟩) ds.length p3, .int .i64 nh, .int .i64 nc, .int .i64 nd] 37)).alloc (Obj.cells #[.int .i64 5, .string n, .int .i64 i, .int .i64 m] 60)).alloc (Obj.cells #[.slice none 0 0, .slice none 0 0, .slice none 0 0, .int .i64 0, .int .i64 0, .int .i64 0] 37) := ⟨_, rfl⟩
  have bV : Below w.heap.size w V0 := by rw [hV0]; exact bel3 _ _ _
  have KF0 : Hid (Blk V0 (w.heap.size) [.slice (some ⟨g1, 0, none⟩) ts.length p1, .slice (some ⟨g2, 0, none⟩) cs.length p2, .slice (some ⟨g3, 0, none⟩) ds.length p3, .int .i64 nh, .int .i64 nc, .int .i64 nd]) := hide (by rw [hV0]; exact blkAt3_0)
  have KD0 : Hid (Blk V0 (w.heap.size + 1) [.int .i64 5, .string n, .int .i64 i, .int .i64 m]) := hide (by rw [hV0]; exact blkAt3_1)
  have KR0 : Hid (Blk V0 (w.heap.size + 1 + 1) [.slice none 0 0, .slice none 0 0, .slice none 0 0, .int .i64 0, .int .i64 0, .int .i64 0]) := hide (by rw [hV0]; exact blkAt3_2)
  have B0 := hide bV
  have HO := hide ho
  have HW := hide hV0
  have FF := hide ff
  have y0 : V0.cell? ⟨w.heap.size + 1, 0, none⟩ = some (.int .i64 5) := (unhide KD0).c 0 (by simp)
  have y1 : V0.cell? ⟨w.heap.size + 1, 1, none⟩ = some (.string n) := (unhide KD0).c 1 (by simp)
  have y2 : V0.cell? ⟨w.heap.size + 1, 2, none⟩ = some (.int .i64 i) := (unhide KD0).c 2 (by simp)
  have y3 : V0.cell? ⟨w.heap.size + 1, 3, none⟩ = some (.int .i64 m) := (unhide KD0).c 3 (by simp)
  have q0 : V0.cell? ⟨w.heap.size, 0, none⟩ = some (.slice (some ⟨g1, 0, none⟩) ts.length p1) := (unhide KF0).c 0 (by simp)
  have q1 : V0.cell? ⟨w.heap.size, 1, none⟩ = some (.slice (some ⟨g2, 0, none⟩) cs.length p2) := (unhide KF0).c 1 (by simp)
  have q2 : V0.cell? ⟨w.heap.size, 2, none⟩ = some (.slice (some ⟨g3, 0, none⟩) ds.length p3) := (unhide KF0).c 2 (by simp)
  have q3 : V0.cell? ⟨w.heap.size, 3, none⟩ = some (.int .i64 nh) := (unhide KF0).c 3 (by simp)
  have q4 : V0.cell? ⟨w.heap.size, 4, none⟩ = some (.int .i64 nc) := (unhide KF0).c 4 (by simp)
  have q5 : V0.cell? ⟨w.heap.size, 5, none⟩ = some (.int .i64 nd) := (unhide KF0).c 5 (by simp)
  clear hV0 ff
  go_enter Tryz.func49, Tryz.ntmps49
  go_upto_region 1 with fail
  rw [← unhide HW]
  clear HW
  go_wp2_with fail
  refine (l1In_is _ _ _ _ q).mono ?_
  rintro e w' ⟨rfl, hw⟩
  subst w'
  have z5 : V0.frozen? ⟨w.heap.size, 5, none⟩ = false := (unhide KF0).f 5 (by simp)
  go_upto_region 13 with fail
  obtain ⟨V3, hV3⟩ : ∃ V, V = V0.setCell ⟨w.heap.size, 5, none⟩ (.int .i64 (nd + m)) := ⟨_, rfl⟩
  rw [← hV3]
  have KF3 : Hid (Blk V3 (w.heap.size) [.slice (some ⟨g1, 0, none⟩) ts.length p1, .slice (some ⟨g2, 0, none⟩) cs.length p2, .slice (some ⟨g3, 0, none⟩) ds.length p3, .int .i64 nh, .int .i64 nc, .int .i64 (nd + m)]) := hide (by rw [hV3]; exact (unhide KF0).set 5 (by simp) _)
  have KD3 := hide ((unhide KD0).other (p := ⟨w.heap.size, 5, none⟩) (by show w.heap.size ≠ w.heap.size + 1; omega) (.int .i64 (nd + m)))
  rw [← hV3] at KD3
  have KR3 := hide ((unhide KR0).other (p := ⟨w.heap.size, 5, none⟩) (by show w.heap.size ≠ w.heap.size + 1 + 1; omega) (.int .i64 (nd + m)))
  rw [← hV3] at KR3
  have B3 := hide ((unhide B0).setCell (p := ⟨w.heap.size, 5, none⟩) (Nat.le_refl _) (.int .i64 (nd + m)))
  rw [← hV3] at B3
  clear hV3
  clear z5 y0 y1 y2 y3 q0 q1 q2 q3 q4 q5
  refine wp_region_flagsA (by kernel_rfl) (by kernel_rfl) (Md13J w V3 g1 p1 g2 p2 g3 p3 ts cs ds nh nc nd m B) ?_ ?_ ?_
  · exact Md13J.mk (v0 := undef) (v1 := undef) (v2 := undef) (v3 := undef) (v5 := .bool false) ⟨(unhide B3).trans (bel0d' 1), Nat.le_refl _, ((unhide KF3).below (bel0d 1) : _), ((unhide KR3).below (bel0d 1) : _), (fun h => by cases h), (fun h => by cases h), (fun h => by cases h), (fun h => by cases h), (fun h => by cases h)⟩ (by kernel_rfl)
  rotate_left 1
  · rintro l a V i o ho hl hd ⟨v0, v1, v2, v3, v5, rfl, K⟩
    have hi : i < 6 := (Array.getElem?_eq_some_iff.1 ho).1
    rcases (show i = 0 ∨ i = 1 ∨ i = 2 ∨ i = 3 ∨ i = 4 ∨ i = 5 from by omega) with rfl | rfl | rfl | rfl | rfl | rfl
    · simp at ho
      subst ho
      have yy0 : V.cell? ⟨w.heap.size, 0, none⟩ = some (.slice (some ⟨g1, 0, none⟩) ts.length p1) := K.kf.c 0 (by simp)
      have yy1 : V.cell? ⟨w.heap.size, 1, none⟩ = some (.slice (some ⟨g2, 0, none⟩) cs.length p2) := K.kf.c 1 (by simp)
      have yy2 : V.cell? ⟨w.heap.size, 2, none⟩ = some (.slice (some ⟨g3, 0, none⟩) ds.length p3) := K.kf.c 2 (by simp)
      have yy3 : V.cell? ⟨w.heap.size, 3, none⟩ = some (.int .i64 nh) := K.kf.c 3 (by simp)
      have yy4 : V.cell? ⟨w.heap.size, 4, none⟩ = some (.int .i64 nc) := K.kf.c 4 (by simp)
      have yy5 : V.cell? ⟨w.heap.size, 5, none⟩ = some (.int .i64 (nd + m)) := K.kf.c 5 (by simp)
      have HK : Hid (Md13 w V3 g1 p1 g2 p2 g3 p3 ts cs ds nh nc nd m B true (l 1) (l 2) (l 3) (l 4) (l 5) (.agg #[.slice (some ⟨g1, 0, none⟩) ts.length p1, .slice (some ⟨g2, 0, none⟩) cs.length p2, .slice (some ⟨g3, 0, none⟩) ds.length p3, .int .i64 nh, .int .i64 nc, .int .i64 (nd + m)]) v1 v2 v3 v5 V) := hide ⟨(K.bel), (K.sz), (K.kf), (K.rc), (fun _ => rfl), (K.e1), (K.e2), (K.e3), (K.e5)⟩
      clear K hd hl
      go_wp2_with fail
      exact ⟨rfl, Md13J.mk (unhide HK) (by kernel_rfl)⟩
    · simp at ho
      subst ho
      have HK : Hid (Md13 w V3 g1 p1 g2 p2 g3 p3 ts cs ds nh nc nd m B (l 0) true (l 2) (l 3) (l 4) (l 5) v0 (.pointer (some ⟨w.heap.size, 3, none⟩)) v2 v3 v5 V) := hide ⟨(K.bel), (K.sz), (K.kf), (K.rc), (K.e0), (fun _ => rfl), (K.e2), (K.e3), (K.e5)⟩
      clear K hd hl
      go_wp2_with fail
      exact ⟨rfl, Md13J.mk (unhide HK) (by kernel_rfl)⟩
    · simp at ho
      subst ho
      have d1 : l 1 = true := hd ⟨1, .data⟩ (by simp) rfl
      have x1 := K.e1 d1
      subst x1
      have yy0 : V.cell? ⟨w.heap.size, 3, none⟩ = some (.int .i64 nh) := K.kf.c 3 (by simp)
      have yy1 : V.cell? ⟨w.heap.size, 4, none⟩ = some (.int .i64 nc) := K.kf.c 4 (by simp)
      have yy2 : V.cell? ⟨w.heap.size, 5, none⟩ = some (.int .i64 (nd + m)) := K.kf.c 5 (by simp)
      have HK : Hid (Md13 w V3 g1 p1 g2 p2 g3 p3 ts cs ds nh nc nd m B (l 0) (l 1) true (l 3) (l 4) (l 5) v0 (.pointer (some ⟨w.heap.size, 3, none⟩)) (.agg #[.int .i64 nh, .int .i64 nc, .int .i64 (nd + m)]) v3 v5 V) := hide ⟨(K.bel), (K.sz), (K.kf), (K.rc), (K.e0), (K.e1), (fun _ => rfl), (K.e3), (K.e5)⟩
      clear K hd hl
      go_wp2_with fail
      exact ⟨rfl, Md13J.mk (unhide HK) (by kernel_rfl)⟩
    · simp at ho
      subst ho
      have d2 : l 2 = true := hd ⟨2, .data⟩ (by simp) rfl
      have x2 := K.e2 d2
      subst x2
      have HK0 := hide K
      clear K hd hl
      go_wp2_with (go_at_call 65; refine (specClockOk_is _ _ _ _ (unhide HQ)).mono ?_; rintro e V2 ⟨rfl, b2⟩; have K := (unhide HK0).below b2; have HK : Hid (Md13 w V3 g1 p1 g2 p2 g3 p3 ts cs ds nh nc nd m B (l 0) (l 1) (l 2) true (l 4) (l 5) v0 v1 (.agg #[.int .i64 nh, .int .i64 nc, .int .i64 (nd + m)]) (.bool B) v5 V2) := hide ⟨(K.bel), (K.sz), (K.kf), (K.rc), (K.e0), (K.e1), (K.e2), (fun _ => rfl), (K.e5)⟩; clear K b2)
      exact ⟨rfl, Md13J.mk (unhide HK) (by kernel_rfl)⟩
    · simp at ho
      subst ho
      have d0 : l 0 = true := hd ⟨0, .data⟩ (by simp) rfl
      have x0 := K.e0 d0
      subst x0
      have x3 := K.rc
      rw [hl] at x3
      have yy0 : V.cell? ⟨w.heap.size + 1 + 1, 0, none⟩ = some (.slice none 0 0) := x3.c 0 (by simp)
      have ff0 : V.frozen? ⟨w.heap.size + 1 + 1, 0, none⟩ = false := x3.f 0 (by simp)
      have yy1 : V.cell? ⟨w.heap.size + 1 + 1, 1, none⟩ = some (.slice none 0 0) := x3.c 1 (by simp)
      have ff1 : V.frozen? ⟨w.heap.size + 1 + 1, 1, none⟩ = false := x3.f 1 (by simp)
      have yy2 : V.cell? ⟨w.heap.size + 1 + 1, 2, none⟩ = some (.slice none 0 0) := x3.c 2 (by simp)
      have ff2 : V.frozen? ⟨w.heap.size + 1 + 1, 2, none⟩ = false := x3.f 2 (by simp)
      have yy3 : V.cell? ⟨w.heap.size + 1 + 1, 3, none⟩ = some (.int .i64 0) := x3.c 3 (by simp)
      have ff3 : V.frozen? ⟨w.heap.size + 1 + 1, 3, none⟩ = false := x3.f 3 (by simp)
      have yy4 : V.cell? ⟨w.heap.size + 1 + 1, 4, none⟩ = some (.int .i64 0) := x3.c 4 (by simp)
      have ff4 : V.frozen? ⟨w.heap.size + 1 + 1, 4, none⟩ = false := x3.f 4 (by simp)
      have yy5 : V.cell? ⟨w.heap.size + 1 + 1, 5, none⟩ = some (.int .i64 0) := x3.c 5 (by simp)
      have ff5 : V.frozen? ⟨w.heap.size + 1 + 1, 5, none⟩ = false := x3.f 5 (by simp)
      have HK : Hid (Md13 w V3 g1 p1 g2 p2 g3 p3 ts cs ds nh nc nd m B (l 0) (l 1) (l 2) (l 3) true (l 5) (.agg #[.slice (some ⟨g1, 0, none⟩) ts.length p1, .slice (some ⟨g2, 0, none⟩) cs.length p2, .slice (some ⟨g3, 0, none⟩) ds.length p3, .int .i64 nh, .int .i64 nc, .int .i64 (nd + m)]) v1 v2 v3 v5 ((((((V.setCell ⟨w.heap.size + 1 + 1, 0, none⟩ (.slice (some ⟨g1, 0, none⟩) ts.length p1)).setCell ⟨w.heap.size + 1 + 1, 1, none⟩ (.slice (some ⟨g2, 0, none⟩) cs.length p2)).setCell ⟨w.heap.size + 1 + 1, 2, none⟩ (.slice (some ⟨g3, 0, none⟩) ds.length p3)).setCell ⟨w.heap.size + 1 + 1, 3, none⟩ (.int .i64 nh)).setCell ⟨w.heap.size + 1 + 1, 4, none⟩ (.int .i64 nc)).setCell ⟨w.heap.size + 1 + 1, 5, none⟩ (.int .i64 (nd + m)))) := hide ⟨(((((((K.bel.setCell (p := ⟨w.heap.size + 1 + 1, 0, none⟩) (by show w.heap.size ≤ w.heap.size + 1 + 1; omega) _).setCell (p := ⟨w.heap.size + 1 + 1, 1, none⟩) (by show w.heap.size ≤ w.heap.size + 1 + 1; omega) _).setCell (p := ⟨w.heap.size + 1 + 1, 2, none⟩) (by show w.heap.size ≤ w.heap.size + 1 + 1; omega) _).setCell (p := ⟨w.heap.size + 1 + 1, 3, none⟩) (by show w.heap.size ≤ w.heap.size + 1 + 1; omega) _).setCell (p := ⟨w.heap.size + 1 + 1, 4, none⟩) (by show w.heap.size ≤ w.heap.size + 1 + 1; omega) _).setCell (p := ⟨w.heap.size + 1 + 1, 5, none⟩) (by show w.heap.size ≤ w.heap.size + 1 + 1; omega) _)), (by simpa [World.setCell] using K.sz), (((((((K.kf.other (p := ⟨w.heap.size + 1 + 1, 0, none⟩) (by show w.heap.size + 1 + 1 ≠ w.heap.size; omega) _).other (p := ⟨w.heap.size + 1 + 1, 1, none⟩) (by show w.heap.size + 1 + 1 ≠ w.heap.size; omega) _).other (p := ⟨w.heap.size + 1 + 1, 2, none⟩) (by show w.heap.size + 1 + 1 ≠ w.heap.size; omega) _).other (p := ⟨w.heap.size + 1 + 1, 3, none⟩) (by show w.heap.size + 1 + 1 ≠ w.heap.size; omega) _).other (p := ⟨w.heap.size + 1 + 1, 4, none⟩) (by show w.heap.size + 1 + 1 ≠ w.heap.size; omega) _).other (p := ⟨w.heap.size + 1 + 1, 5, none⟩) (by show w.heap.size + 1 + 1 ≠ w.heap.size; omega) _)), (((((((x3.set 0 (by simp) _).set 1 (by simp) _).set 2 (by simp) _).set 3 (by simp) _).set 4 (by simp) _).set 5 (by simp) _)), (K.e0), (K.e1), (K.e2), (K.e3), (K.e5)⟩
      clear K hd hl x3
      go_wp2_with fail
      exact ⟨rfl, Md13J.mk (unhide HK) (by kernel_rfl)⟩
    · simp at ho
      subst ho
      have d3 : l 3 = true := hd ⟨3, .data⟩ (by simp) rfl
      have x3 := K.e3 d3
      subst x3
      have HK : Hid (Md13 w V3 g1 p1 g2 p2 g3 p3 ts cs ds nh nc nd m B (l 0) (l 1) (l 2) (l 3) (l 4) true v0 v1 v2 (.bool B) (.bool B) V) := hide ⟨(K.bel), (K.sz), (K.kf), (K.rc), (K.e0), (K.e1), (K.e2), (K.e3), (fun _ => rfl)⟩
      clear K hd hl
      go_wp2_with fail
      exact ⟨rfl, Md13J.mk (unhide HK) (by kernel_rfl)⟩
  rintro l a V9 hall ⟨v0, v1, v2, v3, v5, rfl, K⟩
  have gg0 := hall 0 (by decide)
  have gg1 := hall 1 (by decide)
  have gg2 := hall 2 (by decide)
  have gg3 := hall 3 (by decide)
  have gg4 := hall 4 (by decide)
  have gg5 := hall 5 (by decide)
  clear hall
  have px0 := K.e0 gg0
  have px1 := K.e1 gg1
  have px2 := K.e2 gg2
  have px3 := K.e3 gg3
  have px5 := K.e5 gg5
  have KBf : Hid (Blk V9 (w.heap.size) [.slice (some ⟨g1, 0, none⟩) ts.length p1, .slice (some ⟨g2, 0, none⟩) cs.length p2, .slice (some ⟨g3, 0, none⟩) ds.length p3, .int .i64 nh, .int .i64 nc, .int .i64 (nd + m)]) := hide K.kf
  have KRc : Hid (Blk V9 (w.heap.size + 1 + 1) [.slice (some ⟨g1, 0, none⟩) ts.length p1, .slice (some ⟨g2, 0, none⟩) cs.length p2, .slice (some ⟨g3, 0, none⟩) ds.length p3, .int .i64 nh, .int .i64 nc, .int .i64 (nd + m)]) := hide (by have := K.rc; rw [gg4] at this; exact this)
  have KBEL : Hid (Below w.heap.size w V9) := hide K.bel
  have KSZ : Hid (V3.heap.size ≤ V9.heap.size) := hide K.sz
  clear K gg0 gg1 gg2 gg3 gg4 gg5
  subst px0
  subst px1
  subst px2
  subst px3
  subst px5
  go_wp2_with fail
  refine bodyPost_ret (results_cellB (vs := [.slice (some ⟨g1, 0, none⟩) ts.length p1, .slice (some ⟨g2, 0, none⟩) cs.length p2, .slice (some ⟨g3, 0, none⟩) ds.length p3, .int .i64 nh, .int .i64 nc, .int .i64 (nd + m)]) rfl Tryz.isAgg37 Tryz.sizeOf37 rfl (unhide KRc) rfl) rfl ⟨_, rfl, ⟨_, _, _, _, _, _, _, _, _, _, _, _, rfl, fun h => by rw [unhide HF h]; exact ⟨(unhide HO).below (unhide KBEL), rfl, rfl, rfl⟩⟩, mdG_of (unhide KBEL) hsz⟩

end Go.Proofs.YticdccdkjepifaaGreat
