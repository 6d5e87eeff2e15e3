/-
  What the model does with a deed, whatever its kind. The fleet is so, it lies in memory of its own, the texts can be there.
  What the model's DoWork answers: the fleet behind the deed and whether it was done. The fleet's and the deed's texts can be there, its lists are no longer than memory.
-/
import Derived.Test.YticdccdkjepifaaGreatMdFind
import Derived.Test.YticdccdkjepifaaGreatMdTsk
import Derived.Test.YticdccdkjepifaaGreatMOnly

namespace Go.Proofs.YticdccdkjepifaaGreat
open Go Go.RowKit

theorem l19Do_any (base g1 p1 g2 p2 g3 p3 : Nat) (ts : List Ts) (cs : List Cr) (ds : List Df) (nh nc nd : Int) (n : ByteArray) (i m kd : Int) (w : World) (ho : FlOwn w base (some ⟨g1, 0, none⟩) (some ⟨g2, 0, none⟩) (some ⟨g3, 0, none⟩) ts.length p1 cs.length p2 ds.length p3 ts cs ds) (ff : FitF ⟨ts, cs, ds, nh, nc, nd⟩) (hf : flB ⟨ts, cs, ds, nh, nc, nd⟩ = true) (hn : fitT n) :
    Calls Tryz.prog 49 #[.agg #[.slice (some ⟨g1, 0, none⟩) ts.length p1, .slice (some ⟨g2, 0, none⟩) cs.length p2, .slice (some ⟨g3, 0, none⟩) ds.length p3, .int .i64 nh, .int .i64 nc, .int .i64 nd], .agg #[.int .i64 kd, .string n, .int .i64 i, .int .i64 m]] w fun e w' => ∃ v, e = .returned (.tuple #[v, .bool (dwB ⟨ts, cs, ds, nh, nc, nd⟩ ⟨kd, n, i, m⟩)]) ∧ MdO w' base v (dwF ⟨ts, cs, ds, nh, nc, nd⟩ ⟨kd, n, i, m⟩) (dwB ⟨ts, cs, ds, nh, nc, nd⟩ ⟨kd, n, i, m⟩) ∧ MdG base g1 w w' := by
  by_cases h1 : kd = 1
  · subst h1
    cases q : inB m 1 100
    · exact md_1n base g1 p1 g2 p2 g3 p3 ts cs ds nh nc nd n i m w ho ff hf q
    · by_cases q2 : (rlR ⟨ts, cs, ds, nh, nc, nd⟩).1 = 0
      · exact md_1t base g1 p1 g2 p2 g3 p3 ts cs ds nh nc nd n i m w ho ff hf q q2
      · exact md_1f base g1 p1 g2 p2 g3 p3 ts cs ds nh nc nd n i m w ho ff hf q q2
  by_cases h2 : kd = 2
  · subst h2; exact md_2 base g1 p1 g2 p2 g3 p3 ts cs ds nh nc nd n i m w ho ff hf
  by_cases h3 : kd = 3
  · subst h3; exact md_3 base g1 p1 g2 p2 g3 p3 ts cs ds nh nc nd n i m w ho ff hf hn
  by_cases h4 : kd = 4
  · subst h4; exact md_4 base g1 p1 g2 p2 g3 p3 ts cs ds nh nc nd n i m w ho ff hf
  by_cases h5 : kd = 5
  · subst h5
    cases q : inB m 1 100
    · exact md_5n base g1 p1 g2 p2 g3 p3 ts cs ds nh nc nd n i m w ho ff hf q
    · exact md_5t base g1 p1 g2 p2 g3 p3 ts cs ds nh nc nd n i m w ho ff hf q
  exact md_6 base g1 p1 g2 p2 g3 p3 ts cs ds nh nc nd n i m kd w ho ff hf h1 h2 h3 h4 h5

end Go.Proofs.YticdccdkjepifaaGreat

namespace Go.Proofs.YticdccdkjepifaaGreat
open Go Go.RowKit

def DwE (w : World) (f : Fl) (b : Bool) (e : Ending) (w' : World) : Prop := ∃ g1 p1 g2 p2 g3 p3 : Nat, e = .returned (.tuple #[.agg #[.slice (some ⟨g1, 0, none⟩) f.ts.length p1, .slice (some ⟨g2, 0, none⟩) f.cs.length p2, .slice (some ⟨g3, 0, none⟩) f.ds.length p3, .int .i64 f.nh, .int .i64 f.nc, .int .i64 f.nd], .bool b]) ∧ FlOwn w' w.heap.size (some ⟨g1, 0, none⟩) (some ⟨g2, 0, none⟩) (some ⟨g3, 0, none⟩) f.ts.length p1 f.cs.length p2 f.ds.length p3 f.ts f.cs f.ds ∧ Below w.heap.size w w'
structure DwR (w : World) (a1 : Option Addr) (a2 : Option Addr) (a3 : Option Addr) (l1 : Nat) (c1 : Nat) (l2 : Nat) (c2 : Nat) (l3 : Nat) (c3 : Nat) (ts : List Ts) (cs : List Cr) (ds : List Df) (nh : Int) (nc : Int) (nd : Int) (n : ByteArray) (i : Int) (m : Int) (kd : Int) (f' : Fl) (B : Bool) (t0 t1 t2 t3 t4 t5 t6 t7 t8 t9 : Bool) (v0 v1 v2 v3 v4 v5 v6 v7 v9 : Value) (W : World) : Prop where
  bel : Below w.heap.size w W
  kf : Blk W (w.heap.size) [.slice a1 l1 c1, .slice a2 l2 c2, .slice a3 l3 c3, .int .i64 nh, .int .i64 nc, .int .i64 nd]
  kd_ : Blk W (w.heap.size + 1) [.int .i64 kd, .string n, .int .i64 i, .int .i64 m]
  kr : Blk W (w.heap.size + 1 + 1) [.slice none 0 0, .slice none 0 0, .slice none 0 0, .int .i64 0, .int .i64 0, .int .i64 0]
  e0 : t0 = true → v0 = .agg #[.slice a1 l1 c1, .slice a2 l2 c2, .slice a3 l3 c3, .int .i64 nh, .int .i64 nc, .int .i64 nd]
  e2 : t2 = true → v2 = .agg #[.int .i64 kd, .string n, .int .i64 i, .int .i64 m]
  e6 : t6 = true → v6 = .bool B
  e9 : t9 = true → v9 = .bool B
  a1_ : t1 = true → t3 = false → ∃ g1 p1 g2 p2 g3 p3 : Nat, v1 = .agg #[.slice (some ⟨g1, 0, none⟩) ts.length p1, .slice (some ⟨g2, 0, none⟩) cs.length p2, .slice (some ⟨g3, 0, none⟩) ds.length p3, .int .i64 nh, .int .i64 nc, .int .i64 nd] ∧ FlOwn W (w.heap.size + 3) (some ⟨g1, 0, none⟩) (some ⟨g2, 0, none⟩) (some ⟨g3, 0, none⟩) ts.length p1 cs.length p2 ds.length p3 ts cs ds
  a3_ : t3 = true → ∃ (g1 n1 p1 g2 n2 p2 g3 n3 p3 : Nat) (h c d : Int), v3 = .tuple #[.agg #[.slice (some ⟨g1, 0, none⟩) n1 p1, .slice (some ⟨g2, 0, none⟩) n2 p2, .slice (some ⟨g3, 0, none⟩) n3 p3, .int .i64 h, .int .i64 c, .int .i64 d], .bool B] ∧ (B = true → FlOwn W (w.heap.size + 3) (some ⟨g1, 0, none⟩) (some ⟨g2, 0, none⟩) (some ⟨g3, 0, none⟩) n1 p1 n2 p2 n3 p3 f'.ts f'.cs f'.ds ∧ h = f'.nh ∧ c = f'.nc ∧ d = f'.nd) ∧ (t4 = true → v4 = .tuple #[.agg #[.slice (some ⟨g1, 0, none⟩) n1 p1, .slice (some ⟨g2, 0, none⟩) n2 p2, .slice (some ⟨g3, 0, none⟩) n3 p3, .int .i64 h, .int .i64 c, .int .i64 d], .bool B]) ∧ (t5 = true → v5 = .agg #[.slice (some ⟨g1, 0, none⟩) n1 p1, .slice (some ⟨g2, 0, none⟩) n2 p2, .slice (some ⟨g3, 0, none⟩) n3 p3, .int .i64 h, .int .i64 c, .int .i64 d]) ∧ (t8 = true → ∃ S : Nat, v7 = .pointer (some ⟨S, 0, none⟩) ∧ Blk W S [.slice (some ⟨g1, 0, none⟩) n1 p1, .slice (some ⟨g2, 0, none⟩) n2 p2, .slice (some ⟨g3, 0, none⟩) n3 p3, .int .i64 h, .int .i64 c, .int .i64 d] ∧ w.heap.size + 3 ≤ S)
  a7_ : t7 = true → t8 = false → ∃ S : Nat, v7 = .pointer (some ⟨S, 0, none⟩) ∧ Blk W S [.slice none 0 0, .slice none 0 0, .slice none 0 0, .int .i64 0, .int .i64 0, .int .i64 0] ∧ TyB W S 37 ∧ w.heap.size + 3 ≤ S
  c3 : t3 = true → t1 = true
  c4 : t4 = true → t3 = true
  c5 : t5 = true → t4 = true
  c85 : t8 = true → t5 = true
  c87 : t8 = true → t7 = true
def DwRJ (w : World) (a1 : Option Addr) (a2 : Option Addr) (a3 : Option Addr) (l1 : Nat) (c1 : Nat) (l2 : Nat) (c2 : Nat) (l3 : Nat) (c3 : Nat) (ts : List Ts) (cs : List Cr) (ds : List Df) (nh : Int) (nc : Int) (nd : Int) (n : ByteArray) (i : Int) (m : Int) (kd : Int) (f' : Fl) (B : Bool) (A0 : Act) (l : Nat → Bool) (a : Act) (V : World) : Prop := ∃ (v0 v1 v2 v3 v4 v5 v6 v7 v9 : Value), a = (((((((((A0.put (some 14) v0).put (some 15) v1).put (some 16) v2).put (some 17) v3).put (some 13) v4).put (some 18) v5).put (some 19) v6).put (some 6) v7).put (some 7) v9) ∧ DwR w a1 a2 a3 l1 c1 l2 c2 l3 c3 ts cs ds nh nc nd n i m kd f' B (l 0) (l 1) (l 2) (l 3) (l 4) (l 5) (l 6) (l 7) (l 8) (l 9) v0 v1 v2 v3 v4 v5 v6 v7 v9 V
theorem DwRJ.mk {w : World} {a1 : Option Addr} {a2 : Option Addr} {a3 : Option Addr} {l1 : Nat} {c1 : Nat} {l2 : Nat} {c2 : Nat} {l3 : Nat} {c3 : Nat} {ts : List Ts} {cs : List Cr} {ds : List Df} {nh : Int} {nc : Int} {nd : Int} {n : ByteArray} {i : Int} {m : Int} {kd : Int} {f' : Fl} {B : Bool} {A0 : Act} {l : Nat → Bool} {a : Act} {V : World} {v0 v1 v2 v3 v4 v5 v6 v7 v9 : Value} (K : DwR w a1 a2 a3 l1 c1 l2 c2 l3 c3 ts cs ds nh nc nd n i m kd f' B (l 0) (l 1) (l 2) (l 3) (l 4) (l 5) (l 6) (l 7) (l 8) (l 9) v0 v1 v2 v3 v4 v5 v6 v7 v9 V) (hq : a = (((((((((A0.put (some 14) v0).put (some 15) v1).put (some 16) v2).put (some 17) v3).put (some 13) v4).put (some 18) v5).put (some 19) v6).put (some 6) v7).put (some 7) v9)) : DwRJ w a1 a2 a3 l1 c1 l2 c2 l3 c3 ts cs ds nh nc nd n i m kd f' B A0 l a V := ⟨v0, v1, v2, v3, v4, v5, v6, v7, v9, hq, K⟩
set_option maxRecDepth 20000 in
set_option maxHeartbeats 4000000 in
theorem specDoWork_e (nh nc nd : Int) (a1 a2 a3 : Option Addr) (l1 c1 l2 c2 l3 c3 : Nat) (ts : List Ts) (cs : List Cr) (ds : List Df) (kd i m : Int) (n : ByteArray) (w : World) (hr : FlIn w a1 a2 a3 l1 l2 l3 ts cs ds) (m1 : l1 ≤ 1048600) (m2 : l2 ≤ 1048600) (m3 : l3 ≤ 1048600) (ff : FitF ⟨ts, cs, ds, nh, nc, nd⟩) (hn : fitT n) :
    Calls Tryz.prog 23 #[.agg #[.slice a1 l1 c1, .slice a2 l2 c2, .slice a3 l3 c3, .int .i64 nh, .int .i64 nc, .int .i64 nd], .agg #[.int .i64 kd, .string n, .int .i64 i, .int .i64 m]] w fun e w' => DwE w (dwF ⟨ts, cs, ds, nh, nc, nd⟩ ⟨kd, n, i, m⟩) (dwB ⟨ts, cs, ds, nh, nc, nd⟩ ⟨kd, n, i, m⟩) e w' := by
  have EN : Hid (dwB ⟨ts, cs, ds, nh, nc, nd⟩ ⟨kd, n, i, m⟩ = false → dwF ⟨ts, cs, ds, nh, nc, nd⟩ ⟨kd, n, i, m⟩ = ⟨ts, cs, ds, nh, nc, nd⟩) := hide dw_no
  have E0 : Hid (flB ⟨ts, cs, ds, nh, nc, nd⟩ = false → dwB ⟨ts, cs, ds, nh, nc, nd⟩ ⟨kd, n, i, m⟩ = false) := hide dw0
  obtain ⟨V0, hV0⟩ : ∃ V, V = ((w.alloc (Obj.cells #[.slice a1 l1 c1, .slice a2 l2 c2, .slice a3 l3 c3, .int .i64 nh, .int .i64 nc, .int .i64 nd] 37)).alloc (Obj.cells #[.int .i64 kd, .string n, .int .i64 i, .int .i64 m] 60)).alloc (Obj.cells #[.slice none 0 0, .slice none 0 0, .slice none 0 0, .int .i64 0, .int .i64 0, .int .i64 0] 37) := ⟨_, rfl⟩
  have bV : Below w.heap.size w V0 := by rw [hV0]; exact bel3 _ _ _
  have KF0 : Hid (Blk V0 (w.heap.size) [.slice a1 l1 c1, .slice a2 l2 c2, .slice a3 l3 c3, .int .i64 nh, .int .i64 nc, .int .i64 nd]) := hide (by rw [hV0]; exact blkAt3_0)
  have KD0 : Hid (Blk V0 (w.heap.size + 1) [.int .i64 kd, .string n, .int .i64 i, .int .i64 m]) := hide (by rw [hV0]; exact blkAt3_1)
  have KR0 : Hid (Blk V0 (w.heap.size + 1 + 1) [.slice none 0 0, .slice none 0 0, .slice none 0 0, .int .i64 0, .int .i64 0, .int .i64 0]) := hide (by rw [hV0]; exact blkAt3_2)
  have B0 := hide bV
  have HW := hide hV0
  have HR := hide hr
  have FFT := hide ff
  have CC : Hid (∀ V, Below w.heap.size w V → Calls Tryz.prog 22 #[.agg #[.slice a1 l1 c1, .slice a2 l2 c2, .slice a3 l3 c3, .int .i64 nh, .int .i64 nc, .int .i64 nd]] V fun e w' => ∃ g1 p1 g2 p2 g3 p3 : Nat, e = .returned (.agg #[.slice (some ⟨g1, 0, none⟩) ts.length p1, .slice (some ⟨g2, 0, none⟩) cs.length p2, .slice (some ⟨g3, 0, none⟩) ds.length p3, .int .i64 nh, .int .i64 nc, .int .i64 nd]) ∧ FlOwn w' V.heap.size (some ⟨g1, 0, none⟩) (some ⟨g2, 0, none⟩) (some ⟨g3, 0, none⟩) ts.length p1 cs.length p2 ds.length p3 ts cs ds ∧ Below V.heap.size V w') := hide (fun V b => l19Copy_any nh nc nd a1 a2 a3 l1 c1 l2 c2 l3 c3 ts cs ds V (hr.below b) m1 m2 m3)
  have q0 : V0.cell? ⟨w.heap.size, 0, none⟩ = some (.slice a1 l1 c1) := (unhide KF0).c 0 (by simp)
  have q1 : V0.cell? ⟨w.heap.size, 1, none⟩ = some (.slice a2 l2 c2) := (unhide KF0).c 1 (by simp)
  have q2 : V0.cell? ⟨w.heap.size, 2, none⟩ = some (.slice a3 l3 c3) := (unhide KF0).c 2 (by simp)
  have q3 : V0.cell? ⟨w.heap.size, 3, none⟩ = some (.int .i64 nh) := (unhide KF0).c 3 (by simp)
  have q4 : V0.cell? ⟨w.heap.size, 4, none⟩ = some (.int .i64 nc) := (unhide KF0).c 4 (by simp)
  have q5 : V0.cell? ⟨w.heap.size, 5, none⟩ = some (.int .i64 nd) := (unhide KF0).c 5 (by simp)
  clear hV0 bV ff hr m1 m2 m3
  obtain ⟨f', hf'⟩ : ∃ x, dwF ⟨ts, cs, ds, nh, nc, nd⟩ ⟨kd, n, i, m⟩ = x := ⟨_, rfl⟩
  obtain ⟨B, hB⟩ : ∃ x, dwB ⟨ts, cs, ds, nh, nc, nd⟩ ⟨kd, n, i, m⟩ = x := ⟨_, rfl⟩
  have CD : Hid (flB ⟨ts, cs, ds, nh, nc, nd⟩ = true → ∀ (g1 p1 g2 p2 g3 p3 : Nat) (V : World), FlOwn V (w.heap.size + 3) (some ⟨g1, 0, none⟩) (some ⟨g2, 0, none⟩) (some ⟨g3, 0, none⟩) ts.length p1 cs.length p2 ds.length p3 ts cs ds → Calls Tryz.prog 49 #[.agg #[.slice (some ⟨g1, 0, none⟩) ts.length p1, .slice (some ⟨g2, 0, none⟩) cs.length p2, .slice (some ⟨g3, 0, none⟩) ds.length p3, .int .i64 nh, .int .i64 nc, .int .i64 nd], .agg #[.int .i64 kd, .string n, .int .i64 i, .int .i64 m]] V fun e w' => ∃ v, e = .returned (.tuple #[v, .bool B]) ∧ MdO w' (w.heap.size + 3) v f' B ∧ MdG (w.heap.size + 3) g1 V w') := hide (fun hf g1 p1 g2 p2 g3 p3 V ho => by have k := l19Do_any (w.heap.size + 3) g1 p1 g2 p2 g3 p3 ts cs ds nh nc nd n i m kd V ho (unhide FFT) hf hn; rw [hf', hB] at k; exact k)
  rw [hf', hB] at EN
  rw [hB] at E0
  rw [hf', hB]
  clear hf' hB
  obtain ⟨Q, hQ⟩ : ∃ x, flB ⟨ts, cs, ds, nh, nc, nd⟩ = x := ⟨_, rfl⟩
  have CF : Hid (∀ V, Below w.heap.size w V → Calls Tryz.prog 48 #[.agg #[.slice a1 l1 c1, .slice a2 l2 c2, .slice a3 l3 c3, .int .i64 nh, .int .i64 nc, .int .i64 nd]] V fun e w' => e = .returned (.bool Q) ∧ Below V.heap.size V w') := hide (fun V b => by have k := specFleetOk_any nh nc nd a1 a2 a3 l1 c1 l2 c2 l3 c3 ts cs ds V ((unhide HR).below b) (unhide FFT).t (unhide FFT).c (unhide FFT).d; rw [hQ] at k; exact k)
  rw [hQ] at CD E0
  clear hQ
  go_enter Tryz.func23, Tryz.ntmps23
  go_upto_region 1 with fail
  rw [← unhide HW]
  clear HW
  go_wp2_with fail
  refine ((unhide CF) V0 (unhide B0)).mono ?_
  rintro e w1 ⟨rfl, b1⟩
  have KF1 := hide ((unhide KF0).below b1)
  have KD1 := hide ((unhide KD0).below b1)
  have KR1 := hide ((unhide KR0).below b1)
  have B1 := hide ((unhide B0).trans (b1.mono (unhide B0).size))
  clear b1 q0 q1 q2 q3 q4 q5
  cases Q
  · have q0 : w1.cell? ⟨w.heap.size, 0, none⟩ = some (.slice a1 l1 c1) := (unhide KF1).c 0 (by simp)
    have q1 : w1.cell? ⟨w.heap.size, 1, none⟩ = some (.slice a2 l2 c2) := (unhide KF1).c 1 (by simp)
    have q2 : w1.cell? ⟨w.heap.size, 2, none⟩ = some (.slice a3 l3 c3) := (unhide KF1).c 2 (by simp)
    have q3 : w1.cell? ⟨w.heap.size, 3, none⟩ = some (.int .i64 nh) := (unhide KF1).c 3 (by simp)
    have q4 : w1.cell? ⟨w.heap.size, 4, none⟩ = some (.int .i64 nc) := (unhide KF1).c 4 (by simp)
    have q5 : w1.cell? ⟨w.heap.size, 5, none⟩ = some (.int .i64 nd) := (unhide KF1).c 5 (by simp)
    go_wp2_with fail
    refine ((unhide CC) w1 (unhide B1)).mono ?_
    rintro e w8 ⟨g1, p1, g2, p2, g3, p3, rfl, o8, b8⟩
    have O8 := hide o8
    have KR8 := hide ((unhide KR1).below b8)
    have B8 := hide ((unhide B1).trans (b8.mono (unhide B1).size))
    have L8 : Hid (w1.heap.size ≤ w8.heap.size) := hide b8.size
    have LR : Hid (w.heap.size + 1 + 1 < w1.heap.size) := hide (unhide KR1).lt
    clear b8 o8 q0 q1 q2 q3 q4 q5
    go_wp2_with (((with_reducible show wpList _ _ _ (⟨none, .store 37 _ _, _, _, _, none⟩ :: _) _ _); refine at_storeAgg (us := [.slice none 0 0, .slice none 0 0, .slice none 0 0, .int .i64 0, .int .i64 0, .int .i64 0]) (vs := [.slice (some ⟨g1, 0, none⟩) ts.length p1, .slice (some ⟨g2, 0, none⟩) cs.length p2, .slice (some ⟨g3, 0, none⟩) ds.length p3, .int .i64 nh, .int .i64 nc, .int .i64 nd]) Tryz.sizeOf37 rfl rfl (unhide KR8) rfl (fun v hv => by simp at hv; rcases hv with rfl | rfl | rfl | rfl | rfl | rfl <;> rfl) ?_; intro w9 k9 g9; have K9 := hide k9; have G9 := hide g9; clear k9 g9))
    have eB : B = false := (unhide E0) (by first | exact rfl | trivial)
    subst eB
    have eF := (unhide EN) (by first | exact rfl | trivial)
    subst eF
    refine bodyPost_ret (results_cellB (vs := [.slice (some ⟨g1, 0, none⟩) ts.length p1, .slice (some ⟨g2, 0, none⟩) cs.length p2, .slice (some ⟨g3, 0, none⟩) ds.length p3, .int .i64 nh, .int .i64 nc, .int .i64 nd]) rfl Tryz.isAgg37 Tryz.sizeOf37 rfl (unhide K9) rfl) rfl ?_
    refine ⟨_, _, _, _, _, _, rfl, ?_, (unhide B8).grown (unhide G9) (unhide B8).size (fun q hq => by have e : w.heap.size + 1 + 1 = q := Option.some.inj hq; omega)⟩
    exact FlOwn.mono (base := w1.heap.size) ⟨(unhide O8).o1.far (unhide G9) (fun q hq e => by have e1 : g1 = q := Option.some.inj hq; have e2 : q = w.heap.size + 1 + 1 := Option.some.inj e; have e3 := (unhide O8).o1.lies g1 rfl; have e4 := unhide LR; omega), (unhide O8).o2.far (unhide G9) (fun q hq e => by have e1 : g2 = q := Option.some.inj hq; have e2 : q = w.heap.size + 1 + 1 := Option.some.inj e; have e3 := (unhide O8).o2.lies g2 rfl; have e4 := unhide LR; omega), (unhide O8).o3.far (unhide G9) (fun q hq e => by have e1 : g3 = q := Option.some.inj hq; have e2 : q = w.heap.size + 1 + 1 := Option.some.inj e; have e3 := (unhide O8).o3.lies g3 rfl; have e4 := unhide LR; omega), (unhide O8).p12, (unhide O8).p13, (unhide O8).p23⟩ (unhide B1).size
  · have CD2 := hide ((unhide CD) (by first | exact rfl | trivial))
    go_wp2_with fail
    refine wp_region_flagsA (by kernel_rfl) (by kernel_rfl) (DwRJ w a1 a2 a3 l1 c1 l2 c2 l3 c3 ts cs ds nh nc nd n i m kd f' B) ?_ ?_ ?_
    · exact DwRJ.mk (v0 := undef) (v1 := undef) (v2 := undef) (v3 := undef) (v4 := undef) (v5 := undef) (v6 := undef) (v7 := undef) (v9 := undef) ⟨((unhide B1).trans (bel0d' 1)), ((unhide KF1).below (bel0d 1)), ((unhide KD1).below (bel0d 1)), ((unhide KR1).below (bel0d 1)), (fun h => by cases h), (fun h => by cases h), (fun h => by cases h), (fun h => by cases h), (fun h => by cases h), (fun h => by cases h), (fun h => by cases h), (fun h => by cases h), (fun h => by cases h), (fun h => by cases h), (fun h => by cases h), (fun h => by cases h)⟩ (by kernel_rfl)
    rotate_left 1
    · rintro l a V x o ho hl hd ⟨v0, v1, v2, v3, v4, v5, v6, v7, v9, rfl, K⟩
      have hi : x < 10 := (Array.getElem?_eq_some_iff.1 ho).1
      rcases (show x = 0 ∨ x = 1 ∨ x = 2 ∨ x = 3 ∨ x = 4 ∨ x = 5 ∨ x = 6 ∨ x = 7 ∨ x = 8 ∨ x = 9 from by omega) with rfl | rfl | rfl | rfl | rfl | rfl | rfl | rfl | rfl | rfl
      · simp at ho
        subst ho
        have yy0 : V.cell? ⟨w.heap.size, 0, none⟩ = some (.slice a1 l1 c1) := K.kf.c 0 (by simp)
        have yy1 : V.cell? ⟨w.heap.size, 1, none⟩ = some (.slice a2 l2 c2) := K.kf.c 1 (by simp)
        have yy2 : V.cell? ⟨w.heap.size, 2, none⟩ = some (.slice a3 l3 c3) := K.kf.c 2 (by simp)
        have yy3 : V.cell? ⟨w.heap.size, 3, none⟩ = some (.int .i64 nh) := K.kf.c 3 (by simp)
        have yy4 : V.cell? ⟨w.heap.size, 4, none⟩ = some (.int .i64 nc) := K.kf.c 4 (by simp)
        have yy5 : V.cell? ⟨w.heap.size, 5, none⟩ = some (.int .i64 nd) := K.kf.c 5 (by simp)
        have HK : Hid (DwR w a1 a2 a3 l1 c1 l2 c2 l3 c3 ts cs ds nh nc nd n i m kd f' B true (l 1) (l 2) (l 3) (l 4) (l 5) (l 6) (l 7) (l 8) (l 9) (.agg #[.slice a1 l1 c1, .slice a2 l2 c2, .slice a3 l3 c3, .int .i64 nh, .int .i64 nc, .int .i64 nd]) v1 v2 v3 v4 v5 v6 v7 v9 V) := hide ⟨(K.bel), (K.kf), (K.kd_), (K.kr), (fun _ => rfl), (K.e2), (K.e6), (K.e9), (K.a1_), (K.a3_), (K.a7_), (K.c3), (K.c4), (K.c5), (K.c85), (K.c87)⟩
        clear K hd hl
        go_wp2_with fail
        exact ⟨rfl, DwRJ.mk (unhide HK) (by kernel_rfl)⟩
      · simp at ho
        subst ho
        have d0 : l 0 = true := hd ⟨0, .data⟩ (by simp) rfl
        have x0 := K.e0 d0
        subst x0
        have n3 : l 3 = false := by cases c : l 3; rfl; have z := K.c3 c; rw [hl] at z; cases z
        have HC := hide ((unhide CC) V K.bel)
        have HK0 := hide K
        have s9 := K.kr.lt
        clear K hd
        go_wp2_with (go_at_call 22; refine (unhide HC).mono ?_; rintro e V2 ⟨g1, p1, g2, p2, g3, p3, rfl, o2, b2⟩; have HK : Hid (DwR w a1 a2 a3 l1 c1 l2 c2 l3 c3 ts cs ds nh nc nd n i m kd f' B (l 0) true (l 2) (l 3) (l 4) (l 5) (l 6) (l 7) (l 8) (l 9) (.agg #[.slice a1 l1 c1, .slice a2 l2 c2, .slice a3 l3 c3, .int .i64 nh, .int .i64 nc, .int .i64 nd]) (.agg #[.slice (some ⟨g1, 0, none⟩) ts.length p1, .slice (some ⟨g2, 0, none⟩) cs.length p2, .slice (some ⟨g3, 0, none⟩) ds.length p3, .int .i64 nh, .int .i64 nc, .int .i64 nd]) v2 v3 v4 v5 v6 v7 v9 V2) := hide ⟨((unhide HK0).bel.trans (b2.mono (unhide HK0).bel.size)), ((unhide HK0).kf.below b2), ((unhide HK0).kd_.below b2), ((unhide HK0).kr.below b2), ((unhide HK0).e0), ((unhide HK0).e2), ((unhide HK0).e6), ((unhide HK0).e9), (fun _ _ => ⟨_, _, _, _, _, _, rfl, o2.mono (by omega)⟩), (fun h => by rw [n3] at h; cases h), (fun h1 h2 => by obtain ⟨S, x1, x2, x3, x4⟩ := (unhide HK0).a7_ h1 h2; exact ⟨S, x1, x2.below b2, tyB_below x3 x2.lt b2, x4⟩), (fun _ => rfl), ((unhide HK0).c4), ((unhide HK0).c5), ((unhide HK0).c85), ((unhide HK0).c87)⟩; clear o2 b2)
        exact ⟨rfl, DwRJ.mk (unhide HK) (by kernel_rfl)⟩
      · simp at ho
        subst ho
        have yy0 : V.cell? ⟨w.heap.size + 1, 0, none⟩ = some (.int .i64 kd) := K.kd_.c 0 (by simp)
        have yy1 : V.cell? ⟨w.heap.size + 1, 1, none⟩ = some (.string n) := K.kd_.c 1 (by simp)
        have yy2 : V.cell? ⟨w.heap.size + 1, 2, none⟩ = some (.int .i64 i) := K.kd_.c 2 (by simp)
        have yy3 : V.cell? ⟨w.heap.size + 1, 3, none⟩ = some (.int .i64 m) := K.kd_.c 3 (by simp)
        have HK : Hid (DwR w a1 a2 a3 l1 c1 l2 c2 l3 c3 ts cs ds nh nc nd n i m kd f' B (l 0) (l 1) true (l 3) (l 4) (l 5) (l 6) (l 7) (l 8) (l 9) v0 v1 (.agg #[.int .i64 kd, .string n, .int .i64 i, .int .i64 m]) v3 v4 v5 v6 v7 v9 V) := hide ⟨(K.bel), (K.kf), (K.kd_), (K.kr), (K.e0), (fun _ => rfl), (K.e6), (K.e9), (K.a1_), (K.a3_), (K.a7_), (K.c3), (K.c4), (K.c5), (K.c85), (K.c87)⟩
        clear K hd hl
        go_wp2_with fail
        exact ⟨rfl, DwRJ.mk (unhide HK) (by kernel_rfl)⟩
      · simp at ho
        subst ho
        have d1 : l 1 = true := hd ⟨1, .data⟩ (by simp) rfl
        have d2 : l 2 = true := hd ⟨2, .data⟩ (by simp) rfl
        obtain ⟨g1, p1, g2, p2, g3, p3, x1, o1⟩ := K.a1_ d1 hl
        subst x1
        have x2 := K.e2 d2
        subst x2
        have n4 : l 4 = false := by cases c : l 4; rfl; have z := K.c4 c; rw [hl] at z; cases z
        have n5 : l 5 = false := by cases c : l 5; rfl; have z := K.c5 c; rw [n4] at z; cases z
        have n8 : l 8 = false := by cases c : l 8; rfl; have z := K.c85 c; rw [n5] at z; cases z
        have HC := hide ((unhide CD2) g1 p1 g2 p2 g3 p3 V o1)
        have O1 := hide o1
        have HK0 := hide K
        clear K hd o1
        go_wp2_with (go_at_call 49; refine (unhide HC).mono ?_; rintro e V2 ⟨v, rfl, ⟨y1, m1, q1, y2, m2, q2, y3, m3, q3, hh, hc, hdd, rfl, xo⟩, mg⟩; have HK : Hid (DwR w a1 a2 a3 l1 c1 l2 c2 l3 c3 ts cs ds nh nc nd n i m kd f' B (l 0) (l 1) (l 2) true (l 4) (l 5) (l 6) (l 7) (l 8) (l 9) v0 (.agg #[.slice (some ⟨g1, 0, none⟩) ts.length p1, .slice (some ⟨g2, 0, none⟩) cs.length p2, .slice (some ⟨g3, 0, none⟩) ds.length p3, .int .i64 nh, .int .i64 nc, .int .i64 nd]) (.agg #[.int .i64 kd, .string n, .int .i64 i, .int .i64 m]) (.tuple #[.agg #[.slice (some ⟨y1, 0, none⟩) m1 q1, .slice (some ⟨y2, 0, none⟩) m2 q2, .slice (some ⟨y3, 0, none⟩) m3 q3, .int .i64 hh, .int .i64 hc, .int .i64 hdd], .bool B]) v4 v5 v6 v7 v9 V2) := hide ⟨((unhide HK0).bel.trans (mg.b.mono (by omega))), ((unhide HK0).kf.low mg.b (by omega)), ((unhide HK0).kd_.low mg.b (by omega)), ((unhide HK0).kr.low mg.b (by omega)), ((unhide HK0).e0), ((unhide HK0).e2), ((unhide HK0).e6), ((unhide HK0).e9), (fun _ h => by cases h), (fun _ => ⟨_, _, _, _, _, _, _, _, _, _, _, _, rfl, xo, (fun h => by rw [n4] at h; cases h), (fun h => by rw [n5] at h; cases h), (fun h => by rw [n8] at h; cases h)⟩), (fun h1 h2 => by obtain ⟨S, x1, x2, x3, x4⟩ := (unhide HK0).a7_ h1 h2; have hne := own_neT (unhide O1).o1 x3 (by decide); exact ⟨S, x1, x2.apart mg.g (fun e => hne e.symm), (by obtain ⟨xs, fz, e⟩ := x3; exact ⟨xs, fz, (mg.g.block S x2.lt (fun e => hne e.symm)).trans e⟩), x4⟩), (fun _ => d1), (fun _ => rfl), ((unhide HK0).c5), ((unhide HK0).c85), ((unhide HK0).c87)⟩; clear xo mg)
        exact ⟨rfl, DwRJ.mk (unhide HK) (by kernel_rfl)⟩
      · simp at ho
        subst ho
        have d3 : l 3 = true := hd ⟨3, .data⟩ (by simp) rfl
        obtain ⟨g1, n1, p1, g2, n2, p2, g3, n3, p3, h, c, d, x3, ob, x4, x5, x8⟩ := K.a3_ d3
        subst x3
        have HK : Hid (DwR w a1 a2 a3 l1 c1 l2 c2 l3 c3 ts cs ds nh nc nd n i m kd f' B (l 0) (l 1) (l 2) (l 3) true (l 5) (l 6) (l 7) (l 8) (l 9) v0 v1 v2 (.tuple #[.agg #[.slice (some ⟨g1, 0, none⟩) n1 p1, .slice (some ⟨g2, 0, none⟩) n2 p2, .slice (some ⟨g3, 0, none⟩) n3 p3, .int .i64 h, .int .i64 c, .int .i64 d], .bool B]) (.tuple #[.agg #[.slice (some ⟨g1, 0, none⟩) n1 p1, .slice (some ⟨g2, 0, none⟩) n2 p2, .slice (some ⟨g3, 0, none⟩) n3 p3, .int .i64 h, .int .i64 c, .int .i64 d], .bool B]) v5 v6 v7 v9 V) := hide ⟨(K.bel), (K.kf), (K.kd_), (K.kr), (K.e0), (K.e2), (K.e6), (K.e9), (K.a1_), (fun _ => ⟨g1, n1, p1, g2, n2, p2, g3, n3, p3, h, c, d, rfl, ob, fun _ => rfl, x5, x8⟩), (K.a7_), (K.c3), (fun _ => d3), (fun _ => rfl), (K.c85), (K.c87)⟩
        clear K hd hl ob x4 x5 x8
        go_wp2_with fail
        exact ⟨rfl, DwRJ.mk (unhide HK) (by kernel_rfl)⟩
      · simp at ho
        subst ho
        have d4 : l 4 = true := hd ⟨4, .data⟩ (by simp) rfl
        have d3 := K.c4 d4
        obtain ⟨g1, n1, p1, g2, n2, p2, g3, n3, p3, h, c, d, x3, ob, x4, x5, x8⟩ := K.a3_ d3
        have x4 := x4 d4
        subst x4
        have HK : Hid (DwR w a1 a2 a3 l1 c1 l2 c2 l3 c3 ts cs ds nh nc nd n i m kd f' B (l 0) (l 1) (l 2) (l 3) (l 4) true (l 6) (l 7) (l 8) (l 9) v0 v1 v2 v3 (.tuple #[.agg #[.slice (some ⟨g1, 0, none⟩) n1 p1, .slice (some ⟨g2, 0, none⟩) n2 p2, .slice (some ⟨g3, 0, none⟩) n3 p3, .int .i64 h, .int .i64 c, .int .i64 d], .bool B]) (.agg #[.slice (some ⟨g1, 0, none⟩) n1 p1, .slice (some ⟨g2, 0, none⟩) n2 p2, .slice (some ⟨g3, 0, none⟩) n3 p3, .int .i64 h, .int .i64 c, .int .i64 d]) v6 v7 v9 V) := hide ⟨(K.bel), (K.kf), (K.kd_), (K.kr), (K.e0), (K.e2), (K.e6), (K.e9), (K.a1_), (fun _ => ⟨g1, n1, p1, g2, n2, p2, g3, n3, p3, h, c, d, x3, ob, fun _ => rfl, fun _ => rfl, x8⟩), (K.a7_), (K.c3), (K.c4), (fun _ => d4), (fun _ => rfl), (K.c87)⟩
        clear K hd hl ob x3 x5 x8
        go_wp2_with fail
        exact ⟨rfl, DwRJ.mk (unhide HK) (by kernel_rfl)⟩
      · simp at ho
        subst ho
        have d4 : l 4 = true := hd ⟨4, .data⟩ (by simp) rfl
        have d3 := K.c4 d4
        obtain ⟨g1, n1, p1, g2, n2, p2, g3, n3, p3, h, c, d, x3, ob, x4, x5, x8⟩ := K.a3_ d3
        have x4 := x4 d4
        subst x4
        have HK : Hid (DwR w a1 a2 a3 l1 c1 l2 c2 l3 c3 ts cs ds nh nc nd n i m kd f' B (l 0) (l 1) (l 2) (l 3) (l 4) (l 5) true (l 7) (l 8) (l 9) v0 v1 v2 v3 (.tuple #[.agg #[.slice (some ⟨g1, 0, none⟩) n1 p1, .slice (some ⟨g2, 0, none⟩) n2 p2, .slice (some ⟨g3, 0, none⟩) n3 p3, .int .i64 h, .int .i64 c, .int .i64 d], .bool B]) v5 (.bool B) v7 v9 V) := hide ⟨(K.bel), (K.kf), (K.kd_), (K.kr), (K.e0), (K.e2), (fun _ => rfl), (K.e9), (K.a1_), (fun _ => ⟨g1, n1, p1, g2, n2, p2, g3, n3, p3, h, c, d, x3, ob, fun _ => rfl, x5, x8⟩), (K.a7_), (K.c3), (K.c4), (K.c5), (K.c85), (K.c87)⟩
        clear K hd hl ob x3 x5 x8
        go_wp2_with fail
        exact ⟨rfl, DwRJ.mk (unhide HK) (by kernel_rfl)⟩
      · simp at ho
        subst ho
        have n8 : l 8 = false := by cases c : l 8; rfl; have z := K.c87 c; rw [hl] at z; cases z
        have s9 := K.kr.lt
        have HK : Hid (DwR w a1 a2 a3 l1 c1 l2 c2 l3 c3 ts cs ds nh nc nd n i m kd f' B (l 0) (l 1) (l 2) (l 3) (l 4) (l 5) (l 6) true (l 8) (l 9) v0 v1 v2 v3 v4 v5 v6 (.pointer (some ⟨V.heap.size, 0, none⟩)) v9 (V.alloc (Obj.cells #[.slice none 0 0, .slice none 0 0, .slice none 0 0, .int .i64 0, .int .i64 0, .int .i64 0] 37))) := hide ⟨(K.bel.alloc K.bel.size _), (K.kf.alloc _), (K.kd_.alloc _), (K.kr.alloc _), (K.e0), (K.e2), (K.e6), (K.e9), (fun h1 h2 => by obtain ⟨g1, p1, g2, p2, g3, p3, x1, x2⟩ := K.a1_ h1 h2; exact ⟨g1, p1, g2, p2, g3, p3, x1, x2.below (bel1 _)⟩), (fun h => by obtain ⟨g1, n1, p1, g2, n2, p2, g3, n3, p3, h, c, d, x3, ob, x4, x5, x8⟩ := K.a3_ h; exact ⟨g1, n1, p1, g2, n2, p2, g3, n3, p3, h, c, d, x3, (fun hb => ⟨(ob hb).1.below (bel1 _), (ob hb).2⟩), x4, x5, (fun h => by rw [n8] at h; cases h)⟩), (fun _ _ => ⟨_, rfl, Blk.new (w := V) [.slice none 0 0, .slice none 0 0, .slice none 0 0, .int .i64 0, .int .i64 0, .int .i64 0] 37, ⟨_, _, heap_alloc_new V _⟩, by omega⟩), (K.c3), (K.c4), (K.c5), (K.c85), (fun _ => rfl)⟩
        clear K hd hl n8 s9
        go_wp2_with fail
        exact ⟨rfl, DwRJ.mk (unhide HK) (by kernel_rfl)⟩
      · simp at ho
        subst ho
        have d7 : l 7 = true := hd ⟨7, .data⟩ (by simp) rfl
        have d5 : l 5 = true := hd ⟨5, .data⟩ (by simp) rfl
        have d4 := K.c5 d5
        have d3 := K.c4 d4
        obtain ⟨g1, n1, p1, g2, n2, p2, g3, n3, p3, h, c, d, x3, ob, x4, x5, x8⟩ := K.a3_ d3
        have x5 := x5 d5
        subst x5
        obtain ⟨S, xs, bs, ys, hS⟩ := K.a7_ d7 hl
        subst xs
        have yy0 : V.cell? ⟨S, 0, none⟩ = some (.slice none 0 0) := bs.c 0 (by simp)
        have zz0 : V.frozen? ⟨S, 0, none⟩ = false := bs.f 0 (by simp)
        have yy1 : V.cell? ⟨S, 1, none⟩ = some (.slice none 0 0) := bs.c 1 (by simp)
        have zz1 : V.frozen? ⟨S, 1, none⟩ = false := bs.f 1 (by simp)
        have yy2 : V.cell? ⟨S, 2, none⟩ = some (.slice none 0 0) := bs.c 2 (by simp)
        have zz2 : V.frozen? ⟨S, 2, none⟩ = false := bs.f 2 (by simp)
        have yy3 : V.cell? ⟨S, 3, none⟩ = some (.int .i64 0) := bs.c 3 (by simp)
        have zz3 : V.frozen? ⟨S, 3, none⟩ = false := bs.f 3 (by simp)
        have yy4 : V.cell? ⟨S, 4, none⟩ = some (.int .i64 0) := bs.c 4 (by simp)
        have zz4 : V.frozen? ⟨S, 4, none⟩ = false := bs.f 4 (by simp)
        have yy5 : V.cell? ⟨S, 5, none⟩ = some (.int .i64 0) := bs.c 5 (by simp)
        have zz5 : V.frozen? ⟨S, 5, none⟩ = false := bs.f 5 (by simp)
        have HK : Hid (DwR w a1 a2 a3 l1 c1 l2 c2 l3 c3 ts cs ds nh nc nd n i m kd f' B (l 0) (l 1) (l 2) (l 3) (l 4) (l 5) (l 6) (l 7) true (l 9) v0 v1 v2 v3 v4 (.agg #[.slice (some ⟨g1, 0, none⟩) n1 p1, .slice (some ⟨g2, 0, none⟩) n2 p2, .slice (some ⟨g3, 0, none⟩) n3 p3, .int .i64 h, .int .i64 c, .int .i64 d]) v6 (.pointer (some ⟨S, 0, none⟩)) v9 ((((((V.setCell ⟨S, 0, none⟩ (.slice (some ⟨g1, 0, none⟩) n1 p1)).setCell ⟨S, 1, none⟩ (.slice (some ⟨g2, 0, none⟩) n2 p2)).setCell ⟨S, 2, none⟩ (.slice (some ⟨g3, 0, none⟩) n3 p3)).setCell ⟨S, 3, none⟩ (.int .i64 h)).setCell ⟨S, 4, none⟩ (.int .i64 c)).setCell ⟨S, 5, none⟩ (.int .i64 d))) := hide ⟨(((((((K.bel.setCell (p := ⟨S, 0, none⟩) (by show w.heap.size ≤ S; omega) _).setCell (p := ⟨S, 1, none⟩) (by show w.heap.size ≤ S; omega) _).setCell (p := ⟨S, 2, none⟩) (by show w.heap.size ≤ S; omega) _).setCell (p := ⟨S, 3, none⟩) (by show w.heap.size ≤ S; omega) _).setCell (p := ⟨S, 4, none⟩) (by show w.heap.size ≤ S; omega) _).setCell (p := ⟨S, 5, none⟩) (by show w.heap.size ≤ S; omega) _)), (((((((K.kf.other (p := ⟨S, 0, none⟩) (by show S ≠ w.heap.size; omega) _).other (p := ⟨S, 1, none⟩) (by show S ≠ w.heap.size; omega) _).other (p := ⟨S, 2, none⟩) (by show S ≠ w.heap.size; omega) _).other (p := ⟨S, 3, none⟩) (by show S ≠ w.heap.size; omega) _).other (p := ⟨S, 4, none⟩) (by show S ≠ w.heap.size; omega) _).other (p := ⟨S, 5, none⟩) (by show S ≠ w.heap.size; omega) _)), (((((((K.kd_.other (p := ⟨S, 0, none⟩) (by show S ≠ w.heap.size + 1; omega) _).other (p := ⟨S, 1, none⟩) (by show S ≠ w.heap.size + 1; omega) _).other (p := ⟨S, 2, none⟩) (by show S ≠ w.heap.size + 1; omega) _).other (p := ⟨S, 3, none⟩) (by show S ≠ w.heap.size + 1; omega) _).other (p := ⟨S, 4, none⟩) (by show S ≠ w.heap.size + 1; omega) _).other (p := ⟨S, 5, none⟩) (by show S ≠ w.heap.size + 1; omega) _)), (((((((K.kr.other (p := ⟨S, 0, none⟩) (by show S ≠ w.heap.size + 1 + 1; omega) _).other (p := ⟨S, 1, none⟩) (by show S ≠ w.heap.size + 1 + 1; omega) _).other (p := ⟨S, 2, none⟩) (by show S ≠ w.heap.size + 1 + 1; omega) _).other (p := ⟨S, 3, none⟩) (by show S ≠ w.heap.size + 1 + 1; omega) _).other (p := ⟨S, 4, none⟩) (by show S ≠ w.heap.size + 1 + 1; omega) _).other (p := ⟨S, 5, none⟩) (by show S ≠ w.heap.size + 1 + 1; omega) _)), (K.e0), (K.e2), (K.e6), (K.e9), (fun _ h => by have h : l 3 = false := h; rw [d3] at h; cases h), (fun _ => ⟨g1, n1, p1, g2, n2, p2, g3, n3, p3, h, c, d, x3, (fun hb => by have t := (ob hb).1; have t1 := own_neT t.o1 ys (by decide); have t2 := own_neT t.o2 ys (by decide); have t3 := own_neT t.o3 ys (by decide); exact ⟨⟨((((((t.o1.set_other (S := S) (o := 0) _ t1).set_other (S := S) (o := 1) _ t1).set_other (S := S) (o := 2) _ t1).set_other (S := S) (o := 3) _ t1).set_other (S := S) (o := 4) _ t1).set_other (S := S) (o := 5) _ t1), ((((((t.o2.set_other (S := S) (o := 0) _ t2).set_other (S := S) (o := 1) _ t2).set_other (S := S) (o := 2) _ t2).set_other (S := S) (o := 3) _ t2).set_other (S := S) (o := 4) _ t2).set_other (S := S) (o := 5) _ t2), ((((((t.o3.set_other (S := S) (o := 0) _ t3).set_other (S := S) (o := 1) _ t3).set_other (S := S) (o := 2) _ t3).set_other (S := S) (o := 3) _ t3).set_other (S := S) (o := 4) _ t3).set_other (S := S) (o := 5) _ t3), t.p12, t.p13, t.p23⟩, (ob hb).2⟩), x4, fun _ => rfl, fun _ => ⟨S, rfl, ((((((bs.set 0 (by simp) _).set 1 (by simp) _).set 2 (by simp) _).set 3 (by simp) _).set 4 (by simp) _).set 5 (by simp) _), hS⟩⟩), (fun _ h => by cases h), (K.c3), (K.c4), (K.c5), (fun _ => d5), (fun _ => d7)⟩
        clear K hd hl ob x3 x4 x8 bs ys
        go_wp2_with fail
        exact ⟨rfl, DwRJ.mk (unhide HK) (by kernel_rfl)⟩
      · simp at ho
        subst ho
        have d6 : l 6 = true := hd ⟨6, .data⟩ (by simp) rfl
        have x6 := K.e6 d6
        subst x6
        have HK : Hid (DwR w a1 a2 a3 l1 c1 l2 c2 l3 c3 ts cs ds nh nc nd n i m kd f' B (l 0) (l 1) (l 2) (l 3) (l 4) (l 5) (l 6) (l 7) (l 8) true v0 v1 v2 v3 v4 v5 (.bool B) v7 (.bool B) V) := hide ⟨(K.bel), (K.kf), (K.kd_), (K.kr), (K.e0), (K.e2), (K.e6), (fun _ => rfl), (K.a1_), (K.a3_), (K.a7_), (K.c3), (K.c4), (K.c5), (K.c85), (K.c87)⟩
        clear K hd hl
        go_wp2_with fail
        exact ⟨rfl, DwRJ.mk (unhide HK) (by kernel_rfl)⟩
    rintro l a V7 hall ⟨v0, v1, v2, v3, v4, v5, v6, v7, v9, rfl, K⟩
    obtain ⟨g1, n1, p1, g2, n2, p2, g3, n3, p3, h, c, d, _, ob, _, _, x8⟩ := K.a3_ (hall 3 (by decide))
    obtain ⟨S, xs, bs, hS⟩ := x8 (hall 8 (by decide))
    have x9 := K.e9 (hall 9 (by decide))
    subst xs
    subst x9
    have OB := hide ob
    have KS7 := hide bs
    have KF7 := hide K.kf
    have KR7 := hide K.kr
    have B7 := hide K.bel
    clear K hall ob bs x8
    cases B
    · have q0 : V7.cell? ⟨w.heap.size, 0, none⟩ = some (.slice a1 l1 c1) := (unhide KF7).c 0 (by simp)
      have q1 : V7.cell? ⟨w.heap.size, 1, none⟩ = some (.slice a2 l2 c2) := (unhide KF7).c 1 (by simp)
      have q2 : V7.cell? ⟨w.heap.size, 2, none⟩ = some (.slice a3 l3 c3) := (unhide KF7).c 2 (by simp)
      have q3 : V7.cell? ⟨w.heap.size, 3, none⟩ = some (.int .i64 nh) := (unhide KF7).c 3 (by simp)
      have q4 : V7.cell? ⟨w.heap.size, 4, none⟩ = some (.int .i64 nc) := (unhide KF7).c 4 (by simp)
      have q5 : V7.cell? ⟨w.heap.size, 5, none⟩ = some (.int .i64 nd) := (unhide KF7).c 5 (by simp)
      go_wp2_with fail
      refine ((unhide CC) V7 (unhide B7)).mono ?_
      rintro e w8 ⟨g1, p1, g2, p2, g3, p3, rfl, o8, b8⟩
      have O8 := hide o8
      have KR8 := hide ((unhide KR7).below b8)
      have B8 := hide ((unhide B7).trans (b8.mono (unhide B7).size))
      have L8 : Hid (V7.heap.size ≤ w8.heap.size) := hide b8.size
      have LR : Hid (w.heap.size + 1 + 1 < V7.heap.size) := hide (unhide KR7).lt
      clear b8 o8 q0 q1 q2 q3 q4 q5
      go_wp2_with (((with_reducible show wpList _ _ _ (⟨none, .store 37 _ _, _, _, _, none⟩ :: _) _ _); refine at_storeAgg (us := [.slice none 0 0, .slice none 0 0, .slice none 0 0, .int .i64 0, .int .i64 0, .int .i64 0]) (vs := [.slice (some ⟨g1, 0, none⟩) ts.length p1, .slice (some ⟨g2, 0, none⟩) cs.length p2, .slice (some ⟨g3, 0, none⟩) ds.length p3, .int .i64 nh, .int .i64 nc, .int .i64 nd]) Tryz.sizeOf37 rfl rfl (unhide KR8) rfl (fun v hv => by simp at hv; rcases hv with rfl | rfl | rfl | rfl | rfl | rfl <;> rfl) ?_; intro w9 k9 g9; have K9 := hide k9; have G9 := hide g9; clear k9 g9))
      have eF := (unhide EN) (by first | exact rfl | trivial)
      subst eF
      refine bodyPost_ret (results_cellB (vs := [.slice (some ⟨g1, 0, none⟩) ts.length p1, .slice (some ⟨g2, 0, none⟩) cs.length p2, .slice (some ⟨g3, 0, none⟩) ds.length p3, .int .i64 nh, .int .i64 nc, .int .i64 nd]) rfl Tryz.isAgg37 Tryz.sizeOf37 rfl (unhide K9) rfl) rfl ?_
      refine ⟨_, _, _, _, _, _, rfl, ?_, (unhide B8).grown (unhide G9) (unhide B8).size (fun q hq => by have e : w.heap.size + 1 + 1 = q := Option.some.inj hq; omega)⟩
      exact FlOwn.mono (base := V7.heap.size) ⟨(unhide O8).o1.far (unhide G9) (fun q hq e => by have e1 : g1 = q := Option.some.inj hq; have e2 : q = w.heap.size + 1 + 1 := Option.some.inj e; have e3 := (unhide O8).o1.lies g1 rfl; have e4 := unhide LR; omega), (unhide O8).o2.far (unhide G9) (fun q hq e => by have e1 : g2 = q := Option.some.inj hq; have e2 : q = w.heap.size + 1 + 1 := Option.some.inj e; have e3 := (unhide O8).o2.lies g2 rfl; have e4 := unhide LR; omega), (unhide O8).o3.far (unhide G9) (fun q hq e => by have e1 : g3 = q := Option.some.inj hq; have e2 : q = w.heap.size + 1 + 1 := Option.some.inj e; have e3 := (unhide O8).o3.lies g3 rfl; have e4 := unhide LR; omega), (unhide O8).p12, (unhide O8).p13, (unhide O8).p23⟩ (unhide B7).size
    · obtain ⟨ow, e1, e2, e3⟩ := (unhide OB) rfl
      subst e1
      subst e2
      subst e3
      have hL1 := ow.o1.row.len_eq
      have hL2 := ow.o2.row.len_eq
      have hL3 := ow.o3.row.len_eq
      have OW := hide ow
      have H1 := hide hL1
      have H2 := hide hL2
      have H3 := hide hL3
      clear ow hL1 hL2 hL3
      have q0 : V7.cell? ⟨S, 0, none⟩ = some (.slice (some ⟨g1, 0, none⟩) n1 p1) := (unhide KS7).c 0 (by simp)
      have q1 : V7.cell? ⟨S, 1, none⟩ = some (.slice (some ⟨g2, 0, none⟩) n2 p2) := (unhide KS7).c 1 (by simp)
      have q2 : V7.cell? ⟨S, 2, none⟩ = some (.slice (some ⟨g3, 0, none⟩) n3 p3) := (unhide KS7).c 2 (by simp)
      have q3 : V7.cell? ⟨S, 3, none⟩ = some (.int .i64 f'.nh) := (unhide KS7).c 3 (by simp)
      have q4 : V7.cell? ⟨S, 4, none⟩ = some (.int .i64 f'.nc) := (unhide KS7).c 4 (by simp)
      have q5 : V7.cell? ⟨S, 5, none⟩ = some (.int .i64 f'.nd) := (unhide KS7).c 5 (by simp)
      go_wp2_with (((with_reducible show wpList _ _ _ (⟨none, .store 37 _ _, _, _, _, none⟩ :: _) _ _); refine at_storeAgg (us := [.slice none 0 0, .slice none 0 0, .slice none 0 0, .int .i64 0, .int .i64 0, .int .i64 0]) (vs := [.slice (some ⟨g1, 0, none⟩) n1 p1, .slice (some ⟨g2, 0, none⟩) n2 p2, .slice (some ⟨g3, 0, none⟩) n3 p3, .int .i64 f'.nh, .int .i64 f'.nc, .int .i64 f'.nd]) Tryz.sizeOf37 rfl rfl (unhide KR7) rfl (fun v hv => by simp at hv; rcases hv with rfl | rfl | rfl | rfl | rfl | rfl <;> rfl) ?_; intro w9 k9 g9; have K9 := hide k9; have G9 := hide g9; clear k9 g9))
      refine bodyPost_ret (results_cellB (vs := [.slice (some ⟨g1, 0, none⟩) n1 p1, .slice (some ⟨g2, 0, none⟩) n2 p2, .slice (some ⟨g3, 0, none⟩) n3 p3, .int .i64 f'.nh, .int .i64 f'.nc, .int .i64 f'.nd]) rfl Tryz.isAgg37 Tryz.sizeOf37 rfl (unhide K9) rfl) rfl ?_
      refine ⟨g1, p1, g2, p2, g3, p3, by rw [unhide H1, unhide H2, unhide H3]; rfl, ?_, (unhide B7).grown (unhide G9) (unhide B7).size (fun q hq => by have e : w.heap.size + 1 + 1 = q := Option.some.inj hq; omega)⟩
      rw [unhide H1, unhide H2, unhide H3]
      exact FlOwn.mono (base := w.heap.size + 3) ⟨(unhide OW).o1.far (unhide G9) (fun q hq e => by have e1 : g1 = q := Option.some.inj hq; have e2 : q = w.heap.size + 1 + 1 := Option.some.inj e; have e3 := (unhide OW).o1.lies g1 rfl; omega), (unhide OW).o2.far (unhide G9) (fun q hq e => by have e1 : g2 = q := Option.some.inj hq; have e2 : q = w.heap.size + 1 + 1 := Option.some.inj e; have e3 := (unhide OW).o2.lies g2 rfl; omega), (unhide OW).o3.far (unhide G9) (fun q hq e => by have e1 : g3 = q := Option.some.inj hq; have e2 : q = w.heap.size + 1 + 1 := Option.some.inj e; have e3 := (unhide OW).o3.lies g3 rfl; omega), (unhide OW).p12, (unhide OW).p13, (unhide OW).p23⟩ (by omega)

end Go.Proofs.YticdccdkjepifaaGreat
