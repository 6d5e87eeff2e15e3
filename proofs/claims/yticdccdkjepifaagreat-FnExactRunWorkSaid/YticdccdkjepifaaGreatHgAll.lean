/-
  What the program's hangar does with a deed: its lock taken and given back. The fleet's and the deed's texts can be there.
-/
import Derived.Test.YticdccdkjepifaaGreatHgFi
import Derived.Test.YticdccdkjepifaaGreatMuLk
namespace Go.Proofs.YticdccdkjepifaaGreat
open Go Go.RowKit

theorem lockHg (base G : Nat) (a1 a2 a3 : Option Addr) (c1 c2 c3 : Nat) (ts : List Ts) (cs : List Cr) (ds : List Df) (nh nc nd : Int) (w : World) (h : Hg w base G 0 a1 a2 a3 c1 c2 c3 ts cs ds nh nc nd) :
    Calls Tryz.prog 53 #[.pointer (some ⟨G, 0, none⟩)] w fun e w' => e = .returned (.tuple #[]) ∧ Hg w' base G 1 a1 a2 a3 c1 c2 c3 ts cs ds nh nc nd ∧ Aps (hz G a1 a2 a3) w w' ∧ w.heap.size ≤ w'.heap.size ∧ ∀ b vs, b ≠ G → Blk w b vs → Blk w' b vs := by
  refine (muLock ⟨G, 0, none⟩ w (h.blk.c 0 (by simp)) (h.blk.f 0 (by simp))).mono ?_
  rintro e w' ⟨rfl, rfl⟩
  exact ⟨rfl, h.lock 1, (Aps.refl _ _).setS (p := ⟨G, 0, none⟩) hz_G _, by simp, fun b vs hb k => k.other (by simpa using Ne.symm hb) _⟩
theorem unlockHg {w : World} {base G : Nat} {f : Fl} (h : HgE w base G 1 f) (u : FrameMode) :
    CallsD Tryz.prog 54 #[.pointer (some ⟨G, 0, none⟩)] u w fun e u' w' => u' = u ∧ (e = .returned (.tuple #[]) ∧ HgE w' base G 0 f ∧ ∀ a1 a2 a3, Aps (hz G a1 a2 a3) w w') := by
  obtain ⟨a1, a2, a3, c1, c2, c3, h⟩ := h
  refine (muUnlock ⟨G, 0, none⟩ u w (h.blk.c 0 (by simp)) (h.blk.f 0 (by simp))).mono ?_
  rintro e u' w' ⟨rfl, rfl, rfl⟩
  exact ⟨rfl, rfl, ⟨_, _, _, _, _, _, h.lock 0⟩, fun _ _ _ => (Aps.refl _ _).setS (p := ⟨G, 0, none⟩) hz_G _⟩
theorem dw_no {f : Fl} {d : De} (h : dwB f d = false) : dwF f d = f := by rw [dwF, if_pos h]
theorem dw0 {f : Fl} {d : De} (h : flB f = false) : dwB f d = false := by simp [dwB, h]
theorem dw6 {f : Fl} {d : De} (h1 : d.k ≠ 1) (h2 : d.k ≠ 2) (h3 : d.k ≠ 3) (h4 : d.k ≠ 4) (h5 : d.k ≠ 5) : dwB f d = false := by simp [dwB, h1, h2, h3, h4, h5]
theorem dw1 {f : Fl} {n : ByteArray} {i m : Int} (h : flB f = true) : dwB f ⟨1, n, i, m⟩ = flyB f ⟨1, ⟨#[]⟩, 0, m⟩ ∧ dwF f ⟨1, n, i, m⟩ = if flyB f ⟨1, ⟨#[]⟩, 0, m⟩ = true then ⟨f.ts, f.cs, f.ds, f.nh + m, f.nc + 1, f.nd⟩ else f := by
  have e : dwB f ⟨1, n, i, m⟩ = flyB f ⟨1, ⟨#[]⟩, 0, m⟩ := by simp [dwB, h, flyB]
  refine ⟨e, ?_⟩
  rw [dwF, e]
  cases flyB f ⟨1, ⟨#[]⟩, 0, m⟩ <;> simp
theorem dw2 {f : Fl} {n : ByteArray} {i m : Int} (h : flB f = true) : dwB f ⟨2, n, i, m⟩ = decide (0 ≤ ixE (qTs n) f.ts) ∧ dwF f ⟨2, n, i, m⟩ = if 0 ≤ ixE (qTs n) f.ts then ⟨f.ts.set (ixE (qTs n) f.ts).toNat (dnT f (elAt f.ts (ixE (qTs n) f.ts).toNat)), f.cs, f.ds, f.nh, f.nc, f.nd⟩ else f := by
  have e : dwB f ⟨2, n, i, m⟩ = decide (0 ≤ ixE (qTs n) f.ts) := by simp [dwB, h, tskB]
  refine ⟨e, ?_⟩
  rw [dwF, e]
  by_cases c : 0 ≤ ixE (qTs n) f.ts <;> simp [c]
theorem dw3 {f : Fl} {n : ByteArray} {i m : Int} (h : flB f = true) : dwB f ⟨3, n, i, m⟩ = (!atI f.ds i && dkB f.nd ⟨n, i, f.nd⟩ && decide (f.ds.length < 20)) ∧ dwF f ⟨3, n, i, m⟩ = if (!atI f.ds i && dkB f.nd ⟨n, i, f.nd⟩ && decide (f.ds.length < 20)) = true then ⟨f.ts, f.cs, insL f.ds (plR i f.ds) ⟨n, i, f.nd⟩, f.nh, f.nc, f.nd⟩ else f := by
  have e : dwB f ⟨3, n, i, m⟩ = (!atI f.ds i && dkB f.nd ⟨n, i, f.nd⟩ && decide (f.ds.length < 20)) := by simp [dwB, h, fndB]
  refine ⟨e, ?_⟩
  rw [dwF, e]
  cases (!atI f.ds i && dkB f.nd ⟨n, i, f.nd⟩ && decide (f.ds.length < 20)) <;> simp [insL]
theorem dw4 {f : Fl} {n : ByteArray} {i m : Int} (h : flB f = true) : dwB f ⟨4, n, i, m⟩ = atI f.ds i ∧ dwF f ⟨4, n, i, m⟩ = if atI f.ds i = true then ⟨f.ts, f.cs, f.ds.take (plR i f.ds) ++ f.ds.drop (plR i f.ds + 1), f.nh, f.nc, f.nd⟩ else f := by
  have e : dwB f ⟨4, n, i, m⟩ = atI f.ds i := by simp [dwB, h]
  refine ⟨e, ?_⟩
  rw [dwF, e]
  cases atI f.ds i <;> simp
theorem dw5 {f : Fl} {n : ByteArray} {i m : Int} (h : flB f = true) : dwB f ⟨5, n, i, m⟩ = (inB m 1 100 && ckB f.nh f.nc (f.nd + m)) ∧ dwF f ⟨5, n, i, m⟩ = if (inB m 1 100 && ckB f.nh f.nc (f.nd + m)) = true then ⟨f.ts, f.cs, f.ds, f.nh, f.nc, f.nd + m⟩ else f := by
  have e : dwB f ⟨5, n, i, m⟩ = (inB m 1 100 && ckB f.nh f.nc (f.nd + m)) := by simp [dwB, h, dayB]
  refine ⟨e, ?_⟩
  rw [dwF, e]
  cases (inB m 1 100 && ckB f.nh f.nc (f.nd + m)) <;> simp
structure DoR (w : World) (base : Nat) (G : Nat) (a1 : Option Addr) (a2 : Option Addr) (a3 : Option Addr) (c1 : Nat) (c2 : Nat) (c3 : Nat) (ts : List Ts) (cs : List Cr) (ds : List Df) (nh : Int) (nc : Int) (nd : Int) (n : ByteArray) (i : Int) (m : Int) (R : Bool) (f' : Fl) (t0 t1 t2 t3 t4 t5 t6 t7 t8 t9 t10 t11 t12 t13 : Bool) (v0 v1 v2 v3 v4 v5 v6 v7 v8 v9 v10 v11 v12 v13 : Value) (W : World) : Prop where
  pre : t12 = false → Hg W base G 1 a1 a2 a3 c1 c2 c3 ts cs ds nh nc nd ∧ Blk W w.heap.size [.int .i64 3, .string n, .int .i64 i, .int .i64 m] ∧ Aps (hz G a1 a2 a3) w W
  e0 : t0 = true → v0 = .pointer (some ⟨G, 0, none⟩)
  e1 : t1 = true → v1 = .pointer (some ⟨w.heap.size, 1, none⟩)
  e2 : t2 = true → v2 = .string n
  e3 : t3 = true → v3 = .pointer (some ⟨w.heap.size, 2, none⟩)
  e4 : t4 = true → v4 = .int .i64 i
  e5 : t5 = true → v5 = .pointer (some ⟨G, 0, none⟩)
  e6 : t6 = true → v6 = .pointer (some ⟨G, 0, none⟩)
  e7 : t7 = true → v7 = .pointer (some ⟨G, 2, none⟩)
  e8 : t8 = true → v8 = .pointer (some ⟨G, 5, none⟩)
  e9 : t9 = true → v9 = .pointer (some ⟨G, 7, none⟩)
  e10 : t10 = true → v10 = .int .i64 nd
  e11 : t11 = true → v11 = .agg #[.string n, .int .i64 i, .int .i64 nd]
  e12 : t12 = true → v12 = .bool R
  e13 : t13 = true → v13 = .bool R
  post : t12 = true → HgE W base G 1 f' ∧ Aps (hz G a1 a2 a3) w W
  o2 : t12 = true → t2 = true
  o4 : t12 = true → t4 = true
  o10 : t12 = true → t10 = true
  u2 : t11 = true → t2 = true
  u4 : t11 = true → t4 = true
  u10 : t11 = true → t10 = true
def DoRJ (w : World) (base : Nat) (G : Nat) (a1 : Option Addr) (a2 : Option Addr) (a3 : Option Addr) (c1 : Nat) (c2 : Nat) (c3 : Nat) (ts : List Ts) (cs : List Cr) (ds : List Df) (nh : Int) (nc : Int) (nd : Int) (n : ByteArray) (i : Int) (m : Int) (R : Bool) (f' : Fl) (A0 : Act) (l : Nat → Bool) (a : Act) (V : World) : Prop := ∃ (v0 v1 v2 v3 v4 v5 v6 v7 v8 v9 v10 v11 v12 v13 : Value), a = ((((((((((((((A0.put (some 34) v0).put (some 35) v1).put (some 36) v2).put (some 37) v3).put (some 38) v4).put (some 39) v5).put (some 40) v6).put (some 41) v7).put (some 42) v8).put (some 43) v9).put (some 44) v10).put (some 45) v11).put (some 46) v12).put (some 4) v13) ∧ DoR w base G a1 a2 a3 c1 c2 c3 ts cs ds nh nc nd n i m R f' (l 0) (l 1) (l 2) (l 3) (l 4) (l 5) (l 6) (l 7) (l 8) (l 9) (l 10) (l 11) (l 12) (l 13) v0 v1 v2 v3 v4 v5 v6 v7 v8 v9 v10 v11 v12 v13 V
theorem DoRJ.mk {w : World} {base : Nat} {G : Nat} {a1 : Option Addr} {a2 : Option Addr} {a3 : Option Addr} {c1 : Nat} {c2 : Nat} {c3 : Nat} {ts : List Ts} {cs : List Cr} {ds : List Df} {nh : Int} {nc : Int} {nd : Int} {n : ByteArray} {i : Int} {m : Int} {R : Bool} {f' : Fl} {A0 : Act} {l : Nat → Bool} {a : Act} {V : World} {v0 v1 v2 v3 v4 v5 v6 v7 v8 v9 v10 v11 v12 v13 : Value} (K : DoR w base G a1 a2 a3 c1 c2 c3 ts cs ds nh nc nd n i m R f' (l 0) (l 1) (l 2) (l 3) (l 4) (l 5) (l 6) (l 7) (l 8) (l 9) (l 10) (l 11) (l 12) (l 13) v0 v1 v2 v3 v4 v5 v6 v7 v8 v9 v10 v11 v12 v13 V) (hq : a = ((((((((((((((A0.put (some 34) v0).put (some 35) v1).put (some 36) v2).put (some 37) v3).put (some 38) v4).put (some 39) v5).put (some 40) v6).put (some 41) v7).put (some 42) v8).put (some 43) v9).put (some 44) v10).put (some 45) v11).put (some 46) v12).put (some 4) v13)) : DoRJ w base G a1 a2 a3 c1 c2 c3 ts cs ds nh nc nd n i m R f' A0 l a V := ⟨v0, v1, v2, v3, v4, v5, v6, v7, v8, v9, v10, v11, v12, v13, hq, K⟩
set_option maxRecDepth 20000 in
set_option maxHeartbeats 8000000 in
theorem do_0 (base G : Nat) (a1 a2 a3 : Option Addr) (c1 c2 c3 : Nat) (ts : List Ts) (cs : List Cr) (ds : List Df) (nh nc nd : Int) (n : ByteArray) (i m : Int) (k : Int) (w : World) (h : Hg w base G 0 a1 a2 a3 c1 c2 c3 ts cs ds nh nc nd) (ff : FitF ⟨ts, cs, ds, nh, nc, nd⟩) (hf : flB ⟨ts, cs, ds, nh, nc, nd⟩ = false) :
    Calls Tryz.prog 31 #[.pointer (some ⟨G, 0, none⟩), .agg #[.int .i64 k, .string n, .int .i64 i, .int .i64 m]] w fun e w' => e = .returned (.bool (dwB ⟨ts, cs, ds, nh, nc, nd⟩ ⟨k, n, i, m⟩)) ∧ HgE w' base G 0 (dwF ⟨ts, cs, ds, nh, nc, nd⟩ ⟨k, n, i, m⟩) ∧ Aps (hz G a1 a2 a3) w w' := by
  have h' := h
  have hsz := h.size
  have hne : w.heap.size ≠ G := Nat.ne_of_gt h.blk.lt
  obtain ⟨V0, hV0⟩ : ∃ V, V = w.alloc (Obj.cells #[.int .i64 k, .string n, .int .i64 i, .int .i64 m] 60) := ⟨_, rfl⟩
  have bV : Below w.heap.size w V0 := by rw [hV0]; exact bel1 _
  have K0 : Hid (Blk V0 w.heap.size [.int .i64 k, .string n, .int .i64 i, .int .i64 m]) := hide (by rw [hV0]; exact Blk.new _ _)
  have B0 := hide (apz G a1 a2 a3 bV)
  have CL := hide (lockHg base G a1 a2 a3 c1 c2 c3 ts cs ds nh nc nd V0 (h.below bV))
  have HW := hide hV0
  have FF := hide ff
  clear hV0 bV h h' ff
  go_enter_defers Tryz.func31, Tryz.ntmps31
  go_upto_region 1 with fail
  rw [← unhide HW]
  clear HW
  go_wp2_with fail
  refine (unhide CL).mono ?_
  rintro e w1 ⟨rfl, h1, b1, hs1, ho⟩
  have H1 := hide h1
  have K1 := hide (ho _ _ hne (unhide K0))
  have B1 := hide ((unhide B0).trans b1)
  have CF0 := hide (implFleetOk_any nh nc nd a1 a2 a3 ts.length c1 cs.length c2 ds.length c3 ts cs ds w1 (fl_in h1) (unhide FF).t (unhide FF).c (unhide FF).d)
  rw [hf] at CF0
  have k2 : w1.cell? ⟨G, 2, none⟩ = some (.slice a1 ts.length c1) := (unhide H1).blk.c 2 (by simp)
  have k3 : w1.cell? ⟨G, 3, none⟩ = some (.slice a2 cs.length c2) := (unhide H1).blk.c 3 (by simp)
  have k4 : w1.cell? ⟨G, 4, none⟩ = some (.slice a3 ds.length c3) := (unhide H1).blk.c 4 (by simp)
  have k5 : w1.cell? ⟨G, 5, none⟩ = some (.int .i64 nh) := (unhide H1).blk.c 5 (by simp)
  have k6 : w1.cell? ⟨G, 6, none⟩ = some (.int .i64 nc) := (unhide H1).blk.c 6 (by simp)
  have k7 : w1.cell? ⟨G, 7, none⟩ = some (.int .i64 nd) := (unhide H1).blk.c 7 (by simp)
  clear h1 b1 hs1 ho CL K0 B0
  go_wp2_with fail
  refine (unhide CF0).mono ?_
  rintro e w2 ⟨rfl, b2⟩
  have H2 := hide ((unhide H1).below b2)
  have K2 := hide ((unhide K1).below b2)
  have B2 := hide ((unhide B1).trans (Aps.of_below b2))
  clear b2 H1 K1 B1 CF0 k2 k3 k4 k5 k6 k7
  have y0 : w2.cell? ⟨w.heap.size, 0, none⟩ = some (.int .i64 k) := (unhide K2).c 0 (by simp)
  have y1 : w2.cell? ⟨w.heap.size, 1, none⟩ = some (.string n) := (unhide K2).c 1 (by simp)
  have y2 : w2.cell? ⟨w.heap.size, 2, none⟩ = some (.int .i64 i) := (unhide K2).c 2 (by simp)
  have y3 : w2.cell? ⟨w.heap.size, 3, none⟩ = some (.int .i64 m) := (unhide K2).c 3 (by simp)
  have HE : Hid (HgE w2 base G 1 ⟨ts, cs, ds, nh, nc, nd⟩) := hide ⟨_, _, _, _, _, _, unhide H2⟩
  go_wp2_with fail
  refine leaves_cons (f := 54) (args := #[.pointer (some ⟨G, 0, none⟩)]) (by simp) (by simp [go_sem]) ?_
  refine (unlockHg (unhide HE) _).mono ?_
  rintro e u' w4 ⟨rfl, rfl, h4, b4⟩
  exact ⟨_, results_tmp rfl _ _ _, by rw [dw0 hf]; kernel_rfl, by rw [dw_no (dw0 hf)]; exact h4, (unhide B2).trans (b4 _ _ _)⟩
set_option maxRecDepth 20000 in
set_option maxHeartbeats 8000000 in
theorem do_6 (base G : Nat) (a1 a2 a3 : Option Addr) (c1 c2 c3 : Nat) (ts : List Ts) (cs : List Cr) (ds : List Df) (nh nc nd : Int) (n : ByteArray) (i m : Int) (k : Int) (w : World) (h : Hg w base G 0 a1 a2 a3 c1 c2 c3 ts cs ds nh nc nd) (ff : FitF ⟨ts, cs, ds, nh, nc, nd⟩) (hf : flB ⟨ts, cs, ds, nh, nc, nd⟩ = true) (n1 : k ≠ 1) (n2 : k ≠ 2) (n3 : k ≠ 3) (n4 : k ≠ 4) (n5 : k ≠ 5) :
    Calls Tryz.prog 31 #[.pointer (some ⟨G, 0, none⟩), .agg #[.int .i64 k, .string n, .int .i64 i, .int .i64 m]] w fun e w' => e = .returned (.bool (dwB ⟨ts, cs, ds, nh, nc, nd⟩ ⟨k, n, i, m⟩)) ∧ HgE w' base G 0 (dwF ⟨ts, cs, ds, nh, nc, nd⟩ ⟨k, n, i, m⟩) ∧ Aps (hz G a1 a2 a3) w w' := by
  have h' := h
  have hsz := h.size
  have hne : w.heap.size ≠ G := Nat.ne_of_gt h.blk.lt
  obtain ⟨V0, hV0⟩ : ∃ V, V = w.alloc (Obj.cells #[.int .i64 k, .string n, .int .i64 i, .int .i64 m] 60) := ⟨_, rfl⟩
  have bV : Below w.heap.size w V0 := by rw [hV0]; exact bel1 _
  have K0 : Hid (Blk V0 w.heap.size [.int .i64 k, .string n, .int .i64 i, .int .i64 m]) := hide (by rw [hV0]; exact Blk.new _ _)
  have B0 := hide (apz G a1 a2 a3 bV)
  have CL := hide (lockHg base G a1 a2 a3 c1 c2 c3 ts cs ds nh nc nd V0 (h.below bV))
  have HW := hide hV0
  have FF := hide ff
  clear hV0 bV h h' ff
  go_enter_defers Tryz.func31, Tryz.ntmps31
  go_upto_region 1 with fail
  rw [← unhide HW]
  clear HW
  go_wp2_with fail
  refine (unhide CL).mono ?_
  rintro e w1 ⟨rfl, h1, b1, hs1, ho⟩
  have H1 := hide h1
  have K1 := hide (ho _ _ hne (unhide K0))
  have B1 := hide ((unhide B0).trans b1)
  have CF0 := hide (implFleetOk_any nh nc nd a1 a2 a3 ts.length c1 cs.length c2 ds.length c3 ts cs ds w1 (fl_in h1) (unhide FF).t (unhide FF).c (unhide FF).d)
  rw [hf] at CF0
  have k2 : w1.cell? ⟨G, 2, none⟩ = some (.slice a1 ts.length c1) := (unhide H1).blk.c 2 (by simp)
  have k3 : w1.cell? ⟨G, 3, none⟩ = some (.slice a2 cs.length c2) := (unhide H1).blk.c 3 (by simp)
  have k4 : w1.cell? ⟨G, 4, none⟩ = some (.slice a3 ds.length c3) := (unhide H1).blk.c 4 (by simp)
  have k5 : w1.cell? ⟨G, 5, none⟩ = some (.int .i64 nh) := (unhide H1).blk.c 5 (by simp)
  have k6 : w1.cell? ⟨G, 6, none⟩ = some (.int .i64 nc) := (unhide H1).blk.c 6 (by simp)
  have k7 : w1.cell? ⟨G, 7, none⟩ = some (.int .i64 nd) := (unhide H1).blk.c 7 (by simp)
  clear h1 b1 hs1 ho CL K0 B0
  go_wp2_with fail
  refine (unhide CF0).mono ?_
  rintro e w2 ⟨rfl, b2⟩
  have H2 := hide ((unhide H1).below b2)
  have K2 := hide ((unhide K1).below b2)
  have B2 := hide ((unhide B1).trans (Aps.of_below b2))
  clear b2 H1 K1 B1 CF0 k2 k3 k4 k5 k6 k7
  have y0 : w2.cell? ⟨w.heap.size, 0, none⟩ = some (.int .i64 k) := (unhide K2).c 0 (by simp)
  have y1 : w2.cell? ⟨w.heap.size, 1, none⟩ = some (.string n) := (unhide K2).c 1 (by simp)
  have y2 : w2.cell? ⟨w.heap.size, 2, none⟩ = some (.int .i64 i) := (unhide K2).c 2 (by simp)
  have y3 : w2.cell? ⟨w.heap.size, 3, none⟩ = some (.int .i64 m) := (unhide K2).c 3 (by simp)
  have HE : Hid (HgE w2 base G 1 ⟨ts, cs, ds, nh, nc, nd⟩) := hide ⟨_, _, _, _, _, _, unhide H2⟩
  go_wp2_with fail
  refine leaves_cons (f := 54) (args := #[.pointer (some ⟨G, 0, none⟩)]) (by simp) (by simp [go_sem]) ?_
  refine (unlockHg (unhide HE) _).mono ?_
  rintro e u' w4 ⟨rfl, rfl, h4, b4⟩
  exact ⟨_, results_tmp rfl _ _ _, by rw [dw6 n1 n2 n3 n4 n5]; kernel_rfl, by rw [dw_no (dw6 n1 n2 n3 n4 n5)]; exact h4, (unhide B2).trans (b4 _ _ _)⟩
set_option maxRecDepth 20000 in
set_option maxHeartbeats 8000000 in
theorem do_1 (base G : Nat) (a1 a2 a3 : Option Addr) (c1 c2 c3 : Nat) (ts : List Ts) (cs : List Cr) (ds : List Df) (nh nc nd : Int) (n : ByteArray) (i m : Int) (w : World) (h : Hg w base G 0 a1 a2 a3 c1 c2 c3 ts cs ds nh nc nd) (ff : FitF ⟨ts, cs, ds, nh, nc, nd⟩) (hf : flB ⟨ts, cs, ds, nh, nc, nd⟩ = true) :
    Calls Tryz.prog 31 #[.pointer (some ⟨G, 0, none⟩), .agg #[.int .i64 1, .string n, .int .i64 i, .int .i64 m]] w fun e w' => e = .returned (.bool (dwB ⟨ts, cs, ds, nh, nc, nd⟩ ⟨1, n, i, m⟩)) ∧ HgE w' base G 0 (dwF ⟨ts, cs, ds, nh, nc, nd⟩ ⟨1, n, i, m⟩) ∧ Aps (hz G a1 a2 a3) w w' := by
  have h' := h
  have hsz := h.size
  have hne : w.heap.size ≠ G := Nat.ne_of_gt h.blk.lt
  obtain ⟨V0, hV0⟩ : ∃ V, V = w.alloc (Obj.cells #[.int .i64 1, .string n, .int .i64 i, .int .i64 m] 60) := ⟨_, rfl⟩
  have bV : Below w.heap.size w V0 := by rw [hV0]; exact bel1 _
  have K0 : Hid (Blk V0 w.heap.size [.int .i64 1, .string n, .int .i64 i, .int .i64 m]) := hide (by rw [hV0]; exact Blk.new _ _)
  have B0 := hide (apz G a1 a2 a3 bV)
  have CL := hide (lockHg base G a1 a2 a3 c1 c2 c3 ts cs ds nh nc nd V0 (h.below bV))
  have HW := hide hV0
  have FF := hide ff
  clear hV0 bV h h' ff
  go_enter_defers Tryz.func31, Tryz.ntmps31
  go_upto_region 1 with fail
  rw [← unhide HW]
  clear HW
  go_wp2_with fail
  refine (unhide CL).mono ?_
  rintro e w1 ⟨rfl, h1, b1, hs1, ho⟩
  have H1 := hide h1
  have K1 := hide (ho _ _ hne (unhide K0))
  have B1 := hide ((unhide B0).trans b1)
  have CF0 := hide (implFleetOk_any nh nc nd a1 a2 a3 ts.length c1 cs.length c2 ds.length c3 ts cs ds w1 (fl_in h1) (unhide FF).t (unhide FF).c (unhide FF).d)
  rw [hf] at CF0
  have k2 : w1.cell? ⟨G, 2, none⟩ = some (.slice a1 ts.length c1) := (unhide H1).blk.c 2 (by simp)
  have k3 : w1.cell? ⟨G, 3, none⟩ = some (.slice a2 cs.length c2) := (unhide H1).blk.c 3 (by simp)
  have k4 : w1.cell? ⟨G, 4, none⟩ = some (.slice a3 ds.length c3) := (unhide H1).blk.c 4 (by simp)
  have k5 : w1.cell? ⟨G, 5, none⟩ = some (.int .i64 nh) := (unhide H1).blk.c 5 (by simp)
  have k6 : w1.cell? ⟨G, 6, none⟩ = some (.int .i64 nc) := (unhide H1).blk.c 6 (by simp)
  have k7 : w1.cell? ⟨G, 7, none⟩ = some (.int .i64 nd) := (unhide H1).blk.c 7 (by simp)
  clear h1 b1 hs1 ho CL K0 B0
  go_wp2_with fail
  refine (unhide CF0).mono ?_
  rintro e w2 ⟨rfl, b2⟩
  have H2 := hide ((unhide H1).below b2)
  have K2 := hide ((unhide K1).below b2)
  have B2 := hide ((unhide B1).trans (Aps.of_below b2))
  clear b2 H1 K1 B1 CF0 k2 k3 k4 k5 k6 k7
  have y0 : w2.cell? ⟨w.heap.size, 0, none⟩ = some (.int .i64 1) := (unhide K2).c 0 (by simp)
  have y1 : w2.cell? ⟨w.heap.size, 1, none⟩ = some (.string n) := (unhide K2).c 1 (by simp)
  have y2 : w2.cell? ⟨w.heap.size, 2, none⟩ = some (.int .i64 i) := (unhide K2).c 2 (by simp)
  have y3 : w2.cell? ⟨w.heap.size, 3, none⟩ = some (.int .i64 m) := (unhide K2).c 3 (by simp)
  go_wp2_with fail
  refine (fly_any base G a1 a2 a3 c1 c2 c3 ts cs ds nh nc nd m w2 (unhide H2) (unhide FF) hf).mono ?_
  rintro e w3 ⟨rfl, h3, b3⟩
  have HE := hide h3
  have B3 := hide ((unhide B2).trans b3)
  clear h3 b3 y0 y1 y2 y3
  go_wp2_with fail
  refine leaves_cons (f := 54) (args := #[.pointer (some ⟨G, 0, none⟩)]) (by simp) (by simp [go_sem]) ?_
  refine (unlockHg (unhide HE) _).mono ?_
  rintro e u' w4 ⟨rfl, rfl, h4, b4⟩
  exact ⟨_, results_tmp rfl _ _ _, by rw [(dw1 hf).1]; kernel_rfl, by rw [(dw1 hf).2]; exact h4, (unhide B3).trans (b4 _ _ _)⟩
set_option maxRecDepth 20000 in
set_option maxHeartbeats 8000000 in
theorem do_2 (base G : Nat) (a1 a2 a3 : Option Addr) (c1 c2 c3 : Nat) (ts : List Ts) (cs : List Cr) (ds : List Df) (nh nc nd : Int) (n : ByteArray) (i m : Int) (w : World) (h : Hg w base G 0 a1 a2 a3 c1 c2 c3 ts cs ds nh nc nd) (ff : FitF ⟨ts, cs, ds, nh, nc, nd⟩) (hf : flB ⟨ts, cs, ds, nh, nc, nd⟩ = true) :
    Calls Tryz.prog 31 #[.pointer (some ⟨G, 0, none⟩), .agg #[.int .i64 2, .string n, .int .i64 i, .int .i64 m]] w fun e w' => e = .returned (.bool (dwB ⟨ts, cs, ds, nh, nc, nd⟩ ⟨2, n, i, m⟩)) ∧ HgE w' base G 0 (dwF ⟨ts, cs, ds, nh, nc, nd⟩ ⟨2, n, i, m⟩) ∧ Aps (hz G a1 a2 a3) w w' := by
  have h' := h
  have hsz := h.size
  have hne : w.heap.size ≠ G := Nat.ne_of_gt h.blk.lt
  obtain ⟨V0, hV0⟩ : ∃ V, V = w.alloc (Obj.cells #[.int .i64 2, .string n, .int .i64 i, .int .i64 m] 60) := ⟨_, rfl⟩
  have bV : Below w.heap.size w V0 := by rw [hV0]; exact bel1 _
  have K0 : Hid (Blk V0 w.heap.size [.int .i64 2, .string n, .int .i64 i, .int .i64 m]) := hide (by rw [hV0]; exact Blk.new _ _)
  have B0 := hide (apz G a1 a2 a3 bV)
  have CL := hide (lockHg base G a1 a2 a3 c1 c2 c3 ts cs ds nh nc nd V0 (h.below bV))
  have HW := hide hV0
  have FF := hide ff
  clear hV0 bV h h' ff
  go_enter_defers Tryz.func31, Tryz.ntmps31
  go_upto_region 1 with fail
  rw [← unhide HW]
  clear HW
  go_wp2_with fail
  refine (unhide CL).mono ?_
  rintro e w1 ⟨rfl, h1, b1, hs1, ho⟩
  have H1 := hide h1
  have K1 := hide (ho _ _ hne (unhide K0))
  have B1 := hide ((unhide B0).trans b1)
  have CF0 := hide (implFleetOk_any nh nc nd a1 a2 a3 ts.length c1 cs.length c2 ds.length c3 ts cs ds w1 (fl_in h1) (unhide FF).t (unhide FF).c (unhide FF).d)
  rw [hf] at CF0
  have k2 : w1.cell? ⟨G, 2, none⟩ = some (.slice a1 ts.length c1) := (unhide H1).blk.c 2 (by simp)
  have k3 : w1.cell? ⟨G, 3, none⟩ = some (.slice a2 cs.length c2) := (unhide H1).blk.c 3 (by simp)
  have k4 : w1.cell? ⟨G, 4, none⟩ = some (.slice a3 ds.length c3) := (unhide H1).blk.c 4 (by simp)
  have k5 : w1.cell? ⟨G, 5, none⟩ = some (.int .i64 nh) := (unhide H1).blk.c 5 (by simp)
  have k6 : w1.cell? ⟨G, 6, none⟩ = some (.int .i64 nc) := (unhide H1).blk.c 6 (by simp)
  have k7 : w1.cell? ⟨G, 7, none⟩ = some (.int .i64 nd) := (unhide H1).blk.c 7 (by simp)
  clear h1 b1 hs1 ho CL K0 B0
  go_wp2_with fail
  refine (unhide CF0).mono ?_
  rintro e w2 ⟨rfl, b2⟩
  have H2 := hide ((unhide H1).below b2)
  have K2 := hide ((unhide K1).below b2)
  have B2 := hide ((unhide B1).trans (Aps.of_below b2))
  clear b2 H1 K1 B1 CF0 k2 k3 k4 k5 k6 k7
  have y0 : w2.cell? ⟨w.heap.size, 0, none⟩ = some (.int .i64 2) := (unhide K2).c 0 (by simp)
  have y1 : w2.cell? ⟨w.heap.size, 1, none⟩ = some (.string n) := (unhide K2).c 1 (by simp)
  have y2 : w2.cell? ⟨w.heap.size, 2, none⟩ = some (.int .i64 i) := (unhide K2).c 2 (by simp)
  have y3 : w2.cell? ⟨w.heap.size, 3, none⟩ = some (.int .i64 m) := (unhide K2).c 3 (by simp)
  go_wp2_with fail
  refine (doTask_any base G a1 a2 a3 c1 c2 c3 ts cs ds nh nc nd n w2 (unhide H2) (unhide FF) hf).mono ?_
  rintro e w3 ⟨rfl, h3, b3⟩
  have HE := hide h3
  have B3 := hide ((unhide B2).trans b3)
  clear h3 b3 y0 y1 y2 y3
  go_wp2_with fail
  refine leaves_cons (f := 54) (args := #[.pointer (some ⟨G, 0, none⟩)]) (by simp) (by simp [go_sem]) ?_
  refine (unlockHg (unhide HE) _).mono ?_
  rintro e u' w4 ⟨rfl, rfl, h4, b4⟩
  exact ⟨_, results_tmp rfl _ _ _, by rw [(dw2 hf).1]; kernel_rfl, by rw [(dw2 hf).2]; exact h4, (unhide B3).trans (b4 _ _ _)⟩
set_option maxRecDepth 20000 in
set_option maxHeartbeats 8000000 in
theorem do_4 (base G : Nat) (a1 a2 a3 : Option Addr) (c1 c2 c3 : Nat) (ts : List Ts) (cs : List Cr) (ds : List Df) (nh nc nd : Int) (n : ByteArray) (i m : Int) (w : World) (h : Hg w base G 0 a1 a2 a3 c1 c2 c3 ts cs ds nh nc nd) (ff : FitF ⟨ts, cs, ds, nh, nc, nd⟩) (hf : flB ⟨ts, cs, ds, nh, nc, nd⟩ = true) :
    Calls Tryz.prog 31 #[.pointer (some ⟨G, 0, none⟩), .agg #[.int .i64 4, .string n, .int .i64 i, .int .i64 m]] w fun e w' => e = .returned (.bool (dwB ⟨ts, cs, ds, nh, nc, nd⟩ ⟨4, n, i, m⟩)) ∧ HgE w' base G 0 (dwF ⟨ts, cs, ds, nh, nc, nd⟩ ⟨4, n, i, m⟩) ∧ Aps (hz G a1 a2 a3) w w' := by
  have h' := h
  have hsz := h.size
  have hne : w.heap.size ≠ G := Nat.ne_of_gt h.blk.lt
  obtain ⟨V0, hV0⟩ : ∃ V, V = w.alloc (Obj.cells #[.int .i64 4, .string n, .int .i64 i, .int .i64 m] 60) := ⟨_, rfl⟩
  have bV : Below w.heap.size w V0 := by rw [hV0]; exact bel1 _
  have K0 : Hid (Blk V0 w.heap.size [.int .i64 4, .string n, .int .i64 i, .int .i64 m]) := hide (by rw [hV0]; exact Blk.new _ _)
  have B0 := hide (apz G a1 a2 a3 bV)
  have CL := hide (lockHg base G a1 a2 a3 c1 c2 c3 ts cs ds nh nc nd V0 (h.below bV))
  have HW := hide hV0
  have FF := hide ff
  clear hV0 bV h h' ff
  go_enter_defers Tryz.func31, Tryz.ntmps31
  go_upto_region 1 with fail
  rw [← unhide HW]
  clear HW
  go_wp2_with fail
  refine (unhide CL).mono ?_
  rintro e w1 ⟨rfl, h1, b1, hs1, ho⟩
  have H1 := hide h1
  have K1 := hide (ho _ _ hne (unhide K0))
  have B1 := hide ((unhide B0).trans b1)
  have CF0 := hide (implFleetOk_any nh nc nd a1 a2 a3 ts.length c1 cs.length c2 ds.length c3 ts cs ds w1 (fl_in h1) (unhide FF).t (unhide FF).c (unhide FF).d)
  rw [hf] at CF0
  have k2 : w1.cell? ⟨G, 2, none⟩ = some (.slice a1 ts.length c1) := (unhide H1).blk.c 2 (by simp)
  have k3 : w1.cell? ⟨G, 3, none⟩ = some (.slice a2 cs.length c2) := (unhide H1).blk.c 3 (by simp)
  have k4 : w1.cell? ⟨G, 4, none⟩ = some (.slice a3 ds.length c3) := (unhide H1).blk.c 4 (by simp)
  have k5 : w1.cell? ⟨G, 5, none⟩ = some (.int .i64 nh) := (unhide H1).blk.c 5 (by simp)
  have k6 : w1.cell? ⟨G, 6, none⟩ = some (.int .i64 nc) := (unhide H1).blk.c 6 (by simp)
  have k7 : w1.cell? ⟨G, 7, none⟩ = some (.int .i64 nd) := (unhide H1).blk.c 7 (by simp)
  clear h1 b1 hs1 ho CL K0 B0
  go_wp2_with fail
  refine (unhide CF0).mono ?_
  rintro e w2 ⟨rfl, b2⟩
  have H2 := hide ((unhide H1).below b2)
  have K2 := hide ((unhide K1).below b2)
  have B2 := hide ((unhide B1).trans (Aps.of_below b2))
  clear b2 H1 K1 B1 CF0 k2 k3 k4 k5 k6 k7
  have y0 : w2.cell? ⟨w.heap.size, 0, none⟩ = some (.int .i64 4) := (unhide K2).c 0 (by simp)
  have y1 : w2.cell? ⟨w.heap.size, 1, none⟩ = some (.string n) := (unhide K2).c 1 (by simp)
  have y2 : w2.cell? ⟨w.heap.size, 2, none⟩ = some (.int .i64 i) := (unhide K2).c 2 (by simp)
  have y3 : w2.cell? ⟨w.heap.size, 3, none⟩ = some (.int .i64 m) := (unhide K2).c 3 (by simp)
  go_wp2_with fail
  refine (mend_any base G a1 a2 a3 c1 c2 c3 ts cs ds nh nc nd i w2 (unhide H2) (unhide FF) hf).mono ?_
  rintro e w3 ⟨rfl, h3, b3⟩
  have HE := hide h3
  have B3 := hide ((unhide B2).trans b3)
  clear h3 b3 y0 y1 y2 y3
  go_wp2_with fail
  refine leaves_cons (f := 54) (args := #[.pointer (some ⟨G, 0, none⟩)]) (by simp) (by simp [go_sem]) ?_
  refine (unlockHg (unhide HE) _).mono ?_
  rintro e u' w4 ⟨rfl, rfl, h4, b4⟩
  exact ⟨_, results_tmp rfl _ _ _, by rw [(dw4 hf).1]; kernel_rfl, by rw [(dw4 hf).2]; exact h4, (unhide B3).trans (b4 _ _ _)⟩
set_option maxRecDepth 20000 in
set_option maxHeartbeats 8000000 in
theorem do_3 (base G : Nat) (a1 a2 a3 : Option Addr) (c1 c2 c3 : Nat) (ts : List Ts) (cs : List Cr) (ds : List Df) (nh nc nd : Int) (n : ByteArray) (i m : Int) (w : World) (h : Hg w base G 0 a1 a2 a3 c1 c2 c3 ts cs ds nh nc nd) (ff : FitF ⟨ts, cs, ds, nh, nc, nd⟩) (hf : flB ⟨ts, cs, ds, nh, nc, nd⟩ = true) (hn : fitT n) :
    Calls Tryz.prog 31 #[.pointer (some ⟨G, 0, none⟩), .agg #[.int .i64 3, .string n, .int .i64 i, .int .i64 m]] w fun e w' => e = .returned (.bool (dwB ⟨ts, cs, ds, nh, nc, nd⟩ ⟨3, n, i, m⟩)) ∧ HgE w' base G 0 (dwF ⟨ts, cs, ds, nh, nc, nd⟩ ⟨3, n, i, m⟩) ∧ Aps (hz G a1 a2 a3) w w' := by
  obtain ⟨R, hR⟩ : ∃ R, (!atI ds i && dkB nd ⟨n, i, nd⟩ && decide (ds.length < 20)) = R := ⟨_, rfl⟩
  obtain ⟨f', hf'⟩ : ∃ f', (if (!atI ds i && dkB nd ⟨n, i, nd⟩ && decide (ds.length < 20)) = true then ⟨ts, cs, insL ds (plR i ds) ⟨n, i, nd⟩, nh, nc, nd⟩ else ⟨ts, cs, ds, nh, nc, nd⟩ : Fl) = f' := ⟨_, rfl⟩
  have CF : Hid (∀ V, Hg V base G 1 a1 a2 a3 c1 c2 c3 ts cs ds nh nc nd → Calls Tryz.prog 58 #[.pointer (some ⟨G, 0, none⟩), .agg #[.string n, .int .i64 i, .int .i64 nd]] V fun e w' => e = .returned (.bool R) ∧ HgE w' base G 1 f' ∧ Aps (hz G a1 a2 a3) V w') := hide (fun V hV => by have k := find_any base G a1 a2 a3 c1 c2 c3 ts cs ds nh nc nd ⟨n, i, nd⟩ V hV ff hf hn; simp only at k; rw [hf', hR] at k; exact k)
  have E1 : Hid (dwB ⟨ts, cs, ds, nh, nc, nd⟩ ⟨3, n, i, m⟩ = R) := hide ((dw3 hf).1.trans hR)
  have E2 : Hid (dwF ⟨ts, cs, ds, nh, nc, nd⟩ ⟨3, n, i, m⟩ = f') := hide ((dw3 hf).2.trans hf')
  clear hR hf'
  have h' := h
  have hsz := h.size
  have hne : w.heap.size ≠ G := Nat.ne_of_gt h.blk.lt
  obtain ⟨V0, hV0⟩ : ∃ V, V = w.alloc (Obj.cells #[.int .i64 3, .string n, .int .i64 i, .int .i64 m] 60) := ⟨_, rfl⟩
  have bV : Below w.heap.size w V0 := by rw [hV0]; exact bel1 _
  have K0 : Hid (Blk V0 w.heap.size [.int .i64 3, .string n, .int .i64 i, .int .i64 m]) := hide (by rw [hV0]; exact Blk.new _ _)
  have B0 := hide (apz G a1 a2 a3 bV)
  have CL := hide (lockHg base G a1 a2 a3 c1 c2 c3 ts cs ds nh nc nd V0 (h.below bV))
  have HW := hide hV0
  have FF := hide ff
  clear hV0 bV h h' ff
  go_enter_defers Tryz.func31, Tryz.ntmps31
  go_upto_region 1 with fail
  rw [← unhide HW]
  clear HW
  go_wp2_with fail
  refine (unhide CL).mono ?_
  rintro e w1 ⟨rfl, h1, b1, hs1, ho⟩
  have H1 := hide h1
  have K1 := hide (ho _ _ hne (unhide K0))
  have B1 := hide ((unhide B0).trans b1)
  have CF0 := hide (implFleetOk_any nh nc nd a1 a2 a3 ts.length c1 cs.length c2 ds.length c3 ts cs ds w1 (fl_in h1) (unhide FF).t (unhide FF).c (unhide FF).d)
  rw [hf] at CF0
  have k2 : w1.cell? ⟨G, 2, none⟩ = some (.slice a1 ts.length c1) := (unhide H1).blk.c 2 (by simp)
  have k3 : w1.cell? ⟨G, 3, none⟩ = some (.slice a2 cs.length c2) := (unhide H1).blk.c 3 (by simp)
  have k4 : w1.cell? ⟨G, 4, none⟩ = some (.slice a3 ds.length c3) := (unhide H1).blk.c 4 (by simp)
  have k5 : w1.cell? ⟨G, 5, none⟩ = some (.int .i64 nh) := (unhide H1).blk.c 5 (by simp)
  have k6 : w1.cell? ⟨G, 6, none⟩ = some (.int .i64 nc) := (unhide H1).blk.c 6 (by simp)
  have k7 : w1.cell? ⟨G, 7, none⟩ = some (.int .i64 nd) := (unhide H1).blk.c 7 (by simp)
  clear h1 b1 hs1 ho CL K0 B0
  go_wp2_with fail
  refine (unhide CF0).mono ?_
  rintro e w2 ⟨rfl, b2⟩
  have H2 := hide ((unhide H1).below b2)
  have K2 := hide ((unhide K1).below b2)
  have B2 := hide ((unhide B1).trans (Aps.of_below b2))
  clear b2 H1 K1 B1 CF0 k2 k3 k4 k5 k6 k7
  have y0 : w2.cell? ⟨w.heap.size, 0, none⟩ = some (.int .i64 3) := (unhide K2).c 0 (by simp)
  have y1 : w2.cell? ⟨w.heap.size, 1, none⟩ = some (.string n) := (unhide K2).c 1 (by simp)
  have y2 : w2.cell? ⟨w.heap.size, 2, none⟩ = some (.int .i64 i) := (unhide K2).c 2 (by simp)
  have y3 : w2.cell? ⟨w.heap.size, 3, none⟩ = some (.int .i64 m) := (unhide K2).c 3 (by simp)
  go_upto_region 11 with fail
  clear y0 y1 y2 y3
  refine wp_region_flagsA (by kernel_rfl) (by kernel_rfl) (DoRJ w base G a1 a2 a3 c1 c2 c3 ts cs ds nh nc nd n i m R f') ?_ ?_ ?_
  · exact DoRJ.mk (v0 := undef) (v1 := undef) (v2 := undef) (v3 := undef) (v4 := undef) (v5 := undef) (v6 := undef) (v7 := undef) (v8 := undef) (v9 := undef) (v10 := undef) (v11 := undef) (v12 := undef) (v13 := .bool false) ⟨(fun _ => ⟨(unhide H2).below (bel0d 1), (unhide K2).below (bel0d 1), (unhide B2).trans (Aps.of_below (bel0d 1))⟩), (fun h => by cases h), (fun h => by cases h), (fun h => by cases h), (fun h => by cases h), (fun h => by cases h), (fun h => by cases h), (fun h => by cases h), (fun h => by cases h), (fun h => by cases h), (fun h => by cases h), (fun h => by cases h), (fun h => by cases h), (fun h => by cases h), (fun h => by cases h), (fun h => by cases h), (fun h => by cases h), (fun h => by cases h), (fun h => by cases h), (fun h => by cases h), (fun h => by cases h), (fun h => by cases h)⟩ (by kernel_rfl)
  rotate_left 1
  · rintro l a V j o ho hl hd ⟨v0, v1, v2, v3, v4, v5, v6, v7, v8, v9, v10, v11, v12, v13, rfl, K⟩
    have hj : j < 14 := (Array.getElem?_eq_some_iff.1 ho).1
    rcases (show j = 0 ∨ j = 1 ∨ j = 2 ∨ j = 3 ∨ j = 4 ∨ j = 5 ∨ j = 6 ∨ j = 7 ∨ j = 8 ∨ j = 9 ∨ j = 10 ∨ j = 11 ∨ j = 12 ∨ j = 13 from by omega) with rfl | rfl | rfl | rfl | rfl | rfl | rfl | rfl | rfl | rfl | rfl | rfl | rfl | rfl
    · simp at ho
      subst ho
      have HK : Hid (DoR w base G a1 a2 a3 c1 c2 c3 ts cs ds nh nc nd n i m R f' true (l 1) (l 2) (l 3) (l 4) (l 5) (l 6) (l 7) (l 8) (l 9) (l 10) (l 11) (l 12) (l 13) (.pointer (some ⟨G, 0, none⟩)) v1 v2 v3 v4 v5 v6 v7 v8 v9 v10 v11 v12 v13 V) := hide ⟨(K.pre), (fun _ => rfl), (K.e1), (K.e2), (K.e3), (K.e4), (K.e5), (K.e6), (K.e7), (K.e8), (K.e9), (K.e10), (K.e11), (K.e12), (K.e13), (K.post), (K.o2), (K.o4), (K.o10), (K.u2), (K.u4), (K.u10)⟩
      clear K hd hl
      go_wp2_with fail
      exact ⟨rfl, DoRJ.mk (unhide HK) (by kernel_rfl)⟩
    · simp at ho
      subst ho
      have HK : Hid (DoR w base G a1 a2 a3 c1 c2 c3 ts cs ds nh nc nd n i m R f' (l 0) true (l 2) (l 3) (l 4) (l 5) (l 6) (l 7) (l 8) (l 9) (l 10) (l 11) (l 12) (l 13) v0 (.pointer (some ⟨w.heap.size, 1, none⟩)) v2 v3 v4 v5 v6 v7 v8 v9 v10 v11 v12 v13 V) := hide ⟨(K.pre), (K.e0), (fun _ => rfl), (K.e2), (K.e3), (K.e4), (K.e5), (K.e6), (K.e7), (K.e8), (K.e9), (K.e10), (K.e11), (K.e12), (K.e13), (K.post), (K.o2), (K.o4), (K.o10), (K.u2), (K.u4), (K.u10)⟩
      clear K hd hl
      go_wp2_with fail
      exact ⟨rfl, DoRJ.mk (unhide HK) (by kernel_rfl)⟩
    · simp at ho
      subst ho
      have d1 : l 1 = true := hd ⟨1, .data⟩ (by simp) rfl
      have x1 := K.e1 d1
      subst x1
      have n12 : l 12 = false := by cases c : l 12; rfl; have z := K.o2 c; rw [hl] at z; cases z
      obtain ⟨ph, pb, pw⟩ := K.pre n12
      have yy : V.cell? ⟨w.heap.size, 1, none⟩ = some (.string n) := pb.c 1 (by simp)
      clear ph pb pw n12
      have HK : Hid (DoR w base G a1 a2 a3 c1 c2 c3 ts cs ds nh nc nd n i m R f' (l 0) (l 1) true (l 3) (l 4) (l 5) (l 6) (l 7) (l 8) (l 9) (l 10) (l 11) (l 12) (l 13) v0 (.pointer (some ⟨w.heap.size, 1, none⟩)) (.string n) v3 v4 v5 v6 v7 v8 v9 v10 v11 v12 v13 V) := hide ⟨(K.pre), (K.e0), (K.e1), (fun _ => rfl), (K.e3), (K.e4), (K.e5), (K.e6), (K.e7), (K.e8), (K.e9), (K.e10), (K.e11), (K.e12), (K.e13), (K.post), (fun _ => rfl), (K.o4), (K.o10), (fun _ => rfl), (K.u4), (K.u10)⟩
      clear K hd hl
      go_wp2_with fail
      exact ⟨rfl, DoRJ.mk (unhide HK) (by kernel_rfl)⟩
    · simp at ho
      subst ho
      have HK : Hid (DoR w base G a1 a2 a3 c1 c2 c3 ts cs ds nh nc nd n i m R f' (l 0) (l 1) (l 2) true (l 4) (l 5) (l 6) (l 7) (l 8) (l 9) (l 10) (l 11) (l 12) (l 13) v0 v1 v2 (.pointer (some ⟨w.heap.size, 2, none⟩)) v4 v5 v6 v7 v8 v9 v10 v11 v12 v13 V) := hide ⟨(K.pre), (K.e0), (K.e1), (K.e2), (fun _ => rfl), (K.e4), (K.e5), (K.e6), (K.e7), (K.e8), (K.e9), (K.e10), (K.e11), (K.e12), (K.e13), (K.post), (K.o2), (K.o4), (K.o10), (K.u2), (K.u4), (K.u10)⟩
      clear K hd hl
      go_wp2_with fail
      exact ⟨rfl, DoRJ.mk (unhide HK) (by kernel_rfl)⟩
    · simp at ho
      subst ho
      have d3 : l 3 = true := hd ⟨3, .data⟩ (by simp) rfl
      have x3 := K.e3 d3
      subst x3
      have n12 : l 12 = false := by cases c : l 12; rfl; have z := K.o4 c; rw [hl] at z; cases z
      obtain ⟨ph, pb, pw⟩ := K.pre n12
      have yy : V.cell? ⟨w.heap.size, 2, none⟩ = some (.int .i64 i) := pb.c 2 (by simp)
      clear ph pb pw n12
      have HK : Hid (DoR w base G a1 a2 a3 c1 c2 c3 ts cs ds nh nc nd n i m R f' (l 0) (l 1) (l 2) (l 3) true (l 5) (l 6) (l 7) (l 8) (l 9) (l 10) (l 11) (l 12) (l 13) v0 v1 v2 (.pointer (some ⟨w.heap.size, 2, none⟩)) (.int .i64 i) v5 v6 v7 v8 v9 v10 v11 v12 v13 V) := hide ⟨(K.pre), (K.e0), (K.e1), (K.e2), (K.e3), (fun _ => rfl), (K.e5), (K.e6), (K.e7), (K.e8), (K.e9), (K.e10), (K.e11), (K.e12), (K.e13), (K.post), (K.o2), (fun _ => rfl), (K.o10), (K.u2), (fun _ => rfl), (K.u10)⟩
      clear K hd hl
      go_wp2_with fail
      exact ⟨rfl, DoRJ.mk (unhide HK) (by kernel_rfl)⟩
    · simp at ho
      subst ho
      have HK : Hid (DoR w base G a1 a2 a3 c1 c2 c3 ts cs ds nh nc nd n i m R f' (l 0) (l 1) (l 2) (l 3) (l 4) true (l 6) (l 7) (l 8) (l 9) (l 10) (l 11) (l 12) (l 13) v0 v1 v2 v3 v4 (.pointer (some ⟨G, 0, none⟩)) v6 v7 v8 v9 v10 v11 v12 v13 V) := hide ⟨(K.pre), (K.e0), (K.e1), (K.e2), (K.e3), (K.e4), (fun _ => rfl), (K.e6), (K.e7), (K.e8), (K.e9), (K.e10), (K.e11), (K.e12), (K.e13), (K.post), (K.o2), (K.o4), (K.o10), (K.u2), (K.u4), (K.u10)⟩
      clear K hd hl
      go_wp2_with fail
      exact ⟨rfl, DoRJ.mk (unhide HK) (by kernel_rfl)⟩
    · simp at ho
      subst ho
      have d5 : l 5 = true := hd ⟨5, .data⟩ (by simp) rfl
      have x5 := K.e5 d5
      subst x5
      have HK : Hid (DoR w base G a1 a2 a3 c1 c2 c3 ts cs ds nh nc nd n i m R f' (l 0) (l 1) (l 2) (l 3) (l 4) (l 5) true (l 7) (l 8) (l 9) (l 10) (l 11) (l 12) (l 13) v0 v1 v2 v3 v4 (.pointer (some ⟨G, 0, none⟩)) (.pointer (some ⟨G, 0, none⟩)) v7 v8 v9 v10 v11 v12 v13 V) := hide ⟨(K.pre), (K.e0), (K.e1), (K.e2), (K.e3), (K.e4), (K.e5), (fun _ => rfl), (K.e7), (K.e8), (K.e9), (K.e10), (K.e11), (K.e12), (K.e13), (K.post), (K.o2), (K.o4), (K.o10), (K.u2), (K.u4), (K.u10)⟩
      clear K hd hl
      go_wp2_with fail
      exact ⟨rfl, DoRJ.mk (unhide HK) (by kernel_rfl)⟩
    · simp at ho
      subst ho
      have d6 : l 6 = true := hd ⟨6, .data⟩ (by simp) rfl
      have x6 := K.e6 d6
      subst x6
      have HK : Hid (DoR w base G a1 a2 a3 c1 c2 c3 ts cs ds nh nc nd n i m R f' (l 0) (l 1) (l 2) (l 3) (l 4) (l 5) (l 6) true (l 8) (l 9) (l 10) (l 11) (l 12) (l 13) v0 v1 v2 v3 v4 v5 (.pointer (some ⟨G, 0, none⟩)) (.pointer (some ⟨G, 2, none⟩)) v8 v9 v10 v11 v12 v13 V) := hide ⟨(K.pre), (K.e0), (K.e1), (K.e2), (K.e3), (K.e4), (K.e5), (K.e6), (fun _ => rfl), (K.e8), (K.e9), (K.e10), (K.e11), (K.e12), (K.e13), (K.post), (K.o2), (K.o4), (K.o10), (K.u2), (K.u4), (K.u10)⟩
      clear K hd hl
      go_wp2_with fail
      exact ⟨rfl, DoRJ.mk (unhide HK) (by kernel_rfl)⟩
    · simp at ho
      subst ho
      have d7 : l 7 = true := hd ⟨7, .data⟩ (by simp) rfl
      have x7 := K.e7 d7
      subst x7
      have HK : Hid (DoR w base G a1 a2 a3 c1 c2 c3 ts cs ds nh nc nd n i m R f' (l 0) (l 1) (l 2) (l 3) (l 4) (l 5) (l 6) (l 7) true (l 9) (l 10) (l 11) (l 12) (l 13) v0 v1 v2 v3 v4 v5 v6 (.pointer (some ⟨G, 2, none⟩)) (.pointer (some ⟨G, 5, none⟩)) v9 v10 v11 v12 v13 V) := hide ⟨(K.pre), (K.e0), (K.e1), (K.e2), (K.e3), (K.e4), (K.e5), (K.e6), (K.e7), (fun _ => rfl), (K.e9), (K.e10), (K.e11), (K.e12), (K.e13), (K.post), (K.o2), (K.o4), (K.o10), (K.u2), (K.u4), (K.u10)⟩
      clear K hd hl
      go_wp2_with fail
      exact ⟨rfl, DoRJ.mk (unhide HK) (by kernel_rfl)⟩
    · simp at ho
      subst ho
      have d8 : l 8 = true := hd ⟨8, .data⟩ (by simp) rfl
      have x8 := K.e8 d8
      subst x8
      have HK : Hid (DoR w base G a1 a2 a3 c1 c2 c3 ts cs ds nh nc nd n i m R f' (l 0) (l 1) (l 2) (l 3) (l 4) (l 5) (l 6) (l 7) (l 8) true (l 10) (l 11) (l 12) (l 13) v0 v1 v2 v3 v4 v5 v6 v7 (.pointer (some ⟨G, 5, none⟩)) (.pointer (some ⟨G, 7, none⟩)) v10 v11 v12 v13 V) := hide ⟨(K.pre), (K.e0), (K.e1), (K.e2), (K.e3), (K.e4), (K.e5), (K.e6), (K.e7), (K.e8), (fun _ => rfl), (K.e10), (K.e11), (K.e12), (K.e13), (K.post), (K.o2), (K.o4), (K.o10), (K.u2), (K.u4), (K.u10)⟩
      clear K hd hl
      go_wp2_with fail
      exact ⟨rfl, DoRJ.mk (unhide HK) (by kernel_rfl)⟩
    · simp at ho
      subst ho
      have d9 : l 9 = true := hd ⟨9, .data⟩ (by simp) rfl
      have x9 := K.e9 d9
      subst x9
      have n12 : l 12 = false := by cases c : l 12; rfl; have z := K.o10 c; rw [hl] at z; cases z
      obtain ⟨ph, pb, pw⟩ := K.pre n12
      have yy : V.cell? ⟨G, 7, none⟩ = some (.int .i64 nd) := ph.blk.c 7 (by simp)
      clear ph pb pw n12
      have HK : Hid (DoR w base G a1 a2 a3 c1 c2 c3 ts cs ds nh nc nd n i m R f' (l 0) (l 1) (l 2) (l 3) (l 4) (l 5) (l 6) (l 7) (l 8) (l 9) true (l 11) (l 12) (l 13) v0 v1 v2 v3 v4 v5 v6 v7 v8 (.pointer (some ⟨G, 7, none⟩)) (.int .i64 nd) v11 v12 v13 V) := hide ⟨(K.pre), (K.e0), (K.e1), (K.e2), (K.e3), (K.e4), (K.e5), (K.e6), (K.e7), (K.e8), (K.e9), (fun _ => rfl), (K.e11), (K.e12), (K.e13), (K.post), (K.o2), (K.o4), (fun _ => rfl), (K.u2), (K.u4), (fun _ => rfl)⟩
      clear K hd hl
      go_wp2_with fail
      exact ⟨rfl, DoRJ.mk (unhide HK) (by kernel_rfl)⟩
    · simp at ho
      subst ho
      have d2 : l 2 = true := hd ⟨2, .data⟩ (by simp) rfl
      have x2 := K.e2 d2
      subst x2
      have d4 : l 4 = true := hd ⟨4, .data⟩ (by simp) rfl
      have x4 := K.e4 d4
      subst x4
      have d10 : l 10 = true := hd ⟨10, .data⟩ (by simp) rfl
      have x10 := K.e10 d10
      subst x10
      have HK : Hid (DoR w base G a1 a2 a3 c1 c2 c3 ts cs ds nh nc nd n i m R f' (l 0) (l 1) (l 2) (l 3) (l 4) (l 5) (l 6) (l 7) (l 8) (l 9) (l 10) true (l 12) (l 13) v0 v1 (.string n) v3 (.int .i64 i) v5 v6 v7 v8 v9 (.int .i64 nd) (.agg #[.string n, .int .i64 i, .int .i64 nd]) v12 v13 V) := hide ⟨(K.pre), (K.e0), (K.e1), (K.e2), (K.e3), (K.e4), (K.e5), (K.e6), (K.e7), (K.e8), (K.e9), (K.e10), (fun _ => rfl), (K.e12), (K.e13), (K.post), (K.o2), (K.o4), (K.o10), (fun _ => d2), (fun _ => d4), (fun _ => d10)⟩
      clear K hd hl
      go_wp2_with fail
      exact ⟨rfl, DoRJ.mk (unhide HK) (by kernel_rfl)⟩
    · simp at ho
      subst ho
      have d0 : l 0 = true := hd ⟨0, .data⟩ (by simp) rfl
      have x0 := K.e0 d0
      subst x0
      have d11 : l 11 = true := hd ⟨11, .data⟩ (by simp) rfl
      have x11 := K.e11 d11
      subst x11
      obtain ⟨ph, pb, pw⟩ := K.pre hl
      have HCF := hide ((unhide CF) V ph)
      have HPW := hide pw
      have HK0 := hide K
      clear K hd ph pb pw
      go_wp2_with (go_at_call 58; refine (unhide HCF).mono ?_; rintro e V2 ⟨rfl, he, b2⟩; have HK : Hid (DoR w base G a1 a2 a3 c1 c2 c3 ts cs ds nh nc nd n i m R f' (l 0) (l 1) (l 2) (l 3) (l 4) (l 5) (l 6) (l 7) (l 8) (l 9) (l 10) (l 11) true (l 13) (.pointer (some ⟨G, 0, none⟩)) v1 v2 v3 v4 v5 v6 v7 v8 v9 v10 (.agg #[.string n, .int .i64 i, .int .i64 nd]) (.bool R) v13 V2) := hide ⟨(fun h => by cases h), ((unhide HK0).e0), ((unhide HK0).e1), ((unhide HK0).e2), ((unhide HK0).e3), ((unhide HK0).e4), ((unhide HK0).e5), ((unhide HK0).e6), ((unhide HK0).e7), ((unhide HK0).e8), ((unhide HK0).e9), ((unhide HK0).e10), ((unhide HK0).e11), (fun _ => rfl), ((unhide HK0).e13), (fun _ => ⟨he, (unhide HPW).trans b2⟩), (fun _ => (unhide HK0).u2 d11), (fun _ => (unhide HK0).u4 d11), (fun _ => (unhide HK0).u10 d11), ((unhide HK0).u2), ((unhide HK0).u4), ((unhide HK0).u10)⟩; clear he b2)
      exact ⟨rfl, DoRJ.mk (unhide HK) (by kernel_rfl)⟩
    · simp at ho
      subst ho
      have d12 : l 12 = true := hd ⟨12, .data⟩ (by simp) rfl
      have x12 := K.e12 d12
      subst x12
      have HK : Hid (DoR w base G a1 a2 a3 c1 c2 c3 ts cs ds nh nc nd n i m R f' (l 0) (l 1) (l 2) (l 3) (l 4) (l 5) (l 6) (l 7) (l 8) (l 9) (l 10) (l 11) (l 12) true v0 v1 v2 v3 v4 v5 v6 v7 v8 v9 v10 v11 (.bool R) (.bool R) V) := hide ⟨(K.pre), (K.e0), (K.e1), (K.e2), (K.e3), (K.e4), (K.e5), (K.e6), (K.e7), (K.e8), (K.e9), (K.e10), (K.e11), (K.e12), (fun _ => rfl), (K.post), (K.o2), (K.o4), (K.o10), (K.u2), (K.u4), (K.u10)⟩
      clear K hd hl
      go_wp2_with fail
      exact ⟨rfl, DoRJ.mk (unhide HK) (by kernel_rfl)⟩
  rintro l a V hall ⟨v0, v1, v2, v3, v4, v5, v6, v7, v8, v9, v10, v11, v12, v13, rfl, K⟩
  obtain ⟨he, b3⟩ := K.post (hall 12 (by decide))
  have x13 := K.e13 (hall 13 (by decide))
  subst x13
  have HE := hide he
  have B3 := hide b3
  clear K hall he b3
  go_wp2_with fail
  refine leaves_cons (f := 54) (args := #[.pointer (some ⟨G, 0, none⟩)]) (by simp) (by simp [go_sem]) ?_
  refine (unlockHg (unhide HE) _).mono ?_
  rintro e u' w4 ⟨rfl, rfl, h4, b4⟩
  exact ⟨_, results_tmp rfl _ _ _, by rw [unhide E1]; kernel_rfl, by rw [unhide E2]; exact h4, (unhide B3).trans (b4 _ _ _)⟩
set_option maxRecDepth 20000 in
set_option maxHeartbeats 8000000 in
theorem do_5n (base G : Nat) (a1 a2 a3 : Option Addr) (c1 c2 c3 : Nat) (ts : List Ts) (cs : List Cr) (ds : List Df) (nh nc nd : Int) (n : ByteArray) (i m : Int) (w : World) (h : Hg w base G 0 a1 a2 a3 c1 c2 c3 ts cs ds nh nc nd) (ff : FitF ⟨ts, cs, ds, nh, nc, nd⟩) (hf : flB ⟨ts, cs, ds, nh, nc, nd⟩ = true) (q1 : inB m 1 100 = false) :
    Calls Tryz.prog 31 #[.pointer (some ⟨G, 0, none⟩), .agg #[.int .i64 5, .string n, .int .i64 i, .int .i64 m]] w fun e w' => e = .returned (.bool (dwB ⟨ts, cs, ds, nh, nc, nd⟩ ⟨5, n, i, m⟩)) ∧ HgE w' base G 0 (dwF ⟨ts, cs, ds, nh, nc, nd⟩ ⟨5, n, i, m⟩) ∧ Aps (hz G a1 a2 a3) w w' := by
  have h' := h
  have hsz := h.size
  have hne : w.heap.size ≠ G := Nat.ne_of_gt h.blk.lt
  obtain ⟨V0, hV0⟩ : ∃ V, V = w.alloc (Obj.cells #[.int .i64 5, .string n, .int .i64 i, .int .i64 m] 60) := ⟨_, rfl⟩
  have bV : Below w.heap.size w V0 := by rw [hV0]; exact bel1 _
  have K0 : Hid (Blk V0 w.heap.size [.int .i64 5, .string n, .int .i64 i, .int .i64 m]) := hide (by rw [hV0]; exact Blk.new _ _)
  have B0 := hide (apz G a1 a2 a3 bV)
  have CL := hide (lockHg base G a1 a2 a3 c1 c2 c3 ts cs ds nh nc nd V0 (h.below bV))
  have HW := hide hV0
  have FF := hide ff
  clear hV0 bV h h' ff
  go_enter_defers Tryz.func31, Tryz.ntmps31
  go_upto_region 1 with fail
  rw [← unhide HW]
  clear HW
  go_wp2_with fail
  refine (unhide CL).mono ?_
  rintro e w1 ⟨rfl, h1, b1, hs1, ho⟩
  have H1 := hide h1
  have K1 := hide (ho _ _ hne (unhide K0))
  have B1 := hide ((unhide B0).trans b1)
  have CF0 := hide (implFleetOk_any nh nc nd a1 a2 a3 ts.length c1 cs.length c2 ds.length c3 ts cs ds w1 (fl_in h1) (unhide FF).t (unhide FF).c (unhide FF).d)
  rw [hf] at CF0
  have k2 : w1.cell? ⟨G, 2, none⟩ = some (.slice a1 ts.length c1) := (unhide H1).blk.c 2 (by simp)
  have k3 : w1.cell? ⟨G, 3, none⟩ = some (.slice a2 cs.length c2) := (unhide H1).blk.c 3 (by simp)
  have k4 : w1.cell? ⟨G, 4, none⟩ = some (.slice a3 ds.length c3) := (unhide H1).blk.c 4 (by simp)
  have k5 : w1.cell? ⟨G, 5, none⟩ = some (.int .i64 nh) := (unhide H1).blk.c 5 (by simp)
  have k6 : w1.cell? ⟨G, 6, none⟩ = some (.int .i64 nc) := (unhide H1).blk.c 6 (by simp)
  have k7 : w1.cell? ⟨G, 7, none⟩ = some (.int .i64 nd) := (unhide H1).blk.c 7 (by simp)
  clear h1 b1 hs1 ho CL K0 B0
  go_wp2_with fail
  refine (unhide CF0).mono ?_
  rintro e w2 ⟨rfl, b2⟩
  have H2 := hide ((unhide H1).below b2)
  have K2 := hide ((unhide K1).below b2)
  have B2 := hide ((unhide B1).trans (Aps.of_below b2))
  clear b2 H1 K1 B1 CF0 k2 k3 k4 k5 k6 k7
  have y0 : w2.cell? ⟨w.heap.size, 0, none⟩ = some (.int .i64 5) := (unhide K2).c 0 (by simp)
  have y1 : w2.cell? ⟨w.heap.size, 1, none⟩ = some (.string n) := (unhide K2).c 1 (by simp)
  have y2 : w2.cell? ⟨w.heap.size, 2, none⟩ = some (.int .i64 i) := (unhide K2).c 2 (by simp)
  have y3 : w2.cell? ⟨w.heap.size, 3, none⟩ = some (.int .i64 m) := (unhide K2).c 3 (by simp)
  have HE : Hid (HgE w2 base G 1 ⟨ts, cs, ds, nh, nc, nd⟩) := hide ⟨_, _, _, _, _, _, unhide H2⟩
  go_wp2_with fail
  refine (within_is _ _ _ _ q1).mono ?_
  rintro e w' ⟨rfl, hw⟩
  subst w'
  clear y0 y1 y2 y3
  go_wp2_with fail
  refine leaves_cons (f := 54) (args := #[.pointer (some ⟨G, 0, none⟩)]) (by simp) (by simp [go_sem]) ?_
  refine (unlockHg (unhide HE) _).mono ?_
  rintro e u' w4 ⟨rfl, rfl, h4, b4⟩
  exact ⟨_, results_tmp rfl _ _ _, by rw [(dw5 hf).1, q1, Bool.false_and]; kernel_rfl, by rw [(dw5 hf).2, q1, Bool.false_and, if_neg (by decide)]; exact h4, (unhide B2).trans (b4 _ _ _)⟩
set_option maxRecDepth 20000 in
set_option maxHeartbeats 8000000 in
theorem do_5f (base G : Nat) (a1 a2 a3 : Option Addr) (c1 c2 c3 : Nat) (ts : List Ts) (cs : List Cr) (ds : List Df) (nh nc nd : Int) (n : ByteArray) (i m : Int) (w : World) (h : Hg w base G 0 a1 a2 a3 c1 c2 c3 ts cs ds nh nc nd) (ff : FitF ⟨ts, cs, ds, nh, nc, nd⟩) (hf : flB ⟨ts, cs, ds, nh, nc, nd⟩ = true) (q1 : inB m 1 100 = true) (q2 : ckB nh nc (nd + m) = false) :
    Calls Tryz.prog 31 #[.pointer (some ⟨G, 0, none⟩), .agg #[.int .i64 5, .string n, .int .i64 i, .int .i64 m]] w fun e w' => e = .returned (.bool (dwB ⟨ts, cs, ds, nh, nc, nd⟩ ⟨5, n, i, m⟩)) ∧ HgE w' base G 0 (dwF ⟨ts, cs, ds, nh, nc, nd⟩ ⟨5, n, i, m⟩) ∧ Aps (hz G a1 a2 a3) w w' := by
  obtain ⟨f1, _, _, _⟩ := flB_facts hf
  obtain ⟨n1, n2, n3⟩ := ckB_facts f1
  simp only at n1 n2 n3
  clear f1
  have m1 : 1 ≤ m ∧ m ≤ 100 := of_decide_eq_true q1
  have h' := h
  have hsz := h.size
  have hne : w.heap.size ≠ G := Nat.ne_of_gt h.blk.lt
  obtain ⟨V0, hV0⟩ : ∃ V, V = w.alloc (Obj.cells #[.int .i64 5, .string n, .int .i64 i, .int .i64 m] 60) := ⟨_, rfl⟩
  have bV : Below w.heap.size w V0 := by rw [hV0]; exact bel1 _
  have K0 : Hid (Blk V0 w.heap.size [.int .i64 5, .string n, .int .i64 i, .int .i64 m]) := hide (by rw [hV0]; exact Blk.new _ _)
  have B0 := hide (apz G a1 a2 a3 bV)
  have CL := hide (lockHg base G a1 a2 a3 c1 c2 c3 ts cs ds nh nc nd V0 (h.below bV))
  have HW := hide hV0
  have FF := hide ff
  clear hV0 bV h h' ff
  go_enter_defers Tryz.func31, Tryz.ntmps31
  go_upto_region 1 with fail
  rw [← unhide HW]
  clear HW
  go_wp2_with fail
  refine (unhide CL).mono ?_
  rintro e w1 ⟨rfl, h1, b1, hs1, ho⟩
  have H1 := hide h1
  have K1 := hide (ho _ _ hne (unhide K0))
  have B1 := hide ((unhide B0).trans b1)
  have CF0 := hide (implFleetOk_any nh nc nd a1 a2 a3 ts.length c1 cs.length c2 ds.length c3 ts cs ds w1 (fl_in h1) (unhide FF).t (unhide FF).c (unhide FF).d)
  rw [hf] at CF0
  have k2 : w1.cell? ⟨G, 2, none⟩ = some (.slice a1 ts.length c1) := (unhide H1).blk.c 2 (by simp)
  have k3 : w1.cell? ⟨G, 3, none⟩ = some (.slice a2 cs.length c2) := (unhide H1).blk.c 3 (by simp)
  have k4 : w1.cell? ⟨G, 4, none⟩ = some (.slice a3 ds.length c3) := (unhide H1).blk.c 4 (by simp)
  have k5 : w1.cell? ⟨G, 5, none⟩ = some (.int .i64 nh) := (unhide H1).blk.c 5 (by simp)
  have k6 : w1.cell? ⟨G, 6, none⟩ = some (.int .i64 nc) := (unhide H1).blk.c 6 (by simp)
  have k7 : w1.cell? ⟨G, 7, none⟩ = some (.int .i64 nd) := (unhide H1).blk.c 7 (by simp)
  clear h1 b1 hs1 ho CL K0 B0
  go_wp2_with fail
  refine (unhide CF0).mono ?_
  rintro e w2 ⟨rfl, b2⟩
  have H2 := hide ((unhide H1).below b2)
  have K2 := hide ((unhide K1).below b2)
  have B2 := hide ((unhide B1).trans (Aps.of_below b2))
  clear b2 H1 K1 B1 CF0 k2 k3 k4 k5 k6 k7
  have y0 : w2.cell? ⟨w.heap.size, 0, none⟩ = some (.int .i64 5) := (unhide K2).c 0 (by simp)
  have y1 : w2.cell? ⟨w.heap.size, 1, none⟩ = some (.string n) := (unhide K2).c 1 (by simp)
  have y2 : w2.cell? ⟨w.heap.size, 2, none⟩ = some (.int .i64 i) := (unhide K2).c 2 (by simp)
  have y3 : w2.cell? ⟨w.heap.size, 3, none⟩ = some (.int .i64 m) := (unhide K2).c 3 (by simp)
  go_wp2_with fail
  refine (within_is _ _ _ _ q1).mono ?_
  rintro e w' ⟨rfl, hw⟩
  subst w'
  go_wp2_with fail
  refine (pass_no base G a1 a2 a3 c1 c2 c3 ts cs ds nh nc nd 0 0 m w2 (unhide H2) n1 n2 n3 (by omega) (by omega) (by omega) (by rw [Int.add_zero, Int.add_zero]; exact q2)).mono ?_
  rintro e w3 ⟨rfl, h3, b3⟩
  have HE : Hid (HgE w3 base G 1 ⟨ts, cs, ds, nh, nc, nd⟩) := hide ⟨_, _, _, _, _, _, h3⟩
  have B3 := hide ((unhide B2).trans b3)
  clear h3 b3 y0 y1 y2 y3
  go_wp2_with fail
  refine leaves_cons (f := 54) (args := #[.pointer (some ⟨G, 0, none⟩)]) (by simp) (by simp [go_sem]) ?_
  refine (unlockHg (unhide HE) _).mono ?_
  rintro e u' w4 ⟨rfl, rfl, h4, b4⟩
  exact ⟨_, results_tmp rfl _ _ _, by rw [(dw5 hf).1, q1, q2, Bool.true_and]; kernel_rfl, by rw [(dw5 hf).2, q1, q2, Bool.true_and, if_neg (by decide)]; exact h4, (unhide B3).trans (b4 _ _ _)⟩
set_option maxRecDepth 20000 in
set_option maxHeartbeats 8000000 in
theorem do_5t (base G : Nat) (a1 a2 a3 : Option Addr) (c1 c2 c3 : Nat) (ts : List Ts) (cs : List Cr) (ds : List Df) (nh nc nd : Int) (n : ByteArray) (i m : Int) (w : World) (h : Hg w base G 0 a1 a2 a3 c1 c2 c3 ts cs ds nh nc nd) (ff : FitF ⟨ts, cs, ds, nh, nc, nd⟩) (hf : flB ⟨ts, cs, ds, nh, nc, nd⟩ = true) (q1 : inB m 1 100 = true) (q2 : ckB nh nc (nd + m) = true) :
    Calls Tryz.prog 31 #[.pointer (some ⟨G, 0, none⟩), .agg #[.int .i64 5, .string n, .int .i64 i, .int .i64 m]] w fun e w' => e = .returned (.bool (dwB ⟨ts, cs, ds, nh, nc, nd⟩ ⟨5, n, i, m⟩)) ∧ HgE w' base G 0 (dwF ⟨ts, cs, ds, nh, nc, nd⟩ ⟨5, n, i, m⟩) ∧ Aps (hz G a1 a2 a3) w w' := by
  obtain ⟨f1, _, _, _⟩ := flB_facts hf
  obtain ⟨n1, n2, n3⟩ := ckB_facts f1
  simp only at n1 n2 n3
  clear f1
  have m1 : 1 ≤ m ∧ m ≤ 100 := of_decide_eq_true q1
  have h' := h
  have hsz := h.size
  have hne : w.heap.size ≠ G := Nat.ne_of_gt h.blk.lt
  obtain ⟨V0, hV0⟩ : ∃ V, V = w.alloc (Obj.cells #[.int .i64 5, .string n, .int .i64 i, .int .i64 m] 60) := ⟨_, rfl⟩
  have bV : Below w.heap.size w V0 := by rw [hV0]; exact bel1 _
  have K0 : Hid (Blk V0 w.heap.size [.int .i64 5, .string n, .int .i64 i, .int .i64 m]) := hide (by rw [hV0]; exact Blk.new _ _)
  have B0 := hide (apz G a1 a2 a3 bV)
  have CL := hide (lockHg base G a1 a2 a3 c1 c2 c3 ts cs ds nh nc nd V0 (h.below bV))
  have HW := hide hV0
  have FF := hide ff
  clear hV0 bV h h' ff
  go_enter_defers Tryz.func31, Tryz.ntmps31
  go_upto_region 1 with fail
  rw [← unhide HW]
  clear HW
  go_wp2_with fail
  refine (unhide CL).mono ?_
  rintro e w1 ⟨rfl, h1, b1, hs1, ho⟩
  have H1 := hide h1
  have K1 := hide (ho _ _ hne (unhide K0))
  have B1 := hide ((unhide B0).trans b1)
  have CF0 := hide (implFleetOk_any nh nc nd a1 a2 a3 ts.length c1 cs.length c2 ds.length c3 ts cs ds w1 (fl_in h1) (unhide FF).t (unhide FF).c (unhide FF).d)
  rw [hf] at CF0
  have k2 : w1.cell? ⟨G, 2, none⟩ = some (.slice a1 ts.length c1) := (unhide H1).blk.c 2 (by simp)
  have k3 : w1.cell? ⟨G, 3, none⟩ = some (.slice a2 cs.length c2) := (unhide H1).blk.c 3 (by simp)
  have k4 : w1.cell? ⟨G, 4, none⟩ = some (.slice a3 ds.length c3) := (unhide H1).blk.c 4 (by simp)
  have k5 : w1.cell? ⟨G, 5, none⟩ = some (.int .i64 nh) := (unhide H1).blk.c 5 (by simp)
  have k6 : w1.cell? ⟨G, 6, none⟩ = some (.int .i64 nc) := (unhide H1).blk.c 6 (by simp)
  have k7 : w1.cell? ⟨G, 7, none⟩ = some (.int .i64 nd) := (unhide H1).blk.c 7 (by simp)
  clear h1 b1 hs1 ho CL K0 B0
  go_wp2_with fail
  refine (unhide CF0).mono ?_
  rintro e w2 ⟨rfl, b2⟩
  have H2 := hide ((unhide H1).below b2)
  have K2 := hide ((unhide K1).below b2)
  have B2 := hide ((unhide B1).trans (Aps.of_below b2))
  clear b2 H1 K1 B1 CF0 k2 k3 k4 k5 k6 k7
  have y0 : w2.cell? ⟨w.heap.size, 0, none⟩ = some (.int .i64 5) := (unhide K2).c 0 (by simp)
  have y1 : w2.cell? ⟨w.heap.size, 1, none⟩ = some (.string n) := (unhide K2).c 1 (by simp)
  have y2 : w2.cell? ⟨w.heap.size, 2, none⟩ = some (.int .i64 i) := (unhide K2).c 2 (by simp)
  have y3 : w2.cell? ⟨w.heap.size, 3, none⟩ = some (.int .i64 m) := (unhide K2).c 3 (by simp)
  go_wp2_with fail
  refine (within_is _ _ _ _ q1).mono ?_
  rintro e w' ⟨rfl, hw⟩
  subst w'
  go_wp2_with fail
  refine (pass_yes base G a1 a2 a3 c1 c2 c3 ts cs ds nh nc nd 0 0 m w2 (unhide H2) n1 n2 n3 (by omega) (by omega) (by omega) (by rw [Int.add_zero, Int.add_zero]; exact q2)).mono ?_
  rintro e w3 ⟨rfl, h3, b3⟩
  rw [Int.add_zero, Int.add_zero] at h3
  have HE : Hid (HgE w3 base G 1 ⟨ts, cs, ds, nh, nc, nd + m⟩) := hide ⟨_, _, _, _, _, _, h3⟩
  have B3 := hide ((unhide B2).trans b3)
  clear h3 b3 y0 y1 y2 y3
  go_wp2_with fail
  refine leaves_cons (f := 54) (args := #[.pointer (some ⟨G, 0, none⟩)]) (by simp) (by simp [go_sem]) ?_
  refine (unlockHg (unhide HE) _).mono ?_
  rintro e u' w4 ⟨rfl, rfl, h4, b4⟩
  exact ⟨_, results_tmp rfl _ _ _, by rw [(dw5 hf).1, q1, q2, Bool.true_and]; kernel_rfl, by rw [(dw5 hf).2, q1, q2, Bool.true_and, if_pos rfl]; exact h4, (unhide B3).trans (b4 _ _ _)⟩
theorem do_aps (base G : Nat) (a1 a2 a3 : Option Addr) (c1 c2 c3 : Nat) (ts : List Ts) (cs : List Cr) (ds : List Df) (nh nc nd : Int) (n : ByteArray) (i m k : Int) (w : World) (h : Hg w base G 0 a1 a2 a3 c1 c2 c3 ts cs ds nh nc nd) (ff : FitF ⟨ts, cs, ds, nh, nc, nd⟩) (hn : fitT n) :
    Calls Tryz.prog 31 #[.pointer (some ⟨G, 0, none⟩), .agg #[.int .i64 k, .string n, .int .i64 i, .int .i64 m]] w fun e w' => e = .returned (.bool (dwB ⟨ts, cs, ds, nh, nc, nd⟩ ⟨k, n, i, m⟩)) ∧ HgE w' base G 0 (dwF ⟨ts, cs, ds, nh, nc, nd⟩ ⟨k, n, i, m⟩) ∧ Aps (hz G a1 a2 a3) w w' := by
  cases hf : flB ⟨ts, cs, ds, nh, nc, nd⟩ with
  | false => exact do_0 base G a1 a2 a3 c1 c2 c3 ts cs ds nh nc nd n i m k w h ff hf
  | true =>
    by_cases n1 : k = 1
    · subst n1; exact do_1 base G a1 a2 a3 c1 c2 c3 ts cs ds nh nc nd n i m w h ff hf
    by_cases n2 : k = 2
    · subst n2; exact do_2 base G a1 a2 a3 c1 c2 c3 ts cs ds nh nc nd n i m w h ff hf
    by_cases n3 : k = 3
    · subst n3; exact do_3 base G a1 a2 a3 c1 c2 c3 ts cs ds nh nc nd n i m w h ff hf hn
    by_cases n4 : k = 4
    · subst n4; exact do_4 base G a1 a2 a3 c1 c2 c3 ts cs ds nh nc nd n i m w h ff hf
    by_cases n5 : k = 5
    · subst n5
      cases q1 : inB m 1 100 with
      | false => exact do_5n base G a1 a2 a3 c1 c2 c3 ts cs ds nh nc nd n i m w h ff hf q1
      | true =>
        cases q2 : ckB nh nc (nd + m) with
        | false => exact do_5f base G a1 a2 a3 c1 c2 c3 ts cs ds nh nc nd n i m w h ff hf q1 q2
        | true => exact do_5t base G a1 a2 a3 c1 c2 c3 ts cs ds nh nc nd n i m w h ff hf q1 q2
    exact do_6 base G a1 a2 a3 c1 c2 c3 ts cs ds nh nc nd n i m k w h ff hf n1 n2 n3 n4 n5
theorem do_any (base G : Nat) (a1 a2 a3 : Option Addr) (c1 c2 c3 : Nat) (ts : List Ts) (cs : List Cr) (ds : List Df) (nh nc nd : Int) (n : ByteArray) (i m k : Int) (w : World) (h : Hg w base G 0 a1 a2 a3 c1 c2 c3 ts cs ds nh nc nd) (ff : FitF ⟨ts, cs, ds, nh, nc, nd⟩) (hn : fitT n) :
    Calls Tryz.prog 31 #[.pointer (some ⟨G, 0, none⟩), .agg #[.int .i64 k, .string n, .int .i64 i, .int .i64 m]] w fun e w' => e = .returned (.bool (dwB ⟨ts, cs, ds, nh, nc, nd⟩ ⟨k, n, i, m⟩)) ∧ HgE w' base G 0 (dwF ⟨ts, cs, ds, nh, nc, nd⟩ ⟨k, n, i, m⟩) ∧ Below base w w' := by
  refine (do_aps base G a1 a2 a3 c1 c2 c3 ts cs ds nh nc nd n i m k w h ff hn).mono ?_
  rintro e w' ⟨h1, h2, h3⟩
  exact ⟨h1, h2, h3.below h.hz_low h.size⟩

end Go.Proofs.YticdccdkjepifaaGreat
