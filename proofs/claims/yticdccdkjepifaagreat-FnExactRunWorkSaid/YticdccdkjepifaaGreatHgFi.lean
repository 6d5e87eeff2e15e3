/-
  What the program's hangar does: find. The fleet is so, its texts can be there.
-/
import Derived.Test.YticdccdkjepifaaGreatHgDo
namespace Go.Proofs.YticdccdkjepifaaGreat
open Go Go.RowKit

structure FiR (w : World) (base : Nat) (G : Nat) (g : Nat) (p : Nat) (a1 : Option Addr) (a2 : Option Addr) (c1 : Nat) (c2 : Nat) (c3 : Nat) (ts : List Ts) (cs : List Cr) (ds : List Df) (nh : Int) (nc : Int) (nd : Int) (x : Df) (t0 t1 t2 t3 t4 t5 t6 t7 t8 t9 t10 t11 t12 t13 : Bool) (v0 v1 v2 v3 v4 v5 v6 v7 v8 v9 v10 v11 v12 : Value) (W : World) : Prop where
  pre : t9 = false → Hg W base G 1 a1 a2 (some ⟨g, 0, none⟩) c1 c2 c3 ts cs ds nh nc nd ∧ Blk W w.heap.size [.string x.n, .int .i64 x.i, .int .i64 x.s] ∧ Aps (hz G a1 a2 (some ⟨g, 0, none⟩)) w W ∧ w.heap.size < W.heap.size
  e0 : t0 = true → v0 = .pointer (some ⟨G, 0, none⟩)
  e1 : t1 = true → v1 = .pointer (some ⟨G, 0, none⟩)
  e2 : t2 = true → v2 = .pointer (some ⟨G, 0, none⟩)
  e3 : t3 = true → v3 = .pointer (some ⟨G, 2, none⟩)
  e4 : t4 = true → v4 = .pointer (some ⟨G, 4, none⟩)
  e5 : t5 = true → v5 = .slice (some ⟨g, 0, none⟩) ds.length c3
  e6 : t6 = true → v6 = .int .i64 (p : Int)
  e7 : t7 = true → v7 = .agg #[.string x.n, .int .i64 x.i, .int .i64 x.s]
  e10 : t10 = true → v10 = .pointer (some ⟨G, 0, none⟩)
  e11 : t11 = true → v11 = .pointer (some ⟨G, 2, none⟩)
  e12 : t12 = true → v12 = .pointer (some ⟨G, 4, none⟩)
  bs : t8 = true → t9 = false → ∃ vb, v8 = .slice (some ⟨vb, 0, none⟩) 1 1 ∧ w.heap.size < vb ∧ W.heap[vb]? = some (.cells #[.string x.n, .int .i64 x.i, .int .i64 x.s] 94 (0, 0))
  post : t9 = true → t13 = false → ∃ g' c' w0, v9 = .slice (some ⟨g', 0, none⟩) (ds.length + 1) c' ∧ Hg w0 base G 1 a1 a2 (some ⟨g, 0, none⟩) c1 c2 c3 ts cs ds nh nc nd ∧ Aps (hz G a1 a2 (some ⟨g, 0, none⟩)) w w0 ∧ w0.grownBy W (some g) ∧ OwnE 3 dfC W base 94 (.slice (some ⟨g', 0, none⟩) (ds.length + 1) c') (insL ds p x)
  fin : t13 = true → ∃ g' c', Hg W base G 1 a1 a2 (some ⟨g', 0, none⟩) c1 c2 c' ts cs (insL ds p x) nh nc nd ∧ Aps (hz G a1 a2 (some ⟨g, 0, none⟩)) w W
  o5 : t9 = true → t5 = true
  o7 : t9 = true → t7 = true
  o8 : t9 = true → t8 = true
  o13 : t13 = true → t9 = true
  u87 : t8 = true → t7 = true
def FiRJ (w : World) (base : Nat) (G : Nat) (g : Nat) (p : Nat) (a1 : Option Addr) (a2 : Option Addr) (c1 : Nat) (c2 : Nat) (c3 : Nat) (ts : List Ts) (cs : List Cr) (ds : List Df) (nh : Int) (nc : Int) (nd : Int) (x : Df) (A0 : Act) (l : Nat → Bool) (a : Act) (V : World) : Prop := ∃ (v0 v1 v2 v3 v4 v5 v6 v7 v8 v9 v10 v11 v12 : Value), a = (((((((((((((A0.put (some 33) v0).put (some 34) v1).put (some 35) v2).put (some 36) v3).put (some 37) v4).put (some 38) v5).put (some 39) v6).put (some 40) v7).put (some 41) v8).put (some 42) v9).put (some 43) v10).put (some 44) v11).put (some 45) v12) ∧ FiR w base G g p a1 a2 c1 c2 c3 ts cs ds nh nc nd x (l 0) (l 1) (l 2) (l 3) (l 4) (l 5) (l 6) (l 7) (l 8) (l 9) (l 10) (l 11) (l 12) (l 13) v0 v1 v2 v3 v4 v5 v6 v7 v8 v9 v10 v11 v12 V
theorem FiRJ.mk {w : World} {base : Nat} {G : Nat} {g : Nat} {p : Nat} {a1 : Option Addr} {a2 : Option Addr} {c1 : Nat} {c2 : Nat} {c3 : Nat} {ts : List Ts} {cs : List Cr} {ds : List Df} {nh : Int} {nc : Int} {nd : Int} {x : Df} {A0 : Act} {l : Nat → Bool} {a : Act} {V : World} {v0 v1 v2 v3 v4 v5 v6 v7 v8 v9 v10 v11 v12 : Value} (K : FiR w base G g p a1 a2 c1 c2 c3 ts cs ds nh nc nd x (l 0) (l 1) (l 2) (l 3) (l 4) (l 5) (l 6) (l 7) (l 8) (l 9) (l 10) (l 11) (l 12) (l 13) v0 v1 v2 v3 v4 v5 v6 v7 v8 v9 v10 v11 v12 V) (hq : a = (((((((((((((A0.put (some 33) v0).put (some 34) v1).put (some 35) v2).put (some 36) v3).put (some 37) v4).put (some 38) v5).put (some 39) v6).put (some 40) v7).put (some 41) v8).put (some 42) v9).put (some 43) v10).put (some 44) v11).put (some 45) v12)) : FiRJ w base G g p a1 a2 c1 c2 c3 ts cs ds nh nc nd x A0 l a V := ⟨v0, v1, v2, v3, v4, v5, v6, v7, v8, v9, v10, v11, v12, hq, K⟩
set_option maxRecDepth 20000 in
set_option maxHeartbeats 8000000 in
theorem find_any (base G : Nat) (a1 a2 a3 : Option Addr) (c1 c2 c3 : Nat) (ts : List Ts) (cs : List Cr) (ds : List Df) (nh nc nd : Int) (x : Df) (w : World) (h : Hg w base G 1 a1 a2 a3 c1 c2 c3 ts cs ds nh nc nd) (ff : FitF ⟨ts, cs, ds, nh, nc, nd⟩) (hf : flB ⟨ts, cs, ds, nh, nc, nd⟩ = true) (hx : fitT x.n) :
    Calls Tryz.prog 58 #[.pointer (some ⟨G, 0, none⟩), .agg #[.string x.n, .int .i64 x.i, .int .i64 x.s]] w fun e w' => e = .returned (.bool (!atI ds x.i && dkB nd x && decide (ds.length < 20))) ∧ HgE w' base G 1 (if (!atI ds x.i && dkB nd x && decide (ds.length < 20)) = true then ⟨ts, cs, insL ds (plR x.i ds) x, nh, nc, nd⟩ else ⟨ts, cs, ds, nh, nc, nd⟩) ∧ Aps (hz G a1 a2 a3) w w' := by
  obtain ⟨f1, f2, f3, f4⟩ := flB_facts hf
  obtain ⟨n1, n2, n3⟩ := ckB_facts f1
  obtain ⟨k3, _, _⟩ := listI_facts f4
  obtain ⟨k1, _, _⟩ := listS_facts f3
  simp only at n1 n2 n3 k3 k1
  clear f1 f2 f3 f4
  have HH := hide h
  have HF := hide hf
  have FF := hide ff
  clear h hf ff
  have hsz := (unhide HH).size
  obtain ⟨V0, hV0⟩ : ∃ V, V = w.alloc (Obj.cells #[.string x.n, .int .i64 x.i, .int .i64 x.s] 94) := ⟨_, rfl⟩
  have bV : Below w.heap.size w V0 := by rw [hV0]; exact bel1 _
  have H0 := hide ((unhide HH).below bV)
  have K0 : Hid (Blk V0 w.heap.size [.string x.n, .int .i64 x.i, .int .i64 x.s]) := hide (by rw [hV0]; exact Blk.new _ _)
  have B0 := hide (apz G a1 a2 a3 bV)
  have L0 : Hid (w.heap.size < V0.heap.size) := hide (unhide K0).lt
  have HW := hide hV0
  clear hV0 bV
  have CP := hide (placeOf_any base G a1 a2 a3 c1 c2 c3 ts cs ds nh nc nd x.i V0 (unhide H0) (by omega))
  have hpl := plR_le x.i ds
  obtain ⟨p, hp⟩ : ∃ p, plR x.i ds = p := ⟨_, rfl⟩
  rw [hp] at CP hpl
  obtain ⟨T, hT⟩ : ∃ T, atI ds x.i = T := ⟨_, rfl⟩
  rw [hT] at CP
  rw [hp, hT]
  clear hp hT
  obtain ⟨K, hK⟩ : ∃ K, (!T && dkB nd x && decide (ds.length < 20)) = K := ⟨_, rfl⟩
  rw [hK]
  have HK := hide hK
  clear hK
  rcases three (!T) (dkB nd x) (decide (ds.length < 20)) with ⟨q1, hv⟩ | ⟨q1, q2, hv⟩ | ⟨q1, q2, q3, hv⟩ | ⟨q1, q2, q3, hv⟩
  · obtain rfl : K = false := (unhide HK).symm.trans hv
    clear hv HK
    obtain rfl : T = true := by simpa using q1
    clear q1
    go_enter Tryz.func58, Tryz.ntmps58
    go_upto_region 1 with fail
    rw [← unhide HW]
    clear HW
    have k0 : V0.cell? ⟨w.heap.size, 0, none⟩ = some (.string x.n) := (unhide K0).c 0 (by simp)
    have k1 : V0.cell? ⟨w.heap.size, 1, none⟩ = some (.int .i64 x.i) := (unhide K0).c 1 (by simp)
    have k2 : V0.cell? ⟨w.heap.size, 2, none⟩ = some (.int .i64 x.s) := (unhide K0).c 2 (by simp)
    go_wp2_with fail
    refine (unhide CP).mono ?_
    rintro e w1 ⟨rfl, b1⟩
    have H1 := hide ((unhide H0).below b1)
    have KX := hide ((unhide K0).below b1)
    have B1 := hide ((unhide B0).trans (Aps.of_below b1))
    have LX : Hid (w.heap.size < w1.heap.size) := hide (Nat.lt_of_lt_of_le (unhide L0) b1.size)
    clear b1 k0 k1 k2
    go_wp2_with fail
    have HB1 := hide (unhide H1).blk
    obtain ⟨ιfW, fW, _, hb, hall⟩ := belClass w1
    have HB := hide hb
    have HA := hide hall
    have c00 : ∀ z, (fW z).cell? ⟨G, 0, none⟩ = some (.int .i32 1) := fun z => ((unhide HB1).below (hb z)).c 0 (by simp)
    have c01 : ∀ z, (fW z).cell? ⟨G, 1, none⟩ = some (.int .u32 0) := fun z => ((unhide HB1).below (hb z)).c 1 (by simp)
    have c02 : ∀ z, (fW z).cell? ⟨G, 2, none⟩ = some (.slice a1 ts.length c1) := fun z => ((unhide HB1).below (hb z)).c 2 (by simp)
    have c03 : ∀ z, (fW z).cell? ⟨G, 3, none⟩ = some (.slice a2 cs.length c2) := fun z => ((unhide HB1).below (hb z)).c 3 (by simp)
    have c04 : ∀ z, (fW z).cell? ⟨G, 4, none⟩ = some (.slice a3 ds.length c3) := fun z => ((unhide HB1).below (hb z)).c 4 (by simp)
    have c05 : ∀ z, (fW z).cell? ⟨G, 5, none⟩ = some (.int .i64 nh) := fun z => ((unhide HB1).below (hb z)).c 5 (by simp)
    have c06 : ∀ z, (fW z).cell? ⟨G, 6, none⟩ = some (.int .i64 nc) := fun z => ((unhide HB1).below (hb z)).c 6 (by simp)
    have c07 : ∀ z, (fW z).cell? ⟨G, 7, none⟩ = some (.int .i64 nd) := fun z => ((unhide HB1).below (hb z)).c 7 (by simp)
    have c10 : ∀ z, (fW z).cell? ⟨w.heap.size, 0, none⟩ = some (.string x.n) := fun z => ((unhide KX).below (hb z)).c 0 (by simp)
    have c11 : ∀ z, (fW z).cell? ⟨w.heap.size, 1, none⟩ = some (.int .i64 x.i) := fun z => ((unhide KX).below (hb z)).c 1 (by simp)
    have c12 : ∀ z, (fW z).cell? ⟨w.heap.size, 2, none⟩ = some (.int .i64 x.s) := fun z => ((unhide KX).below (hb z)).c 2 (by simp)
    have HZ : Hid (∀ z, Hg (fW z) base G 1 a1 a2 a3 c1 c2 c3 ts cs ds nh nc nd) := hide (fun z => (unhide H1).below (hb z))
    clear hb hall
    obtain ⟨x0, h0⟩ := (unhide HA) w1 (Below.refl _ _)
    rw [h0]
    clear h0
    refine wp_region_bel (fun w' h => (unhide HA) w' ((unhide HB _).trans (h.mono (unhide HB _).size))) (by kernel_rfl) (by kernel_rfl) ?_
    (repeat (go_big_quiet_step (fail)))
    refine wpQuiet_nil ?_
    rintro _ ⟨y, rfl⟩
    have hs1 := (unhide H1).size
    have H1 := hide (unhide HZ y)
    have KX := hide ((unhide KX).below (unhide HB y))
    have LX : Hid (w.heap.size < (fW y).heap.size) := hide (Nat.lt_of_lt_of_le (unhide LX) (unhide HB y).size)
    have B1 := hide ((unhide B1).trans (Aps.of_below (unhide HB y)))
    clear c00 c01 c02 c03 c04 c05 c06 c07 c10 c11 c12 HZ
    go_wp2_with fail
    go_ret
    exact ⟨rfl, ⟨_, _, _, _, _, _, unhide H1⟩, unhide B1⟩
  · obtain rfl : K = false := (unhide HK).symm.trans hv
    clear hv HK
    obtain rfl : T = false := by simpa using q1
    clear q1
    go_enter Tryz.func58, Tryz.ntmps58
    go_upto_region 1 with fail
    rw [← unhide HW]
    clear HW
    have k0 : V0.cell? ⟨w.heap.size, 0, none⟩ = some (.string x.n) := (unhide K0).c 0 (by simp)
    have k1 : V0.cell? ⟨w.heap.size, 1, none⟩ = some (.int .i64 x.i) := (unhide K0).c 1 (by simp)
    have k2 : V0.cell? ⟨w.heap.size, 2, none⟩ = some (.int .i64 x.s) := (unhide K0).c 2 (by simp)
    go_wp2_with fail
    refine (unhide CP).mono ?_
    rintro e w1 ⟨rfl, b1⟩
    have H1 := hide ((unhide H0).below b1)
    have KX := hide ((unhide K0).below b1)
    have B1 := hide ((unhide B0).trans (Aps.of_below b1))
    have LX : Hid (w.heap.size < w1.heap.size) := hide (Nat.lt_of_lt_of_le (unhide L0) b1.size)
    clear b1 k0 k1 k2
    go_wp2_with fail
    have HB1 := hide (unhide H1).blk
    obtain ⟨ιfW, fW, _, hb, hall⟩ := belClass w1
    have HB := hide hb
    have HA := hide hall
    have c00 : ∀ z, (fW z).cell? ⟨G, 0, none⟩ = some (.int .i32 1) := fun z => ((unhide HB1).below (hb z)).c 0 (by simp)
    have c01 : ∀ z, (fW z).cell? ⟨G, 1, none⟩ = some (.int .u32 0) := fun z => ((unhide HB1).below (hb z)).c 1 (by simp)
    have c02 : ∀ z, (fW z).cell? ⟨G, 2, none⟩ = some (.slice a1 ts.length c1) := fun z => ((unhide HB1).below (hb z)).c 2 (by simp)
    have c03 : ∀ z, (fW z).cell? ⟨G, 3, none⟩ = some (.slice a2 cs.length c2) := fun z => ((unhide HB1).below (hb z)).c 3 (by simp)
    have c04 : ∀ z, (fW z).cell? ⟨G, 4, none⟩ = some (.slice a3 ds.length c3) := fun z => ((unhide HB1).below (hb z)).c 4 (by simp)
    have c05 : ∀ z, (fW z).cell? ⟨G, 5, none⟩ = some (.int .i64 nh) := fun z => ((unhide HB1).below (hb z)).c 5 (by simp)
    have c06 : ∀ z, (fW z).cell? ⟨G, 6, none⟩ = some (.int .i64 nc) := fun z => ((unhide HB1).below (hb z)).c 6 (by simp)
    have c07 : ∀ z, (fW z).cell? ⟨G, 7, none⟩ = some (.int .i64 nd) := fun z => ((unhide HB1).below (hb z)).c 7 (by simp)
    have c10 : ∀ z, (fW z).cell? ⟨w.heap.size, 0, none⟩ = some (.string x.n) := fun z => ((unhide KX).below (hb z)).c 0 (by simp)
    have c11 : ∀ z, (fW z).cell? ⟨w.heap.size, 1, none⟩ = some (.int .i64 x.i) := fun z => ((unhide KX).below (hb z)).c 1 (by simp)
    have c12 : ∀ z, (fW z).cell? ⟨w.heap.size, 2, none⟩ = some (.int .i64 x.s) := fun z => ((unhide KX).below (hb z)).c 2 (by simp)
    have HZ : Hid (∀ z, Hg (fW z) base G 1 a1 a2 a3 c1 c2 c3 ts cs ds nh nc nd) := hide (fun z => (unhide H1).below (hb z))
    clear hb hall
    obtain ⟨x0, h0⟩ := (unhide HA) w1 (Below.refl _ _)
    rw [h0]
    clear h0
    have CDK : Hid (∀ z, Calls Tryz.prog 80 #[.agg #[.slice a1 ts.length c1, .slice a2 cs.length c2, .slice a3 ds.length c3, .int .i64 nh, .int .i64 nc, .int .i64 nd], .agg #[.string x.n, .int .i64 x.i, .int .i64 x.s]] (fW z) fun e w' => e = .returned (.bool false) ∧ Below (fW z).heap.size (fW z) w') := hide (fun z => by have k := dkSo_any nh nc nd a1 a2 a3 ts.length c1 cs.length c2 ds.length c3 x (fW z) hx; rw [q2] at k; exact k)
    refine wp_region_bel (fun w' h => (unhide HA) w' ((unhide HB _).trans (h.mono (unhide HB _).size))) (by kernel_rfl) (by kernel_rfl) ?_
    (repeat (go_big_quiet_step (first | (go_at_call 80; exact belQ (unhide HB) (unhide HA) (unhide CDK _)))))
    refine wpQuiet_nil ?_
    rintro _ ⟨y, rfl⟩
    have hs1 := (unhide H1).size
    have H1 := hide (unhide HZ y)
    have KX := hide ((unhide KX).below (unhide HB y))
    have LX : Hid (w.heap.size < (fW y).heap.size) := hide (Nat.lt_of_lt_of_le (unhide LX) (unhide HB y).size)
    have B1 := hide ((unhide B1).trans (Aps.of_below (unhide HB y)))
    clear c00 c01 c02 c03 c04 c05 c06 c07 c10 c11 c12 HZ
    go_wp2_with fail
    go_ret
    exact ⟨rfl, ⟨_, _, _, _, _, _, unhide H1⟩, unhide B1⟩
  · obtain rfl : K = false := (unhide HK).symm.trans hv
    clear hv HK
    obtain rfl : T = false := by simpa using q1
    have h20 : (ds.length : Int) = 20 := by have := of_decide_eq_false q3; omega
    clear q1
    go_enter Tryz.func58, Tryz.ntmps58
    go_upto_region 1 with fail
    rw [← unhide HW]
    clear HW
    have k0 : V0.cell? ⟨w.heap.size, 0, none⟩ = some (.string x.n) := (unhide K0).c 0 (by simp)
    have k1 : V0.cell? ⟨w.heap.size, 1, none⟩ = some (.int .i64 x.i) := (unhide K0).c 1 (by simp)
    have k2 : V0.cell? ⟨w.heap.size, 2, none⟩ = some (.int .i64 x.s) := (unhide K0).c 2 (by simp)
    go_wp2_with fail
    refine (unhide CP).mono ?_
    rintro e w1 ⟨rfl, b1⟩
    have H1 := hide ((unhide H0).below b1)
    have KX := hide ((unhide K0).below b1)
    have B1 := hide ((unhide B0).trans (Aps.of_below b1))
    have LX : Hid (w.heap.size < w1.heap.size) := hide (Nat.lt_of_lt_of_le (unhide L0) b1.size)
    clear b1 k0 k1 k2
    go_wp2_with fail
    have HB1 := hide (unhide H1).blk
    obtain ⟨ιfW, fW, _, hb, hall⟩ := belClass w1
    have HB := hide hb
    have HA := hide hall
    have c00 : ∀ z, (fW z).cell? ⟨G, 0, none⟩ = some (.int .i32 1) := fun z => ((unhide HB1).below (hb z)).c 0 (by simp)
    have c01 : ∀ z, (fW z).cell? ⟨G, 1, none⟩ = some (.int .u32 0) := fun z => ((unhide HB1).below (hb z)).c 1 (by simp)
    have c02 : ∀ z, (fW z).cell? ⟨G, 2, none⟩ = some (.slice a1 ts.length c1) := fun z => ((unhide HB1).below (hb z)).c 2 (by simp)
    have c03 : ∀ z, (fW z).cell? ⟨G, 3, none⟩ = some (.slice a2 cs.length c2) := fun z => ((unhide HB1).below (hb z)).c 3 (by simp)
    have c04 : ∀ z, (fW z).cell? ⟨G, 4, none⟩ = some (.slice a3 ds.length c3) := fun z => ((unhide HB1).below (hb z)).c 4 (by simp)
    have c05 : ∀ z, (fW z).cell? ⟨G, 5, none⟩ = some (.int .i64 nh) := fun z => ((unhide HB1).below (hb z)).c 5 (by simp)
    have c06 : ∀ z, (fW z).cell? ⟨G, 6, none⟩ = some (.int .i64 nc) := fun z => ((unhide HB1).below (hb z)).c 6 (by simp)
    have c07 : ∀ z, (fW z).cell? ⟨G, 7, none⟩ = some (.int .i64 nd) := fun z => ((unhide HB1).below (hb z)).c 7 (by simp)
    have c10 : ∀ z, (fW z).cell? ⟨w.heap.size, 0, none⟩ = some (.string x.n) := fun z => ((unhide KX).below (hb z)).c 0 (by simp)
    have c11 : ∀ z, (fW z).cell? ⟨w.heap.size, 1, none⟩ = some (.int .i64 x.i) := fun z => ((unhide KX).below (hb z)).c 1 (by simp)
    have c12 : ∀ z, (fW z).cell? ⟨w.heap.size, 2, none⟩ = some (.int .i64 x.s) := fun z => ((unhide KX).below (hb z)).c 2 (by simp)
    have HZ : Hid (∀ z, Hg (fW z) base G 1 a1 a2 a3 c1 c2 c3 ts cs ds nh nc nd) := hide (fun z => (unhide H1).below (hb z))
    clear hb hall
    obtain ⟨x0, h0⟩ := (unhide HA) w1 (Below.refl _ _)
    rw [h0]
    clear h0
    have CDK : Hid (∀ z, Calls Tryz.prog 80 #[.agg #[.slice a1 ts.length c1, .slice a2 cs.length c2, .slice a3 ds.length c3, .int .i64 nh, .int .i64 nc, .int .i64 nd], .agg #[.string x.n, .int .i64 x.i, .int .i64 x.s]] (fW z) fun e w' => e = .returned (.bool true) ∧ Below (fW z).heap.size (fW z) w') := hide (fun z => by have k := dkSo_any nh nc nd a1 a2 a3 ts.length c1 cs.length c2 ds.length c3 x (fW z) hx; rw [q2] at k; exact k)
    refine wp_region_bel (fun w' h => (unhide HA) w' ((unhide HB _).trans (h.mono (unhide HB _).size))) (by kernel_rfl) (by kernel_rfl) ?_
    (repeat (go_big_quiet_step (first | (go_at_call 80; exact belQ (unhide HB) (unhide HA) (unhide CDK _)))))
    refine wpQuiet_nil ?_
    rintro _ ⟨y, rfl⟩
    have hs1 := (unhide H1).size
    have H1 := hide (unhide HZ y)
    have KX := hide ((unhide KX).below (unhide HB y))
    have LX : Hid (w.heap.size < (fW y).heap.size) := hide (Nat.lt_of_lt_of_le (unhide LX) (unhide HB y).size)
    have B1 := hide ((unhide B1).trans (Aps.of_below (unhide HB y)))
    clear c00 c01 c02 c03 c04 c05 c06 c07 c10 c11 c12 HZ
    go_wp2_with fail
    go_ret
    exact ⟨rfl, ⟨_, _, _, _, _, _, unhide H1⟩, unhide B1⟩
  · obtain rfl : K = true := (unhide HK).symm.trans hv
    clear hv HK
    obtain rfl : T = false := by simpa using q1
    have h20 : ¬ (ds.length : Int) = 20 := by have := of_decide_eq_true q3; omega
    clear q1
    go_enter Tryz.func58, Tryz.ntmps58
    go_upto_region 1 with fail
    rw [← unhide HW]
    clear HW
    have k0 : V0.cell? ⟨w.heap.size, 0, none⟩ = some (.string x.n) := (unhide K0).c 0 (by simp)
    have k1 : V0.cell? ⟨w.heap.size, 1, none⟩ = some (.int .i64 x.i) := (unhide K0).c 1 (by simp)
    have k2 : V0.cell? ⟨w.heap.size, 2, none⟩ = some (.int .i64 x.s) := (unhide K0).c 2 (by simp)
    go_wp2_with fail
    refine (unhide CP).mono ?_
    rintro e w1 ⟨rfl, b1⟩
    have H1 := hide ((unhide H0).below b1)
    have KX := hide ((unhide K0).below b1)
    have B1 := hide ((unhide B0).trans (Aps.of_below b1))
    have LX : Hid (w.heap.size < w1.heap.size) := hide (Nat.lt_of_lt_of_le (unhide L0) b1.size)
    clear b1 k0 k1 k2
    go_wp2_with fail
    have HB1 := hide (unhide H1).blk
    obtain ⟨ιfW, fW, _, hb, hall⟩ := belClass w1
    have HB := hide hb
    have HA := hide hall
    have c00 : ∀ z, (fW z).cell? ⟨G, 0, none⟩ = some (.int .i32 1) := fun z => ((unhide HB1).below (hb z)).c 0 (by simp)
    have c01 : ∀ z, (fW z).cell? ⟨G, 1, none⟩ = some (.int .u32 0) := fun z => ((unhide HB1).below (hb z)).c 1 (by simp)
    have c02 : ∀ z, (fW z).cell? ⟨G, 2, none⟩ = some (.slice a1 ts.length c1) := fun z => ((unhide HB1).below (hb z)).c 2 (by simp)
    have c03 : ∀ z, (fW z).cell? ⟨G, 3, none⟩ = some (.slice a2 cs.length c2) := fun z => ((unhide HB1).below (hb z)).c 3 (by simp)
    have c04 : ∀ z, (fW z).cell? ⟨G, 4, none⟩ = some (.slice a3 ds.length c3) := fun z => ((unhide HB1).below (hb z)).c 4 (by simp)
    have c05 : ∀ z, (fW z).cell? ⟨G, 5, none⟩ = some (.int .i64 nh) := fun z => ((unhide HB1).below (hb z)).c 5 (by simp)
    have c06 : ∀ z, (fW z).cell? ⟨G, 6, none⟩ = some (.int .i64 nc) := fun z => ((unhide HB1).below (hb z)).c 6 (by simp)
    have c07 : ∀ z, (fW z).cell? ⟨G, 7, none⟩ = some (.int .i64 nd) := fun z => ((unhide HB1).below (hb z)).c 7 (by simp)
    have c10 : ∀ z, (fW z).cell? ⟨w.heap.size, 0, none⟩ = some (.string x.n) := fun z => ((unhide KX).below (hb z)).c 0 (by simp)
    have c11 : ∀ z, (fW z).cell? ⟨w.heap.size, 1, none⟩ = some (.int .i64 x.i) := fun z => ((unhide KX).below (hb z)).c 1 (by simp)
    have c12 : ∀ z, (fW z).cell? ⟨w.heap.size, 2, none⟩ = some (.int .i64 x.s) := fun z => ((unhide KX).below (hb z)).c 2 (by simp)
    have HZ : Hid (∀ z, Hg (fW z) base G 1 a1 a2 a3 c1 c2 c3 ts cs ds nh nc nd) := hide (fun z => (unhide H1).below (hb z))
    clear hb hall
    obtain ⟨x0, h0⟩ := (unhide HA) w1 (Below.refl _ _)
    rw [h0]
    clear h0
    have CDK : Hid (∀ z, Calls Tryz.prog 80 #[.agg #[.slice a1 ts.length c1, .slice a2 cs.length c2, .slice a3 ds.length c3, .int .i64 nh, .int .i64 nc, .int .i64 nd], .agg #[.string x.n, .int .i64 x.i, .int .i64 x.s]] (fW z) fun e w' => e = .returned (.bool true) ∧ Below (fW z).heap.size (fW z) w') := hide (fun z => by have k := dkSo_any nh nc nd a1 a2 a3 ts.length c1 cs.length c2 ds.length c3 x (fW z) hx; rw [q2] at k; exact k)
    refine wp_region_bel (fun w' h => (unhide HA) w' ((unhide HB _).trans (h.mono (unhide HB _).size))) (by kernel_rfl) (by kernel_rfl) ?_
    (repeat (go_big_quiet_step (first | (go_at_call 80; exact belQ (unhide HB) (unhide HA) (unhide CDK _)))))
    refine wpQuiet_nil ?_
    rintro _ ⟨y, rfl⟩
    have hs1 := (unhide H1).size
    have H1 := hide (unhide HZ y)
    have KX := hide ((unhide KX).below (unhide HB y))
    have LX : Hid (w.heap.size < (fW y).heap.size) := hide (Nat.lt_of_lt_of_le (unhide LX) (unhide HB y).size)
    have B1 := hide ((unhide B1).trans (Aps.of_below (unhide HB y)))
    clear c00 c01 c02 c03 c04 c05 c06 c07 c10 c11 c12 HZ
    go_wp2_with fail
    rw [show ((ds.length : Int) == 20) = false from by simpa using h20]
    clear h20 q3
    rcases (unhide H1).own.o3.form with ⟨e0, e1⟩ | ⟨g, cp, ev, hbg, hlg, _⟩
    · exfalso
      have z : Value.slice a3 ds.length c3 = .slice none 0 0 := e0
      simp only [Value.slice.injEq] at z
      exact (unhide H1).s3 z.1
    simp only [Value.slice.injEq] at ev
    obtain ⟨rfl, _, rfl⟩ := ev
    have GB : Hid (base ≤ g) := hide hbg
    have GL : Hid (g < w.heap.size) := hide (((unhide HH).own.o3.lies g rfl).2)
    have PL : Hid (p ≤ ds.length) := hide hpl
    clear hbg hlg
    generalize fW y = w1 at *
    refine wp_region_flagsA (by kernel_rfl) (by kernel_rfl) (FiRJ w base G g p a1 a2 c1 c2 c3 ts cs ds nh nc nd x) ?_ ?_ ?_
    · exact FiRJ.mk (v0 := undef) (v1 := undef) (v2 := undef) (v3 := undef) (v4 := undef) (v5 := undef) (v6 := undef) (v7 := undef) (v8 := undef) (v9 := undef) (v10 := undef) (v11 := undef) (v12 := undef) ⟨(fun _ => ⟨(unhide H1).below (bel0d 1), (unhide KX).below (bel0d 1), (unhide B1).trans (Aps.of_below (bel0d 1)), unhide LX⟩), (fun h => by cases h), (fun h => by cases h), (fun h => by cases h), (fun h => by cases h), (fun h => by cases h), (fun h => by cases h), (fun h => by cases h), (fun h => by cases h), (fun h => by cases h), (fun h => by cases h), (fun h => by cases h), (fun h => by cases h), (fun h => by cases h), (fun h => by cases h), (fun h => by cases h), (fun h => by cases h), (fun h => by cases h), (fun h => by cases h), (fun h => by cases h)⟩ (by kernel_rfl)
    rotate_left 1
    · rintro l a V i o ho hl hd ⟨v0, v1, v2, v3, v4, v5, v6, v7, v8, v9, v10, v11, v12, rfl, K⟩
      have hi : i < 14 := (Array.getElem?_eq_some_iff.1 ho).1
      rcases (show i = 0 ∨ i = 1 ∨ i = 2 ∨ i = 3 ∨ i = 4 ∨ i = 5 ∨ i = 6 ∨ i = 7 ∨ i = 8 ∨ i = 9 ∨ i = 10 ∨ i = 11 ∨ i = 12 ∨ i = 13 from by omega) with rfl | rfl | rfl | rfl | rfl | rfl | rfl | rfl | rfl | rfl | rfl | rfl | rfl | rfl
      · simp at ho
        subst ho
        have HK : Hid (FiR w base G g p a1 a2 c1 c2 c3 ts cs ds nh nc nd x true (l 1) (l 2) (l 3) (l 4) (l 5) (l 6) (l 7) (l 8) (l 9) (l 10) (l 11) (l 12) (l 13) (.pointer (some ⟨G, 0, none⟩)) v1 v2 v3 v4 v5 v6 v7 v8 v9 v10 v11 v12 V) := hide ⟨(K.pre), (fun _ => rfl), (K.e1), (K.e2), (K.e3), (K.e4), (K.e5), (K.e6), (K.e7), (K.e10), (K.e11), (K.e12), (K.bs), (K.post), (K.fin), (K.o5), (K.o7), (K.o8), (K.o13), (K.u87)⟩
        clear K hd hl
        go_wp2_with fail
        exact ⟨rfl, FiRJ.mk (unhide HK) (by kernel_rfl)⟩
      · simp at ho
        subst ho
        have HK : Hid (FiR w base G g p a1 a2 c1 c2 c3 ts cs ds nh nc nd x (l 0) true (l 2) (l 3) (l 4) (l 5) (l 6) (l 7) (l 8) (l 9) (l 10) (l 11) (l 12) (l 13) v0 (.pointer (some ⟨G, 0, none⟩)) v2 v3 v4 v5 v6 v7 v8 v9 v10 v11 v12 V) := hide ⟨(K.pre), (K.e0), (fun _ => rfl), (K.e2), (K.e3), (K.e4), (K.e5), (K.e6), (K.e7), (K.e10), (K.e11), (K.e12), (K.bs), (K.post), (K.fin), (K.o5), (K.o7), (K.o8), (K.o13), (K.u87)⟩
        clear K hd hl
        go_wp2_with fail
        exact ⟨rfl, FiRJ.mk (unhide HK) (by kernel_rfl)⟩
      · simp at ho
        subst ho
        have d1 : l 1 = true := hd ⟨1, .data⟩ (by simp) rfl
        have x1 := K.e1 d1
        subst x1
        have HK : Hid (FiR w base G g p a1 a2 c1 c2 c3 ts cs ds nh nc nd x (l 0) (l 1) true (l 3) (l 4) (l 5) (l 6) (l 7) (l 8) (l 9) (l 10) (l 11) (l 12) (l 13) v0 (.pointer (some ⟨G, 0, none⟩)) (.pointer (some ⟨G, 0, none⟩)) v3 v4 v5 v6 v7 v8 v9 v10 v11 v12 V) := hide ⟨(K.pre), (K.e0), (K.e1), (fun _ => rfl), (K.e3), (K.e4), (K.e5), (K.e6), (K.e7), (K.e10), (K.e11), (K.e12), (K.bs), (K.post), (K.fin), (K.o5), (K.o7), (K.o8), (K.o13), (K.u87)⟩
        clear K hd hl
        go_wp2_with fail
        exact ⟨rfl, FiRJ.mk (unhide HK) (by kernel_rfl)⟩
      · simp at ho
        subst ho
        have d2 : l 2 = true := hd ⟨2, .data⟩ (by simp) rfl
        have x2 := K.e2 d2
        subst x2
        have HK : Hid (FiR w base G g p a1 a2 c1 c2 c3 ts cs ds nh nc nd x (l 0) (l 1) (l 2) true (l 4) (l 5) (l 6) (l 7) (l 8) (l 9) (l 10) (l 11) (l 12) (l 13) v0 v1 (.pointer (some ⟨G, 0, none⟩)) (.pointer (some ⟨G, 2, none⟩)) v4 v5 v6 v7 v8 v9 v10 v11 v12 V) := hide ⟨(K.pre), (K.e0), (K.e1), (K.e2), (fun _ => rfl), (K.e4), (K.e5), (K.e6), (K.e7), (K.e10), (K.e11), (K.e12), (K.bs), (K.post), (K.fin), (K.o5), (K.o7), (K.o8), (K.o13), (K.u87)⟩
        clear K hd hl
        go_wp2_with fail
        exact ⟨rfl, FiRJ.mk (unhide HK) (by kernel_rfl)⟩
      · simp at ho
        subst ho
        have d3 : l 3 = true := hd ⟨3, .data⟩ (by simp) rfl
        have x3 := K.e3 d3
        subst x3
        have HK : Hid (FiR w base G g p a1 a2 c1 c2 c3 ts cs ds nh nc nd x (l 0) (l 1) (l 2) (l 3) true (l 5) (l 6) (l 7) (l 8) (l 9) (l 10) (l 11) (l 12) (l 13) v0 v1 v2 (.pointer (some ⟨G, 2, none⟩)) (.pointer (some ⟨G, 4, none⟩)) v5 v6 v7 v8 v9 v10 v11 v12 V) := hide ⟨(K.pre), (K.e0), (K.e1), (K.e2), (K.e3), (fun _ => rfl), (K.e5), (K.e6), (K.e7), (K.e10), (K.e11), (K.e12), (K.bs), (K.post), (K.fin), (K.o5), (K.o7), (K.o8), (K.o13), (K.u87)⟩
        clear K hd hl
        go_wp2_with fail
        exact ⟨rfl, FiRJ.mk (unhide HK) (by kernel_rfl)⟩
      · simp at ho
        subst ho
        have d4 : l 4 = true := hd ⟨4, .data⟩ (by simp) rfl
        have x4 := K.e4 d4
        subst x4
        have n9 : l 9 = false := by cases c : l 9; rfl; have z := K.o5 c; rw [hl] at z; cases z
        obtain ⟨ph, pb, pw, pz⟩ := K.pre n9
        have yy0 : V.cell? ⟨G, 4, none⟩ = some (.slice (some ⟨g, 0, none⟩) ds.length c3) := ph.blk.c 4 (by simp)
        clear ph pb pw pz n9
        have HK : Hid (FiR w base G g p a1 a2 c1 c2 c3 ts cs ds nh nc nd x (l 0) (l 1) (l 2) (l 3) (l 4) true (l 6) (l 7) (l 8) (l 9) (l 10) (l 11) (l 12) (l 13) v0 v1 v2 v3 (.pointer (some ⟨G, 4, none⟩)) (.slice (some ⟨g, 0, none⟩) ds.length c3) v6 v7 v8 v9 v10 v11 v12 V) := hide ⟨(K.pre), (K.e0), (K.e1), (K.e2), (K.e3), (K.e4), (fun _ => rfl), (K.e6), (K.e7), (K.e10), (K.e11), (K.e12), (K.bs), (K.post), (K.fin), (fun _ => rfl), (K.o7), (K.o8), (K.o13), (K.u87)⟩
        clear K hd hl
        go_wp2_with fail
        exact ⟨rfl, FiRJ.mk (unhide HK) (by kernel_rfl)⟩
      · simp at ho
        subst ho
        have HK : Hid (FiR w base G g p a1 a2 c1 c2 c3 ts cs ds nh nc nd x (l 0) (l 1) (l 2) (l 3) (l 4) (l 5) true (l 7) (l 8) (l 9) (l 10) (l 11) (l 12) (l 13) v0 v1 v2 v3 v4 v5 (.int .i64 (p : Int)) v7 v8 v9 v10 v11 v12 V) := hide ⟨(K.pre), (K.e0), (K.e1), (K.e2), (K.e3), (K.e4), (K.e5), (fun _ => rfl), (K.e7), (K.e10), (K.e11), (K.e12), (K.bs), (K.post), (K.fin), (K.o5), (K.o7), (K.o8), (K.o13), (K.u87)⟩
        clear K hd hl
        go_wp2_with fail
        exact ⟨rfl, FiRJ.mk (unhide HK) (by kernel_rfl)⟩
      · simp at ho
        subst ho
        have n9 : l 9 = false := by cases c : l 9; rfl; have z := K.o7 c; rw [hl] at z; cases z
        obtain ⟨ph, pb, pw, pz⟩ := K.pre n9
        have yy0 : V.cell? ⟨w.heap.size, 0, none⟩ = some (.string x.n) := pb.c 0 (by simp)
        have yy1 : V.cell? ⟨w.heap.size, 1, none⟩ = some (.int .i64 x.i) := pb.c 1 (by simp)
        have yy2 : V.cell? ⟨w.heap.size, 2, none⟩ = some (.int .i64 x.s) := pb.c 2 (by simp)
        clear ph pb pw pz n9
        have HK : Hid (FiR w base G g p a1 a2 c1 c2 c3 ts cs ds nh nc nd x (l 0) (l 1) (l 2) (l 3) (l 4) (l 5) (l 6) true (l 8) (l 9) (l 10) (l 11) (l 12) (l 13) v0 v1 v2 v3 v4 v5 v6 (.agg #[.string x.n, .int .i64 x.i, .int .i64 x.s]) v8 v9 v10 v11 v12 V) := hide ⟨(K.pre), (K.e0), (K.e1), (K.e2), (K.e3), (K.e4), (K.e5), (K.e6), (fun _ => rfl), (K.e10), (K.e11), (K.e12), (K.bs), (K.post), (K.fin), (K.o5), (fun _ => rfl), (K.o8), (K.o13), (fun _ => rfl)⟩
        clear K hd hl
        go_wp2_with fail
        exact ⟨rfl, FiRJ.mk (unhide HK) (by kernel_rfl)⟩
      · simp at ho
        subst ho
        have d7 : l 7 = true := hd ⟨7, .data⟩ (by simp) rfl
        have x7 := K.e7 d7
        subst x7
        have n9 : l 9 = false := by cases c : l 9; rfl; have z := K.o8 c; rw [hl] at z; cases z
        obtain ⟨ph, pb, pw, pz⟩ := K.pre n9
        have HK : Hid (FiR w base G g p a1 a2 c1 c2 c3 ts cs ds nh nc nd x (l 0) (l 1) (l 2) (l 3) (l 4) (l 5) (l 6) (l 7) true (l 9) (l 10) (l 11) (l 12) (l 13) v0 v1 v2 v3 v4 v5 v6 (.agg #[.string x.n, .int .i64 x.i, .int .i64 x.s]) (.slice (some ⟨V.heap.size, 0, none⟩) 1 1) v9 v10 v11 v12 (V.alloc (Obj.cells #[.string x.n, .int .i64 x.i, .int .i64 x.s] 94))) := hide ⟨(fun _ => ⟨ph.below (bel1 _), pb.alloc _, pw.alloc _, by simp; omega⟩), (K.e0), (K.e1), (K.e2), (K.e3), (K.e4), (K.e5), (K.e6), (K.e7), (K.e10), (K.e11), (K.e12), (fun _ _ => ⟨_, rfl, pz, by show (V.heap.push _)[V.heap.size]? = _; simp⟩), (fun h _ => by have h : l 9 = true := h; rw [n9] at h; cases h), (fun h => by have z := K.o13 h; rw [n9] at z; cases z), (K.o5), (K.o7), (fun _ => rfl), (K.o13), (fun _ => d7)⟩
        clear K hd hl ph pb pw pz n9
        go_wp2_with fail
        exact ⟨rfl, FiRJ.mk (unhide HK) (by kernel_rfl)⟩
      · simp at ho
        subst ho
        have d5 : l 5 = true := hd ⟨5, .data⟩ (by simp) rfl
        have x5 := K.e5 d5
        subst x5
        have d6 : l 6 = true := hd ⟨6, .data⟩ (by simp) rfl
        have x6 := K.e6 d6
        subst x6
        have d8 : l 8 = true := hd ⟨8, .data⟩ (by simp) rfl
        obtain ⟨ph, pb, pw, pz⟩ := K.pre hl
        obtain ⟨vb, xb, vlt, vobj⟩ := K.bs d8 hl
        subst xb
        have gl : g < w.heap.size := unhide GL
        have CI := hide (insD_is base g ds.length c3 vb p ds x V ph.own.o3 rfl (by omega) ph.size (unhide PL) (by omega) vobj)
        have HP := hide ph
        have HPW := hide pw
        have HK0 := hide K
        clear K hd ph pb pw pz vobj vlt gl
        go_wp2_with (go_at_call 86; refine (unhide CI).mono ?_; rintro e V2 ⟨g', c', rfl, oc, gr⟩; have HK : Hid (FiR w base G g p a1 a2 c1 c2 c3 ts cs ds nh nc nd x (l 0) (l 1) (l 2) (l 3) (l 4) (l 5) (l 6) (l 7) (l 8) true (l 10) (l 11) (l 12) (l 13) v0 v1 v2 v3 v4 (.slice (some ⟨g, 0, none⟩) ds.length c3) (.int .i64 (p : Int)) v7 (.slice (some ⟨vb, 0, none⟩) 1 1) (.slice (some ⟨g', 0, none⟩) (ds.length + 1) c') v10 v11 v12 V2) := hide ⟨(fun h => by cases h), ((unhide HK0).e0), ((unhide HK0).e1), ((unhide HK0).e2), ((unhide HK0).e3), ((unhide HK0).e4), ((unhide HK0).e5), ((unhide HK0).e6), ((unhide HK0).e7), ((unhide HK0).e10), ((unhide HK0).e11), ((unhide HK0).e12), (fun _ h => by cases h), (fun _ _ => ⟨g', c', V, rfl, unhide HP, unhide HPW, gr, oc⟩), (fun h => by have z := (unhide HK0).o13 h; rw [hl] at z; cases z), (fun _ => d5), (fun _ => (unhide HK0).u87 d8), (fun _ => d8), (fun _ => rfl), ((unhide HK0).u87)⟩; clear oc gr)
        exact ⟨rfl, FiRJ.mk (unhide HK) (by kernel_rfl)⟩
      · simp at ho
        subst ho
        have d0 : l 0 = true := hd ⟨0, .data⟩ (by simp) rfl
        have x0 := K.e0 d0
        subst x0
        have HK : Hid (FiR w base G g p a1 a2 c1 c2 c3 ts cs ds nh nc nd x (l 0) (l 1) (l 2) (l 3) (l 4) (l 5) (l 6) (l 7) (l 8) (l 9) true (l 11) (l 12) (l 13) (.pointer (some ⟨G, 0, none⟩)) v1 v2 v3 v4 v5 v6 v7 v8 v9 (.pointer (some ⟨G, 0, none⟩)) v11 v12 V) := hide ⟨(K.pre), (K.e0), (K.e1), (K.e2), (K.e3), (K.e4), (K.e5), (K.e6), (K.e7), (fun _ => rfl), (K.e11), (K.e12), (K.bs), (K.post), (K.fin), (K.o5), (K.o7), (K.o8), (K.o13), (K.u87)⟩
        clear K hd hl
        go_wp2_with fail
        exact ⟨rfl, FiRJ.mk (unhide HK) (by kernel_rfl)⟩
      · simp at ho
        subst ho
        have d10 : l 10 = true := hd ⟨10, .data⟩ (by simp) rfl
        have x10 := K.e10 d10
        subst x10
        have HK : Hid (FiR w base G g p a1 a2 c1 c2 c3 ts cs ds nh nc nd x (l 0) (l 1) (l 2) (l 3) (l 4) (l 5) (l 6) (l 7) (l 8) (l 9) (l 10) true (l 12) (l 13) v0 v1 v2 v3 v4 v5 v6 v7 v8 v9 (.pointer (some ⟨G, 0, none⟩)) (.pointer (some ⟨G, 2, none⟩)) v12 V) := hide ⟨(K.pre), (K.e0), (K.e1), (K.e2), (K.e3), (K.e4), (K.e5), (K.e6), (K.e7), (K.e10), (fun _ => rfl), (K.e12), (K.bs), (K.post), (K.fin), (K.o5), (K.o7), (K.o8), (K.o13), (K.u87)⟩
        clear K hd hl
        go_wp2_with fail
        exact ⟨rfl, FiRJ.mk (unhide HK) (by kernel_rfl)⟩
      · simp at ho
        subst ho
        have d11 : l 11 = true := hd ⟨11, .data⟩ (by simp) rfl
        have x11 := K.e11 d11
        subst x11
        have HK : Hid (FiR w base G g p a1 a2 c1 c2 c3 ts cs ds nh nc nd x (l 0) (l 1) (l 2) (l 3) (l 4) (l 5) (l 6) (l 7) (l 8) (l 9) (l 10) (l 11) true (l 13) v0 v1 v2 v3 v4 v5 v6 v7 v8 v9 v10 (.pointer (some ⟨G, 2, none⟩)) (.pointer (some ⟨G, 4, none⟩)) V) := hide ⟨(K.pre), (K.e0), (K.e1), (K.e2), (K.e3), (K.e4), (K.e5), (K.e6), (K.e7), (K.e10), (K.e11), (fun _ => rfl), (K.bs), (K.post), (K.fin), (K.o5), (K.o7), (K.o8), (K.o13), (K.u87)⟩
        clear K hd hl
        go_wp2_with fail
        exact ⟨rfl, FiRJ.mk (unhide HK) (by kernel_rfl)⟩
      · simp at ho
        subst ho
        have d12 : l 12 = true := hd ⟨12, .data⟩ (by simp) rfl
        have x12 := K.e12 d12
        subst x12
        have d9 : l 9 = true := hd ⟨9, .data⟩ (by simp) rfl
        have d9' : l 9 = true := d9
        obtain ⟨g', c', w0, xv, ph, pw, gr, oc⟩ := K.post d9 hl
        subst xv
        have il : (insL ds p x).length = ds.length + 1 := insL_len (unhide PL)
        have ng : g' ≠ G := ph.apart gr oc il (by omega)
        have b' := ph.blk.apart gr (fun e => ph.n3 e.symm)
        have yy : V.cell? ⟨G, 4, none⟩ = some (.slice (some ⟨g, 0, none⟩) ds.length c3) := b'.c 4 (by simp)
        have ff : V.frozen? ⟨G, 4, none⟩ = false := b'.f 4 (by simp)
        have hx : Hg (V.setCell ⟨G, 4, none⟩ (.slice (some ⟨g', 0, none⟩) (ds.length + 1) c')) base G 1 a1 a2 (some ⟨g', 0, none⟩) c1 c2 c' ts cs (insL ds p x) nh nc nd := (by have k := ph.defects gr (a4 := some ⟨g', 0, none⟩) (c4 := c') (es := insL ds p x) (by rw [il]; exact oc) (by rw [il]; intro e; exact ng (Option.some.inj e)) (by simp); rw [il] at k; exact k)
        have bx : Aps (hz G a1 a2 (some ⟨g, 0, none⟩)) w (V.setCell ⟨G, 4, none⟩ (.slice (some ⟨g', 0, none⟩) (ds.length + 1) c')) := ((pw.grow gr (fun q hq => by cases hq; exact hz_3)).setS (p := ⟨G, 4, none⟩) hz_G _)
        have HK : Hid (FiR w base G g p a1 a2 c1 c2 c3 ts cs ds nh nc nd x (l 0) (l 1) (l 2) (l 3) (l 4) (l 5) (l 6) (l 7) (l 8) (l 9) (l 10) (l 11) (l 12) true v0 v1 v2 v3 v4 v5 v6 v7 v8 (.slice (some ⟨g', 0, none⟩) (ds.length + 1) c') v10 v11 (.pointer (some ⟨G, 4, none⟩)) (V.setCell ⟨G, 4, none⟩ (.slice (some ⟨g', 0, none⟩) (ds.length + 1) c'))) := hide ⟨(fun h => by have h : l 9 = false := h; rw [d9] at h; cases h), (K.e0), (K.e1), (K.e2), (K.e3), (K.e4), (K.e5), (K.e6), (K.e7), (K.e10), (K.e11), (K.e12), (fun _ h => by have h : l 9 = false := h; rw [d9] at h; cases h), (fun _ h => by cases h), (fun _ => ⟨g', c', hx, bx⟩), (K.o5), (K.o7), (K.o8), (fun _ => d9), (K.u87)⟩
        clear K hd hl ph pw gr oc b' hx bx il ng
        go_wp2_with fail
        exact ⟨rfl, FiRJ.mk (unhide HK) (by kernel_rfl)⟩
    rintro l a V hall ⟨v0, v1, v2, v3, v4, v5, v6, v7, v8, v9, v10, v11, v12, rfl, K⟩
    obtain ⟨g', c', hx, bx⟩ := K.fin (hall 13 (by decide))
    have HX := hide hx
    have BX := hide bx
    clear K hall hx bx
    go_wp2_with fail
    go_ret
    exact ⟨rfl, ⟨_, _, _, _, _, _, unhide HX⟩, unhide BX⟩

end Go.Proofs.YticdccdkjepifaaGreat
