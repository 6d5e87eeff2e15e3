/-
  What the model's Release answers: the plain answer, at every fleet; nothing that was there is written.
-/
import Derived.Test.YticdccdkjepifaaGreatMRlIx
import Derived.Test.YticdccdkjepifaaGreatRlImp
import Derived.Test.YticdccdkjepifaaGreatFfSpec
import Derived.Test.YticdccdkjepifaaGreatMD9Imp
import Derived.Test.YticdccdkjepifaaGreatRegInv
import Derived.LoopN
import Derived.Deep.Cut
namespace Go.Proofs.YticdccdkjepifaaGreat
open Go Go.RowKit

theorem ixE_at_all {α : Type} [Inhabited α] {P : α → Bool} {xs : List α} (h : ixE P xs = -1) (j : Nat) (hj : j < xs.length) : P (elAt xs j) = false := by
  rcases ixE_cases P xs with ⟨_, a⟩ | ⟨k, _, a, _⟩
  · exact a j hj
  · omega
structure RsR (w : World) (V0 : World) (nh : Int) (nc : Int) (nd : Int) (H : Int) (C : Int) (E : Int) (a2 : Option Addr) (a3 : Option Addr) (bb : Nat) (off : Nat) (c1 : Nat) (l2 : Nat) (c2 : Nat) (l3 : Nat) (c3 : Nat) (k : Nat) (ts : List Ts) (x : Ts) (D : Bool) (B : Bool) (t0 t1 t2 t3 t4 t5 t6 t7 t8 t9 t10 t11 t12 t13 t14 t15 : Bool) (v0 v1 v2 v3 v4 v5 v6 v7 v8 v9 v10 v11 v12 v13 v15 : Value) (W : World) : Prop where
  bel : Below w.heap.size w W
  sz : V0.heap.size ≤ W.heap.size
  ka : Blk W (w.heap.size) [.slice (some ⟨bb, off, none⟩) ts.length c1, .slice a2 l2 c2, .slice a3 l3 c3, .int .i64 nh, .int .i64 nc, .int .i64 nd]
  e0 : t0 = true → v0 = .pointer (some ⟨w.heap.size, 0, none⟩)
  e1 : t1 = true → v1 = .slice (some ⟨bb, off, none⟩) ts.length c1
  e2 : t2 = true → v2 = .int .i64 (k : Int)
  e3 : t3 = true → v3 = .pointer (some ⟨bb, off + k * 7, none⟩)
  e4 : t4 = true → v4 = .agg #[.string x.nm, .int .i64 x.h, .int .i64 x.c, .int .i64 x.d, .int .i64 x.dh, .int .i64 x.dc, .int .i64 x.dd]
  e5 : t5 = true → v5 = .pointer (some ⟨w.heap.size, 3, none⟩)
  e6 : t6 = true → v6 = .agg #[.int .i64 nh, .int .i64 nc, .int .i64 nd]
  e7 : t7 = true → v7 = .tuple #[.bool D, .agg #[.int .i64 H, .int .i64 C, .int .i64 E], .bool B]
  e8 : t8 = true → v8 = .tuple #[.bool D, .agg #[.int .i64 H, .int .i64 C, .int .i64 E], .bool B]
  e9 : t9 = true → v9 = .bool D
  e10 : t10 = true → v10 = .agg #[.int .i64 H, .int .i64 C, .int .i64 E]
  e11 : t11 = true → v11 = .bool B
  e12 : t12 = true → ∃ P, v12 = .pointer (some ⟨P, 0, none⟩) ∧ V0.heap.size ≤ P ∧ Blk W P (bif t14 then [.int .i64 H, .int .i64 C, .int .i64 E] else [.int .i64 0, .int .i64 0, .int .i64 0])
  e13 : t13 = true → v13 = .bool D
  n14 : t14 = true → t12 = true
  e15 : t15 = true → v15 = .bool B
theorem RsR.below {w : World} {V0 : World} {nh : Int} {nc : Int} {nd : Int} {H : Int} {C : Int} {E : Int} {a2 : Option Addr} {a3 : Option Addr} {bb : Nat} {off : Nat} {c1 : Nat} {l2 : Nat} {c2 : Nat} {l3 : Nat} {c3 : Nat} {k : Nat} {ts : List Ts} {x : Ts} {D : Bool} {B : Bool} {t0 t1 t2 t3 t4 t5 t6 t7 t8 t9 t10 t11 t12 t13 t14 t15 : Bool} {v0 v1 v2 v3 v4 v5 v6 v7 v8 v9 v10 v11 v12 v13 v15 : Value} {W W' : World} (K : RsR w V0 nh nc nd H C E a2 a3 bb off c1 l2 c2 l3 c3 k ts x D B t0 t1 t2 t3 t4 t5 t6 t7 t8 t9 t10 t11 t12 t13 t14 t15 v0 v1 v2 v3 v4 v5 v6 v7 v8 v9 v10 v11 v12 v13 v15 W) (hbw : Below W.heap.size W W') : RsR w V0 nh nc nd H C E a2 a3 bb off c1 l2 c2 l3 c3 k ts x D B t0 t1 t2 t3 t4 t5 t6 t7 t8 t9 t10 t11 t12 t13 t14 t15 v0 v1 v2 v3 v4 v5 v6 v7 v8 v9 v10 v11 v12 v13 v15 W' :=
  ⟨K.bel.trans (hbw.mono K.bel.size), Nat.le_trans K.sz hbw.size, K.ka.below hbw, K.e0, K.e1, K.e2, K.e3, K.e4, K.e5, K.e6, K.e7, K.e8, K.e9, K.e10, K.e11, fun h => by obtain ⟨P, x1, x2, x3⟩ := K.e12 h; exact ⟨P, x1, x2, x3.below hbw⟩, K.e13, K.n14, K.e15⟩
def RsRJ (w : World) (V0 : World) (nh : Int) (nc : Int) (nd : Int) (H : Int) (C : Int) (E : Int) (a2 : Option Addr) (a3 : Option Addr) (bb : Nat) (off : Nat) (c1 : Nat) (l2 : Nat) (c2 : Nat) (l3 : Nat) (c3 : Nat) (k : Nat) (ts : List Ts) (x : Ts) (D : Bool) (B : Bool) (A0 : Act) (l : Nat → Bool) (a : Act) (V : World) : Prop := ∃ (v0 v1 v2 v3 v4 v5 v6 v7 v8 v9 v10 v11 v12 v13 v15 : Value), a = (((((((((((((((A0.put (some 24) v0).put (some 25) v1).put (some 26) v2).put (some 27) v3).put (some 28) v4).put (some 29) v5).put (some 30) v6).put (some 31) v7).put (some 23) v8).put (some 32) v9).put (some 33) v10).put (some 34) v11).put (some 6) v12).put (some 5) v13).put (some 7) v15) ∧ RsR w V0 nh nc nd H C E a2 a3 bb off c1 l2 c2 l3 c3 k ts x D B (l 0) (l 1) (l 2) (l 3) (l 4) (l 5) (l 6) (l 7) (l 8) (l 9) (l 10) (l 11) (l 12) (l 13) (l 14) (l 15) v0 v1 v2 v3 v4 v5 v6 v7 v8 v9 v10 v11 v12 v13 v15 V
theorem RsRJ.mk {w : World} {V0 : World} {nh : Int} {nc : Int} {nd : Int} {H : Int} {C : Int} {E : Int} {a2 : Option Addr} {a3 : Option Addr} {bb : Nat} {off : Nat} {c1 : Nat} {l2 : Nat} {c2 : Nat} {l3 : Nat} {c3 : Nat} {k : Nat} {ts : List Ts} {x : Ts} {D : Bool} {B : Bool} {A0 : Act} {l : Nat → Bool} {a : Act} {V : World} {v0 v1 v2 v3 v4 v5 v6 v7 v8 v9 v10 v11 v12 v13 v15 : Value} (K : RsR w V0 nh nc nd H C E a2 a3 bb off c1 l2 c2 l3 c3 k ts x D B (l 0) (l 1) (l 2) (l 3) (l 4) (l 5) (l 6) (l 7) (l 8) (l 9) (l 10) (l 11) (l 12) (l 13) (l 14) (l 15) v0 v1 v2 v3 v4 v5 v6 v7 v8 v9 v10 v11 v12 v13 v15 V) (hq : a = (((((((((((((((A0.put (some 24) v0).put (some 25) v1).put (some 26) v2).put (some 27) v3).put (some 28) v4).put (some 29) v5).put (some 30) v6).put (some 31) v7).put (some 23) v8).put (some 32) v9).put (some 33) v10).put (some 34) v11).put (some 6) v12).put (some 5) v13).put (some 7) v15)) : RsRJ w V0 nh nc nd H C E a2 a3 bb off c1 l2 c2 l3 c3 k ts x D B A0 l a V := ⟨v0, v1, v2, v3, v4, v5, v6, v7, v8, v9, v10, v11, v12, v13, v15, hq, K⟩
set_option maxRecDepth 20000 in
set_option maxHeartbeats 8000000 in
theorem specRelease_any (nh nc nd : Int) (a1 a2 a3 : Option Addr) (l1 c1 l2 c2 l3 c3 : Nat) (ts : List Ts) (cs : List Cr) (ds : List Df) (w : World) (hr : FlIn w a1 a2 a3 l1 l2 l3 ts cs ds) (ft : ∀ i, fitT (elAt ts i).nm) (fc : ∀ i, fitT (elAt cs i).n) (fd : ∀ i, fitT (elAt ds i).n) :
    Calls Tryz.prog 71 #[.agg #[.slice a1 l1 c1, .slice a2 l2 c2, .slice a3 l3 c3, .int .i64 nh, .int .i64 nc, .int .i64 nd]] w fun e w' => e = .returned (.tuple #[.int .i64 (rlR ⟨ts, cs, ds, nh, nc, nd⟩).1, .string (rlR ⟨ts, cs, ds, nh, nc, nd⟩).2]) ∧ Below w.heap.size w w' := by
  have C1 : Hid (∀ V, Below w.heap.size w V → Calls Tryz.prog 48 #[.agg #[.slice a1 l1 c1, .slice a2 l2 c2, .slice a3 l3 c3, .int .i64 nh, .int .i64 nc, .int .i64 nd]] V fun e w' => e = .returned (.bool (flB ⟨ts, cs, ds, nh, nc, nd⟩)) ∧ Below V.heap.size V w') := hide (fun V b => specFleetOk_any nh nc nd a1 a2 a3 l1 c1 l2 c2 l3 c3 ts cs ds V (hr.below b) ft fc fd)
  have HRI := hide hr
  have z1 := hr.r1.len_eq
  have z2 := hr.r2.len_eq
  have z3 := hr.r3.len_eq
  have m1 := hr.r1.small
  have m2 := hr.r2.small
  have m3 := hr.r3.small
  have HFts := hide ft
  subst z1
  subst z2
  subst z3
  have HRts := hide hr.r1
  clear hr ft fc fd
  obtain ⟨W, hW⟩ : ∃ W, W = w.alloc (Obj.cells #[.slice a1 ts.length c1, .slice a2 cs.length c2, .slice a3 ds.length c3, .int .i64 nh, .int .i64 nc, .int .i64 nd] 37) := ⟨_, rfl⟩
  have K0 : Hid (Blk W w.heap.size [.slice a1 ts.length c1, .slice a2 cs.length c2, .slice a3 ds.length c3, .int .i64 nh, .int .i64 nc, .int .i64 nd]) := hide (by rw [hW]; exact Blk.new _ _)
  have B0 : Hid (Below w.heap.size w W) := hide (by rw [hW]; exact bel1 _)
  have HW := hide hW
  clear hW
  cases q0 : flB ⟨ts, cs, ds, nh, nc, nd⟩ with
  | false =>
    have HE := hide (rl_bad q0)
    rw [q0] at C1
    clear q0
    go_enter Tryz.func71, Tryz.ntmps71
    go_wp2_with fail
    rw [← unhide HW]
    clear HW
    obtain ⟨ιfW, fW, _, hb, hall⟩ := belClass W
    have HB := hide hb
    have HA := hide hall
    have c00 : ∀ z, (fW z).cell? ⟨w.heap.size, 0, none⟩ = some (.slice a1 ts.length c1) := fun z => ((unhide K0).below (hb z)).c 0 (by simp)
    have c01 : ∀ z, (fW z).cell? ⟨w.heap.size, 1, none⟩ = some (.slice a2 cs.length c2) := fun z => ((unhide K0).below (hb z)).c 1 (by simp)
    have c02 : ∀ z, (fW z).cell? ⟨w.heap.size, 2, none⟩ = some (.slice a3 ds.length c3) := fun z => ((unhide K0).below (hb z)).c 2 (by simp)
    have c03 : ∀ z, (fW z).cell? ⟨w.heap.size, 3, none⟩ = some (.int .i64 nh) := fun z => ((unhide K0).below (hb z)).c 3 (by simp)
    have c04 : ∀ z, (fW z).cell? ⟨w.heap.size, 4, none⟩ = some (.int .i64 nc) := fun z => ((unhide K0).below (hb z)).c 4 (by simp)
    have c05 : ∀ z, (fW z).cell? ⟨w.heap.size, 5, none⟩ = some (.int .i64 nd) := fun z => ((unhide K0).below (hb z)).c 5 (by simp)
    clear hb hall
    obtain ⟨x0, h0⟩ := (unhide HA) W (Below.refl _ _)
    rw [h0]
    clear h0
    go_wp2_with fail
    refine (belQ (unhide HB) (unhide HA) (unhide C1 _ ((unhide B0).trans ((unhide HB _).mono (unhide B0).size)))).mono ?_
    rintro e _ ⟨rfl, y, rfl⟩
    go_wp2_with fail
    go_ret2
    exact ⟨ret_rl (unhide HE), ((unhide B0).trans ((unhide HB _).mono (unhide B0).size))⟩
  | true =>
    obtain ⟨f1, f2, f3, f4⟩ := flB_facts q0
    obtain ⟨g1, g2, g3⟩ := ckB_facts f1
    obtain ⟨h1, h2, _⟩ := listI_facts f4
    simp only at g1 g2 g3 h1 h2
    have HDS : Hid (∀ i, i < ds.length → 0 ≤ (elAt ds i).s ∧ (elAt ds i).s ≤ 1000000) := hide (fun i hi => by
      have := h2 i hi
      have k : (nameB (elAt ds i).n && inB (elAt ds i).i 1 1000000 && inB (elAt ds i).s 0 nd) = true := this
      simp only [Bool.and_eq_true] at k
      have k2 : 0 ≤ (elAt ds i).s ∧ (elAt ds i).s ≤ nd := of_decide_eq_true k.2
      omega)
    have Q0 := hide q0
    rw [q0] at C1
    clear q0 f1 f2 f3 f4 h2
    go_enter Tryz.func71, Tryz.ntmps71
    go_wp2_with fail
    rw [← unhide HW]
    clear HW
    obtain ⟨ιfW, fW, _, hb, hall⟩ := belClass W
    have HB := hide hb
    have HA := hide hall
    have c00 : ∀ z, (fW z).cell? ⟨w.heap.size, 0, none⟩ = some (.slice a1 ts.length c1) := fun z => ((unhide K0).below (hb z)).c 0 (by simp)
    have c01 : ∀ z, (fW z).cell? ⟨w.heap.size, 1, none⟩ = some (.slice a2 cs.length c2) := fun z => ((unhide K0).below (hb z)).c 1 (by simp)
    have c02 : ∀ z, (fW z).cell? ⟨w.heap.size, 2, none⟩ = some (.slice a3 ds.length c3) := fun z => ((unhide K0).below (hb z)).c 2 (by simp)
    have c03 : ∀ z, (fW z).cell? ⟨w.heap.size, 3, none⟩ = some (.int .i64 nh) := fun z => ((unhide K0).below (hb z)).c 3 (by simp)
    have c04 : ∀ z, (fW z).cell? ⟨w.heap.size, 4, none⟩ = some (.int .i64 nc) := fun z => ((unhide K0).below (hb z)).c 4 (by simp)
    have c05 : ∀ z, (fW z).cell? ⟨w.heap.size, 5, none⟩ = some (.int .i64 nd) := fun z => ((unhide K0).below (hb z)).c 5 (by simp)
    clear hb hall
    obtain ⟨x0, h0⟩ := (unhide HA) W (Below.refl _ _)
    rw [h0]
    clear h0
    go_wp2_with fail
    refine (belQ (unhide HB) (unhide HA) (unhide C1 _ ((unhide B0).trans ((unhide HB _).mono (unhide B0).size)))).mono ?_
    rintro e _ ⟨rfl, y, rfl⟩
    clear c00 c01 c02 c03 c04 c05
    have t0 : ∀ z, (fW z).cell? ⟨w.heap.size, 0, none⟩ = some (.slice a1 ts.length c1) := fun z => ((unhide K0).below (unhide HB z)).c 0 (by simp)
    go_wp2_with fail
    go_loopw [4] (fun i wr => ∃ k : Nat, i = .int .i64 k ∧ k ≤ ts.length ∧ Hid (Blk wr w.heap.size [.slice a1 ts.length c1, .slice a2 cs.length c2, .slice a3 ds.length c3, .int .i64 nh, .int .i64 nc, .int .i64 nd]) ∧ Hid (Below w.heap.size w wr) ∧ Hid (∀ j, j < k → duT ⟨ts, cs, ds, nh, nc, nd⟩ (elAt ts j) = false)) (fun i _ => ts.length - (intOf i).toNat)
    case atStart => exact ⟨0, rfl, Nat.zero_le _, hide ((unhide K0).below (unhide HB _)), hide ((unhide B0).trans ((unhide HB _).mono (unhide B0).size)), hide (fun j hj => by omega)⟩
    case round =>
      clear C1 K0 B0 HA HB t0
      obtain ⟨k, rfl, hk, KB, BW, AL⟩ := hrel
      by_cases hlt : k < ts.length
      · obtain ⟨bb, off, rfl, hc⟩ := (unhide HRts).at_ k hlt
        have SK0 : w.cell? ⟨bb, off + k * 7, none⟩ = some (.string (elAt ts k).nm) := hc 0 (by omega)
        have SK1 : w.cell? ⟨bb, off + k * 7 + 1, none⟩ = some (.int .i64 (elAt ts k).h) := hc 1 (by omega)
        have SK2 : w.cell? ⟨bb, off + k * 7 + 2, none⟩ = some (.int .i64 (elAt ts k).c) := hc 2 (by omega)
        have SK3 : w.cell? ⟨bb, off + k * 7 + 3, none⟩ = some (.int .i64 (elAt ts k).d) := hc 3 (by omega)
        have SK4 : w.cell? ⟨bb, off + k * 7 + 4, none⟩ = some (.int .i64 (elAt ts k).dh) := hc 4 (by omega)
        have SK5 : w.cell? ⟨bb, off + k * 7 + 5, none⟩ = some (.int .i64 (elAt ts k).dc) := hc 5 (by omega)
        have SK6 : w.cell? ⟨bb, off + k * 7 + 6, none⟩ = some (.int .i64 (elAt ts k).dd) := hc 6 (by omega)
        obtain ⟨x, hx⟩ : ∃ x, elAt ts k = x := ⟨_, rfl⟩
        rw [hx] at SK0 SK1 SK2 SK3 SK4 SK5 SK6
        have HX := hide hx
        have hfx : fitT x.nm := by rw [← hx]; exact unhide HFts k
        clear hc hx
        obtain ⟨D, hD⟩ : ∃ D, d9D x nh nc nd = D := ⟨_, rfl⟩
        obtain ⟨H, hH⟩ : ∃ D, d9H x nh nc nd = D := ⟨_, rfl⟩
        obtain ⟨C, hC⟩ : ∃ D, d9C x nh nc nd = D := ⟨_, rfl⟩
        obtain ⟨E, hE⟩ : ∃ D, d9E x nh nc nd = D := ⟨_, rfl⟩
        obtain ⟨B, hB⟩ : ∃ D, d9B x nh nc nd = D := ⟨_, rfl⟩
        have CD : Hid (∀ V, Calls Tryz.prog 89 #[.agg #[.string x.nm, .int .i64 x.h, .int .i64 x.c, .int .i64 x.d, .int .i64 x.dh, .int .i64 x.dc, .int .i64 x.dd], .agg #[.int .i64 nh, .int .i64 nc, .int .i64 nd]] V fun e w' => e = .returned (.tuple #[.bool D, .agg #[.int .i64 H, .int .i64 C, .int .i64 E], .bool B]) ∧ Below V.heap.size V w') := hide (fun V => by rw [← hD, ← hH, ← hC, ← hE, ← hB]; exact specDue19_any x.nm x.h x.c x.d x.dh x.dc x.dd nh nc nd V hfx)
        have HD := hide hD
        have HC := hide hC
        clear hD hH hC hE hB hfx
        have SK0 := hide SK0
        have SK1 := hide SK1
        have SK2 := hide SK2
        have SK3 := hide SK3
        have SK4 := hide SK4
        have SK5 := hide SK5
        have SK6 := hide SK6
        have LB : Hid (w.heap.size < wr.heap.size) := hide (unhide KB).lt
        have LW : Hid (w.heap.size ≤ wr.heap.size) := hide (unhide BW).size
        have hi1 : (k : Int) < (ts.length : Int) := by omega
        have hi0 : (0 : Int) ≤ (k : Int) := by omega
        have g0 : wr.cell? ⟨w.heap.size, 0, none⟩ = some (.slice (some ⟨bb, off, none⟩) ts.length c1) := (unhide KB).c 0 (by simp)
        go_wp2_with fail
        clear g0
        refine wp_region_flagsA (by kernel_rfl) (by kernel_rfl) (RsRJ w wr nh nc nd H C E a2 a3 bb off c1 cs.length c2 ds.length c3 k ts x D B) ?_ ?_ ?_
        · exact RsRJ.mk (v0 := u24) (v1 := u25) (v2 := u26) (v3 := u27) (v4 := u28) (v5 := u29) (v6 := u30) (v7 := u31) (v8 := u23) (v9 := u32) (v10 := u33) (v11 := u34) (v12 := u6) (v13 := u5) (v15 := u7) ⟨(unhide BW).trans (bel0d' 1), Nat.le_refl _, ((unhide KB).below (bel0d 1) : _), (fun h => by cases h), (fun h => by cases h), (fun h => by cases h), (fun h => by cases h), (fun h => by cases h), (fun h => by cases h), (fun h => by cases h), (fun h => by cases h), (fun h => by cases h), (fun h => by cases h), (fun h => by cases h), (fun h => by cases h), (fun h => by cases h), (fun h => by cases h), (fun h => by cases h), (fun h => by cases h)⟩ (by kernel_rfl)
        rotate_left 1
        · rintro l a V i o ho hl hd ⟨v0, v1, v2, v3, v4, v5, v6, v7, v8, v9, v10, v11, v12, v13, v15, rfl, K⟩
          have hi : i < 16 := (Array.getElem?_eq_some_iff.1 ho).1
          rcases (show i = 0 ∨ i = 1 ∨ i = 2 ∨ i = 3 ∨ i = 4 ∨ i = 5 ∨ i = 6 ∨ i = 7 ∨ i = 8 ∨ i = 9 ∨ i = 10 ∨ i = 11 ∨ i = 12 ∨ i = 13 ∨ i = 14 ∨ i = 15 from by omega) with rfl | rfl | rfl | rfl | rfl | rfl | rfl | rfl | rfl | rfl | rfl | rfl | rfl | rfl | rfl | rfl
          · simp at ho
            subst ho
            have HK : Hid (RsR w wr nh nc nd H C E a2 a3 bb off c1 cs.length c2 ds.length c3 k ts x D B true (l 1) (l 2) (l 3) (l 4) (l 5) (l 6) (l 7) (l 8) (l 9) (l 10) (l 11) (l 12) (l 13) (l 14) (l 15) (.pointer (some ⟨w.heap.size, 0, none⟩)) v1 v2 v3 v4 v5 v6 v7 v8 v9 v10 v11 v12 v13 v15 V) := hide ⟨(K.bel), (K.sz), (K.ka), (fun _ => rfl), (K.e1), (K.e2), (K.e3), (K.e4), (K.e5), (K.e6), (K.e7), (K.e8), (K.e9), (K.e10), (K.e11), (K.e12), (K.e13), (K.n14), (K.e15)⟩
            clear K hd hl
            go_wp2_with fail
            exact ⟨rfl, RsRJ.mk (unhide HK) (by kernel_rfl)⟩
          · simp at ho
            subst ho
            have d0 : l 0 = true := hd ⟨0, .data⟩ (by simp) rfl
            have x0 := K.e0 d0
            subst x0
            have yy0 : V.cell? ⟨w.heap.size, 0, none⟩ = some (.slice (some ⟨bb, off, none⟩) ts.length c1) := K.ka.c 0 (by simp)
            have HK : Hid (RsR w wr nh nc nd H C E a2 a3 bb off c1 cs.length c2 ds.length c3 k ts x D B (l 0) true (l 2) (l 3) (l 4) (l 5) (l 6) (l 7) (l 8) (l 9) (l 10) (l 11) (l 12) (l 13) (l 14) (l 15) (.pointer (some ⟨w.heap.size, 0, none⟩)) (.slice (some ⟨bb, off, none⟩) ts.length c1) v2 v3 v4 v5 v6 v7 v8 v9 v10 v11 v12 v13 v15 V) := hide ⟨(K.bel), (K.sz), (K.ka), (K.e0), (fun _ => rfl), (K.e2), (K.e3), (K.e4), (K.e5), (K.e6), (K.e7), (K.e8), (K.e9), (K.e10), (K.e11), (K.e12), (K.e13), (K.n14), (K.e15)⟩
            clear K hd hl
            go_wp2_with fail
            exact ⟨rfl, RsRJ.mk (unhide HK) (by kernel_rfl)⟩
          · simp at ho
            subst ho
            have HK : Hid (RsR w wr nh nc nd H C E a2 a3 bb off c1 cs.length c2 ds.length c3 k ts x D B (l 0) (l 1) true (l 3) (l 4) (l 5) (l 6) (l 7) (l 8) (l 9) (l 10) (l 11) (l 12) (l 13) (l 14) (l 15) v0 v1 (.int .i64 (k : Int)) v3 v4 v5 v6 v7 v8 v9 v10 v11 v12 v13 v15 V) := hide ⟨(K.bel), (K.sz), (K.ka), (K.e0), (K.e1), (fun _ => rfl), (K.e3), (K.e4), (K.e5), (K.e6), (K.e7), (K.e8), (K.e9), (K.e10), (K.e11), (K.e12), (K.e13), (K.n14), (K.e15)⟩
            clear K hd hl
            go_wp2_with fail
            exact ⟨rfl, RsRJ.mk (unhide HK) (by kernel_rfl)⟩
          · simp at ho
            subst ho
            have d1 : l 1 = true := hd ⟨1, .data⟩ (by simp) rfl
            have x1 := K.e1 d1
            subst x1
            have d2 : l 2 = true := hd ⟨2, .data⟩ (by simp) rfl
            have x2 := K.e2 d2
            subst x2
            have HK : Hid (RsR w wr nh nc nd H C E a2 a3 bb off c1 cs.length c2 ds.length c3 k ts x D B (l 0) (l 1) (l 2) true (l 4) (l 5) (l 6) (l 7) (l 8) (l 9) (l 10) (l 11) (l 12) (l 13) (l 14) (l 15) v0 (.slice (some ⟨bb, off, none⟩) ts.length c1) (.int .i64 (k : Int)) (.pointer (some ⟨bb, off + k * 7, none⟩)) v4 v5 v6 v7 v8 v9 v10 v11 v12 v13 v15 V) := hide ⟨(K.bel), (K.sz), (K.ka), (K.e0), (K.e1), (K.e2), (fun _ => rfl), (K.e4), (K.e5), (K.e6), (K.e7), (K.e8), (K.e9), (K.e10), (K.e11), (K.e12), (K.e13), (K.n14), (K.e15)⟩
            clear K hd hl
            go_wp2_with fail
            exact ⟨rfl, RsRJ.mk (unhide HK) (by kernel_rfl)⟩
          · simp at ho
            subst ho
            have d3 : l 3 = true := hd ⟨3, .data⟩ (by simp) rfl
            have x3 := K.e3 d3
            subst x3
            have yy0 := (K.bel.cell (block_lt_of_cell (unhide SK0))).trans (unhide SK0)
            have yy1 := (K.bel.cell (block_lt_of_cell (unhide SK1))).trans (unhide SK1)
            have yy2 := (K.bel.cell (block_lt_of_cell (unhide SK2))).trans (unhide SK2)
            have yy3 := (K.bel.cell (block_lt_of_cell (unhide SK3))).trans (unhide SK3)
            have yy4 := (K.bel.cell (block_lt_of_cell (unhide SK4))).trans (unhide SK4)
            have yy5 := (K.bel.cell (block_lt_of_cell (unhide SK5))).trans (unhide SK5)
            have yy6 := (K.bel.cell (block_lt_of_cell (unhide SK6))).trans (unhide SK6)
            have HK : Hid (RsR w wr nh nc nd H C E a2 a3 bb off c1 cs.length c2 ds.length c3 k ts x D B (l 0) (l 1) (l 2) (l 3) true (l 5) (l 6) (l 7) (l 8) (l 9) (l 10) (l 11) (l 12) (l 13) (l 14) (l 15) v0 v1 v2 (.pointer (some ⟨bb, off + k * 7, none⟩)) (.agg #[.string x.nm, .int .i64 x.h, .int .i64 x.c, .int .i64 x.d, .int .i64 x.dh, .int .i64 x.dc, .int .i64 x.dd]) v5 v6 v7 v8 v9 v10 v11 v12 v13 v15 V) := hide ⟨(K.bel), (K.sz), (K.ka), (K.e0), (K.e1), (K.e2), (K.e3), (fun _ => rfl), (K.e5), (K.e6), (K.e7), (K.e8), (K.e9), (K.e10), (K.e11), (K.e12), (K.e13), (K.n14), (K.e15)⟩
            clear K hd hl
            go_wp2_with fail
            exact ⟨rfl, RsRJ.mk (unhide HK) (by kernel_rfl)⟩
          · simp at ho
            subst ho
            have HK : Hid (RsR w wr nh nc nd H C E a2 a3 bb off c1 cs.length c2 ds.length c3 k ts x D B (l 0) (l 1) (l 2) (l 3) (l 4) true (l 6) (l 7) (l 8) (l 9) (l 10) (l 11) (l 12) (l 13) (l 14) (l 15) v0 v1 v2 v3 v4 (.pointer (some ⟨w.heap.size, 3, none⟩)) v6 v7 v8 v9 v10 v11 v12 v13 v15 V) := hide ⟨(K.bel), (K.sz), (K.ka), (K.e0), (K.e1), (K.e2), (K.e3), (K.e4), (fun _ => rfl), (K.e6), (K.e7), (K.e8), (K.e9), (K.e10), (K.e11), (K.e12), (K.e13), (K.n14), (K.e15)⟩
            clear K hd hl
            go_wp2_with fail
            exact ⟨rfl, RsRJ.mk (unhide HK) (by kernel_rfl)⟩
          · simp at ho
            subst ho
            have d5 : l 5 = true := hd ⟨5, .data⟩ (by simp) rfl
            have x5 := K.e5 d5
            subst x5
            have yy0 : V.cell? ⟨w.heap.size, 3, none⟩ = some (.int .i64 nh) := K.ka.c 3 (by simp)
            have yy1 : V.cell? ⟨w.heap.size, 4, none⟩ = some (.int .i64 nc) := K.ka.c 4 (by simp)
            have yy2 : V.cell? ⟨w.heap.size, 5, none⟩ = some (.int .i64 nd) := K.ka.c 5 (by simp)
            have HK : Hid (RsR w wr nh nc nd H C E a2 a3 bb off c1 cs.length c2 ds.length c3 k ts x D B (l 0) (l 1) (l 2) (l 3) (l 4) (l 5) true (l 7) (l 8) (l 9) (l 10) (l 11) (l 12) (l 13) (l 14) (l 15) v0 v1 v2 v3 v4 (.pointer (some ⟨w.heap.size, 3, none⟩)) (.agg #[.int .i64 nh, .int .i64 nc, .int .i64 nd]) v7 v8 v9 v10 v11 v12 v13 v15 V) := hide ⟨(K.bel), (K.sz), (K.ka), (K.e0), (K.e1), (K.e2), (K.e3), (K.e4), (K.e5), (fun _ => rfl), (K.e7), (K.e8), (K.e9), (K.e10), (K.e11), (K.e12), (K.e13), (K.n14), (K.e15)⟩
            clear K hd hl
            go_wp2_with fail
            exact ⟨rfl, RsRJ.mk (unhide HK) (by kernel_rfl)⟩
          · simp at ho
            subst ho
            have d4 : l 4 = true := hd ⟨4, .data⟩ (by simp) rfl
            have x4 := K.e4 d4
            subst x4
            have d6 : l 6 = true := hd ⟨6, .data⟩ (by simp) rfl
            have x6 := K.e6 d6
            subst x6
            have HK0 := hide K
            clear K hd hl
            go_wp2_with (go_at_call 89; refine (unhide CD _).mono ?_; rintro e V2 ⟨rfl, b2⟩; have K := (unhide HK0).below b2; have HK : Hid (RsR w wr nh nc nd H C E a2 a3 bb off c1 cs.length c2 ds.length c3 k ts x D B (l 0) (l 1) (l 2) (l 3) (l 4) (l 5) (l 6) true (l 8) (l 9) (l 10) (l 11) (l 12) (l 13) (l 14) (l 15) v0 v1 v2 v3 (.agg #[.string x.nm, .int .i64 x.h, .int .i64 x.c, .int .i64 x.d, .int .i64 x.dh, .int .i64 x.dc, .int .i64 x.dd]) v5 (.agg #[.int .i64 nh, .int .i64 nc, .int .i64 nd]) (.tuple #[.bool D, .agg #[.int .i64 H, .int .i64 C, .int .i64 E], .bool B]) v8 v9 v10 v11 v12 v13 v15 V2) := hide ⟨(K.bel), (K.sz), (K.ka), (K.e0), (K.e1), (K.e2), (K.e3), (K.e4), (K.e5), (K.e6), (fun _ => rfl), (K.e8), (K.e9), (K.e10), (K.e11), (K.e12), (K.e13), (K.n14), (K.e15)⟩; clear K b2)
            exact ⟨rfl, RsRJ.mk (unhide HK) (by kernel_rfl)⟩
          · simp at ho
            subst ho
            have d7 : l 7 = true := hd ⟨7, .data⟩ (by simp) rfl
            have x7 := K.e7 d7
            subst x7
            have HK : Hid (RsR w wr nh nc nd H C E a2 a3 bb off c1 cs.length c2 ds.length c3 k ts x D B (l 0) (l 1) (l 2) (l 3) (l 4) (l 5) (l 6) (l 7) true (l 9) (l 10) (l 11) (l 12) (l 13) (l 14) (l 15) v0 v1 v2 v3 v4 v5 v6 (.tuple #[.bool D, .agg #[.int .i64 H, .int .i64 C, .int .i64 E], .bool B]) (.tuple #[.bool D, .agg #[.int .i64 H, .int .i64 C, .int .i64 E], .bool B]) v9 v10 v11 v12 v13 v15 V) := hide ⟨(K.bel), (K.sz), (K.ka), (K.e0), (K.e1), (K.e2), (K.e3), (K.e4), (K.e5), (K.e6), (K.e7), (fun _ => rfl), (K.e9), (K.e10), (K.e11), (K.e12), (K.e13), (K.n14), (K.e15)⟩
            clear K hd hl
            go_wp2_with fail
            exact ⟨rfl, RsRJ.mk (unhide HK) (by kernel_rfl)⟩
          · simp at ho
            subst ho
            have d8 : l 8 = true := hd ⟨8, .data⟩ (by simp) rfl
            have x8 := K.e8 d8
            subst x8
            have HK : Hid (RsR w wr nh nc nd H C E a2 a3 bb off c1 cs.length c2 ds.length c3 k ts x D B (l 0) (l 1) (l 2) (l 3) (l 4) (l 5) (l 6) (l 7) (l 8) true (l 10) (l 11) (l 12) (l 13) (l 14) (l 15) v0 v1 v2 v3 v4 v5 v6 v7 (.tuple #[.bool D, .agg #[.int .i64 H, .int .i64 C, .int .i64 E], .bool B]) (.bool D) v10 v11 v12 v13 v15 V) := hide ⟨(K.bel), (K.sz), (K.ka), (K.e0), (K.e1), (K.e2), (K.e3), (K.e4), (K.e5), (K.e6), (K.e7), (K.e8), (fun _ => rfl), (K.e10), (K.e11), (K.e12), (K.e13), (K.n14), (K.e15)⟩
            clear K hd hl
            go_wp2_with fail
            exact ⟨rfl, RsRJ.mk (unhide HK) (by kernel_rfl)⟩
          · simp at ho
            subst ho
            have d8 : l 8 = true := hd ⟨8, .data⟩ (by simp) rfl
            have x8 := K.e8 d8
            subst x8
            have HK : Hid (RsR w wr nh nc nd H C E a2 a3 bb off c1 cs.length c2 ds.length c3 k ts x D B (l 0) (l 1) (l 2) (l 3) (l 4) (l 5) (l 6) (l 7) (l 8) (l 9) true (l 11) (l 12) (l 13) (l 14) (l 15) v0 v1 v2 v3 v4 v5 v6 v7 (.tuple #[.bool D, .agg #[.int .i64 H, .int .i64 C, .int .i64 E], .bool B]) v9 (.agg #[.int .i64 H, .int .i64 C, .int .i64 E]) v11 v12 v13 v15 V) := hide ⟨(K.bel), (K.sz), (K.ka), (K.e0), (K.e1), (K.e2), (K.e3), (K.e4), (K.e5), (K.e6), (K.e7), (K.e8), (K.e9), (fun _ => rfl), (K.e11), (K.e12), (K.e13), (K.n14), (K.e15)⟩
            clear K hd hl
            go_wp2_with fail
            exact ⟨rfl, RsRJ.mk (unhide HK) (by kernel_rfl)⟩
          · simp at ho
            subst ho
            have d8 : l 8 = true := hd ⟨8, .data⟩ (by simp) rfl
            have x8 := K.e8 d8
            subst x8
            have HK : Hid (RsR w wr nh nc nd H C E a2 a3 bb off c1 cs.length c2 ds.length c3 k ts x D B (l 0) (l 1) (l 2) (l 3) (l 4) (l 5) (l 6) (l 7) (l 8) (l 9) (l 10) true (l 12) (l 13) (l 14) (l 15) v0 v1 v2 v3 v4 v5 v6 v7 (.tuple #[.bool D, .agg #[.int .i64 H, .int .i64 C, .int .i64 E], .bool B]) v9 v10 (.bool B) v12 v13 v15 V) := hide ⟨(K.bel), (K.sz), (K.ka), (K.e0), (K.e1), (K.e2), (K.e3), (K.e4), (K.e5), (K.e6), (K.e7), (K.e8), (K.e9), (K.e10), (fun _ => rfl), (K.e12), (K.e13), (K.n14), (K.e15)⟩
            clear K hd hl
            go_wp2_with fail
            exact ⟨rfl, RsRJ.mk (unhide HK) (by kernel_rfl)⟩
          · simp at ho
            subst ho
            have nz : l 14 = false := by cases c : l 14; rfl; have := K.n14 c; rw [hl] at this; cases this
            have K2 := K.below (bel1 (Obj.cells #[.int .i64 0, .int .i64 0, .int .i64 0] 35))
            have HK : Hid (RsR w wr nh nc nd H C E a2 a3 bb off c1 cs.length c2 ds.length c3 k ts x D B (l 0) (l 1) (l 2) (l 3) (l 4) (l 5) (l 6) (l 7) (l 8) (l 9) (l 10) (l 11) true (l 13) (l 14) (l 15) v0 v1 v2 v3 v4 v5 v6 v7 v8 v9 v10 v11 (.pointer (some ⟨V.heap.size, 0, none⟩)) v13 v15 (V.alloc (Obj.cells #[.int .i64 0, .int .i64 0, .int .i64 0] 35))) := hide ⟨(K2.bel), (K2.sz), (K2.ka), (K2.e0), (K2.e1), (K2.e2), (K2.e3), (K2.e4), (K2.e5), (K2.e6), (K2.e7), (K2.e8), (K2.e9), (K2.e10), (K2.e11), (fun _ => ⟨_, rfl, K.sz, by rw [nz]; exact Blk.new _ _⟩), (K2.e13), (fun h => by cases nz.symm.trans h), (K2.e15)⟩
            clear K K2 hd hl nz
            go_wp2_with fail
            exact ⟨rfl, RsRJ.mk (unhide HK) (by kernel_rfl)⟩
          · simp at ho
            subst ho
            have d9 : l 9 = true := hd ⟨9, .data⟩ (by simp) rfl
            have x9 := K.e9 d9
            subst x9
            have HK : Hid (RsR w wr nh nc nd H C E a2 a3 bb off c1 cs.length c2 ds.length c3 k ts x D B (l 0) (l 1) (l 2) (l 3) (l 4) (l 5) (l 6) (l 7) (l 8) (l 9) (l 10) (l 11) (l 12) true (l 14) (l 15) v0 v1 v2 v3 v4 v5 v6 v7 v8 (.bool D) v10 v11 v12 (.bool D) v15 V) := hide ⟨(K.bel), (K.sz), (K.ka), (K.e0), (K.e1), (K.e2), (K.e3), (K.e4), (K.e5), (K.e6), (K.e7), (K.e8), (K.e9), (K.e10), (K.e11), (K.e12), (fun _ => rfl), (K.n14), (K.e15)⟩
            clear K hd hl
            go_wp2_with fail
            exact ⟨rfl, RsRJ.mk (unhide HK) (by kernel_rfl)⟩
          · simp at ho
            subst ho
            have d10 : l 10 = true := hd ⟨10, .data⟩ (by simp) rfl
            have x10 := K.e10 d10
            subst x10
            have da : l 12 = true := hd ⟨12, .data⟩ (by simp) rfl
            obtain ⟨P, x1, x2, x3⟩ := K.e12 da
            rw [hl] at x3
            have yy0 : V.cell? ⟨P, 0, none⟩ = some (.int .i64 0) := x3.c 0 (by simp)
            have ff0 : V.frozen? ⟨P, 0, none⟩ = false := x3.f 0 (by simp)
            have yy1 : V.cell? ⟨P, 1, none⟩ = some (.int .i64 0) := x3.c 1 (by simp)
            have ff1 : V.frozen? ⟨P, 1, none⟩ = false := x3.f 1 (by simp)
            have yy2 : V.cell? ⟨P, 2, none⟩ = some (.int .i64 0) := x3.c 2 (by simp)
            have ff2 : V.frozen? ⟨P, 2, none⟩ = false := x3.f 2 (by simp)
            have HK : Hid (RsR w wr nh nc nd H C E a2 a3 bb off c1 cs.length c2 ds.length c3 k ts x D B (l 0) (l 1) (l 2) (l 3) (l 4) (l 5) (l 6) (l 7) (l 8) (l 9) (l 10) (l 11) (l 12) (l 13) true (l 15) v0 v1 v2 v3 v4 v5 v6 v7 v8 v9 (.agg #[.int .i64 H, .int .i64 C, .int .i64 E]) v11 v12 v13 v15 (((V.setCell ⟨P, 0, none⟩ (.int .i64 H)).setCell ⟨P, 1, none⟩ (.int .i64 C)).setCell ⟨P, 2, none⟩ (.int .i64 E))) := hide ⟨((((K.bel.setCell (p := ⟨P, 0, none⟩) (Nat.le_trans (unhide LW) x2) _).setCell (p := ⟨P, 1, none⟩) (Nat.le_trans (unhide LW) x2) _).setCell (p := ⟨P, 2, none⟩) (Nat.le_trans (unhide LW) x2) _)), (by simpa [World.setCell] using K.sz), ((((K.ka.other (p := ⟨P, 0, none⟩) (by have := unhide LB; show P ≠ w.heap.size; omega) _).other (p := ⟨P, 1, none⟩) (by have := unhide LB; show P ≠ w.heap.size; omega) _).other (p := ⟨P, 2, none⟩) (by have := unhide LB; show P ≠ w.heap.size; omega) _)), (K.e0), (K.e1), (K.e2), (K.e3), (K.e4), (K.e5), (K.e6), (K.e7), (K.e8), (K.e9), (K.e10), (K.e11), (fun _ => ⟨P, x1, x2, (((x3.set 0 (by simp) _).set 1 (by simp) _).set 2 (by simp) _)⟩), (K.e13), (fun _ => da), (K.e15)⟩
            clear K hd hl x3
            subst x1
            go_wp2_with fail
            exact ⟨rfl, RsRJ.mk (unhide HK) (by kernel_rfl)⟩
          · simp at ho
            subst ho
            have d11 : l 11 = true := hd ⟨11, .data⟩ (by simp) rfl
            have x11 := K.e11 d11
            subst x11
            have HK : Hid (RsR w wr nh nc nd H C E a2 a3 bb off c1 cs.length c2 ds.length c3 k ts x D B (l 0) (l 1) (l 2) (l 3) (l 4) (l 5) (l 6) (l 7) (l 8) (l 9) (l 10) (l 11) (l 12) (l 13) (l 14) true v0 v1 v2 v3 v4 v5 v6 v7 v8 v9 v10 (.bool B) v12 v13 (.bool B) V) := hide ⟨(K.bel), (K.sz), (K.ka), (K.e0), (K.e1), (K.e2), (K.e3), (K.e4), (K.e5), (K.e6), (K.e7), (K.e8), (K.e9), (K.e10), (K.e11), (K.e12), (K.e13), (K.n14), (fun _ => rfl)⟩
            clear K hd hl
            go_wp2_with fail
            exact ⟨rfl, RsRJ.mk (unhide HK) (by kernel_rfl)⟩
        rintro l a V1 hall ⟨v0, v1, v2, v3, v4, v5, v6, v7, v8, v9, v10, v11, v12, v13, v15, rfl, K⟩
        have g0 := hall 0 (by decide)
        have g1 := hall 1 (by decide)
        have g2 := hall 2 (by decide)
        have g3 := hall 3 (by decide)
        have g4 := hall 4 (by decide)
        have g5 := hall 5 (by decide)
        have g6 := hall 6 (by decide)
        have g7 := hall 7 (by decide)
        have g8 := hall 8 (by decide)
        have g9 := hall 9 (by decide)
        have g10 := hall 10 (by decide)
        have g11 := hall 11 (by decide)
        have g12 := hall 12 (by decide)
        have g13 := hall 13 (by decide)
        have g14 := hall 14 (by decide)
        have g15 := hall 15 (by decide)
        clear hall
        have px0 := K.e0 g0
        have px1 := K.e1 g1
        have px2 := K.e2 g2
        have px3 := K.e3 g3
        have px4 := K.e4 g4
        have px5 := K.e5 g5
        have px6 := K.e6 g6
        have px7 := K.e7 g7
        have px8 := K.e8 g8
        have px9 := K.e9 g9
        have px10 := K.e10 g10
        have px11 := K.e11 g11
        obtain ⟨P12, px12, pl12, pb12⟩ := K.e12 g12
        rw [g14] at pb12
        have PB12 : Hid (Blk V1 P12 [.int .i64 H, .int .i64 C, .int .i64 E]) := hide pb12
        have px13 := K.e13 g13
        have px15 := K.e15 g15
        have KBa : Hid (Blk V1 (w.heap.size) [.slice (some ⟨bb, off, none⟩) ts.length c1, .slice a2 cs.length c2, .slice a3 ds.length c3, .int .i64 nh, .int .i64 nc, .int .i64 nd]) := hide K.ka
        have KBEL : Hid (Below w.heap.size w V1) := hide K.bel
        have KSZ : Hid (wr.heap.size ≤ V1.heap.size) := hide K.sz
        clear K g0 g1 g2 g3 g4 g5 g6 g7 g8 g9 g10 g11 g12 g13 g14 g15 pb12
        subst px0
        subst px1
        subst px2
        subst px3
        subst px4
        subst px5
        subst px6
        subst px7
        subst px8
        subst px9
        subst px10
        subst px11
        subst px12
        subst px13
        subst px15
        clear KB BW KSZ
        cases D with
        | true =>
          have HE := hide (rl_due (k := k) (unhide Q0) (ixE_at hlt (by show d9D (elAt ts k) nh nc nd = true; rw [unhide HX]; exact unhide HD) (unhide AL)))
          have HE : Hid (rlR ⟨ts, cs, ds, nh, nc, nd⟩ = (2, x.nm)) := hide (by rw [unhide HE, ← unhide HX])
          clear AL
          go_wp2_with fail
          obtain ⟨ιfV, fV, _, hb, hall⟩ := belClass V1
          have HB := hide hb
          have HA := hide hall
          have c00 : ∀ z, (fV z).cell? ⟨w.heap.size, 0, none⟩ = some (.slice (some ⟨bb, off, none⟩) ts.length c1) := fun z => ((unhide KBa).below (hb z)).c 0 (by simp)
          have c01 : ∀ z, (fV z).cell? ⟨w.heap.size, 1, none⟩ = some (.slice a2 cs.length c2) := fun z => ((unhide KBa).below (hb z)).c 1 (by simp)
          have c02 : ∀ z, (fV z).cell? ⟨w.heap.size, 2, none⟩ = some (.slice a3 ds.length c3) := fun z => ((unhide KBa).below (hb z)).c 2 (by simp)
          have c03 : ∀ z, (fV z).cell? ⟨w.heap.size, 3, none⟩ = some (.int .i64 nh) := fun z => ((unhide KBa).below (hb z)).c 3 (by simp)
          have c04 : ∀ z, (fV z).cell? ⟨w.heap.size, 4, none⟩ = some (.int .i64 nc) := fun z => ((unhide KBa).below (hb z)).c 4 (by simp)
          have c05 : ∀ z, (fV z).cell? ⟨w.heap.size, 5, none⟩ = some (.int .i64 nd) := fun z => ((unhide KBa).below (hb z)).c 5 (by simp)
          have cK : ∀ z, (fV z).cell? ⟨bb, off + k * 7, none⟩ = some (.string x.nm) := fun z => (((unhide KBEL).trans ((hb z).mono (unhide KBEL).size)).cell (block_lt_of_cell (unhide SK0))).trans (unhide SK0)
          clear hb hall
          obtain ⟨x0, h0⟩ := (unhide HA) V1 (Below.refl _ _)
          rw [h0]
          clear h0
          refine wp_region_bel (fun w' h => (unhide HA) w' ((unhide HB _).trans (h.mono (unhide HB _).size))) (by kernel_rfl) (by kernel_rfl) ?_
          (repeat (go_big_quiet_step (fail)))
          refine wpQuiet_nil ?_
          rintro _ ⟨y, rfl⟩
          go_wp2_with fail
          go_ret2
          exact ⟨ret_rl (unhide HE), (unhide KBEL).trans ((unhide HB _).mono (unhide KBEL).size)⟩
        | false =>
          have NX : Hid (∀ j, j < k + 1 → duT ⟨ts, cs, ds, nh, nc, nd⟩ (elAt ts j) = false) := hide (fun j hj => by
            by_cases e3 : j = k
            · rw [e3]; show d9D (elAt ts k) nh nc nd = false; rw [unhide HX]; exact unhide HD
            · exact (unhide AL) j (by omega))
          clear AL
          go_wp2_with fail
          go_roundw
          case rel => exact ⟨k + 1, by go_num, by omega, KBa, KBEL, NX⟩
          case measure => simp [intOf]; omega
      · have hi1 : ¬ (k : Int) < (ts.length : Int) := by omega
        have g0 : wr.cell? ⟨w.heap.size, 0, none⟩ = some (.slice a1 ts.length c1) := (unhide KB).c 0 (by simp)
        have e2 : Hid (ixE (duT ⟨ts, cs, ds, nh, nc, nd⟩) ts = -1) := hide (ixE_none (fun j hj => (unhide AL) j (by omega)))
        have KB0 := KB
        have BW0 := BW
        clear AL KB BW
        go_wp2_with fail
        clear g0
        refine wp_loop_rounds 4 ?_
        clear hi1 hlt hk
        rw [rounds_succ]
        go_wp2_with fail
        go_loopw [9] (fun i wr => ∃ k : Nat, i = .int .i64 k ∧ k ≤ ds.length ∧ Hid (Blk wr w.heap.size [.slice a1 ts.length c1, .slice a2 cs.length c2, .slice a3 ds.length c3, .int .i64 nh, .int .i64 nc, .int .i64 nd]) ∧ Hid (Below w.heap.size w wr) ∧ Hid (∀ j, j < k → unB ⟨ts, cs, ds, nh, nc, nd⟩ (elAt ds j) = false)) (fun i _ => ds.length - (intOf i).toNat)
        case atStart => exact ⟨0, rfl, Nat.zero_le _, KB0, BW0, hide (fun j hj => by omega)⟩
        case round =>
          clear KB0 BW0
          obtain ⟨k, rfl, hk, KB, BW, AL⟩ := hrel
          by_cases hlt : k < ds.length
          · obtain ⟨bb, off, rfl, hc⟩ := (unhide HRI).r3.at_ k hlt
            have s0 : w.cell? ⟨bb, off + k * 3, none⟩ = some (.string (elAt ds k).n) := hc 0 (by omega)
            have s0 := ((unhide BW).cell (block_lt_of_cell s0)).trans s0
            have s1 : w.cell? ⟨bb, off + k * 3 + 1, none⟩ = some (.int .i64 (elAt ds k).i) := hc 1 (by omega)
            have s1 := ((unhide BW).cell (block_lt_of_cell s1)).trans s1
            have s2 : w.cell? ⟨bb, off + k * 3 + 2, none⟩ = some (.int .i64 (elAt ds k).s) := hc 2 (by omega)
            have s2 := ((unhide BW).cell (block_lt_of_cell s2)).trans s2
            have hsx := unhide HDS k hlt
            obtain ⟨x, hx⟩ : ∃ x, elAt ds k = x := ⟨_, rfl⟩
            rw [hx] at s0 s1 s2 hsx
            have HX := hide hx
            clear hc hx
            have hi1 : (k : Int) < (ds.length : Int) := by omega
            have hi0 : (0 : Int) ≤ (k : Int) := by omega
            have g2 : wr.cell? ⟨w.heap.size, 2, none⟩ = some (.slice (some ⟨bb, off, none⟩) ds.length c3) := (unhide KB).c 2 (by simp)
            go_upto_region 16 with fail
            obtain ⟨V, hV⟩ : ∃ V, V = wr.alloc (Obj.cells #[.string x.n, .int .i64 x.i, .int .i64 x.s] 94) := ⟨_, rfl⟩
            have KV : Hid (Blk V wr.heap.size [.string x.n, .int .i64 x.i, .int .i64 x.s]) := hide (by rw [hV]; exact Blk.new _ _)
            have bV : Below wr.heap.size wr V := by rw [hV]; exact bel1 _
            rw [← hV]
            have BV := hide ((unhide BW).trans (bV.mono (unhide BW).size))
            have KBV := hide ((unhide KB).below bV)
            obtain ⟨Q, hQ⟩ : ∃ Q, wr.heap.size = Q := ⟨_, rfl⟩
            rw [hQ] at KV ⊢
            clear hV bV s0 s1 s2 g2 KB BW hQ
            obtain ⟨ιfV, fV, _, hb, hall⟩ := belClass V
            have HB := hide hb
            have HA := hide hall
            have c00 : ∀ z, (fV z).cell? ⟨w.heap.size, 0, none⟩ = some (.slice a1 ts.length c1) := fun z => ((unhide KBV).below (hb z)).c 0 (by simp)
            have c01 : ∀ z, (fV z).cell? ⟨w.heap.size, 1, none⟩ = some (.slice a2 cs.length c2) := fun z => ((unhide KBV).below (hb z)).c 1 (by simp)
            have c02 : ∀ z, (fV z).cell? ⟨w.heap.size, 2, none⟩ = some (.slice (some ⟨bb, off, none⟩) ds.length c3) := fun z => ((unhide KBV).below (hb z)).c 2 (by simp)
            have c03 : ∀ z, (fV z).cell? ⟨w.heap.size, 3, none⟩ = some (.int .i64 nh) := fun z => ((unhide KBV).below (hb z)).c 3 (by simp)
            have c04 : ∀ z, (fV z).cell? ⟨w.heap.size, 4, none⟩ = some (.int .i64 nc) := fun z => ((unhide KBV).below (hb z)).c 4 (by simp)
            have c05 : ∀ z, (fV z).cell? ⟨w.heap.size, 5, none⟩ = some (.int .i64 nd) := fun z => ((unhide KBV).below (hb z)).c 5 (by simp)
            have c10 : ∀ z, (fV z).cell? ⟨Q, 0, none⟩ = some (.string x.n) := fun z => ((unhide KV).below (hb z)).c 0 (by simp)
            have c11 : ∀ z, (fV z).cell? ⟨Q, 1, none⟩ = some (.int .i64 x.i) := fun z => ((unhide KV).below (hb z)).c 1 (by simp)
            have c12 : ∀ z, (fV z).cell? ⟨Q, 2, none⟩ = some (.int .i64 x.s) := fun z => ((unhide KV).below (hb z)).c 2 (by simp)
            clear hb hall
            obtain ⟨x0, h0⟩ := (unhide HA) V (Below.refl _ _)
            rw [h0]
            clear h0
            go_wp2_with fail
            refine (belQ (unhide HB) (unhide HA) (l19Carry_any nh nc nd _ _ _ _ _ _ _ _ _ cs x.n _ ((unhide HRI).r2.below ((unhide BV).trans ((unhide HB _).mono (unhide BV).size))))).mono ?_
            rintro e _ ⟨rfl, y, rfl⟩
            obtain ⟨I, hI⟩ : ∃ I, ixE (qCr x.n) cs = I := ⟨_, rfl⟩
            rw [hI]
            have HU : Hid (unB ⟨ts, cs, ds, nh, nc, nd⟩ x = decide (I < 0)) := hide (by rw [← hI]; rfl)
            clear hI
            by_cases q : I < 0
            · have HE := hide (rl_un (k := k) (unhide Q0) (unhide e2) (ixE_at hlt (by rw [unhide HX, unhide HU]; exact decide_eq_true q) (unhide AL)))
              have HE : Hid (rlR ⟨ts, cs, ds, nh, nc, nd⟩ = (3, x.n)) := hide (by rw [unhide HE, ← unhide HX])
              clear AL
              go_wp2_with fail
              refine wp_region_bel (fun w' h => (unhide HA) w' ((unhide HB _).trans (h.mono (unhide HB _).size))) (by kernel_rfl) (by kernel_rfl) ?_
              (repeat (go_big_quiet_step (fail)))
              refine wpQuiet_nil ?_
              rintro _ ⟨y, rfl⟩
              go_wp2_with fail
              go_ret2
              exact ⟨ret_rl (unhide HE), (unhide BV).trans ((unhide HB _).mono (unhide BV).size)⟩
            · have NX : Hid (∀ j, j < k + 1 → unB ⟨ts, cs, ds, nh, nc, nd⟩ (elAt ds j) = false) := hide (fun j hj => by
                by_cases e3 : j = k
                · rw [e3, unhide HX, unhide HU]; exact decide_eq_false q
                · exact (unhide AL) j (by omega))
              clear AL
              go_wp2_with fail
              have KY := hide ((unhide KBV).below (unhide HB y))
              have BY := hide ((unhide BV).trans ((unhide HB y).mono (unhide BV).size))
              go_roundw
              case rel => exact ⟨k + 1, by go_num, by omega, KY, BY, NX⟩
              case measure => simp [intOf]; omega
          · have hi1 : ¬ (k : Int) < (ds.length : Int) := by omega
            have g2 : wr.cell? ⟨w.heap.size, 2, none⟩ = some (.slice a3 ds.length c3) := (unhide KB).c 2 (by simp)
            have e3 : Hid (ixE (unB ⟨ts, cs, ds, nh, nc, nd⟩) ds = -1) := hide (ixE_none (fun j hj => (unhide AL) j (by omega)))
            have KB4 := KB
            have BW4 := BW
            clear AL KB BW
            go_wp2_with fail
            clear g2 hi1 hlt hk
            rw [rounds_succ]
            go_wp2_with fail
            go_loopw [9] (fun i wr => ∃ k : Nat, i = .int .i64 k ∧ k ≤ ds.length ∧ Hid (Blk wr w.heap.size [.slice a1 ts.length c1, .slice a2 cs.length c2, .slice a3 ds.length c3, .int .i64 nh, .int .i64 nc, .int .i64 nd]) ∧ Hid (Below w.heap.size w wr) ∧ Hid (∀ j, j < k → mnB ⟨ts, cs, ds, nh, nc, nd⟩ (elAt ds j) = false)) (fun i _ => ds.length - (intOf i).toNat)
            case atStart => exact ⟨0, rfl, Nat.zero_le _, KB4, BW4, hide (fun j hj => by omega)⟩
            case round =>
              clear KB4 BW4
              obtain ⟨k, rfl, hk, KB, BW, AL⟩ := hrel
              by_cases hlt : k < ds.length
              · obtain ⟨bb, off, rfl, hc⟩ := (unhide HRI).r3.at_ k hlt
                have s0 : w.cell? ⟨bb, off + k * 3, none⟩ = some (.string (elAt ds k).n) := hc 0 (by omega)
                have s0 := ((unhide BW).cell (block_lt_of_cell s0)).trans s0
                have s1 : w.cell? ⟨bb, off + k * 3 + 1, none⟩ = some (.int .i64 (elAt ds k).i) := hc 1 (by omega)
                have s1 := ((unhide BW).cell (block_lt_of_cell s1)).trans s1
                have s2 : w.cell? ⟨bb, off + k * 3 + 2, none⟩ = some (.int .i64 (elAt ds k).s) := hc 2 (by omega)
                have s2 := ((unhide BW).cell (block_lt_of_cell s2)).trans s2
                have hsx := unhide HDS k hlt
                obtain ⟨x, hx⟩ : ∃ x, elAt ds k = x := ⟨_, rfl⟩
                rw [hx] at s0 s1 s2 hsx
                have HX := hide hx
                clear hc hx
                have hi1 : (k : Int) < (ds.length : Int) := by omega
                have hi0 : (0 : Int) ≤ (k : Int) := by omega
                have g2 : wr.cell? ⟨w.heap.size, 2, none⟩ = some (.slice (some ⟨bb, off, none⟩) ds.length c3) := (unhide KB).c 2 (by simp)
                go_upto_region 16 with fail
                obtain ⟨V, hV⟩ : ∃ V, V = wr.alloc (Obj.cells #[.string x.n, .int .i64 x.i, .int .i64 x.s] 94) := ⟨_, rfl⟩
                have KV : Hid (Blk V wr.heap.size [.string x.n, .int .i64 x.i, .int .i64 x.s]) := hide (by rw [hV]; exact Blk.new _ _)
                have bV : Below wr.heap.size wr V := by rw [hV]; exact bel1 _
                rw [← hV]
                have BV := hide ((unhide BW).trans (bV.mono (unhide BW).size))
                have KBV := hide ((unhide KB).below bV)
                obtain ⟨Q, hQ⟩ : ∃ Q, wr.heap.size = Q := ⟨_, rfl⟩
                rw [hQ] at KV ⊢
                clear hV bV s0 s1 s2 g2 KB BW hQ
                have hls : ¬ caF ⟨ts, cs, ds, nh, nc, nd⟩ x.n < 0 := by
                  have := ixE_at_all (unhide e3) k hlt
                  rw [unhide HX] at this
                  exact of_decide_eq_false this
                rcases ixE_cases (qCr x.n) cs with ⟨ea, _⟩ | ⟨i, hi, ea, _, _⟩
                · exfalso
                  have : caF ⟨ts, cs, ds, nh, nc, nd⟩ x.n = -1 := ea
                  omega
                obtain ⟨cb, cf, rfl, hc⟩ := (unhide HRI).r2.at_ i hi
                have SM : Hid (w.cell? ⟨cb, cf + i * 3 + 1, none⟩ = some (.int .i64 (elAt cs i).m)) := hide (hc 1 (by omega))
                have HMB : Hid (mnB ⟨ts, cs, ds, nh, nc, nd⟩ x = decide ((elAt cs i).m < mnF ds x.n)) := hide (by
                  have e2 : caF ⟨ts, cs, ds, nh, nc, nd⟩ x.n = (i : Int) := ea
                  rw [mnB, e2]
                  simp)
                obtain ⟨Y, hY⟩ : ∃ y, (elAt cs i).m = y := ⟨_, rfl⟩
                rw [hY] at SM HMB
                have hii : (i : Int) < (cs.length : Int) := by omega
                have hin : (0 : Int) ≤ (i : Int) := by omega
                clear hls hc hY
                obtain ⟨ιfV, fV, _, hb, hall⟩ := belClass V
                have HB := hide hb
                have HA := hide hall
                have c00 : ∀ z, (fV z).cell? ⟨w.heap.size, 0, none⟩ = some (.slice a1 ts.length c1) := fun z => ((unhide KBV).below (hb z)).c 0 (by simp)
                have c01 : ∀ z, (fV z).cell? ⟨w.heap.size, 1, none⟩ = some (.slice (some ⟨cb, cf, none⟩) cs.length c2) := fun z => ((unhide KBV).below (hb z)).c 1 (by simp)
                have c02 : ∀ z, (fV z).cell? ⟨w.heap.size, 2, none⟩ = some (.slice (some ⟨bb, off, none⟩) ds.length c3) := fun z => ((unhide KBV).below (hb z)).c 2 (by simp)
                have c03 : ∀ z, (fV z).cell? ⟨w.heap.size, 3, none⟩ = some (.int .i64 nh) := fun z => ((unhide KBV).below (hb z)).c 3 (by simp)
                have c04 : ∀ z, (fV z).cell? ⟨w.heap.size, 4, none⟩ = some (.int .i64 nc) := fun z => ((unhide KBV).below (hb z)).c 4 (by simp)
                have c05 : ∀ z, (fV z).cell? ⟨w.heap.size, 5, none⟩ = some (.int .i64 nd) := fun z => ((unhide KBV).below (hb z)).c 5 (by simp)
                have c10 : ∀ z, (fV z).cell? ⟨Q, 0, none⟩ = some (.string x.n) := fun z => ((unhide KV).below (hb z)).c 0 (by simp)
                have c11 : ∀ z, (fV z).cell? ⟨Q, 1, none⟩ = some (.int .i64 x.i) := fun z => ((unhide KV).below (hb z)).c 1 (by simp)
                have c12 : ∀ z, (fV z).cell? ⟨Q, 2, none⟩ = some (.int .i64 x.s) := fun z => ((unhide KV).below (hb z)).c 2 (by simp)
                have cK : ∀ z, (fV z).cell? ⟨cb, cf + i * 3 + 1, none⟩ = some (.int .i64 Y) := fun z => (((unhide BV).trans ((hb z).mono (unhide BV).size)).cell (block_lt_of_cell (unhide SM))).trans (unhide SM)
                clear hb hall
                obtain ⟨x0, h0⟩ := (unhide HA) V (Below.refl _ _)
                rw [h0]
                clear h0
                go_wp2_with fail
                refine (belQ (unhide HB) (unhide HA) (l19Carry_any nh nc nd _ _ _ _ _ _ _ _ _ cs x.n _ ((unhide HRI).r2.below ((unhide BV).trans ((unhide HB _).mono (unhide BV).size))))).mono ?_
                rintro e _ ⟨rfl, y, rfl⟩
                rw [ea]
                clear ea
                obtain ⟨M, hM⟩ : ∃ M, mnF ds x.n = M := ⟨_, rfl⟩
                have HU : Hid (mnB ⟨ts, cs, ds, nh, nc, nd⟩ x = decide (Y < M)) := hide (by rw [unhide HMB, hM])
                have CM : Hid (∀ z, Calls Tryz.prog 91 #[.agg #[.slice a1 ts.length c1, .slice (some ⟨cb, cf, none⟩) cs.length c2, .slice (some ⟨bb, off, none⟩) ds.length c3, .int .i64 nh, .int .i64 nc, .int .i64 nd], .string x.n] (fV z) fun e w' => e = .returned (.int .i64 M) ∧ Below (fV z).heap.size (fV z) w') := hide (fun z => by rw [← hM]; exact l19Many_any nh nc nd _ _ _ _ _ _ _ _ _ ds x.n (fV z) ((unhide HRI).r3.below ((unhide BV).trans ((unhide HB z).mono (unhide BV).size))) (by omega))
                clear hM HMB
                by_cases q : Y < M
                · have HE := hide (rl_mn (k := k) (unhide Q0) (unhide e2) (unhide e3) (ixE_at hlt (by rw [unhide HX, unhide HU]; exact decide_eq_true q) (unhide AL)))
                  have HE : Hid (rlR ⟨ts, cs, ds, nh, nc, nd⟩ = (4, x.n)) := hide (by rw [unhide HE, ← unhide HX])
                  clear AL
                  go_wp2_with fail
                  refine wp_region_bel (fun w' h => (unhide HA) w' ((unhide HB _).trans (h.mono (unhide HB _).size))) (by kernel_rfl) (by kernel_rfl) ?_
                  (repeat (go_big_quiet_step (first | (go_at_call 91; exact belQ (unhide HB) (unhide HA) (unhide CM _)))))
                  refine wpQuiet_nil ?_
                  rintro _ ⟨y, rfl⟩
                  go_wp2_with fail
                  refine wp_region_bel (fun w' h => (unhide HA) w' ((unhide HB _).trans (h.mono (unhide HB _).size))) (by kernel_rfl) (by kernel_rfl) ?_
                  (repeat (go_big_quiet_step (fail)))
                  refine wpQuiet_nil ?_
                  rintro _ ⟨y, rfl⟩
                  go_wp2_with fail
                  go_ret2
                  exact ⟨ret_rl (unhide HE), (unhide BV).trans ((unhide HB _).mono (unhide BV).size)⟩
                · have NX : Hid (∀ j, j < k + 1 → mnB ⟨ts, cs, ds, nh, nc, nd⟩ (elAt ds j) = false) := hide (fun j hj => by
                    by_cases e3 : j = k
                    · rw [e3, unhide HX, unhide HU]; exact decide_eq_false q
                    · exact (unhide AL) j (by omega))
                  clear AL
                  go_wp2_with fail
                  refine wp_region_bel (fun w' h => (unhide HA) w' ((unhide HB _).trans (h.mono (unhide HB _).size))) (by kernel_rfl) (by kernel_rfl) ?_
                  (repeat (go_big_quiet_step (first | (go_at_call 91; exact belQ (unhide HB) (unhide HA) (unhide CM _)))))
                  refine wpQuiet_nil ?_
                  rintro _ ⟨y, rfl⟩
                  go_wp2_with fail
                  have KY := hide ((unhide KBV).below (unhide HB y))
                  have BY := hide ((unhide BV).trans ((unhide HB y).mono (unhide BV).size))
                  go_roundw
                  case rel => exact ⟨k + 1, by go_num, by omega, KY, BY, NX⟩
                  case measure => simp [intOf]; omega
              · have hi1 : ¬ (k : Int) < (ds.length : Int) := by omega
                have g2 : wr.cell? ⟨w.heap.size, 2, none⟩ = some (.slice a3 ds.length c3) := (unhide KB).c 2 (by simp)
                have e4 : Hid (ixE (mnB ⟨ts, cs, ds, nh, nc, nd⟩) ds = -1) := hide (ixE_none (fun j hj => (unhide AL) j (by omega)))
                have KB5 := KB
                have BW5 := BW
                clear AL KB BW
                go_wp2_with fail
                clear g2 hi1 hlt hk
                rw [rounds_succ]
                go_wp2_with fail
                go_loopw [9] (fun i wr => ∃ k : Nat, i = .int .i64 k ∧ k ≤ ds.length ∧ Hid (Blk wr w.heap.size [.slice a1 ts.length c1, .slice a2 cs.length c2, .slice a3 ds.length c3, .int .i64 nh, .int .i64 nc, .int .i64 nd]) ∧ Hid (Below w.heap.size w wr) ∧ Hid (∀ j, j < k → olB ⟨ts, cs, ds, nh, nc, nd⟩ (elAt ds j) = false)) (fun i _ => ds.length - (intOf i).toNat)
                case atStart => exact ⟨0, rfl, Nat.zero_le _, KB5, BW5, hide (fun j hj => by omega)⟩
                case round =>
                  clear KB5 BW5
                  obtain ⟨k, rfl, hk, KB, BW, AL⟩ := hrel
                  by_cases hlt : k < ds.length
                  · obtain ⟨bb, off, rfl, hc⟩ := (unhide HRI).r3.at_ k hlt
                    have s0 : w.cell? ⟨bb, off + k * 3, none⟩ = some (.string (elAt ds k).n) := hc 0 (by omega)
                    have s0 := ((unhide BW).cell (block_lt_of_cell s0)).trans s0
                    have s1 : w.cell? ⟨bb, off + k * 3 + 1, none⟩ = some (.int .i64 (elAt ds k).i) := hc 1 (by omega)
                    have s1 := ((unhide BW).cell (block_lt_of_cell s1)).trans s1
                    have s2 : w.cell? ⟨bb, off + k * 3 + 2, none⟩ = some (.int .i64 (elAt ds k).s) := hc 2 (by omega)
                    have s2 := ((unhide BW).cell (block_lt_of_cell s2)).trans s2
                    have hsx := unhide HDS k hlt
                    obtain ⟨x, hx⟩ : ∃ x, elAt ds k = x := ⟨_, rfl⟩
                    rw [hx] at s0 s1 s2 hsx
                    have HX := hide hx
                    clear hc hx
                    have hi1 : (k : Int) < (ds.length : Int) := by omega
                    have hi0 : (0 : Int) ≤ (k : Int) := by omega
                    have g2 : wr.cell? ⟨w.heap.size, 2, none⟩ = some (.slice (some ⟨bb, off, none⟩) ds.length c3) := (unhide KB).c 2 (by simp)
                    go_upto_region 16 with fail
                    obtain ⟨V, hV⟩ : ∃ V, V = wr.alloc (Obj.cells #[.string x.n, .int .i64 x.i, .int .i64 x.s] 94) := ⟨_, rfl⟩
                    have KV : Hid (Blk V wr.heap.size [.string x.n, .int .i64 x.i, .int .i64 x.s]) := hide (by rw [hV]; exact Blk.new _ _)
                    have bV : Below wr.heap.size wr V := by rw [hV]; exact bel1 _
                    rw [← hV]
                    have BV := hide ((unhide BW).trans (bV.mono (unhide BW).size))
                    have KBV := hide ((unhide KB).below bV)
                    obtain ⟨Q, hQ⟩ : ∃ Q, wr.heap.size = Q := ⟨_, rfl⟩
                    rw [hQ] at KV ⊢
                    clear hV bV s0 s1 s2 g2 KB BW hQ
                    have hls : ¬ caF ⟨ts, cs, ds, nh, nc, nd⟩ x.n < 0 := by
                      have := ixE_at_all (unhide e3) k hlt
                      rw [unhide HX] at this
                      exact of_decide_eq_false this
                    rcases ixE_cases (qCr x.n) cs with ⟨ea, _⟩ | ⟨i, hi, ea, _, _⟩
                    · exfalso
                      have : caF ⟨ts, cs, ds, nh, nc, nd⟩ x.n = -1 := ea
                      omega
                    obtain ⟨cb, cf, rfl, hc⟩ := (unhide HRI).r2.at_ i hi
                    have SM : Hid (w.cell? ⟨cb, cf + i * 3 + 2, none⟩ = some (.int .i64 (elAt cs i).d)) := hide (hc 2 (by omega))
                    have HMB : Hid (olB ⟨ts, cs, ds, nh, nc, nd⟩ x = decide ((elAt cs i).d < nd - x.s)) := hide (by
                      have e2 : caF ⟨ts, cs, ds, nh, nc, nd⟩ x.n = (i : Int) := ea
                      rw [olB, e2]
                      simp)
                    obtain ⟨Y, hY⟩ : ∃ y, (elAt cs i).d = y := ⟨_, rfl⟩
                    rw [hY] at SM HMB
                    have hii : (i : Int) < (cs.length : Int) := by omega
                    have hin : (0 : Int) ≤ (i : Int) := by omega
                    clear hls hc hY
                    obtain ⟨ιfV, fV, _, hb, hall⟩ := belClass V
                    have HB := hide hb
                    have HA := hide hall
                    have c00 : ∀ z, (fV z).cell? ⟨w.heap.size, 0, none⟩ = some (.slice a1 ts.length c1) := fun z => ((unhide KBV).below (hb z)).c 0 (by simp)
                    have c01 : ∀ z, (fV z).cell? ⟨w.heap.size, 1, none⟩ = some (.slice (some ⟨cb, cf, none⟩) cs.length c2) := fun z => ((unhide KBV).below (hb z)).c 1 (by simp)
                    have c02 : ∀ z, (fV z).cell? ⟨w.heap.size, 2, none⟩ = some (.slice (some ⟨bb, off, none⟩) ds.length c3) := fun z => ((unhide KBV).below (hb z)).c 2 (by simp)
                    have c03 : ∀ z, (fV z).cell? ⟨w.heap.size, 3, none⟩ = some (.int .i64 nh) := fun z => ((unhide KBV).below (hb z)).c 3 (by simp)
                    have c04 : ∀ z, (fV z).cell? ⟨w.heap.size, 4, none⟩ = some (.int .i64 nc) := fun z => ((unhide KBV).below (hb z)).c 4 (by simp)
                    have c05 : ∀ z, (fV z).cell? ⟨w.heap.size, 5, none⟩ = some (.int .i64 nd) := fun z => ((unhide KBV).below (hb z)).c 5 (by simp)
                    have c10 : ∀ z, (fV z).cell? ⟨Q, 0, none⟩ = some (.string x.n) := fun z => ((unhide KV).below (hb z)).c 0 (by simp)
                    have c11 : ∀ z, (fV z).cell? ⟨Q, 1, none⟩ = some (.int .i64 x.i) := fun z => ((unhide KV).below (hb z)).c 1 (by simp)
                    have c12 : ∀ z, (fV z).cell? ⟨Q, 2, none⟩ = some (.int .i64 x.s) := fun z => ((unhide KV).below (hb z)).c 2 (by simp)
                    have cK : ∀ z, (fV z).cell? ⟨cb, cf + i * 3 + 2, none⟩ = some (.int .i64 Y) := fun z => (((unhide BV).trans ((hb z).mono (unhide BV).size)).cell (block_lt_of_cell (unhide SM))).trans (unhide SM)
                    clear hb hall
                    obtain ⟨x0, h0⟩ := (unhide HA) V (Below.refl _ _)
                    rw [h0]
                    clear h0
                    go_wp2_with fail
                    refine (belQ (unhide HB) (unhide HA) (l19Carry_any nh nc nd _ _ _ _ _ _ _ _ _ cs x.n _ ((unhide HRI).r2.below ((unhide BV).trans ((unhide HB _).mono (unhide BV).size))))).mono ?_
                    rintro e _ ⟨rfl, y, rfl⟩
                    rw [ea]
                    clear ea
                    have HU := HMB
                    clear HMB
                    by_cases q : Y < nd - x.s
                    · have HE := hide (rl_ol (k := k) (unhide Q0) (unhide e2) (unhide e3) (unhide e4) (ixE_at hlt (by rw [unhide HX, unhide HU]; exact decide_eq_true q) (unhide AL)))
                      have HE : Hid (rlR ⟨ts, cs, ds, nh, nc, nd⟩ = (5, x.n)) := hide (by rw [unhide HE, ← unhide HX])
                      clear AL
                      go_wp2_with fail
                      refine wp_region_bel (fun w' h => (unhide HA) w' ((unhide HB _).trans (h.mono (unhide HB _).size))) (by kernel_rfl) (by kernel_rfl) ?_
                      (repeat (go_big_quiet_step (fail)))
                      refine wpQuiet_nil ?_
                      rintro _ ⟨y, rfl⟩
                      go_wp2_with fail
                      refine wp_region_bel (fun w' h => (unhide HA) w' ((unhide HB _).trans (h.mono (unhide HB _).size))) (by kernel_rfl) (by kernel_rfl) ?_
                      (repeat (go_big_quiet_step (fail)))
                      refine wpQuiet_nil ?_
                      rintro _ ⟨y, rfl⟩
                      go_wp2_with fail
                      go_ret2
                      exact ⟨ret_rl (unhide HE), (unhide BV).trans ((unhide HB _).mono (unhide BV).size)⟩
                    · have NX : Hid (∀ j, j < k + 1 → olB ⟨ts, cs, ds, nh, nc, nd⟩ (elAt ds j) = false) := hide (fun j hj => by
                        by_cases e3 : j = k
                        · rw [e3, unhide HX, unhide HU]; exact decide_eq_false q
                        · exact (unhide AL) j (by omega))
                      clear AL
                      go_wp2_with fail
                      refine wp_region_bel (fun w' h => (unhide HA) w' ((unhide HB _).trans (h.mono (unhide HB _).size))) (by kernel_rfl) (by kernel_rfl) ?_
                      (repeat (go_big_quiet_step (fail)))
                      refine wpQuiet_nil ?_
                      rintro _ ⟨y, rfl⟩
                      go_wp2_with fail
                      have KY := hide ((unhide KBV).below (unhide HB y))
                      have BY := hide ((unhide BV).trans ((unhide HB y).mono (unhide BV).size))
                      go_roundw
                      case rel => exact ⟨k + 1, by go_num, by omega, KY, BY, NX⟩
                      case measure => simp [intOf]; omega
                  · have hi1 : ¬ (k : Int) < (ds.length : Int) := by omega
                    have g2 : wr.cell? ⟨w.heap.size, 2, none⟩ = some (.slice a3 ds.length c3) := (unhide KB).c 2 (by simp)
                    have e5 : Hid (ixE (olB ⟨ts, cs, ds, nh, nc, nd⟩) ds = -1) := hide (ixE_none (fun j hj => (unhide AL) j (by omega)))
                    have KB6 := KB
                    have BW6 := BW
                    clear AL KB BW
                    go_wp2_with fail
                    clear g2 hi1 hlt hk
                    rw [rounds_succ]
                    go_wp2_with fail
                    go_ret2
                    exact ⟨ret_rl (rl_yes (unhide Q0) (unhide e2) (unhide e3) (unhide e4) (unhide e5)), unhide BW6⟩

end Go.Proofs.YticdccdkjepifaaGreat
