/-
  What the model's NextDue answers: the plain answer, at every fleet; nothing that was there is written.
-/
import Derived.Test.YtilahgifaglekbcNxPure
import Derived.Test.YtilahgifaglekbcDd1
import Derived.Test.YtilahgifaglekbcD91
import Derived.Test.YtilahgifaglekbcRegInv
import Derived.Test.YtilahgifaglekbcD9SpI
namespace Go.Proofs.Ytilahgifaglekbc
open Go Go.RowKit

structure NxR (w : World) (V0 : World) (nh : Int) (nc : Int) (nd : Int) (H : Int) (C : Int) (E : Int) (a2 : Option Addr) (a3 : Option Addr) (bb : Nat) (off : Nat) (c1 : Nat) (l2 : Nat) (c2 : Nat) (l3 : Nat) (c3 : Nat) (k : Nat) (ts : List Ts) (x : Ts) (D : Bool) (B : Bool) (t0 t1 t2 t3 t4 t5 t6 t7 t8 t9 t10 t11 t12 t13 t14 t15 : Bool) (v0 v1 v2 v3 v4 v5 v6 v7 v8 v9 v10 v11 v12 v13 v15 : Value) (W : World) : Prop where
  bel : Below w.heap.size w W
  sz : V0.heap.size ≤ W.heap.size
  ka : Blk W (w.heap.size) [.slice (some ⟨bb, off, none⟩) ts.length c1, .slice a2 l2 c2, .slice a3 l3 c3, .int .i64 nh, .int .i64 nc, .int .i64 nd]
  e0 : t0 = true → v0 = .pointer (some ⟨w.heap.size, 0, none⟩)
  e1 : t1 = true → v1 = .slice (some ⟨bb, off, none⟩) ts.length c1
  e2 : t2 = true → v2 = .int .i64 (k : Int)
  e3 : t3 = true → v3 = .pointer (some ⟨bb, off + k * 7, none⟩)
  e4 : t4 = true → v4 = .agg #[.string x.nm, .int .i64 x.h, .int .i64 x.c, .int .i64 x.d, .int .i64 x.dh, .int .i64 x.dc, .int .i64 x.dd]
  e5 : t5 = true → v5 = .pointer (some ⟨w.heap.size, 3, none⟩)
  e6 : t6 = true → v6 = .agg #[.int .i64 nh, .int .i64 nc, .int .i64 nd]
  e7 : t7 = true → v7 = .tuple #[.bool D, .agg #[.int .i64 H, .int .i64 C, .int .i64 E], .bool B]
  e8 : t8 = true → v8 = .tuple #[.bool D, .agg #[.int .i64 H, .int .i64 C, .int .i64 E], .bool B]
  e9 : t9 = true → v9 = .bool D
  e10 : t10 = true → v10 = .agg #[.int .i64 H, .int .i64 C, .int .i64 E]
  e11 : t11 = true → v11 = .bool B
  e12 : t12 = true → ∃ P, v12 = .pointer (some ⟨P, 0, none⟩) ∧ V0.heap.size ≤ P ∧ Blk W P (bif t14 then [.int .i64 H, .int .i64 C, .int .i64 E] else [.int .i64 0, .int .i64 0, .int .i64 0])
  e13 : t13 = true → v13 = .bool D
  n14 : t14 = true → t12 = true
  e15 : t15 = true → v15 = .bool B
theorem NxR.below {w : World} {V0 : World} {nh : Int} {nc : Int} {nd : Int} {H : Int} {C : Int} {E : Int} {a2 : Option Addr} {a3 : Option Addr} {bb : Nat} {off : Nat} {c1 : Nat} {l2 : Nat} {c2 : Nat} {l3 : Nat} {c3 : Nat} {k : Nat} {ts : List Ts} {x : Ts} {D : Bool} {B : Bool} {t0 t1 t2 t3 t4 t5 t6 t7 t8 t9 t10 t11 t12 t13 t14 t15 : Bool} {v0 v1 v2 v3 v4 v5 v6 v7 v8 v9 v10 v11 v12 v13 v15 : Value} {W W' : World} (K : NxR w V0 nh nc nd H C E a2 a3 bb off c1 l2 c2 l3 c3 k ts x D B t0 t1 t2 t3 t4 t5 t6 t7 t8 t9 t10 t11 t12 t13 t14 t15 v0 v1 v2 v3 v4 v5 v6 v7 v8 v9 v10 v11 v12 v13 v15 W) (hbw : Below W.heap.size W W') : NxR w V0 nh nc nd H C E a2 a3 bb off c1 l2 c2 l3 c3 k ts x D B t0 t1 t2 t3 t4 t5 t6 t7 t8 t9 t10 t11 t12 t13 t14 t15 v0 v1 v2 v3 v4 v5 v6 v7 v8 v9 v10 v11 v12 v13 v15 W' :=
  ⟨K.bel.trans (hbw.mono K.bel.size), Nat.le_trans K.sz hbw.size, K.ka.below hbw, K.e0, K.e1, K.e2, K.e3, K.e4, K.e5, K.e6, K.e7, K.e8, K.e9, K.e10, K.e11, fun h => by obtain ⟨P, x1, x2, x3⟩ := K.e12 h; exact ⟨P, x1, x2, x3.below hbw⟩, K.e13, K.n14, K.e15⟩
def NxRJ (w : World) (V0 : World) (nh : Int) (nc : Int) (nd : Int) (H : Int) (C : Int) (E : Int) (a2 : Option Addr) (a3 : Option Addr) (bb : Nat) (off : Nat) (c1 : Nat) (l2 : Nat) (c2 : Nat) (l3 : Nat) (c3 : Nat) (k : Nat) (ts : List Ts) (x : Ts) (D : Bool) (B : Bool) (A0 : Act) (l : Nat → Bool) (a : Act) (V : World) : Prop := ∃ (v0 v1 v2 v3 v4 v5 v6 v7 v8 v9 v10 v11 v12 v13 v15 : Value), a = (((((((((((((((A0.put (some 24) v0).put (some 25) v1).put (some 26) v2).put (some 27) v3).put (some 28) v4).put (some 29) v5).put (some 30) v6).put (some 31) v7).put (some 23) v8).put (some 32) v9).put (some 33) v10).put (some 34) v11).put (some 10) v12).put (some 9) v13).put (some 11) v15) ∧ NxR w V0 nh nc nd H C E a2 a3 bb off c1 l2 c2 l3 c3 k ts x D B (l 0) (l 1) (l 2) (l 3) (l 4) (l 5) (l 6) (l 7) (l 8) (l 9) (l 10) (l 11) (l 12) (l 13) (l 14) (l 15) v0 v1 v2 v3 v4 v5 v6 v7 v8 v9 v10 v11 v12 v13 v15 V
theorem NxRJ.mk {w : World} {V0 : World} {nh : Int} {nc : Int} {nd : Int} {H : Int} {C : Int} {E : Int} {a2 : Option Addr} {a3 : Option Addr} {bb : Nat} {off : Nat} {c1 : Nat} {l2 : Nat} {c2 : Nat} {l3 : Nat} {c3 : Nat} {k : Nat} {ts : List Ts} {x : Ts} {D : Bool} {B : Bool} {A0 : Act} {l : Nat → Bool} {a : Act} {V : World} {v0 v1 v2 v3 v4 v5 v6 v7 v8 v9 v10 v11 v12 v13 v15 : Value} (K : NxR w V0 nh nc nd H C E a2 a3 bb off c1 l2 c2 l3 c3 k ts x D B (l 0) (l 1) (l 2) (l 3) (l 4) (l 5) (l 6) (l 7) (l 8) (l 9) (l 10) (l 11) (l 12) (l 13) (l 14) (l 15) v0 v1 v2 v3 v4 v5 v6 v7 v8 v9 v10 v11 v12 v13 v15 V) (hq : a = (((((((((((((((A0.put (some 24) v0).put (some 25) v1).put (some 26) v2).put (some 27) v3).put (some 28) v4).put (some 29) v5).put (some 30) v6).put (some 31) v7).put (some 23) v8).put (some 32) v9).put (some 33) v10).put (some 34) v11).put (some 10) v12).put (some 9) v13).put (some 11) v15)) : NxRJ w V0 nh nc nd H C E a2 a3 bb off c1 l2 c2 l3 c3 k ts x D B A0 l a V := ⟨v0, v1, v2, v3, v4, v5, v6, v7, v8, v9, v10, v11, v12, v13, v15, hq, K⟩
set_option maxRecDepth 20000 in
set_option maxHeartbeats 8000000 in
theorem specNextDue_any (nh nc nd : Int) (a1 a2 a3 : Option Addr) (l1 c1 l2 c2 l3 c3 : Nat) (ts : List Ts) (cs : List Cr) (ds : List Df) (w : World) (hr : FlIn w a1 a2 a3 l1 l2 l3 ts cs ds) (ft : ∀ i, fitT (elAt ts i).nm) (fc : ∀ i, fitT (elAt cs i).n) (fd : ∀ i, fitT (elAt ds i).n) :
    Calls Try.prog 10 #[.agg #[.slice a1 l1 c1, .slice a2 l2 c2, .slice a3 l3 c3, .int .i64 nh, .int .i64 nc, .int .i64 nd]] w fun e w' => e = .returned (.tuple #[.string (nxR ⟨ts, cs, ds, nh, nc, nd⟩).1, .int .i64 (nxR ⟨ts, cs, ds, nh, nc, nd⟩).2.1, .bool (nxR ⟨ts, cs, ds, nh, nc, nd⟩).2.2]) ∧ Below w.heap.size w w' := by
  have C1 : Hid (∀ V, Below w.heap.size w V → Calls Try.prog 15 #[.agg #[.slice a1 l1 c1, .slice a2 l2 c2, .slice a3 l3 c3, .int .i64 nh, .int .i64 nc, .int .i64 nd]] V fun e w' => e = .returned (.bool (flB ⟨ts, cs, ds, nh, nc, nd⟩)) ∧ Below V.heap.size V w') := hide (fun V b => specFleetOk_any nh nc nd a1 a2 a3 l1 c1 l2 c2 l3 c3 ts cs ds V (hr.below b) ft fc fd)
  have z1 := hr.r1.len_eq
  have z2 := hr.r2.len_eq
  have z3 := hr.r3.len_eq
  have m1 := hr.r1.small
  have HFts := hide ft
  subst z1
  subst z2
  subst z3
  have HRts := hide hr.r1
  clear hr ft fc fd
  obtain ⟨W, hW⟩ : ∃ W, W = w.alloc (Obj.cells #[.slice a1 ts.length c1, .slice a2 cs.length c2, .slice a3 ds.length c3, .int .i64 nh, .int .i64 nc, .int .i64 nd] 37) := ⟨_, rfl⟩
  have K0 : Hid (Blk W w.heap.size [.slice a1 ts.length c1, .slice a2 cs.length c2, .slice a3 ds.length c3, .int .i64 nh, .int .i64 nc, .int .i64 nd]) := hide (by rw [hW]; exact Blk.new _ _)
  have B0 : Hid (Below w.heap.size w W) := hide (by rw [hW]; exact bel1 _)
  have HW := hide hW
  clear hW
  cases q0 : flB ⟨ts, cs, ds, nh, nc, nd⟩ with
  | false =>
    rw [q0] at C1
    have HQ := hide q0
    clear q0
    have HE := hide (nx_no (unhide HQ))
    go_enter Try.func10, Try.ntmps10
    go_wp2_with fail
    rw [← unhide HW]
    clear HW
    go_loopw [5, 6, 7, 8] (fun n b g i wr => ∃ k : Nat, n = .string ⟨#[]⟩ ∧ b = .int .i64 0 ∧ g = .bool false ∧ i = .int .i64 k ∧ k ≤ ts.length ∧ Hid (Blk wr w.heap.size [.slice a1 ts.length c1, .slice a2 cs.length c2, .slice a3 ds.length c3, .int .i64 nh, .int .i64 nc, .int .i64 nd]) ∧ Hid (Below w.heap.size w wr)) (fun _ _ _ i _ => ts.length - (intOf i).toNat)
    case atStart => exact ⟨0, rfl, rfl, rfl, rfl, Nat.zero_le _, K0, B0⟩
    case round =>
      clear K0 B0
      obtain ⟨k, rfl, rfl, rfl, rfl, hk, KB, BW⟩ := hrel
      by_cases hlt : k < ts.length
      · have hi1 : (k : Int) < (ts.length : Int) := by omega
        obtain ⟨ιfV, fV, _, hb, hall⟩ := belClass wr
        have HB := hide hb
        have HA := hide hall
        have c00 : ∀ z, (fV z).cell? ⟨w.heap.size, 0, none⟩ = some (.slice a1 ts.length c1) := fun z => ((unhide KB).below (hb z)).c 0 (by simp)
        have c01 : ∀ z, (fV z).cell? ⟨w.heap.size, 1, none⟩ = some (.slice a2 cs.length c2) := fun z => ((unhide KB).below (hb z)).c 1 (by simp)
        have c02 : ∀ z, (fV z).cell? ⟨w.heap.size, 2, none⟩ = some (.slice a3 ds.length c3) := fun z => ((unhide KB).below (hb z)).c 2 (by simp)
        have c03 : ∀ z, (fV z).cell? ⟨w.heap.size, 3, none⟩ = some (.int .i64 nh) := fun z => ((unhide KB).below (hb z)).c 3 (by simp)
        have c04 : ∀ z, (fV z).cell? ⟨w.heap.size, 4, none⟩ = some (.int .i64 nc) := fun z => ((unhide KB).below (hb z)).c 4 (by simp)
        have c05 : ∀ z, (fV z).cell? ⟨w.heap.size, 5, none⟩ = some (.int .i64 nd) := fun z => ((unhide KB).below (hb z)).c 5 (by simp)
        clear hb hall
        obtain ⟨x0, h0⟩ := (unhide HA) wr (Below.refl _ _)
        rw [h0]
        clear h0
        go_wp2_with fail
        refine (belQ (unhide HB) (unhide HA) (unhide C1 _ ((unhide BW).trans ((unhide HB _).mono (unhide BW).size)))).mono ?_
        rintro e _ ⟨rfl, y, rfl⟩
        go_wp2_with fail
        go_ret3
        exact ⟨ret_nx (unhide HE), ((unhide BW).trans ((unhide HB _).mono (unhide BW).size))⟩
      · have hi1 : ¬ (k : Int) < (ts.length : Int) := by omega
        have g0 : wr.cell? ⟨w.heap.size, 0, none⟩ = some (.slice a1 ts.length c1) := (unhide KB).c 0 (by simp)
        go_wp2_with fail
        go_ret3
        exact ⟨ret_nx (unhide HE), unhide BW⟩
  | true =>
    rw [q0] at C1
    have HQ := hide q0
    clear q0
    go_enter Try.func10, Try.ntmps10
    go_wp2_with fail
    rw [← unhide HW]
    clear HW
    go_loopw [5, 6, 7, 8] (fun n b g i wr => ∃ (k : Nat) (S : ByteArray) (M : Int) (G : Bool), n = .string S ∧ b = .int .i64 M ∧ g = .bool G ∧ i = .int .i64 k ∧ k ≤ ts.length ∧ Hid (Blk wr w.heap.size [.slice a1 ts.length c1, .slice a2 cs.length c2, .slice a3 ds.length c3, .int .i64 nh, .int .i64 nc, .int .i64 nd]) ∧ Hid (Below w.heap.size w wr) ∧ Hid (nxK ⟨ts, cs, ds, nh, nc, nd⟩ k = (S, M, G))) (fun _ _ _ i _ => ts.length - (intOf i).toNat)
    case atStart => exact ⟨0, _, _, _, rfl, rfl, rfl, rfl, Nat.zero_le _, K0, B0, hide rfl⟩
    case round =>
      clear K0 B0
      obtain ⟨k, S, M, G, rfl, rfl, rfl, rfl, hk, KB, BW, HN⟩ := hrel
      by_cases hlt : k < ts.length
      · have hi1 : (k : Int) < (ts.length : Int) := by omega
        obtain ⟨ιfV, fV, _, hb, hall⟩ := belClass wr
        have HB := hide hb
        have HA := hide hall
        have c00 : ∀ z, (fV z).cell? ⟨w.heap.size, 0, none⟩ = some (.slice a1 ts.length c1) := fun z => ((unhide KB).below (hb z)).c 0 (by simp)
        have c01 : ∀ z, (fV z).cell? ⟨w.heap.size, 1, none⟩ = some (.slice a2 cs.length c2) := fun z => ((unhide KB).below (hb z)).c 1 (by simp)
        have c02 : ∀ z, (fV z).cell? ⟨w.heap.size, 2, none⟩ = some (.slice a3 ds.length c3) := fun z => ((unhide KB).below (hb z)).c 2 (by simp)
        have c03 : ∀ z, (fV z).cell? ⟨w.heap.size, 3, none⟩ = some (.int .i64 nh) := fun z => ((unhide KB).below (hb z)).c 3 (by simp)
        have c04 : ∀ z, (fV z).cell? ⟨w.heap.size, 4, none⟩ = some (.int .i64 nc) := fun z => ((unhide KB).below (hb z)).c 4 (by simp)
        have c05 : ∀ z, (fV z).cell? ⟨w.heap.size, 5, none⟩ = some (.int .i64 nd) := fun z => ((unhide KB).below (hb z)).c 5 (by simp)
        clear hb hall
        obtain ⟨x0, h0⟩ := (unhide HA) wr (Below.refl _ _)
        rw [h0]
        clear h0
        go_wp2_with fail
        refine (belQ (unhide HB) (unhide HA) (unhide C1 _ ((unhide BW).trans ((unhide HB _).mono (unhide BW).size)))).mono ?_
        rintro e _ ⟨rfl, y, rfl⟩
        go_wp2_with fail
        clear c00 c01 c02 c03 c04 c05
        refine wp_letter (R := fun V => Below wr.heap.size wr V) (unhide HB _) ?_
        intro V3 b3
        have KB := hide ((unhide KB).below b3)
        have BW := hide ((unhide BW).trans (b3.mono (unhide BW).size))
        clear b3 HA HB
        obtain ⟨bb, off, rfl, hc⟩ := (unhide HRts).at_ k hlt
        have SK0 : w.cell? ⟨bb, off + k * 7, none⟩ = some (.string (elAt ts k).nm) := hc 0 (by omega)
        have SK1 : w.cell? ⟨bb, off + k * 7 + 1, none⟩ = some (.int .i64 (elAt ts k).h) := hc 1 (by omega)
        have SK2 : w.cell? ⟨bb, off + k * 7 + 2, none⟩ = some (.int .i64 (elAt ts k).c) := hc 2 (by omega)
        have SK3 : w.cell? ⟨bb, off + k * 7 + 3, none⟩ = some (.int .i64 (elAt ts k).d) := hc 3 (by omega)
        have SK4 : w.cell? ⟨bb, off + k * 7 + 4, none⟩ = some (.int .i64 (elAt ts k).dh) := hc 4 (by omega)
        have SK5 : w.cell? ⟨bb, off + k * 7 + 5, none⟩ = some (.int .i64 (elAt ts k).dc) := hc 5 (by omega)
        have SK6 : w.cell? ⟨bb, off + k * 7 + 6, none⟩ = some (.int .i64 (elAt ts k).dd) := hc 6 (by omega)
        obtain ⟨x, hx⟩ : ∃ x, elAt ts k = x := ⟨_, rfl⟩
        rw [hx] at SK0 SK1 SK2 SK3 SK4 SK5 SK6
        have HX := hide hx
        have hfx : fitT x.nm := by rw [← hx]; exact unhide HFts k
        clear hc hx
        obtain ⟨D, hD⟩ : ∃ D, d9D x nh nc nd = D := ⟨_, rfl⟩
        obtain ⟨H, hH⟩ : ∃ D, d9H x nh nc nd = D := ⟨_, rfl⟩
        obtain ⟨C, hC⟩ : ∃ D, d9C x nh nc nd = D := ⟨_, rfl⟩
        obtain ⟨E, hE⟩ : ∃ D, d9E x nh nc nd = D := ⟨_, rfl⟩
        obtain ⟨B, hB⟩ : ∃ D, d9B x nh nc nd = D := ⟨_, rfl⟩
        have CD : Hid (∀ V, Calls Try.prog 16 #[.agg #[.string x.nm, .int .i64 x.h, .int .i64 x.c, .int .i64 x.d, .int .i64 x.dh, .int .i64 x.dc, .int .i64 x.dd], .agg #[.int .i64 nh, .int .i64 nc, .int .i64 nd]] V fun e w' => e = .returned (.tuple #[.bool D, .agg #[.int .i64 H, .int .i64 C, .int .i64 E], .bool B]) ∧ Below V.heap.size V w') := hide (fun V => by rw [← hD, ← hH, ← hC, ← hE, ← hB]; exact specDue19_any x.nm x.h x.c x.d x.dh x.dc x.dd nh nc nd V hfx)
        have HD := hide hD
        have HC := hide hC
        clear hD hH hC hE hB hfx
        have SK0 := hide SK0
        have SK1 := hide SK1
        have SK2 := hide SK2
        have SK3 := hide SK3
        have SK4 := hide SK4
        have SK5 := hide SK5
        have SK6 := hide SK6
        have LB : Hid (w.heap.size < V3.heap.size) := hide (unhide KB).lt
        have LW : Hid (w.heap.size ≤ V3.heap.size) := hide (unhide BW).size
        have hi0 : (0 : Int) ≤ (k : Int) := by omega
        refine wp_region_flagsA (by kernel_rfl) (by kernel_rfl) (NxRJ w V3 nh nc nd H C E a2 a3 bb off c1 cs.length c2 ds.length c3 k ts x D B) ?_ ?_ ?_
        · exact NxRJ.mk (v0 := u24) (v1 := u25) (v2 := u26) (v3 := u27) (v4 := u28) (v5 := u29) (v6 := u30) (v7 := u31) (v8 := u23) (v9 := u32) (v10 := u33) (v11 := u34) (v12 := u10) (v13 := u9) (v15 := u11) ⟨(unhide BW).trans (bel0d' 1), Nat.le_refl _, ((unhide KB).below (bel0d 1) : _), (fun h => by cases h), (fun h => by cases h), (fun h => by cases h), (fun h => by cases h), (fun h => by cases h), (fun h => by cases h), (fun h => by cases h), (fun h => by cases h), (fun h => by cases h), (fun h => by cases h), (fun h => by cases h), (fun h => by cases h), (fun h => by cases h), (fun h => by cases h), (fun h => by cases h), (fun h => by cases h)⟩ (by kernel_rfl)
        rotate_left 1
        · rintro l a V i o ho hl hd ⟨v0, v1, v2, v3, v4, v5, v6, v7, v8, v9, v10, v11, v12, v13, v15, rfl, K⟩
          have hi : i < 16 := (Array.getElem?_eq_some_iff.1 ho).1
          rcases (show i = 0 ∨ i = 1 ∨ i = 2 ∨ i = 3 ∨ i = 4 ∨ i = 5 ∨ i = 6 ∨ i = 7 ∨ i = 8 ∨ i = 9 ∨ i = 10 ∨ i = 11 ∨ i = 12 ∨ i = 13 ∨ i = 14 ∨ i = 15 from by omega) with rfl | rfl | rfl | rfl | rfl | rfl | rfl | rfl | rfl | rfl | rfl | rfl | rfl | rfl | rfl | rfl
          · simp at ho
            subst ho
            have HK : Hid (NxR w V3 nh nc nd H C E a2 a3 bb off c1 cs.length c2 ds.length c3 k ts x D B true (l 1) (l 2) (l 3) (l 4) (l 5) (l 6) (l 7) (l 8) (l 9) (l 10) (l 11) (l 12) (l 13) (l 14) (l 15) (.pointer (some ⟨w.heap.size, 0, none⟩)) v1 v2 v3 v4 v5 v6 v7 v8 v9 v10 v11 v12 v13 v15 V) := hide ⟨(K.bel), (K.sz), (K.ka), (fun _ => rfl), (K.e1), (K.e2), (K.e3), (K.e4), (K.e5), (K.e6), (K.e7), (K.e8), (K.e9), (K.e10), (K.e11), (K.e12), (K.e13), (K.n14), (K.e15)⟩
            clear K hd hl
            go_wp2_with fail
            exact ⟨rfl, NxRJ.mk (unhide HK) (by kernel_rfl)⟩
          · simp at ho
            subst ho
            have d0 : l 0 = true := hd ⟨0, .data⟩ (by simp) rfl
            have x0 := K.e0 d0
            subst x0
            have yy0 : V.cell? ⟨w.heap.size, 0, none⟩ = some (.slice (some ⟨bb, off, none⟩) ts.length c1) := K.ka.c 0 (by simp)
            have HK : Hid (NxR w V3 nh nc nd H C E a2 a3 bb off c1 cs.length c2 ds.length c3 k ts x D B (l 0) true (l 2) (l 3) (l 4) (l 5) (l 6) (l 7) (l 8) (l 9) (l 10) (l 11) (l 12) (l 13) (l 14) (l 15) (.pointer (some ⟨w.heap.size, 0, none⟩)) (.slice (some ⟨bb, off, none⟩) ts.length c1) v2 v3 v4 v5 v6 v7 v8 v9 v10 v11 v12 v13 v15 V) := hide ⟨(K.bel), (K.sz), (K.ka), (K.e0), (fun _ => rfl), (K.e2), (K.e3), (K.e4), (K.e5), (K.e6), (K.e7), (K.e8), (K.e9), (K.e10), (K.e11), (K.e12), (K.e13), (K.n14), (K.e15)⟩
            clear K hd hl
            go_wp2_with fail
            exact ⟨rfl, NxRJ.mk (unhide HK) (by kernel_rfl)⟩
          · simp at ho
            subst ho
            have HK : Hid (NxR w V3 nh nc nd H C E a2 a3 bb off c1 cs.length c2 ds.length c3 k ts x D B (l 0) (l 1) true (l 3) (l 4) (l 5) (l 6) (l 7) (l 8) (l 9) (l 10) (l 11) (l 12) (l 13) (l 14) (l 15) v0 v1 (.int .i64 (k : Int)) v3 v4 v5 v6 v7 v8 v9 v10 v11 v12 v13 v15 V) := hide ⟨(K.bel), (K.sz), (K.ka), (K.e0), (K.e1), (fun _ => rfl), (K.e3), (K.e4), (K.e5), (K.e6), (K.e7), (K.e8), (K.e9), (K.e10), (K.e11), (K.e12), (K.e13), (K.n14), (K.e15)⟩
            clear K hd hl
            go_wp2_with fail
            exact ⟨rfl, NxRJ.mk (unhide HK) (by kernel_rfl)⟩
          · simp at ho
            subst ho
            have d1 : l 1 = true := hd ⟨1, .data⟩ (by simp) rfl
            have x1 := K.e1 d1
            subst x1
            have d2 : l 2 = true := hd ⟨2, .data⟩ (by simp) rfl
            have x2 := K.e2 d2
            subst x2
            have HK : Hid (NxR w V3 nh nc nd H C E a2 a3 bb off c1 cs.length c2 ds.length c3 k ts x D B (l 0) (l 1) (l 2) true (l 4) (l 5) (l 6) (l 7) (l 8) (l 9) (l 10) (l 11) (l 12) (l 13) (l 14) (l 15) v0 (.slice (some ⟨bb, off, none⟩) ts.length c1) (.int .i64 (k : Int)) (.pointer (some ⟨bb, off + k * 7, none⟩)) v4 v5 v6 v7 v8 v9 v10 v11 v12 v13 v15 V) := hide ⟨(K.bel), (K.sz), (K.ka), (K.e0), (K.e1), (K.e2), (fun _ => rfl), (K.e4), (K.e5), (K.e6), (K.e7), (K.e8), (K.e9), (K.e10), (K.e11), (K.e12), (K.e13), (K.n14), (K.e15)⟩
            clear K hd hl
            go_wp2_with fail
            exact ⟨rfl, NxRJ.mk (unhide HK) (by kernel_rfl)⟩
          · simp at ho
            subst ho
            have d3 : l 3 = true := hd ⟨3, .data⟩ (by simp) rfl
            have x3 := K.e3 d3
            subst x3
            have yy0 := (K.bel.cell (block_lt_of_cell (unhide SK0))).trans (unhide SK0)
            have yy1 := (K.bel.cell (block_lt_of_cell (unhide SK1))).trans (unhide SK1)
            have yy2 := (K.bel.cell (block_lt_of_cell (unhide SK2))).trans (unhide SK2)
            have yy3 := (K.bel.cell (block_lt_of_cell (unhide SK3))).trans (unhide SK3)
            have yy4 := (K.bel.cell (block_lt_of_cell (unhide SK4))).trans (unhide SK4)
            have yy5 := (K.bel.cell (block_lt_of_cell (unhide SK5))).trans (unhide SK5)
            have yy6 := (K.bel.cell (block_lt_of_cell (unhide SK6))).trans (unhide SK6)
            have HK : Hid (NxR w V3 nh nc nd H C E a2 a3 bb off c1 cs.length c2 ds.length c3 k ts x D B (l 0) (l 1) (l 2) (l 3) true (l 5) (l 6) (l 7) (l 8) (l 9) (l 10) (l 11) (l 12) (l 13) (l 14) (l 15) v0 v1 v2 (.pointer (some ⟨bb, off + k * 7, none⟩)) (.agg #[.string x.nm, .int .i64 x.h, .int .i64 x.c, .int .i64 x.d, .int .i64 x.dh, .int .i64 x.dc, .int .i64 x.dd]) v5 v6 v7 v8 v9 v10 v11 v12 v13 v15 V) := hide ⟨(K.bel), (K.sz), (K.ka), (K.e0), (K.e1), (K.e2), (K.e3), (fun _ => rfl), (K.e5), (K.e6), (K.e7), (K.e8), (K.e9), (K.e10), (K.e11), (K.e12), (K.e13), (K.n14), (K.e15)⟩
            clear K hd hl
            go_wp2_with fail
            exact ⟨rfl, NxRJ.mk (unhide HK) (by kernel_rfl)⟩
          · simp at ho
            subst ho
            have HK : Hid (NxR w V3 nh nc nd H C E a2 a3 bb off c1 cs.length c2 ds.length c3 k ts x D B (l 0) (l 1) (l 2) (l 3) (l 4) true (l 6) (l 7) (l 8) (l 9) (l 10) (l 11) (l 12) (l 13) (l 14) (l 15) v0 v1 v2 v3 v4 (.pointer (some ⟨w.heap.size, 3, none⟩)) v6 v7 v8 v9 v10 v11 v12 v13 v15 V) := hide ⟨(K.bel), (K.sz), (K.ka), (K.e0), (K.e1), (K.e2), (K.e3), (K.e4), (fun _ => rfl), (K.e6), (K.e7), (K.e8), (K.e9), (K.e10), (K.e11), (K.e12), (K.e13), (K.n14), (K.e15)⟩
            clear K hd hl
            go_wp2_with fail
            exact ⟨rfl, NxRJ.mk (unhide HK) (by kernel_rfl)⟩
          · simp at ho
            subst ho
            have d5 : l 5 = true := hd ⟨5, .data⟩ (by simp) rfl
            have x5 := K.e5 d5
            subst x5
            have yy0 : V.cell? ⟨w.heap.size, 3, none⟩ = some (.int .i64 nh) := K.ka.c 3 (by simp)
            have yy1 : V.cell? ⟨w.heap.size, 4, none⟩ = some (.int .i64 nc) := K.ka.c 4 (by simp)
            have yy2 : V.cell? ⟨w.heap.size, 5, none⟩ = some (.int .i64 nd) := K.ka.c 5 (by simp)
            have HK : Hid (NxR w V3 nh nc nd H C E a2 a3 bb off c1 cs.length c2 ds.length c3 k ts x D B (l 0) (l 1) (l 2) (l 3) (l 4) (l 5) true (l 7) (l 8) (l 9) (l 10) (l 11) (l 12) (l 13) (l 14) (l 15) v0 v1 v2 v3 v4 (.pointer (some ⟨w.heap.size, 3, none⟩)) (.agg #[.int .i64 nh, .int .i64 nc, .int .i64 nd]) v7 v8 v9 v10 v11 v12 v13 v15 V) := hide ⟨(K.bel), (K.sz), (K.ka), (K.e0), (K.e1), (K.e2), (K.e3), (K.e4), (K.e5), (fun _ => rfl), (K.e7), (K.e8), (K.e9), (K.e10), (K.e11), (K.e12), (K.e13), (K.n14), (K.e15)⟩
            clear K hd hl
            go_wp2_with fail
            exact ⟨rfl, NxRJ.mk (unhide HK) (by kernel_rfl)⟩
          · simp at ho
            subst ho
            have d4 : l 4 = true := hd ⟨4, .data⟩ (by simp) rfl
            have x4 := K.e4 d4
            subst x4
            have d6 : l 6 = true := hd ⟨6, .data⟩ (by simp) rfl
            have x6 := K.e6 d6
            subst x6
            have HK0 := hide K
            clear K hd hl
            go_wp2_with (go_at_call 16; refine (unhide CD _).mono ?_; rintro e V2 ⟨rfl, b2⟩; have K := (unhide HK0).below b2; have HK : Hid (NxR w V3 nh nc nd H C E a2 a3 bb off c1 cs.length c2 ds.length c3 k ts x D B (l 0) (l 1) (l 2) (l 3) (l 4) (l 5) (l 6) true (l 8) (l 9) (l 10) (l 11) (l 12) (l 13) (l 14) (l 15) v0 v1 v2 v3 (.agg #[.string x.nm, .int .i64 x.h, .int .i64 x.c, .int .i64 x.d, .int .i64 x.dh, .int .i64 x.dc, .int .i64 x.dd]) v5 (.agg #[.int .i64 nh, .int .i64 nc, .int .i64 nd]) (.tuple #[.bool D, .agg #[.int .i64 H, .int .i64 C, .int .i64 E], .bool B]) v8 v9 v10 v11 v12 v13 v15 V2) := hide ⟨(K.bel), (K.sz), (K.ka), (K.e0), (K.e1), (K.e2), (K.e3), (K.e4), (K.e5), (K.e6), (fun _ => rfl), (K.e8), (K.e9), (K.e10), (K.e11), (K.e12), (K.e13), (K.n14), (K.e15)⟩; clear K b2)
            exact ⟨rfl, NxRJ.mk (unhide HK) (by kernel_rfl)⟩
          · simp at ho
            subst ho
            have d7 : l 7 = true := hd ⟨7, .data⟩ (by simp) rfl
            have x7 := K.e7 d7
            subst x7
            have HK : Hid (NxR w V3 nh nc nd H C E a2 a3 bb off c1 cs.length c2 ds.length c3 k ts x D B (l 0) (l 1) (l 2) (l 3) (l 4) (l 5) (l 6) (l 7) true (l 9) (l 10) (l 11) (l 12) (l 13) (l 14) (l 15) v0 v1 v2 v3 v4 v5 v6 (.tuple #[.bool D, .agg #[.int .i64 H, .int .i64 C, .int .i64 E], .bool B]) (.tuple #[.bool D, .agg #[.int .i64 H, .int .i64 C, .int .i64 E], .bool B]) v9 v10 v11 v12 v13 v15 V) := hide ⟨(K.bel), (K.sz), (K.ka), (K.e0), (K.e1), (K.e2), (K.e3), (K.e4), (K.e5), (K.e6), (K.e7), (fun _ => rfl), (K.e9), (K.e10), (K.e11), (K.e12), (K.e13), (K.n14), (K.e15)⟩
            clear K hd hl
            go_wp2_with fail
            exact ⟨rfl, NxRJ.mk (unhide HK) (by kernel_rfl)⟩
          · simp at ho
            subst ho
            have d8 : l 8 = true := hd ⟨8, .data⟩ (by simp) rfl
            have x8 := K.e8 d8
            subst x8
            have HK : Hid (NxR w V3 nh nc nd H C E a2 a3 bb off c1 cs.length c2 ds.length c3 k ts x D B (l 0) (l 1) (l 2) (l 3) (l 4) (l 5) (l 6) (l 7) (l 8) true (l 10) (l 11) (l 12) (l 13) (l 14) (l 15) v0 v1 v2 v3 v4 v5 v6 v7 (.tuple #[.bool D, .agg #[.int .i64 H, .int .i64 C, .int .i64 E], .bool B]) (.bool D) v10 v11 v12 v13 v15 V) := hide ⟨(K.bel), (K.sz), (K.ka), (K.e0), (K.e1), (K.e2), (K.e3), (K.e4), (K.e5), (K.e6), (K.e7), (K.e8), (fun _ => rfl), (K.e10), (K.e11), (K.e12), (K.e13), (K.n14), (K.e15)⟩
            clear K hd hl
            go_wp2_with fail
            exact ⟨rfl, NxRJ.mk (unhide HK) (by kernel_rfl)⟩
          · simp at ho
            subst ho
            have d8 : l 8 = true := hd ⟨8, .data⟩ (by simp) rfl
            have x8 := K.e8 d8
            subst x8
            have HK : Hid (NxR w V3 nh nc nd H C E a2 a3 bb off c1 cs.length c2 ds.length c3 k ts x D B (l 0) (l 1) (l 2) (l 3) (l 4) (l 5) (l 6) (l 7) (l 8) (l 9) true (l 11) (l 12) (l 13) (l 14) (l 15) v0 v1 v2 v3 v4 v5 v6 v7 (.tuple #[.bool D, .agg #[.int .i64 H, .int .i64 C, .int .i64 E], .bool B]) v9 (.agg #[.int .i64 H, .int .i64 C, .int .i64 E]) v11 v12 v13 v15 V) := hide ⟨(K.bel), (K.sz), (K.ka), (K.e0), (K.e1), (K.e2), (K.e3), (K.e4), (K.e5), (K.e6), (K.e7), (K.e8), (K.e9), (fun _ => rfl), (K.e11), (K.e12), (K.e13), (K.n14), (K.e15)⟩
            clear K hd hl
            go_wp2_with fail
            exact ⟨rfl, NxRJ.mk (unhide HK) (by kernel_rfl)⟩
          · simp at ho
            subst ho
            have d8 : l 8 = true := hd ⟨8, .data⟩ (by simp) rfl
            have x8 := K.e8 d8
            subst x8
            have HK : Hid (NxR w V3 nh nc nd H C E a2 a3 bb off c1 cs.length c2 ds.length c3 k ts x D B (l 0) (l 1) (l 2) (l 3) (l 4) (l 5) (l 6) (l 7) (l 8) (l 9) (l 10) true (l 12) (l 13) (l 14) (l 15) v0 v1 v2 v3 v4 v5 v6 v7 (.tuple #[.bool D, .agg #[.int .i64 H, .int .i64 C, .int .i64 E], .bool B]) v9 v10 (.bool B) v12 v13 v15 V) := hide ⟨(K.bel), (K.sz), (K.ka), (K.e0), (K.e1), (K.e2), (K.e3), (K.e4), (K.e5), (K.e6), (K.e7), (K.e8), (K.e9), (K.e10), (fun _ => rfl), (K.e12), (K.e13), (K.n14), (K.e15)⟩
            clear K hd hl
            go_wp2_with fail
            exact ⟨rfl, NxRJ.mk (unhide HK) (by kernel_rfl)⟩
          · simp at ho
            subst ho
            have nz : l 14 = false := by cases c : l 14; rfl; have := K.n14 c; rw [hl] at this; cases this
            have K2 := K.below (bel1 (Obj.cells #[.int .i64 0, .int .i64 0, .int .i64 0] 35))
            have HK : Hid (NxR w V3 nh nc nd H C E a2 a3 bb off c1 cs.length c2 ds.length c3 k ts x D B (l 0) (l 1) (l 2) (l 3) (l 4) (l 5) (l 6) (l 7) (l 8) (l 9) (l 10) (l 11) true (l 13) (l 14) (l 15) v0 v1 v2 v3 v4 v5 v6 v7 v8 v9 v10 v11 (.pointer (some ⟨V.heap.size, 0, none⟩)) v13 v15 (V.alloc (Obj.cells #[.int .i64 0, .int .i64 0, .int .i64 0] 35))) := hide ⟨(K2.bel), (K2.sz), (K2.ka), (K2.e0), (K2.e1), (K2.e2), (K2.e3), (K2.e4), (K2.e5), (K2.e6), (K2.e7), (K2.e8), (K2.e9), (K2.e10), (K2.e11), (fun _ => ⟨_, rfl, K.sz, by rw [nz]; exact Blk.new _ _⟩), (K2.e13), (fun h => by cases nz.symm.trans h), (K2.e15)⟩
            clear K K2 hd hl nz
            go_wp2_with fail
            exact ⟨rfl, NxRJ.mk (unhide HK) (by kernel_rfl)⟩
          · simp at ho
            subst ho
            have d9 : l 9 = true := hd ⟨9, .data⟩ (by simp) rfl
            have x9 := K.e9 d9
            subst x9
            have HK : Hid (NxR w V3 nh nc nd H C E a2 a3 bb off c1 cs.length c2 ds.length c3 k ts x D B (l 0) (l 1) (l 2) (l 3) (l 4) (l 5) (l 6) (l 7) (l 8) (l 9) (l 10) (l 11) (l 12) true (l 14) (l 15) v0 v1 v2 v3 v4 v5 v6 v7 v8 (.bool D) v10 v11 v12 (.bool D) v15 V) := hide ⟨(K.bel), (K.sz), (K.ka), (K.e0), (K.e1), (K.e2), (K.e3), (K.e4), (K.e5), (K.e6), (K.e7), (K.e8), (K.e9), (K.e10), (K.e11), (K.e12), (fun _ => rfl), (K.n14), (K.e15)⟩
            clear K hd hl
            go_wp2_with fail
            exact ⟨rfl, NxRJ.mk (unhide HK) (by kernel_rfl)⟩
          · simp at ho
            subst ho
            have d10 : l 10 = true := hd ⟨10, .data⟩ (by simp) rfl
            have x10 := K.e10 d10
            subst x10
            have da : l 12 = true := hd ⟨12, .data⟩ (by simp) rfl
            obtain ⟨P, x1, x2, x3⟩ := K.e12 da
            rw [hl] at x3
            have yy0 : V.cell? ⟨P, 0, none⟩ = some (.int .i64 0) := x3.c 0 (by simp)
            have ff0 : V.frozen? ⟨P, 0, none⟩ = false := x3.f 0 (by simp)
            have yy1 : V.cell? ⟨P, 1, none⟩ = some (.int .i64 0) := x3.c 1 (by simp)
            have ff1 : V.frozen? ⟨P, 1, none⟩ = false := x3.f 1 (by simp)
            have yy2 : V.cell? ⟨P, 2, none⟩ = some (.int .i64 0) := x3.c 2 (by simp)
            have ff2 : V.frozen? ⟨P, 2, none⟩ = false := x3.f 2 (by simp)
            have HK : Hid (NxR w V3 nh nc nd H C E a2 a3 bb off c1 cs.length c2 ds.length c3 k ts x D B (l 0) (l 1) (l 2) (l 3) (l 4) (l 5) (l 6) (l 7) (l 8) (l 9) (l 10) (l 11) (l 12) (l 13) true (l 15) v0 v1 v2 v3 v4 v5 v6 v7 v8 v9 (.agg #[.int .i64 H, .int .i64 C, .int .i64 E]) v11 v12 v13 v15 (((V.setCell ⟨P, 0, none⟩ (.int .i64 H)).setCell ⟨P, 1, none⟩ (.int .i64 C)).setCell ⟨P, 2, none⟩ (.int .i64 E))) := hide ⟨((((K.bel.setCell (p := ⟨P, 0, none⟩) (Nat.le_trans (unhide LW) x2) _).setCell (p := ⟨P, 1, none⟩) (Nat.le_trans (unhide LW) x2) _).setCell (p := ⟨P, 2, none⟩) (Nat.le_trans (unhide LW) x2) _)), (by simpa [World.setCell] using K.sz), ((((K.ka.other (p := ⟨P, 0, none⟩) (by have := unhide LB; show P ≠ w.heap.size; omega) _).other (p := ⟨P, 1, none⟩) (by have := unhide LB; show P ≠ w.heap.size; omega) _).other (p := ⟨P, 2, none⟩) (by have := unhide LB; show P ≠ w.heap.size; omega) _)), (K.e0), (K.e1), (K.e2), (K.e3), (K.e4), (K.e5), (K.e6), (K.e7), (K.e8), (K.e9), (K.e10), (K.e11), (fun _ => ⟨P, x1, x2, (((x3.set 0 (by simp) _).set 1 (by simp) _).set 2 (by simp) _)⟩), (K.e13), (fun _ => da), (K.e15)⟩
            clear K hd hl x3
            subst x1
            go_wp2_with fail
            exact ⟨rfl, NxRJ.mk (unhide HK) (by kernel_rfl)⟩
          · simp at ho
            subst ho
            have d11 : l 11 = true := hd ⟨11, .data⟩ (by simp) rfl
            have x11 := K.e11 d11
            subst x11
            have HK : Hid (NxR w V3 nh nc nd H C E a2 a3 bb off c1 cs.length c2 ds.length c3 k ts x D B (l 0) (l 1) (l 2) (l 3) (l 4) (l 5) (l 6) (l 7) (l 8) (l 9) (l 10) (l 11) (l 12) (l 13) (l 14) true v0 v1 v2 v3 v4 v5 v6 v7 v8 v9 v10 (.bool B) v12 v13 (.bool B) V) := hide ⟨(K.bel), (K.sz), (K.ka), (K.e0), (K.e1), (K.e2), (K.e3), (K.e4), (K.e5), (K.e6), (K.e7), (K.e8), (K.e9), (K.e10), (K.e11), (K.e12), (K.e13), (K.n14), (fun _ => rfl)⟩
            clear K hd hl
            go_wp2_with fail
            exact ⟨rfl, NxRJ.mk (unhide HK) (by kernel_rfl)⟩
        rintro l a V1 hall ⟨v0, v1, v2, v3, v4, v5, v6, v7, v8, v9, v10, v11, v12, v13, v15, rfl, K⟩
        have g0 := hall 0 (by decide)
        have g1 := hall 1 (by decide)
        have g2 := hall 2 (by decide)
        have g3 := hall 3 (by decide)
        have g4 := hall 4 (by decide)
        have g5 := hall 5 (by decide)
        have g6 := hall 6 (by decide)
        have g7 := hall 7 (by decide)
        have g8 := hall 8 (by decide)
        have g9 := hall 9 (by decide)
        have g10 := hall 10 (by decide)
        have g11 := hall 11 (by decide)
        have g12 := hall 12 (by decide)
        have g13 := hall 13 (by decide)
        have g14 := hall 14 (by decide)
        have g15 := hall 15 (by decide)
        clear hall
        have px0 := K.e0 g0
        have px1 := K.e1 g1
        have px2 := K.e2 g2
        have px3 := K.e3 g3
        have px4 := K.e4 g4
        have px5 := K.e5 g5
        have px6 := K.e6 g6
        have px7 := K.e7 g7
        have px8 := K.e8 g8
        have px9 := K.e9 g9
        have px10 := K.e10 g10
        have px11 := K.e11 g11
        obtain ⟨P12, px12, pl12, pb12⟩ := K.e12 g12
        rw [g14] at pb12
        have PB12 : Hid (Blk V1 P12 [.int .i64 H, .int .i64 C, .int .i64 E]) := hide pb12
        have px13 := K.e13 g13
        have px15 := K.e15 g15
        have KBa : Hid (Blk V1 (w.heap.size) [.slice (some ⟨bb, off, none⟩) ts.length c1, .slice a2 cs.length c2, .slice a3 ds.length c3, .int .i64 nh, .int .i64 nc, .int .i64 nd]) := hide K.ka
        have KBEL : Hid (Below w.heap.size w V1) := hide K.bel
        have KSZ : Hid (V3.heap.size ≤ V1.heap.size) := hide K.sz
        clear K g0 g1 g2 g3 g4 g5 g6 g7 g8 g9 g10 g11 g12 g13 g14 g15 pb12
        subst px0
        subst px1
        subst px2
        subst px3
        subst px4
        subst px5
        subst px6
        subst px7
        subst px8
        subst px9
        subst px10
        subst px11
        subst px12
        subst px13
        subst px15
        clear KB BW KSZ
        have HEC : Hid ((elAt ts k).c = x.c) := hide (by rw [unhide HX])
        cases D with
        | true =>
          have NX : Hid (nxK ⟨ts, cs, ds, nh, nc, nd⟩ (k + 1) = (S, M, G)) := hide (by rw [nx_keep (.inl (by show d9D (elAt ts k) nh nc nd = true; rw [unhide HX]; exact unhide HD))]; exact unhide HN)
          clear HN
          have g0 : V1.cell? ⟨w.heap.size, 0, none⟩ = some (.slice (some ⟨bb, off, none⟩) ts.length c1) := (unhide KBa).c 0 (by simp)
          have p1 : V1.cell? ⟨P12, 1, none⟩ = some (.int .i64 C) := (unhide PB12).c 1 (by simp)
          have k0 := ((unhide KBEL).cell (block_lt_of_cell (unhide SK0))).trans (unhide SK0)
          have k2 := ((unhide KBEL).cell (block_lt_of_cell (unhide SK2))).trans (unhide SK2)
          go_wp2_with fail
          go_roundw
          case rel => exact ⟨k + 1, S, M, G, rfl, rfl, rfl, by go_num, by omega, KBa, KBEL, NX⟩
          case measure => simp [intOf]; omega
        | false =>
          by_cases q1 : 0 < x.c
          rotate_left 1
          · have NX : Hid (nxK ⟨ts, cs, ds, nh, nc, nd⟩ (k + 1) = (S, M, G)) := hide (by rw [nx_keep (.inr (.inl (by show ¬ 0 < (elAt ts k).c; rw [unhide HX]; exact q1)))]; exact unhide HN)
            clear HN
            have g0 : V1.cell? ⟨w.heap.size, 0, none⟩ = some (.slice (some ⟨bb, off, none⟩) ts.length c1) := (unhide KBa).c 0 (by simp)
            have p1 : V1.cell? ⟨P12, 1, none⟩ = some (.int .i64 C) := (unhide PB12).c 1 (by simp)
            have k0 := ((unhide KBEL).cell (block_lt_of_cell (unhide SK0))).trans (unhide SK0)
            have k2 := ((unhide KBEL).cell (block_lt_of_cell (unhide SK2))).trans (unhide SK2)
            go_wp2_with fail
            go_roundw
            case rel => exact ⟨k + 1, S, M, G, rfl, rfl, rfl, by go_num, by omega, KBa, KBEL, NX⟩
            case measure => simp [intOf]; omega
          cases G with
          | false =>
            have NX : Hid (nxK ⟨ts, cs, ds, nh, nc, nd⟩ (k + 1) = (x.nm, C, true)) := hide (by rw [nx_take (k := k) (by show d9D (elAt ts k) nh nc nd = false; rw [unhide HX]; exact unhide HD) (by show 0 < (elAt ts k).c; rw [unhide HX]; exact q1) (.inl (by rw [unhide HN]))]; show ((elAt ts k).nm, d9C (elAt ts k) nh nc nd, true) = _; rw [unhide HX, unhide HC])
            clear HN
            have g0 : V1.cell? ⟨w.heap.size, 0, none⟩ = some (.slice (some ⟨bb, off, none⟩) ts.length c1) := (unhide KBa).c 0 (by simp)
            have p1 : V1.cell? ⟨P12, 1, none⟩ = some (.int .i64 C) := (unhide PB12).c 1 (by simp)
            have k0 := ((unhide KBEL).cell (block_lt_of_cell (unhide SK0))).trans (unhide SK0)
            have k2 := ((unhide KBEL).cell (block_lt_of_cell (unhide SK2))).trans (unhide SK2)
            go_wp2_with fail
            go_roundw
            case rel => exact ⟨k + 1, x.nm, C, true, rfl, rfl, rfl, by go_num, by omega, KBa, KBEL, NX⟩
            case measure => simp [intOf]; omega
          | true =>
            by_cases q2 : C < M
            · have NX : Hid (nxK ⟨ts, cs, ds, nh, nc, nd⟩ (k + 1) = (x.nm, C, true)) := hide (by rw [nx_take (k := k) (by show d9D (elAt ts k) nh nc nd = false; rw [unhide HX]; exact unhide HD) (by show 0 < (elAt ts k).c; rw [unhide HX]; exact q1) (.inr (by show d9C (elAt ts k) nh nc nd < _; rw [unhide HX, unhide HC, unhide HN]; exact q2))]; show ((elAt ts k).nm, d9C (elAt ts k) nh nc nd, true) = _; rw [unhide HX, unhide HC])
              clear HN
              have g0 : V1.cell? ⟨w.heap.size, 0, none⟩ = some (.slice (some ⟨bb, off, none⟩) ts.length c1) := (unhide KBa).c 0 (by simp)
              have p1 : V1.cell? ⟨P12, 1, none⟩ = some (.int .i64 C) := (unhide PB12).c 1 (by simp)
              have k0 := ((unhide KBEL).cell (block_lt_of_cell (unhide SK0))).trans (unhide SK0)
              have k2 := ((unhide KBEL).cell (block_lt_of_cell (unhide SK2))).trans (unhide SK2)
              go_wp2_with fail
              go_roundw
              case rel => exact ⟨k + 1, x.nm, C, true, rfl, rfl, rfl, by go_num, by omega, KBa, KBEL, NX⟩
              case measure => simp [intOf]; omega
            · have NX : Hid (nxK ⟨ts, cs, ds, nh, nc, nd⟩ (k + 1) = (S, M, true)) := hide (by rw [nx_keep (.inr (.inr ⟨by rw [unhide HN], by show ¬ d9C (elAt ts k) nh nc nd < _; rw [unhide HX, unhide HC, unhide HN]; exact q2⟩))]; exact unhide HN)
              clear HN
              have g0 : V1.cell? ⟨w.heap.size, 0, none⟩ = some (.slice (some ⟨bb, off, none⟩) ts.length c1) := (unhide KBa).c 0 (by simp)
              have p1 : V1.cell? ⟨P12, 1, none⟩ = some (.int .i64 C) := (unhide PB12).c 1 (by simp)
              have k0 := ((unhide KBEL).cell (block_lt_of_cell (unhide SK0))).trans (unhide SK0)
              have k2 := ((unhide KBEL).cell (block_lt_of_cell (unhide SK2))).trans (unhide SK2)
              go_wp2_with fail
              go_roundw
              case rel => exact ⟨k + 1, S, M, true, rfl, rfl, rfl, by go_num, by omega, KBa, KBEL, NX⟩
              case measure => simp [intOf]; omega
      · have hi1 : ¬ (k : Int) < (ts.length : Int) := by omega
        have g0 : wr.cell? ⟨w.heap.size, 0, none⟩ = some (.slice a1 ts.length c1) := (unhide KB).c 0 (by simp)
        have HE : Hid (nxR ⟨ts, cs, ds, nh, nc, nd⟩ = (S, M, G)) := hide (by rw [nx_yes (unhide HQ), show (⟨ts, cs, ds, nh, nc, nd⟩ : Fl).ts.length = k from (by show ts.length = k; omega)]; exact unhide HN)
        go_wp2_with fail
        go_ret3
        exact ⟨ret_nx (unhide HE), unhide BW⟩

end Go.Proofs.Ytilahgifaglekbc
