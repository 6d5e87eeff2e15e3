/-
  The law FnExactDeskOk returns true at every argument and writes nothing that was there: the walk. No condition.
-/
import Derived.Test.YtglefolkecimabdDkSpc
import Derived.Test.YtglefolkecimabdDkTo
import Derived.Test.YtglefolkecimabdRegInv
namespace Go.Proofs.Ytglefolkecimabd
open Go.RowKit

structure DqR (w : World) (V0 : World) (C : Cf) (P : Pl) (g : Option Addr) (n c0 : Nat) (nh nc nd : Int) (a1 a2 a3 : Option Addr) (l1 c1 l2 c2 l3 c3 : Nat) (ls : List Lg) (z1 : List Ts) (z2 : List Cr) (z3 : List Df) (X h0 h1 h2 h3 : Nat) (A A1 : Value) (t0 t1 t2 t3 t4 : Bool) (v0 v1 v2 v3 v4 : Value) (W : World) : Prop where
  bel : Below w.heap.size w W
  sz : V0.heap.size ≤ W.heap.size
  kx : Blk W (X) [.int .i64 C.a0, .int .i64 C.a1, .int .i64 C.a2, .int .i64 C.a3, .int .i64 C.a4, .slice (some ⟨h0, 0, none⟩) n n, .int .i64 P.a0, .int .i64 P.a1, .int .i64 P.a2, .int .i64 P.a3, .int .i64 P.a4, .int .i64 P.a5, .int .i64 P.a6, .int .i64 P.a7, .bool P.a8, .slice (some ⟨h1, 0, none⟩) l1 l1, .slice (some ⟨h2, 0, none⟩) l2 l2, .slice (some ⟨h3, 0, none⟩) l3 l3, .int .i64 nh, .int .i64 nc, .int .i64 nd]
  kp : Blk W (w.heap.size) [.int .i64 C.a0, .int .i64 C.a1, .int .i64 C.a2, .int .i64 C.a3, .int .i64 C.a4, .slice g n c0, .int .i64 P.a0, .int .i64 P.a1, .int .i64 P.a2, .int .i64 P.a3, .int .i64 P.a4, .int .i64 P.a5, .int .i64 P.a6, .int .i64 P.a7, .bool P.a8, .slice a1 l1 c1, .slice a2 l2 c2, .slice a3 l3 c3, .int .i64 nh, .int .i64 nc, .int .i64 nd]
  pown : DkIn W (some ⟨h0, 0, none⟩) (some ⟨h1, 0, none⟩) (some ⟨h2, 0, none⟩) (some ⟨h3, 0, none⟩) n l1 l2 l3 ls z1 z2 z3
  parg : DkIn W g a1 a2 a3 n l1 l2 l3 ls z1 z2 z3
  e0 : t0 = true → v0 = A1
  e1 : t1 = true → v1 = A
  e2 : t2 = true → ∃ e0 e1 e2 e3, v2 = .agg #[.int .i64 C.a0, .int .i64 C.a1, .int .i64 C.a2, .int .i64 C.a3, .int .i64 C.a4, .slice (some ⟨e0, 0, none⟩) n n, .int .i64 P.a0, .int .i64 P.a1, .int .i64 P.a2, .int .i64 P.a3, .int .i64 P.a4, .int .i64 P.a5, .int .i64 P.a6, .int .i64 P.a7, .bool P.a8, .slice (some ⟨e1, 0, none⟩) l1 l1, .slice (some ⟨e2, 0, none⟩) l2 l2, .slice (some ⟨e3, 0, none⟩) l3 l3, .int .i64 nh, .int .i64 nc, .int .i64 nd] ∧ DkIn W (some ⟨e0, 0, none⟩) (some ⟨e1, 0, none⟩) (some ⟨e2, 0, none⟩) (some ⟨e3, 0, none⟩) n l1 l2 l3 ls z1 z2 z3
  e3 : t3 = true → v3 = .bool true
  e4 : t4 = true → v4 = .bool false
theorem DqR.below {w : World} {V0 : World} {C : Cf} {P : Pl} {g : Option Addr} {n c0 : Nat} {nh nc nd : Int} {a1 a2 a3 : Option Addr} {l1 c1 l2 c2 l3 c3 : Nat} {ls : List Lg} {z1 : List Ts} {z2 : List Cr} {z3 : List Df} {X h0 h1 h2 h3 : Nat} {A A1 : Value} {t0 t1 t2 t3 t4 : Bool} {v0 v1 v2 v3 v4 : Value} {W W' : World} (K : DqR w V0 C P g n c0 nh nc nd a1 a2 a3 l1 c1 l2 c2 l3 c3 ls z1 z2 z3 X h0 h1 h2 h3 A A1 t0 t1 t2 t3 t4 v0 v1 v2 v3 v4 W) (hbw : Below W.heap.size W W') : DqR w V0 C P g n c0 nh nc nd a1 a2 a3 l1 c1 l2 c2 l3 c3 ls z1 z2 z3 X h0 h1 h2 h3 A A1 t0 t1 t2 t3 t4 v0 v1 v2 v3 v4 W' :=
  ⟨K.bel.trans (hbw.mono K.bel.size), Nat.le_trans K.sz hbw.size, K.kx.below hbw, K.kp.below hbw, K.pown.below hbw, K.parg.below hbw, K.e0, K.e1, fun h => by obtain ⟨e0, e1, e2, e3, x1, x2⟩ := K.e2 h; exact ⟨e0, e1, e2, e3, x1, x2.below hbw⟩, K.e3, K.e4⟩
def DqRJ (w : World) (V0 : World) (C : Cf) (P : Pl) (g : Option Addr) (n c0 : Nat) (nh nc nd : Int) (a1 a2 a3 : Option Addr) (l1 c1 l2 c2 l3 c3 : Nat) (ls : List Lg) (z1 : List Ts) (z2 : List Cr) (z3 : List Df) (X h0 h1 h2 h3 : Nat) (A A1 : Value) (A0 : Act) (l : Nat → Bool) (a : Act) (V : World) : Prop := ∃ (v0 v1 v2 v3 v4 : Value), a = (((((A0.put (some 22) v0).put (some 23) v1).put (some 24) v2).put (some 25) v3).put (some 26) v4) ∧ DqR w V0 C P g n c0 nh nc nd a1 a2 a3 l1 c1 l2 c2 l3 c3 ls z1 z2 z3 X h0 h1 h2 h3 A A1 (l 0) (l 1) (l 2) (l 3) (l 4) v0 v1 v2 v3 v4 V
theorem DqRJ.mk {w : World} {V0 : World} {C : Cf} {P : Pl} {g : Option Addr} {n c0 : Nat} {nh nc nd : Int} {a1 a2 a3 : Option Addr} {l1 c1 l2 c2 l3 c3 : Nat} {ls : List Lg} {z1 : List Ts} {z2 : List Cr} {z3 : List Df} {X h0 h1 h2 h3 : Nat} {A A1 : Value} {A0 : Act} {l : Nat → Bool} {a : Act} {V : World} {v0 v1 v2 v3 v4 : Value} (K : DqR w V0 C P g n c0 nh nc nd a1 a2 a3 l1 c1 l2 c2 l3 c3 ls z1 z2 z3 X h0 h1 h2 h3 A A1 (l 0) (l 1) (l 2) (l 3) (l 4) v0 v1 v2 v3 v4 V) (hq : a = (((((A0.put (some 22) v0).put (some 23) v1).put (some 24) v2).put (some 25) v3).put (some 26) v4)) : DqRJ w V0 C P g n c0 nh nc nd a1 a2 a3 l1 c1 l2 c2 l3 c3 ls z1 z2 z3 X h0 h1 h2 h3 A A1 A0 l a V := ⟨v0, v1, v2, v3, v4, hq, K⟩
set_option maxRecDepth 20000 in
set_option maxHeartbeats 8000000 in
theorem lawDeskOk (C : Cf) (P : Pl) (g : Option Addr) (n c0 : Nat) (nh nc nd : Int) (a1 a2 a3 : Option Addr) (l1 c1 l2 c2 l3 c3 : Nat) (ls : List Lg) (z1 : List Ts) (z2 : List Cr) (z3 : List Df) (w : World) (hr : DkIn w g a1 a2 a3 n l1 l2 l3 ls z1 z2 z3) (f1 : ∀ i, fitT (elAt z1 i).nm) (f2 : ∀ i, fitT (elAt z2 i).n) (f3 : ∀ i, fitT (elAt z3 i).n) :
    Calls Try.prog 7 #[.agg #[.int .i64 C.a0, .int .i64 C.a1, .int .i64 C.a2, .int .i64 C.a3, .int .i64 C.a4, .slice g n c0, .int .i64 P.a0, .int .i64 P.a1, .int .i64 P.a2, .int .i64 P.a3, .int .i64 P.a4, .int .i64 P.a5, .int .i64 P.a6, .int .i64 P.a7, .bool P.a8, .slice a1 l1 c1, .slice a2 l2 c2, .slice a3 l3 c3, .int .i64 nh, .int .i64 nc, .int .i64 nd]] w fun x w' => x = .returned (.bool true) ∧ Below w.heap.size w w' := by
  obtain ⟨W, hW⟩ : ∃ W, W = w.alloc (Obj.cells #[.int .i64 C.a0, .int .i64 C.a1, .int .i64 C.a2, .int .i64 C.a3, .int .i64 C.a4, .slice g n c0, .int .i64 P.a0, .int .i64 P.a1, .int .i64 P.a2, .int .i64 P.a3, .int .i64 P.a4, .int .i64 P.a5, .int .i64 P.a6, .int .i64 P.a7, .bool P.a8, .slice a1 l1 c1, .slice a2 l2 c2, .slice a3 l3 c3, .int .i64 nh, .int .i64 nc, .int .i64 nd] 56) := ⟨_, rfl⟩
  have KP : Hid (Blk W w.heap.size [.int .i64 C.a0, .int .i64 C.a1, .int .i64 C.a2, .int .i64 C.a3, .int .i64 C.a4, .slice g n c0, .int .i64 P.a0, .int .i64 P.a1, .int .i64 P.a2, .int .i64 P.a3, .int .i64 P.a4, .int .i64 P.a5, .int .i64 P.a6, .int .i64 P.a7, .bool P.a8, .slice a1 l1 c1, .slice a2 l2 c2, .slice a3 l3 c3, .int .i64 nh, .int .i64 nc, .int .i64 nd]) := hide (by rw [hW]; exact Blk.new _ _)
  have HB : Hid (Below w.heap.size w W) := hide (by rw [hW]; exact bel1 _)
  obtain ⟨A, hA⟩ : ∃ A : Value, A = .agg #[.int .i64 C.a0, .int .i64 C.a1, .int .i64 C.a2, .int .i64 C.a3, .int .i64 C.a4, .slice g n c0, .int .i64 P.a0, .int .i64 P.a1, .int .i64 P.a2, .int .i64 P.a3, .int .i64 P.a4, .int .i64 P.a5, .int .i64 P.a6, .int .i64 P.a7, .bool P.a8, .slice a1 l1 c1, .slice a2 l2 c2, .slice a3 l3 c3, .int .i64 nh, .int .i64 nc, .int .i64 nd] := ⟨_, rfl⟩
  have HA := hide hA
  have HW := hide hW
  have HR := hide hr
  have F1 := hide f1
  have F2 := hide f2
  have F3 := hide f3
  clear hW hr f1 f2 f3 hA
  obtain ⟨K, hK⟩ : ∃ K, dskB ⟨C, ls, P, ⟨z1, z2, z3, nh, nc, nd⟩⟩ = K := ⟨_, rfl⟩
  have HK := hide hK
  have hq : (K != K) = false := by simp
  clear hK
  go_enter Try.func7, Try.ntmps7
  go_upto_region 2 with fail
  rw [← unhide HW, ← unhide HA]
  clear HW
  go_wp2_with ((with_reducible show wpList _ _ _ (⟨_, .load 56 _, _, _, _, none⟩ :: _) _ _); refine at_loadV (vs := [.int .i64 C.a0, .int .i64 C.a1, .int .i64 C.a2, .int .i64 C.a3, .int .i64 C.a4, .slice g n c0, .int .i64 P.a0, .int .i64 P.a1, .int .i64 P.a2, .int .i64 P.a3, .int .i64 P.a4, .int .i64 P.a5, .int .i64 P.a6, .int .i64 P.a7, .bool P.a8, .slice a1 l1 c1, .slice a2 l2 c2, .slice a3 l3 c3, .int .i64 nh, .int .i64 nc, .int .i64 nd]) (V := A) (unhide HA) Try.isAgg56 Try.sizeOf56 rfl (unhide KP) ?_)
  rw [unhide HA]
  refine (szDesk_any C P g n c0 nh nc nd a1 a2 a3 l1 c1 l2 c2 l3 c3 ls z1 z2 z3 1048576 _ ((unhide HR).below (unhide HB)) (unhide F1) (unhide F2) (unhide F3) (by omega) (by omega)).mono ?_
  rw [← unhide HA]
  rintro x w2 ⟨⟨r1, rfl, hl⟩, bw⟩
  have HB := hide ((unhide HB).trans (bw.mono (unhide HB).size))
  have KP := hide ((unhide KP).below bw)
  clear bw
  rcases hl with hl | ⟨hl, hle, i0, i1, i2, i3⟩
  · go_wp2_with fail
    go_ret
    exact ⟨rfl, unhide HB⟩
  have nr1 : ¬ r1 < 0 := by omega
  go_wp2_with ((with_reducible show wpList _ _ _ (⟨_, .load 56 _, _, _, _, none⟩ :: _) _ _); refine at_loadV (vs := [.int .i64 C.a0, .int .i64 C.a1, .int .i64 C.a2, .int .i64 C.a3, .int .i64 C.a4, .slice g n c0, .int .i64 P.a0, .int .i64 P.a1, .int .i64 P.a2, .int .i64 P.a3, .int .i64 P.a4, .int .i64 P.a5, .int .i64 P.a6, .int .i64 P.a7, .bool P.a8, .slice a1 l1 c1, .slice a2 l2 c2, .slice a3 l3 c3, .int .i64 nh, .int .i64 nc, .int .i64 nd]) (V := A) (unhide HA) Try.isAgg56 Try.sizeOf56 rfl (unhide KP) ?_)
  rw [unhide HA]
  refine (toDesk_own C P g n c0 nh nc nd a1 a2 a3 l1 c1 l2 c2 l3 c3 ls z1 z2 z3 _ ((unhide HR).below (unhide HB)) i0 i1 i2 i3).mono ?_
  rw [← unhide HA]
  rintro x w3 ⟨⟨h0, h1, h2, h3, rfl, oc, _, _, _⟩, bw⟩
  obtain ⟨A0, hA0⟩ : ∃ A : Value, A = .agg #[.int .i64 C.a0, .int .i64 C.a1, .int .i64 C.a2, .int .i64 C.a3, .int .i64 C.a4, .slice (some ⟨h0, 0, none⟩) n n, .int .i64 P.a0, .int .i64 P.a1, .int .i64 P.a2, .int .i64 P.a3, .int .i64 P.a4, .int .i64 P.a5, .int .i64 P.a6, .int .i64 P.a7, .bool P.a8, .slice (some ⟨h1, 0, none⟩) l1 l1, .slice (some ⟨h2, 0, none⟩) l2 l2, .slice (some ⟨h3, 0, none⟩) l3 l3, .int .i64 nh, .int .i64 nc, .int .i64 nd] := ⟨_, rfl⟩
  rw [← hA0]
  have HA0 := hide hA0
  clear hA0
  have HB := hide ((unhide HB).trans (bw.mono (unhide HB).size))
  have KP := hide ((unhide KP).below bw)
  have RX := hide oc.read
  clear oc
  clear bw
  go_wp2_with fail
  rw [unhide HA0]
  refine (specDeskOk_any C P _ n _ nh nc nd _ _ _ l1 _ l2 _ l3 _ ls z1 z2 z3 _ (unhide RX) (unhide F1) (unhide F2) (unhide F3)).mono ?_
  rw [← unhide HA0]
  rintro x w4 ⟨rfl, bw⟩
  rw [unhide HK]
  clear RX
  have HB := hide ((unhide HB).trans (bw.mono (unhide HB).size))
  have KP := hide ((unhide KP).below bw)
  clear bw
  go_wp2_with ((with_reducible show wpList _ _ _ (⟨_, .load 56 _, _, _, _, none⟩ :: _) _ _); refine at_loadV (vs := [.int .i64 C.a0, .int .i64 C.a1, .int .i64 C.a2, .int .i64 C.a3, .int .i64 C.a4, .slice g n c0, .int .i64 P.a0, .int .i64 P.a1, .int .i64 P.a2, .int .i64 P.a3, .int .i64 P.a4, .int .i64 P.a5, .int .i64 P.a6, .int .i64 P.a7, .bool P.a8, .slice a1 l1 c1, .slice a2 l2 c2, .slice a3 l3 c3, .int .i64 nh, .int .i64 nc, .int .i64 nd]) (V := A) (unhide HA) Try.isAgg56 Try.sizeOf56 rfl (unhide KP) ?_)
  rw [unhide HA]
  refine (toDesk_own C P g n c0 nh nc nd a1 a2 a3 l1 c1 l2 c2 l3 c3 ls z1 z2 z3 _ ((unhide HR).below (unhide HB)) i0 i1 i2 i3).mono ?_
  rw [← unhide HA]
  rintro x w5 ⟨⟨h0, h1, h2, h3, rfl, oc, _, _, _⟩, bw⟩
  obtain ⟨A1, hA1⟩ : ∃ A : Value, A = .agg #[.int .i64 C.a0, .int .i64 C.a1, .int .i64 C.a2, .int .i64 C.a3, .int .i64 C.a4, .slice (some ⟨h0, 0, none⟩) n n, .int .i64 P.a0, .int .i64 P.a1, .int .i64 P.a2, .int .i64 P.a3, .int .i64 P.a4, .int .i64 P.a5, .int .i64 P.a6, .int .i64 P.a7, .bool P.a8, .slice (some ⟨h1, 0, none⟩) l1 l1, .slice (some ⟨h2, 0, none⟩) l2 l2, .slice (some ⟨h3, 0, none⟩) l3 l3, .int .i64 nh, .int .i64 nc, .int .i64 nd] := ⟨_, rfl⟩
  rw [← hA1]
  have HA1 := hide hA1
  clear hA1
  have HB := hide ((unhide HB).trans (bw.mono (unhide HB).size))
  have KP := hide ((unhide KP).below bw)
  have RX := hide oc.read
  have j0 := (oc.ol.lies h0 rfl).2
  have j1 := (oc.fl.o1.lies h1 rfl).2
  have j2 := (oc.fl.o2.lies h2 rfl).2
  have j3 := (oc.fl.o3.lies h3 rfl).2
  clear oc
  clear bw
  obtain ⟨X, hX⟩ : ∃ X, w5.heap.size = X := ⟨_, rfl⟩
  obtain ⟨wz, hwz⟩ : ∃ V, V = w5.alloc (Obj.cells #[.int .i64 0, .int .i64 0, .int .i64 0, .int .i64 0, .int .i64 0, .slice none 0 0, .int .i64 0, .int .i64 0, .int .i64 0, .int .i64 0, .int .i64 0, .int .i64 0, .int .i64 0, .int .i64 0, .bool false, .slice none 0 0, .slice none 0 0, .slice none 0 0, .int .i64 0, .int .i64 0, .int .i64 0] 69) := ⟨_, rfl⟩
  have bw : Below w5.heap.size w5 wz := by rw [hwz]; exact bel1 _
  have KX : Hid (Blk wz X [.int .i64 0, .int .i64 0, .int .i64 0, .int .i64 0, .int .i64 0, .slice none 0 0, .int .i64 0, .int .i64 0, .int .i64 0, .int .i64 0, .int .i64 0, .int .i64 0, .int .i64 0, .int .i64 0, .bool false, .slice none 0 0, .slice none 0 0, .slice none 0 0, .int .i64 0, .int .i64 0, .int .i64 0]) := hide (by rw [hwz, ← hX]; exact Blk.new _ _)
  have RX := hide ((unhide RX).below bw)
  have low : w.heap.size < X := by have := (unhide KP).lt; omega
  rw [hX] at j0 j1 j2 j3
  have HZ := hide hwz
  have HX := hide hX
  clear hwz hX
  have HB := hide ((unhide HB).trans (bw.mono (unhide HB).size))
  have KP := hide ((unhide KP).below bw)
  clear bw
  go_wp2_with (first
    | ((with_reducible show wpList _ _ _ (⟨none, .store 69 _ _, _, _, _, none⟩ :: _) _ _); rw [← unhide HZ, unhide HX]; refine at_storeAgg (us := [.int .i64 0, .int .i64 0, .int .i64 0, .int .i64 0, .int .i64 0, .slice none 0 0, .int .i64 0, .int .i64 0, .int .i64 0, .int .i64 0, .int .i64 0, .int .i64 0, .int .i64 0, .int .i64 0, .bool false, .slice none 0 0, .slice none 0 0, .slice none 0 0, .int .i64 0, .int .i64 0, .int .i64 0]) (vs := [.int .i64 C.a0, .int .i64 C.a1, .int .i64 C.a2, .int .i64 C.a3, .int .i64 C.a4, .slice (some ⟨h0, 0, none⟩) n n, .int .i64 P.a0, .int .i64 P.a1, .int .i64 P.a2, .int .i64 P.a3, .int .i64 P.a4, .int .i64 P.a5, .int .i64 P.a6, .int .i64 P.a7, .bool P.a8, .slice (some ⟨h1, 0, none⟩) l1 l1, .slice (some ⟨h2, 0, none⟩) l2 l2, .slice (some ⟨h3, 0, none⟩) l3 l3, .int .i64 nh, .int .i64 nc, .int .i64 nd]) Try.sizeOf69 rfl (unhide HA1) (unhide KX) rfl (by intro v hv; simp only [List.mem_cons, List.not_mem_nil, or_false] at hv; rcases hv with rfl | rfl | rfl | rfl | rfl | rfl | rfl | rfl | rfl | rfl | rfl | rfl | rfl | rfl | rfl | rfl | rfl | rfl | rfl | rfl | rfl <;> rfl) ?_; intro w6 kb gr; have HB := hide ((unhide HB).grown gr (unhide HB).size (fun k hk => by cases hk; omega)); have KP := hide ((unhide KP).apart gr (by intro e; simp only [Option.some.injEq] at e; omega)); have RX := hide (show DkIn w6 (some ⟨h0, 0, none⟩) (some ⟨h1, 0, none⟩) (some ⟨h2, 0, none⟩) (some ⟨h3, 0, none⟩) n l1 l2 l3 ls z1 z2 z3 from ⟨(unhide RX).lg.far gr (by intro e; simp only [Option.some.injEq] at e; omega), ⟨(unhide RX).fl.r1.far gr (by intro e; simp only [Option.some.injEq] at e; omega), (unhide RX).fl.r2.far gr (by intro e; simp only [Option.some.injEq] at e; omega), (unhide RX).fl.r3.far gr (by intro e; simp only [Option.some.injEq] at e; omega)⟩⟩); have KX := hide kb; clear kb gr)
    | ((with_reducible show wpList _ _ _ (⟨_, .load 69 _, _, _, _, none⟩ :: _) _ _); refine at_loadV (vs := [.int .i64 C.a0, .int .i64 C.a1, .int .i64 C.a2, .int .i64 C.a3, .int .i64 C.a4, .slice (some ⟨h0, 0, none⟩) n n, .int .i64 P.a0, .int .i64 P.a1, .int .i64 P.a2, .int .i64 P.a3, .int .i64 P.a4, .int .i64 P.a5, .int .i64 P.a6, .int .i64 P.a7, .bool P.a8, .slice (some ⟨h1, 0, none⟩) l1 l1, .slice (some ⟨h2, 0, none⟩) l2 l2, .slice (some ⟨h3, 0, none⟩) l3 l3, .int .i64 nh, .int .i64 nc, .int .i64 nd]) (V := A1) (unhide HA1) Try.isAgg69 Try.sizeOf69 rfl (unhide KX) ?_))
  clear HZ HX
  rw [unhide HA1]
  refine (implDeskOk_any C P _ n _ nh nc nd _ _ _ l1 _ l2 _ l3 _ ls z1 z2 z3 _ (unhide RX) (unhide F1) (unhide F2) (unhide F3)).mono ?_
  rw [← unhide HA1]
  rintro x w7 ⟨rfl, bw⟩
  rw [unhide HK]
  have KX := hide ((unhide KX).below bw)
  have OX := hide ((unhide RX).below bw)
  clear RX
  have HB := hide ((unhide HB).trans (bw.mono (unhide HB).size))
  have KP := hide ((unhide KP).below bw)
  clear bw
  have HI := hide ((unhide HR).below (unhide HB))
  go_upto_region 10 with fail
  refine wp_region_flagsA (by kernel_rfl) (by kernel_rfl) (DqRJ w w7 C P g n c0 nh nc nd a1 a2 a3 l1 c1 l2 c2 l3 c3 ls z1 z2 z3 X h0 h1 h2 h3 A A1) ?_ ?_ ?_
  · exact DqRJ.mk (v0 := undef) (v1 := undef) (v2 := undef) (v3 := undef) (v4 := undef) ⟨(unhide HB).trans (bel0d' 1), Nat.le_refl _, ((unhide KX).below (bel0d 1) : _), ((unhide KP).below (bel0d 1) : _), ((unhide OX)).below (bel0d 1), ((unhide HI)).below (bel0d 1), (fun h => by cases h), (fun h => by cases h), (fun h => by cases h), (fun h => by cases h), (fun h => by cases h)⟩ (by kernel_rfl)
  rotate_left 1
  · rintro l a V i o ho hl hd ⟨v0, v1, v2, v3, v4, rfl, K⟩
    have hi : i < 5 := (Array.getElem?_eq_some_iff.1 ho).1
    rcases (show i = 0 ∨ i = 1 ∨ i = 2 ∨ i = 3 ∨ i = 4 from by omega) with rfl | rfl | rfl | rfl | rfl
    · as_aux_lemma =>
      simp at ho
      subst ho
      have HKB := hide K.kx
      have HK : Hid (DqR w w7 C P g n c0 nh nc nd a1 a2 a3 l1 c1 l2 c2 l3 c3 ls z1 z2 z3 X h0 h1 h2 h3 A A1 true (l 1) (l 2) (l 3) (l 4) A1 v1 v2 v3 v4 V) := hide ⟨(K.bel), (K.sz), (K.kx), (K.kp), (K.pown), (K.parg), (fun _ => rfl), (K.e1), (K.e2), (K.e3), (K.e4)⟩
      clear K hd hl
      refine at_loadV (vs := [.int .i64 C.a0, .int .i64 C.a1, .int .i64 C.a2, .int .i64 C.a3, .int .i64 C.a4, .slice (some ⟨h0, 0, none⟩) n n, .int .i64 P.a0, .int .i64 P.a1, .int .i64 P.a2, .int .i64 P.a3, .int .i64 P.a4, .int .i64 P.a5, .int .i64 P.a6, .int .i64 P.a7, .bool P.a8, .slice (some ⟨h1, 0, none⟩) l1 l1, .slice (some ⟨h2, 0, none⟩) l2 l2, .slice (some ⟨h3, 0, none⟩) l3 l3, .int .i64 nh, .int .i64 nc, .int .i64 nd]) (V := A1) (unhide HA1) Try.isAgg69 Try.sizeOf69 rfl (unhide HKB) ?_
      go_wp2_with fail
      exact ⟨rfl, DqRJ.mk (unhide HK) (by kernel_rfl)⟩
    · as_aux_lemma =>
      simp at ho
      subst ho
      have HKB := hide K.kp
      have HK : Hid (DqR w w7 C P g n c0 nh nc nd a1 a2 a3 l1 c1 l2 c2 l3 c3 ls z1 z2 z3 X h0 h1 h2 h3 A A1 (l 0) true (l 2) (l 3) (l 4) v0 A v2 v3 v4 V) := hide ⟨(K.bel), (K.sz), (K.kx), (K.kp), (K.pown), (K.parg), (K.e0), (fun _ => rfl), (K.e2), (K.e3), (K.e4)⟩
      clear K hd hl
      refine at_loadV (vs := [.int .i64 C.a0, .int .i64 C.a1, .int .i64 C.a2, .int .i64 C.a3, .int .i64 C.a4, .slice g n c0, .int .i64 P.a0, .int .i64 P.a1, .int .i64 P.a2, .int .i64 P.a3, .int .i64 P.a4, .int .i64 P.a5, .int .i64 P.a6, .int .i64 P.a7, .bool P.a8, .slice a1 l1 c1, .slice a2 l2 c2, .slice a3 l3 c3, .int .i64 nh, .int .i64 nc, .int .i64 nd]) (V := A) (unhide HA) Try.isAgg56 Try.sizeOf56 rfl (unhide HKB) ?_
      go_wp2_with fail
      exact ⟨rfl, DqRJ.mk (unhide HK) (by kernel_rfl)⟩
    · as_aux_lemma =>
      simp at ho
      subst ho
      have d1 : l 1 = true := hd ⟨1, .data⟩ (by simp) rfl
      have x1 := (K.e1 d1).symm
      subst x1
      have HK0 := hide K
      clear K hd hl
      go_wp2_with (go_at_call 30; rw [unhide HA]; refine (toDesk_own C P g n c0 nh nc nd a1 a2 a3 l1 c1 l2 c2 l3 c3 ls z1 z2 z3 _ (unhide HK0).parg i0 i1 i2 i3).mono ?_; rw [← unhide HA]; rintro e V2 ⟨⟨e0, e1, e2, e3, rfl, hp0, _, _, _⟩, b2⟩; have hp := hp0.read; clear hp0; have K := (unhide HK0).below b2; have HK : Hid (DqR w w7 C P g n c0 nh nc nd a1 a2 a3 l1 c1 l2 c2 l3 c3 ls z1 z2 z3 X h0 h1 h2 h3 A A1 (l 0) (l 1) true (l 3) (l 4) v0 A (.agg #[.int .i64 C.a0, .int .i64 C.a1, .int .i64 C.a2, .int .i64 C.a3, .int .i64 C.a4, .slice (some ⟨e0, 0, none⟩) n n, .int .i64 P.a0, .int .i64 P.a1, .int .i64 P.a2, .int .i64 P.a3, .int .i64 P.a4, .int .i64 P.a5, .int .i64 P.a6, .int .i64 P.a7, .bool P.a8, .slice (some ⟨e1, 0, none⟩) l1 l1, .slice (some ⟨e2, 0, none⟩) l2 l2, .slice (some ⟨e3, 0, none⟩) l3 l3, .int .i64 nh, .int .i64 nc, .int .i64 nd]) v3 v4 V2) := hide ⟨(K.bel), (K.sz), (K.kx), (K.kp), (K.pown), (K.parg), (K.e0), (K.e1), (fun _ => ⟨e0, e1, e2, e3, rfl, hp⟩), (K.e3), (K.e4)⟩; clear K b2 hp)
      exact ⟨rfl, DqRJ.mk (unhide HK) (by kernel_rfl)⟩
    · as_aux_lemma =>
      simp at ho
      subst ho
      have d0 : l 0 = true := hd ⟨0, .data⟩ (by simp) rfl
      have x0 := (K.e0 d0).symm
      subst x0
      have d2 : l 2 = true := hd ⟨2, .data⟩ (by simp) rfl
      obtain ⟨e0, e1, e2, e3, x2, y2⟩ := K.e2 d2
      subst x2
      have HK0 := hide K
      clear K hd hl
      go_wp2_with (go_at_call 32; rw [unhide HA1]; refine (eqDesk_same C P _ n _ nh nc nd _ _ _ l1 _ l2 _ l3 _ _ _ _ _ _ _ _ _ ls z1 z2 z3 _ (unhide HK0).pown y2).mono ?_; rw [← unhide HA1]; rintro e V2 ⟨rfl, b2⟩; have K := (unhide HK0).below b2; have HK : Hid (DqR w w7 C P g n c0 nh nc nd a1 a2 a3 l1 c1 l2 c2 l3 c3 ls z1 z2 z3 X h0 h1 h2 h3 A A1 (l 0) (l 1) (l 2) true (l 4) A1 v1 (.agg #[.int .i64 C.a0, .int .i64 C.a1, .int .i64 C.a2, .int .i64 C.a3, .int .i64 C.a4, .slice (some ⟨e0, 0, none⟩) n n, .int .i64 P.a0, .int .i64 P.a1, .int .i64 P.a2, .int .i64 P.a3, .int .i64 P.a4, .int .i64 P.a5, .int .i64 P.a6, .int .i64 P.a7, .bool P.a8, .slice (some ⟨e1, 0, none⟩) l1 l1, .slice (some ⟨e2, 0, none⟩) l2 l2, .slice (some ⟨e3, 0, none⟩) l3 l3, .int .i64 nh, .int .i64 nc, .int .i64 nd]) (.bool true) v4 V2) := hide ⟨(K.bel), (K.sz), (K.kx), (K.kp), (K.pown), (K.parg), (K.e0), (K.e1), (K.e2), (fun _ => rfl), (K.e4)⟩; clear K b2)
      exact ⟨rfl, DqRJ.mk (unhide HK) (by kernel_rfl)⟩
    · as_aux_lemma =>
      simp at ho
      subst ho
      have d3 : l 3 = true := hd ⟨3, .data⟩ (by simp) rfl
      have x3 := K.e3 d3
      subst x3
      have HK : Hid (DqR w w7 C P g n c0 nh nc nd a1 a2 a3 l1 c1 l2 c2 l3 c3 ls z1 z2 z3 X h0 h1 h2 h3 A A1 (l 0) (l 1) (l 2) (l 3) true v0 v1 v2 (.bool true) (.bool false) V) := hide ⟨(K.bel), (K.sz), (K.kx), (K.kp), (K.pown), (K.parg), (K.e0), (K.e1), (K.e2), (K.e3), (fun _ => rfl)⟩
      clear K hd hl
      go_wp2_with fail
      exact ⟨rfl, DqRJ.mk (unhide HK) (by kernel_rfl)⟩
  rintro l a V9 hall ⟨v0, v1, v2, v3, v4, rfl, K⟩
  have g0 := hall 0 (by decide)
  have g1 := hall 1 (by decide)
  have g2 := hall 2 (by decide)
  have g3 := hall 3 (by decide)
  have g4 := hall 4 (by decide)
  clear hall
  have px0 := K.e0 g0
  have px1 := K.e1 g1
  obtain ⟨e0, e1, e2, e3, px2, pp2⟩ := K.e2 g2
  have KX2 := hide pp2
  clear pp2
  have px3 := K.e3 g3
  have px4 := K.e4 g4
  have KBx : Hid (Blk V9 (X) [.int .i64 C.a0, .int .i64 C.a1, .int .i64 C.a2, .int .i64 C.a3, .int .i64 C.a4, .slice (some ⟨h0, 0, none⟩) n n, .int .i64 P.a0, .int .i64 P.a1, .int .i64 P.a2, .int .i64 P.a3, .int .i64 P.a4, .int .i64 P.a5, .int .i64 P.a6, .int .i64 P.a7, .bool P.a8, .slice (some ⟨h1, 0, none⟩) l1 l1, .slice (some ⟨h2, 0, none⟩) l2 l2, .slice (some ⟨h3, 0, none⟩) l3 l3, .int .i64 nh, .int .i64 nc, .int .i64 nd]) := hide K.kx
  have KBp : Hid (Blk V9 (w.heap.size) [.int .i64 C.a0, .int .i64 C.a1, .int .i64 C.a2, .int .i64 C.a3, .int .i64 C.a4, .slice g n c0, .int .i64 P.a0, .int .i64 P.a1, .int .i64 P.a2, .int .i64 P.a3, .int .i64 P.a4, .int .i64 P.a5, .int .i64 P.a6, .int .i64 P.a7, .bool P.a8, .slice a1 l1 c1, .slice a2 l2 c2, .slice a3 l3 c3, .int .i64 nh, .int .i64 nc, .int .i64 nd]) := hide K.kp
  have KPown : Hid (DkIn V9 (some ⟨h0, 0, none⟩) (some ⟨h1, 0, none⟩) (some ⟨h2, 0, none⟩) (some ⟨h3, 0, none⟩) n l1 l2 l3 ls z1 z2 z3) := hide K.pown
  have KParg : Hid (DkIn V9 g a1 a2 a3 n l1 l2 l3 ls z1 z2 z3) := hide K.parg
  have KBEL : Hid (Below w.heap.size w V9) := hide K.bel
  have KSZ : Hid (w7.heap.size ≤ V9.heap.size) := hide K.sz
  clear K g0 g1 g2 g3 g4
  subst px0
  subst px1
  subst px2
  subst px3
  subst px4
  go_wp2_with fail
  go_ret
  exact ⟨rfl, unhide KBEL⟩

end Go.Proofs.Ytglefolkecimabd
