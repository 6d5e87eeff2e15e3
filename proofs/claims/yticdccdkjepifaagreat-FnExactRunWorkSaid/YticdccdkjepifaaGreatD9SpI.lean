/-
  What the program's Due19 answers: plain answers, at every task and clock; nothing that was there is written.
-/
import Derived.Test.YticdccdkjepifaaGreatMCkTsk
import Derived.Test.YticdccdkjepifaaGreatD9Spec
import Derived.Test.YticdccdkjepifaaGreatMMinMax
import Derived.Test.YticdccdkjepifaaGreatRegInv
namespace Go.Proofs.YticdccdkjepifaaGreat
open Go.RowKit

/-- A world as a letter. -/
theorem wp_letter {P : Program} {c : Code} {Q : Exit → Act → World → Prop} {a : Act} {V : World} {R : World → Prop} (hR : R V) (h : ∀ V', R V' → Code.wp P c Q a V') : Code.wp P c Q a V := h V hR
structure DuR (w : World) (V0 : World) (nm : ByteArray) (h : Int) (c : Int) (d : Int) (dh : Int) (dc : Int) (dd : Int) (nh : Int) (nc : Int) (nd : Int) (t0 t1 t2 t3 t4 t5 t6 t7 t8 : Bool) (v0 v1 v2 v3 v4 v5 v6 : Value) (W : World) : Prop where
  bel : Below w.heap.size w W
  sz : V0.heap.size ≤ W.heap.size
  ka : Blk W (w.heap.size) [.string nm, .int .i64 h, .int .i64 c, .int .i64 d, .int .i64 dh, .int .i64 dc, .int .i64 dd]
  kb : Blk W (w.heap.size + 1) [.int .i64 nh, .int .i64 nc, .int .i64 nd]
  kc : Blk W (w.heap.size + 2) [.int .i64 0, .int .i64 0, .int .i64 0]
  e0 : t0 = true → v0 = .agg #[.string nm, .int .i64 h, .int .i64 c, .int .i64 d, .int .i64 dh, .int .i64 dc, .int .i64 dd]
  e1 : t1 = true → v1 = .agg #[.int .i64 h, .int .i64 c, .int .i64 d]
  e2 : t2 = true → v2 = .agg #[.string nm, .int .i64 h, .int .i64 c, .int .i64 d, .int .i64 dh, .int .i64 dc, .int .i64 dd]
  e3 : t3 = true → v3 = .agg #[.int .i64 nh, .int .i64 nc, .int .i64 nd]
  e4 : t4 = true → v4 = .agg #[.int .i64 (nh - dh), .int .i64 (nc - dc), .int .i64 (nd - dd)]
  e5 : t5 = true → ∃ P, v5 = .pointer (some ⟨P, 0, none⟩) ∧ V0.heap.size ≤ P ∧ Blk W P (bif t7 then [.int .i64 h, .int .i64 c, .int .i64 d] else [.int .i64 0, .int .i64 0, .int .i64 0])
  e6 : t6 = true → ∃ P, v6 = .pointer (some ⟨P, 0, none⟩) ∧ V0.heap.size ≤ P ∧ Blk W P (bif t8 then [.int .i64 (nh - dh), .int .i64 (nc - dc), .int .i64 (nd - dd)] else [.int .i64 0, .int .i64 0, .int .i64 0])
  n7 : t7 = true → t5 = true
  n8 : t8 = true → t6 = true
  x5_6 : t5 = true → t6 = true → v5 ≠ v6
theorem DuR.below {w : World} {V0 : World} {nm : ByteArray} {h : Int} {c : Int} {d : Int} {dh : Int} {dc : Int} {dd : Int} {nh : Int} {nc : Int} {nd : Int} {t0 t1 t2 t3 t4 t5 t6 t7 t8 : Bool} {v0 v1 v2 v3 v4 v5 v6 : Value} {W W' : World} (K : DuR w V0 nm h c d dh dc dd nh nc nd t0 t1 t2 t3 t4 t5 t6 t7 t8 v0 v1 v2 v3 v4 v5 v6 W) (k : Below W.heap.size W W') : DuR w V0 nm h c d dh dc dd nh nc nd t0 t1 t2 t3 t4 t5 t6 t7 t8 v0 v1 v2 v3 v4 v5 v6 W' :=
  ⟨K.bel.trans (k.mono K.bel.size), Nat.le_trans K.sz k.size, K.ka.below k, K.kb.below k, K.kc.below k, K.e0, K.e1, K.e2, K.e3, K.e4, fun h => by obtain ⟨P, x1, x2, x3⟩ := K.e5 h; exact ⟨P, x1, x2, x3.below k⟩, fun h => by obtain ⟨P, x1, x2, x3⟩ := K.e6 h; exact ⟨P, x1, x2, x3.below k⟩, K.n7, K.n8, K.x5_6⟩
def DuRJ (w : World) (V0 : World) (nm : ByteArray) (h : Int) (c : Int) (d : Int) (dh : Int) (dc : Int) (dd : Int) (nh : Int) (nc : Int) (nd : Int) (A0 : Act) (l : Nat → Bool) (a : Act) (V : World) : Prop := ∃ (v0 v1 v2 v3 v4 v5 v6 : Value), a = (((((((A0.put (some 24) v0).put (some 25) v1).put (some 26) v2).put (some 27) v3).put (some 28) v4).put (some 7) v5).put (some 8) v6) ∧ DuR w V0 nm h c d dh dc dd nh nc nd (l 0) (l 1) (l 2) (l 3) (l 4) (l 5) (l 6) (l 7) (l 8) v0 v1 v2 v3 v4 v5 v6 V
theorem DuRJ.mk {w : World} {V0 : World} {nm : ByteArray} {h : Int} {c : Int} {d : Int} {dh : Int} {dc : Int} {dd : Int} {nh : Int} {nc : Int} {nd : Int} {A0 : Act} {l : Nat → Bool} {a : Act} {V : World} {v0 v1 v2 v3 v4 v5 v6 : Value} (K : DuR w V0 nm h c d dh dc dd nh nc nd (l 0) (l 1) (l 2) (l 3) (l 4) (l 5) (l 6) (l 7) (l 8) v0 v1 v2 v3 v4 v5 v6 V) (hq : a = (((((((A0.put (some 24) v0).put (some 25) v1).put (some 26) v2).put (some 27) v3).put (some 28) v4).put (some 7) v5).put (some 8) v6)) : DuRJ w V0 nm h c d dh dc dd nh nc nd A0 l a V := ⟨v0, v1, v2, v3, v4, v5, v6, hq, K⟩
structure DvR (w : World) (V1 : World) (nm : ByteArray) (h : Int) (c : Int) (d : Int) (dh : Int) (dc : Int) (dd : Int) (nh : Int) (nc : Int) (nd : Int) (M : Bool) (P5 : Nat) (P6 : Nat) (t0 t1 t2 t3 t4 t5 t6 t7 t8 t9 : Bool) (v0 v1 v2 v3 v4 v5 v6 v7 v9 : Value) (W : World) : Prop where
  bel : Below w.heap.size w W
  sz : V1.heap.size ≤ W.heap.size
  kd : Blk W (P5) [.int .i64 h, .int .i64 c, .int .i64 d]
  ke : Blk W (P6) [.int .i64 (nh - dh), .int .i64 (nc - dc), .int .i64 (nd - dd)]
  rc : Blk W (w.heap.size + 2) (bif t8 then [.int .i64 (lfI h (nh - dh)), .int .i64 (lfI c (nc - dc)), .int .i64 (lfI d (nd - dd))] else [.int .i64 0, .int .i64 0, .int .i64 0])
  e0 : t0 = true → v0 = .agg #[.int .i64 h, .int .i64 c, .int .i64 d]
  e1 : t1 = true → v1 = .agg #[.int .i64 (nh - dh), .int .i64 (nc - dc), .int .i64 (nd - dd)]
  e2 : t2 = true → v2 = .bool M
  e3 : t3 = true → v3 = .agg #[.int .i64 h, .int .i64 c, .int .i64 d]
  e4 : t4 = true → v4 = .agg #[.int .i64 (nh - dh), .int .i64 (nc - dc), .int .i64 (nd - dd)]
  e5 : t5 = true → v5 = .agg #[.int .i64 (lfI h (nh - dh)), .int .i64 (lfI c (nc - dc)), .int .i64 (lfI d (nd - dd))]
  e6 : t6 = true → v6 = .agg #[.int .i64 (lfI h (nh - dh)), .int .i64 (lfI c (nc - dc)), .int .i64 (lfI d (nd - dd))]
  e7 : t7 = true → v7 = .bool M
  e9 : t9 = true → v9 = .bool true
theorem DvR.below {w : World} {V1 : World} {nm : ByteArray} {h : Int} {c : Int} {d : Int} {dh : Int} {dc : Int} {dd : Int} {nh : Int} {nc : Int} {nd : Int} {M : Bool} {P5 : Nat} {P6 : Nat} {t0 t1 t2 t3 t4 t5 t6 t7 t8 t9 : Bool} {v0 v1 v2 v3 v4 v5 v6 v7 v9 : Value} {W W' : World} (K : DvR w V1 nm h c d dh dc dd nh nc nd M P5 P6 t0 t1 t2 t3 t4 t5 t6 t7 t8 t9 v0 v1 v2 v3 v4 v5 v6 v7 v9 W) (k : Below W.heap.size W W') : DvR w V1 nm h c d dh dc dd nh nc nd M P5 P6 t0 t1 t2 t3 t4 t5 t6 t7 t8 t9 v0 v1 v2 v3 v4 v5 v6 v7 v9 W' :=
  ⟨K.bel.trans (k.mono K.bel.size), Nat.le_trans K.sz k.size, K.kd.below k, K.ke.below k, K.rc.below k, K.e0, K.e1, K.e2, K.e3, K.e4, K.e5, K.e6, K.e7, K.e9⟩
def DvRJ (w : World) (V1 : World) (nm : ByteArray) (h : Int) (c : Int) (d : Int) (dh : Int) (dc : Int) (dd : Int) (nh : Int) (nc : Int) (nd : Int) (M : Bool) (P5 : Nat) (P6 : Nat) (A0 : Act) (l : Nat → Bool) (a : Act) (V : World) : Prop := ∃ (v0 v1 v2 v3 v4 v5 v6 v7 v9 : Value), a = (((((((((A0.put (some 29) v0).put (some 30) v1).put (some 31) v2).put (some 32) v3).put (some 33) v4).put (some 34) v5).put (some 35) v6).put (some 4) v7).put (some 6) v9) ∧ DvR w V1 nm h c d dh dc dd nh nc nd M P5 P6 (l 0) (l 1) (l 2) (l 3) (l 4) (l 5) (l 6) (l 7) (l 8) (l 9) v0 v1 v2 v3 v4 v5 v6 v7 v9 V
theorem DvRJ.mk {w : World} {V1 : World} {nm : ByteArray} {h : Int} {c : Int} {d : Int} {dh : Int} {dc : Int} {dd : Int} {nh : Int} {nc : Int} {nd : Int} {M : Bool} {P5 : Nat} {P6 : Nat} {A0 : Act} {l : Nat → Bool} {a : Act} {V : World} {v0 v1 v2 v3 v4 v5 v6 v7 v9 : Value} (K : DvR w V1 nm h c d dh dc dd nh nc nd M P5 P6 (l 0) (l 1) (l 2) (l 3) (l 4) (l 5) (l 6) (l 7) (l 8) (l 9) v0 v1 v2 v3 v4 v5 v6 v7 v9 V) (hq : a = (((((((((A0.put (some 29) v0).put (some 30) v1).put (some 31) v2).put (some 32) v3).put (some 33) v4).put (some 34) v5).put (some 35) v6).put (some 4) v7).put (some 6) v9)) : DvRJ w V1 nm h c d dh dc dd nh nc nd M P5 P6 A0 l a V := ⟨v0, v1, v2, v3, v4, v5, v6, v7, v9, hq, K⟩
set_option maxRecDepth 20000 in
set_option maxHeartbeats 4000000 in
theorem implDue19_no (nm : ByteArray) (h c d dh dc dd nh nc nd : Int) (w : World) (hs : nm.size ≤ 9223372036854775807) (hn : d9B ⟨nm, h, c, d, dh, dc, dd⟩ nh nc nd = false) :
    Calls Tryz.prog 127 #[.agg #[.string nm, .int .i64 h, .int .i64 c, .int .i64 d, .int .i64 dh, .int .i64 dc, .int .i64 dd], .agg #[.int .i64 nh, .int .i64 nc, .int .i64 nd]] w fun e w' => e = .returned (.tuple #[.bool false, .agg #[.int .i64 0, .int .i64 0, .int .i64 0], .bool false]) ∧ Below w.heap.size w w' := by
  rcases three (tsB ⟨nm, h, c, d, dh, dc, dd⟩) (ckB nh nc nd) (bhB dh dc dd nh nc nd) with ⟨q1, hv⟩ | ⟨q1, q2, hv⟩ | ⟨q1, q2, q3, hv⟩ | ⟨q1, q2, q3, hv⟩
  all_goals try (exfalso; have hn' : (tsB ⟨nm, h, c, d, dh, dc, dd⟩ && ckB nh nc nd && bhB dh dc dd nh nc nd) = false := hn; rw [hv] at hn'; cases hn'; done)
  all_goals
    clear hv hn
    go_enter Tryz.func127, Tryz.ntmps127
    go_wp2_with fail
    obtain ⟨W, hW⟩ : ∃ W, W = ((w.alloc (Obj.cells #[.string nm, .int .i64 h, .int .i64 c, .int .i64 d, .int .i64 dh, .int .i64 dc, .int .i64 dd] 90)).alloc (Obj.cells #[.int .i64 nh, .int .i64 nc, .int .i64 nd] 35)).alloc (Obj.cells #[.int .i64 0, .int .i64 0, .int .i64 0] 35) := ⟨_, rfl⟩
    rw [← hW]
    have K0 : Hid (Blk W w.heap.size [.string nm, .int .i64 h, .int .i64 c, .int .i64 d, .int .i64 dh, .int .i64 dc, .int .i64 dd]) := hide (by rw [hW]; exact ((Blk.new _ _).alloc _).alloc _)
    have K1 : Hid (Blk W (w.heap.size + 1) [.int .i64 nh, .int .i64 nc, .int .i64 nd]) := hide (by
      rw [hW]
      have e : (w.alloc (Obj.cells #[.string nm, .int .i64 h, .int .i64 c, .int .i64 d, .int .i64 dh, .int .i64 dc, .int .i64 dd] 90)).heap.size = w.heap.size + 1 := by simp
      have k := (Blk.new (w := w.alloc (Obj.cells #[.string nm, .int .i64 h, .int .i64 c, .int .i64 d, .int .i64 dh, .int .i64 dc, .int .i64 dd] 90)) [.int .i64 nh, .int .i64 nc, .int .i64 nd] 35).alloc (Obj.cells #[.int .i64 0, .int .i64 0, .int .i64 0] 35)
      rw [e] at k
      exact k)
    have K2 : Hid (Blk W (w.heap.size + 2) [.int .i64 0, .int .i64 0, .int .i64 0]) := hide (by
      rw [hW]
      have e : ((w.alloc (Obj.cells #[.string nm, .int .i64 h, .int .i64 c, .int .i64 d, .int .i64 dh, .int .i64 dc, .int .i64 dd] 90)).alloc (Obj.cells #[.int .i64 nh, .int .i64 nc, .int .i64 nd] 35)).heap.size = w.heap.size + 2 := by simp
      have k := Blk.new (w := (w.alloc (Obj.cells #[.string nm, .int .i64 h, .int .i64 c, .int .i64 d, .int .i64 dh, .int .i64 dc, .int .i64 dd] 90)).alloc (Obj.cells #[.int .i64 nh, .int .i64 nc, .int .i64 nd] 35)) [.int .i64 0, .int .i64 0, .int .i64 0] 35
      rw [e] at k
      exact k)
    have B0 : Hid (Below w.heap.size w W) := hide (by rw [hW]; exact (by repeat (first | exact Below.refl _ _ | refine Below.alloc ?_ (by simp; try omega) _)))
    clear hW
    obtain ⟨ι, fW, _, hb, hall⟩ := belClass W
    have HB := hide hb
    have HA := hide hall
    have c00 : ∀ x, (fW x).cell? ⟨w.heap.size, 0, none⟩ = some (.string nm) := fun x => ((unhide K0).below (hb x)).c 0 (by simp)
    have c01 : ∀ x, (fW x).cell? ⟨w.heap.size, 1, none⟩ = some (.int .i64 h) := fun x => ((unhide K0).below (hb x)).c 1 (by simp)
    have c02 : ∀ x, (fW x).cell? ⟨w.heap.size, 2, none⟩ = some (.int .i64 c) := fun x => ((unhide K0).below (hb x)).c 2 (by simp)
    have c03 : ∀ x, (fW x).cell? ⟨w.heap.size, 3, none⟩ = some (.int .i64 d) := fun x => ((unhide K0).below (hb x)).c 3 (by simp)
    have c04 : ∀ x, (fW x).cell? ⟨w.heap.size, 4, none⟩ = some (.int .i64 dh) := fun x => ((unhide K0).below (hb x)).c 4 (by simp)
    have c05 : ∀ x, (fW x).cell? ⟨w.heap.size, 5, none⟩ = some (.int .i64 dc) := fun x => ((unhide K0).below (hb x)).c 5 (by simp)
    have c06 : ∀ x, (fW x).cell? ⟨w.heap.size, 6, none⟩ = some (.int .i64 dd) := fun x => ((unhide K0).below (hb x)).c 6 (by simp)
    have c10 : ∀ x, (fW x).cell? ⟨w.heap.size + 1, 0, none⟩ = some (.int .i64 nh) := fun x => ((unhide K1).below (hb x)).c 0 (by simp)
    have c11 : ∀ x, (fW x).cell? ⟨w.heap.size + 1, 1, none⟩ = some (.int .i64 nc) := fun x => ((unhide K1).below (hb x)).c 1 (by simp)
    have c12 : ∀ x, (fW x).cell? ⟨w.heap.size + 1, 2, none⟩ = some (.int .i64 nd) := fun x => ((unhide K1).below (hb x)).c 2 (by simp)
    have c20 : ∀ x, (fW x).cell? ⟨w.heap.size + 2, 0, none⟩ = some (.int .i64 0) := fun x => ((unhide K2).below (hb x)).c 0 (by simp)
    have f20 : ∀ x, (fW x).frozen? ⟨w.heap.size + 2, 0, none⟩ = false := fun x => ((unhide K2).below (hb x)).f 0 (by simp)
    have c21 : ∀ x, (fW x).cell? ⟨w.heap.size + 2, 1, none⟩ = some (.int .i64 0) := fun x => ((unhide K2).below (hb x)).c 1 (by simp)
    have f21 : ∀ x, (fW x).frozen? ⟨w.heap.size + 2, 1, none⟩ = false := fun x => ((unhide K2).below (hb x)).f 1 (by simp)
    have c22 : ∀ x, (fW x).cell? ⟨w.heap.size + 2, 2, none⟩ = some (.int .i64 0) := fun x => ((unhide K2).below (hb x)).c 2 (by simp)
    have f22 : ∀ x, (fW x).frozen? ⟨w.heap.size + 2, 2, none⟩ = false := fun x => ((unhide K2).below (hb x)).f 2 (by simp)
    clear hb hall
    obtain ⟨x0, h0⟩ := (unhide HA) W (Below.refl _ _)
    rw [h0]
    clear h0
    go_wp2_with (first | (go_at_call 106; refine (belQ (unhide HB) (unhide HA) (implTaskOk_is _ _ _ _ _ _ _ _ hs (by exact q1))).mono ?_; rintro e _ ⟨rfl, y, rfl⟩) | (go_at_call 74; refine (belQ (unhide HB) (unhide HA) (implClockOk_is _ _ _ _ (by exact q2))).mono ?_; rintro e _ ⟨rfl, y, rfl⟩) | (go_at_call 107; refine (belQ (unhide HB) (unhide HA) (isBeyond_is _ _ _ _ _ _ _ (by exact q3))).mono ?_; rintro e _ ⟨rfl, y, rfl⟩))
    exact bodyPost_ret (results_BcellB (vs := [.int .i64 0, .int .i64 0, .int .i64 0]) rfl Tryz.isAgg35 Tryz.sizeOf35 rfl (((((unhide K2).below (unhide HB _)).set 0 (by simp) _).set 1 (by simp) _).set 2 (by simp) _) rfl rfl) rfl ⟨rfl, (((((unhide B0).trans ((unhide HB _).mono (unhide B0).size)).setCell (p := ⟨w.heap.size + 1 + 1, 0, none⟩) (by simp; try omega) _).setCell (p := ⟨w.heap.size + 1 + 1, 1, none⟩) (by simp; try omega) _).setCell (p := ⟨w.heap.size + 1 + 1, 2, none⟩) (by simp; try omega) _)⟩
theorem metB_due {h c d p q r : Int} (h1 : 0 ≤ h) (h2 : 0 ≤ c) (h3 : 0 ≤ d) : metB h c d p q r = (decide (0 < h ∧ h ≤ p) || decide (0 < c ∧ c ≤ q) || decide (0 < d ∧ d ≤ r)) := by
  have e : ∀ x : Int, 0 ≤ x → decide (0 < x) = !decide (x = 0) := fun x hx => by
    by_cases k : x = 0
    · simp [k]
    · have : 0 < x := by omega
      simp [k, this]
  simp [metB, metAt, of3, e _ h1, e _ h2, e _ h3]
set_option maxRecDepth 20000 in
set_option maxHeartbeats 8000000 in
theorem implDue19_yes (nm : ByteArray) (h c d dh dc dd nh nc nd : Int) (w : World) (hs : nm.size ≤ 9223372036854775807) (hn : d9B ⟨nm, h, c, d, dh, dc, dd⟩ nh nc nd = true) :
    Calls Tryz.prog 127 #[.agg #[.string nm, .int .i64 h, .int .i64 c, .int .i64 d, .int .i64 dh, .int .i64 dc, .int .i64 dd], .agg #[.int .i64 nh, .int .i64 nc, .int .i64 nd]] w fun e w' => e = .returned (.tuple #[.bool (d9D ⟨nm, h, c, d, dh, dc, dd⟩ nh nc nd), .agg #[.int .i64 (lfI h (nh - dh)), .int .i64 (lfI c (nc - dc)), .int .i64 (lfI d (nd - dd))], .bool true]) ∧ Below w.heap.size w w' := by
  have hn0 := hn
  have hn' : (tsB ⟨nm, h, c, d, dh, dc, dd⟩ && ckB nh nc nd && bhB dh dc dd nh nc nd) = true := hn
  simp only [Bool.and_eq_true] at hn'
  obtain ⟨⟨q1, q2⟩, q3⟩ := hn'
  obtain ⟨_, th, tc, td, tsum, tk⟩ := tsB_facts q1
  obtain ⟨nb1, nb2, nb3⟩ := ckB_facts q2
  obtain ⟨tb1, tb2, tb3⟩ := ckB_facts tk
  have q3' : (decide (dh ≤ nh) && decide (dc ≤ nc) && decide (dd ≤ nd)) = true := q3
  simp only [Bool.and_eq_true, decide_eq_true_eq] at q3'
  obtain ⟨⟨r1, r2⟩, r3⟩ := q3'
  clear hn tk
  simp only at th tc td tsum tb1 tb2 tb3
  obtain ⟨M, hM⟩ : ∃ M, d9D ⟨nm, h, c, d, dh, dc, dd⟩ nh nc nd = M := ⟨_, rfl⟩
  have CM : Hid (∀ V, Calls Tryz.prog 133 #[.agg #[.int .i64 h, .int .i64 c, .int .i64 d], .agg #[.int .i64 (nh - dh), .int .i64 (nc - dc), .int .i64 (nd - dd)]] V fun e w' => e = .returned (.bool M) ∧ Below V.heap.size V w') := hide (fun V => by
    have k := someMet_any h c d (nh - dh) (nc - dc) (nd - dd) V
    rw [metB_due th.1 tc.1 td.1] at k
    rw [← hM, d9D, hn0]
    exact k)
  rw [hM]
  clear hM hn0 tsum
  go_enter Tryz.func127, Tryz.ntmps127
  go_wp2_with fail
  obtain ⟨W, hW⟩ : ∃ W, W = ((w.alloc (Obj.cells #[.string nm, .int .i64 h, .int .i64 c, .int .i64 d, .int .i64 dh, .int .i64 dc, .int .i64 dd] 90)).alloc (Obj.cells #[.int .i64 nh, .int .i64 nc, .int .i64 nd] 35)).alloc (Obj.cells #[.int .i64 0, .int .i64 0, .int .i64 0] 35) := ⟨_, rfl⟩
  rw [← hW]
  have K0 : Hid (Blk W w.heap.size [.string nm, .int .i64 h, .int .i64 c, .int .i64 d, .int .i64 dh, .int .i64 dc, .int .i64 dd]) := hide (by rw [hW]; exact ((Blk.new _ _).alloc _).alloc _)
  have K1 : Hid (Blk W (w.heap.size + 1) [.int .i64 nh, .int .i64 nc, .int .i64 nd]) := hide (by
    rw [hW]
    have e : (w.alloc (Obj.cells #[.string nm, .int .i64 h, .int .i64 c, .int .i64 d, .int .i64 dh, .int .i64 dc, .int .i64 dd] 90)).heap.size = w.heap.size + 1 := by simp
    have k := (Blk.new (w := w.alloc (Obj.cells #[.string nm, .int .i64 h, .int .i64 c, .int .i64 d, .int .i64 dh, .int .i64 dc, .int .i64 dd] 90)) [.int .i64 nh, .int .i64 nc, .int .i64 nd] 35).alloc (Obj.cells #[.int .i64 0, .int .i64 0, .int .i64 0] 35)
    rw [e] at k
    exact k)
  have K2 : Hid (Blk W (w.heap.size + 2) [.int .i64 0, .int .i64 0, .int .i64 0]) := hide (by
    rw [hW]
    have e : ((w.alloc (Obj.cells #[.string nm, .int .i64 h, .int .i64 c, .int .i64 d, .int .i64 dh, .int .i64 dc, .int .i64 dd] 90)).alloc (Obj.cells #[.int .i64 nh, .int .i64 nc, .int .i64 nd] 35)).heap.size = w.heap.size + 2 := by simp
    have k := Blk.new (w := (w.alloc (Obj.cells #[.string nm, .int .i64 h, .int .i64 c, .int .i64 d, .int .i64 dh, .int .i64 dc, .int .i64 dd] 90)).alloc (Obj.cells #[.int .i64 nh, .int .i64 nc, .int .i64 nd] 35)) [.int .i64 0, .int .i64 0, .int .i64 0] 35
    rw [e] at k
    exact k)
  have B0 : Hid (Below w.heap.size w W) := hide (by rw [hW]; exact (by repeat (first | exact Below.refl _ _ | refine Below.alloc ?_ (by simp; try omega) _)))
  clear hW
  obtain ⟨ι, fW, _, hb, hall⟩ := belClass W
  have HB := hide hb
  have HA := hide hall
  have c00 : ∀ x, (fW x).cell? ⟨w.heap.size, 0, none⟩ = some (.string nm) := fun x => ((unhide K0).below (hb x)).c 0 (by simp)
  have c01 : ∀ x, (fW x).cell? ⟨w.heap.size, 1, none⟩ = some (.int .i64 h) := fun x => ((unhide K0).below (hb x)).c 1 (by simp)
  have c02 : ∀ x, (fW x).cell? ⟨w.heap.size, 2, none⟩ = some (.int .i64 c) := fun x => ((unhide K0).below (hb x)).c 2 (by simp)
  have c03 : ∀ x, (fW x).cell? ⟨w.heap.size, 3, none⟩ = some (.int .i64 d) := fun x => ((unhide K0).below (hb x)).c 3 (by simp)
  have c04 : ∀ x, (fW x).cell? ⟨w.heap.size, 4, none⟩ = some (.int .i64 dh) := fun x => ((unhide K0).below (hb x)).c 4 (by simp)
  have c05 : ∀ x, (fW x).cell? ⟨w.heap.size, 5, none⟩ = some (.int .i64 dc) := fun x => ((unhide K0).below (hb x)).c 5 (by simp)
  have c06 : ∀ x, (fW x).cell? ⟨w.heap.size, 6, none⟩ = some (.int .i64 dd) := fun x => ((unhide K0).below (hb x)).c 6 (by simp)
  have c10 : ∀ x, (fW x).cell? ⟨w.heap.size + 1, 0, none⟩ = some (.int .i64 nh) := fun x => ((unhide K1).below (hb x)).c 0 (by simp)
  have c11 : ∀ x, (fW x).cell? ⟨w.heap.size + 1, 1, none⟩ = some (.int .i64 nc) := fun x => ((unhide K1).below (hb x)).c 1 (by simp)
  have c12 : ∀ x, (fW x).cell? ⟨w.heap.size + 1, 2, none⟩ = some (.int .i64 nd) := fun x => ((unhide K1).below (hb x)).c 2 (by simp)
  have c20 : ∀ x, (fW x).cell? ⟨w.heap.size + 2, 0, none⟩ = some (.int .i64 0) := fun x => ((unhide K2).below (hb x)).c 0 (by simp)
  have f20 : ∀ x, (fW x).frozen? ⟨w.heap.size + 2, 0, none⟩ = false := fun x => ((unhide K2).below (hb x)).f 0 (by simp)
  have c21 : ∀ x, (fW x).cell? ⟨w.heap.size + 2, 1, none⟩ = some (.int .i64 0) := fun x => ((unhide K2).below (hb x)).c 1 (by simp)
  have f21 : ∀ x, (fW x).frozen? ⟨w.heap.size + 2, 1, none⟩ = false := fun x => ((unhide K2).below (hb x)).f 1 (by simp)
  have c22 : ∀ x, (fW x).cell? ⟨w.heap.size + 2, 2, none⟩ = some (.int .i64 0) := fun x => ((unhide K2).below (hb x)).c 2 (by simp)
  have f22 : ∀ x, (fW x).frozen? ⟨w.heap.size + 2, 2, none⟩ = false := fun x => ((unhide K2).below (hb x)).f 2 (by simp)
  clear hb hall
  obtain ⟨x0, h0⟩ := (unhide HA) W (Below.refl _ _)
  rw [h0]
  clear h0
  go_wp2_with (first | (go_at_call 106; refine (belQ (unhide HB) (unhide HA) (implTaskOk_is _ _ _ _ _ _ _ _ hs (by exact q1))).mono ?_; rintro e _ ⟨rfl, y, rfl⟩) | (go_at_call 74; refine (belQ (unhide HB) (unhide HA) (implClockOk_is _ _ _ _ (by exact q2))).mono ?_; rintro e _ ⟨rfl, y, rfl⟩) | (go_at_call 107; refine (belQ (unhide HB) (unhide HA) (isBeyond_is _ _ _ _ _ _ _ (by exact q3))).mono ?_; rintro e _ ⟨rfl, y, rfl⟩))
  clear c00 c01 c02 c03 c04 c05 c06 c10 c11 c12 c20 f20 c21 f21 c22 f22
  refine wp_letter (R := fun V => Below W.heap.size W V) (unhide HB _) ?_
  intro V0 bV
  have KA := hide ((unhide K0).below bV)
  have KC := hide ((unhide K1).below bV)
  have KZ := hide ((unhide K2).below bV)
  have LZ : Hid (w.heap.size + 2 < V0.heap.size) := hide (unhide KZ).lt
  have BV := hide ((unhide B0).trans (bV.mono (unhide B0).size))
  clear bV
  clear HA HB K0 K1 K2 B0 q1 q2 q3
  refine wp_region_flagsA (by kernel_rfl) (by kernel_rfl) (DuRJ w V0 nm h c d dh dc dd nh nc nd) ?_ ?_ ?_
  · exact DuRJ.mk (v0 := undef) (v1 := undef) (v2 := undef) (v3 := undef) (v4 := undef) (v5 := undef) (v6 := undef) ⟨(unhide BV).trans (bel0d' 1), Nat.le_refl _, ((unhide KA).below (bel0d 1) : _), ((unhide KC).below (bel0d 1) : _), ((unhide KZ).below (bel0d 1) : _), (fun h => by cases h), (fun h => by cases h), (fun h => by cases h), (fun h => by cases h), (fun h => by cases h), (fun h => by cases h), (fun h => by cases h), (fun h => by cases h), (fun h => by cases h), (fun h => by cases h)⟩ (by kernel_rfl)
  rotate_left 1
  · rintro l a V i o ho hl hd ⟨v0, v1, v2, v3, v4, v5, v6, rfl, K⟩
    have hi : i < 9 := (Array.getElem?_eq_some_iff.1 ho).1
    rcases (show i = 0 ∨ i = 1 ∨ i = 2 ∨ i = 3 ∨ i = 4 ∨ i = 5 ∨ i = 6 ∨ i = 7 ∨ i = 8 from by omega) with rfl | rfl | rfl | rfl | rfl | rfl | rfl | rfl | rfl
    · simp at ho
      subst ho
      have yy0 : V.cell? ⟨w.heap.size, 0, none⟩ = some (.string nm) := K.ka.c 0 (by simp)
      have yy1 : V.cell? ⟨w.heap.size, 1, none⟩ = some (.int .i64 h) := K.ka.c 1 (by simp)
      have yy2 : V.cell? ⟨w.heap.size, 2, none⟩ = some (.int .i64 c) := K.ka.c 2 (by simp)
      have yy3 : V.cell? ⟨w.heap.size, 3, none⟩ = some (.int .i64 d) := K.ka.c 3 (by simp)
      have yy4 : V.cell? ⟨w.heap.size, 4, none⟩ = some (.int .i64 dh) := K.ka.c 4 (by simp)
      have yy5 : V.cell? ⟨w.heap.size, 5, none⟩ = some (.int .i64 dc) := K.ka.c 5 (by simp)
      have yy6 : V.cell? ⟨w.heap.size, 6, none⟩ = some (.int .i64 dd) := K.ka.c 6 (by simp)
      have HK : Hid (DuR w V0 nm h c d dh dc dd nh nc nd true (l 1) (l 2) (l 3) (l 4) (l 5) (l 6) (l 7) (l 8) (.agg #[.string nm, .int .i64 h, .int .i64 c, .int .i64 d, .int .i64 dh, .int .i64 dc, .int .i64 dd]) v1 v2 v3 v4 v5 v6 V) := hide ⟨(K.bel), (K.sz), (K.ka), (K.kb), (K.kc), (fun _ => rfl), (K.e1), (K.e2), (K.e3), (K.e4), (K.e5), (K.e6), (K.n7), (K.n8), (K.x5_6)⟩
      clear K hd hl
      go_wp2_with fail
      exact ⟨rfl, DuRJ.mk (unhide HK) (by kernel_rfl)⟩
    · simp at ho
      subst ho
      have d0 : l 0 = true := hd ⟨0, .data⟩ (by simp) rfl
      have x0 := K.e0 d0
      subst x0
      have HK0 := hide K
      clear K hd hl
      go_wp2_with (go_at_call 125; refine (tBounds_any _ _ _ _ _ _ _ _).mono ?_; rintro e V2 ⟨rfl, b2⟩; have K := (unhide HK0).below b2; have HK : Hid (DuR w V0 nm h c d dh dc dd nh nc nd (l 0) true (l 2) (l 3) (l 4) (l 5) (l 6) (l 7) (l 8) (.agg #[.string nm, .int .i64 h, .int .i64 c, .int .i64 d, .int .i64 dh, .int .i64 dc, .int .i64 dd]) (.agg #[.int .i64 h, .int .i64 c, .int .i64 d]) v2 v3 v4 v5 v6 V2) := hide ⟨(K.bel), (K.sz), (K.ka), (K.kb), (K.kc), (K.e0), (fun _ => rfl), (K.e2), (K.e3), (K.e4), (K.e5), (K.e6), (K.n7), (K.n8), (K.x5_6)⟩; clear K b2)
      exact ⟨rfl, DuRJ.mk (unhide HK) (by kernel_rfl)⟩
    · simp at ho
      subst ho
      have yy0 : V.cell? ⟨w.heap.size, 0, none⟩ = some (.string nm) := K.ka.c 0 (by simp)
      have yy1 : V.cell? ⟨w.heap.size, 1, none⟩ = some (.int .i64 h) := K.ka.c 1 (by simp)
      have yy2 : V.cell? ⟨w.heap.size, 2, none⟩ = some (.int .i64 c) := K.ka.c 2 (by simp)
      have yy3 : V.cell? ⟨w.heap.size, 3, none⟩ = some (.int .i64 d) := K.ka.c 3 (by simp)
      have yy4 : V.cell? ⟨w.heap.size, 4, none⟩ = some (.int .i64 dh) := K.ka.c 4 (by simp)
      have yy5 : V.cell? ⟨w.heap.size, 5, none⟩ = some (.int .i64 dc) := K.ka.c 5 (by simp)
      have yy6 : V.cell? ⟨w.heap.size, 6, none⟩ = some (.int .i64 dd) := K.ka.c 6 (by simp)
      have HK : Hid (DuR w V0 nm h c d dh dc dd nh nc nd (l 0) (l 1) true (l 3) (l 4) (l 5) (l 6) (l 7) (l 8) v0 v1 (.agg #[.string nm, .int .i64 h, .int .i64 c, .int .i64 d, .int .i64 dh, .int .i64 dc, .int .i64 dd]) v3 v4 v5 v6 V) := hide ⟨(K.bel), (K.sz), (K.ka), (K.kb), (K.kc), (K.e0), (K.e1), (fun _ => rfl), (K.e3), (K.e4), (K.e5), (K.e6), (K.n7), (K.n8), (K.x5_6)⟩
      clear K hd hl
      go_wp2_with fail
      exact ⟨rfl, DuRJ.mk (unhide HK) (by kernel_rfl)⟩
    · simp at ho
      subst ho
      have yy0 : V.cell? ⟨w.heap.size + 1, 0, none⟩ = some (.int .i64 nh) := K.kb.c 0 (by simp)
      have yy1 : V.cell? ⟨w.heap.size + 1, 1, none⟩ = some (.int .i64 nc) := K.kb.c 1 (by simp)
      have yy2 : V.cell? ⟨w.heap.size + 1, 2, none⟩ = some (.int .i64 nd) := K.kb.c 2 (by simp)
      have HK : Hid (DuR w V0 nm h c d dh dc dd nh nc nd (l 0) (l 1) (l 2) true (l 4) (l 5) (l 6) (l 7) (l 8) v0 v1 v2 (.agg #[.int .i64 nh, .int .i64 nc, .int .i64 nd]) v4 v5 v6 V) := hide ⟨(K.bel), (K.sz), (K.ka), (K.kb), (K.kc), (K.e0), (K.e1), (K.e2), (fun _ => rfl), (K.e4), (K.e5), (K.e6), (K.n7), (K.n8), (K.x5_6)⟩
      clear K hd hl
      go_wp2_with fail
      exact ⟨rfl, DuRJ.mk (unhide HK) (by kernel_rfl)⟩
    · simp at ho
      subst ho
      have d2 : l 2 = true := hd ⟨2, .data⟩ (by simp) rfl
      have x2 := K.e2 d2
      subst x2
      have d3 : l 3 = true := hd ⟨3, .data⟩ (by simp) rfl
      have x3 := K.e3 d3
      subst x3
      have HK0 := hide K
      clear K hd hl
      go_wp2_with (go_at_call 132; refine (passedBy_any _ _ _ _ _ _ _ _ _ _ _ (by omega) (by omega) (by omega) (by omega) (by omega) (by omega)).mono ?_; rintro e V2 ⟨rfl, b2⟩; have K := (unhide HK0).below b2; have HK : Hid (DuR w V0 nm h c d dh dc dd nh nc nd (l 0) (l 1) (l 2) (l 3) true (l 5) (l 6) (l 7) (l 8) v0 v1 (.agg #[.string nm, .int .i64 h, .int .i64 c, .int .i64 d, .int .i64 dh, .int .i64 dc, .int .i64 dd]) (.agg #[.int .i64 nh, .int .i64 nc, .int .i64 nd]) (.agg #[.int .i64 (nh - dh), .int .i64 (nc - dc), .int .i64 (nd - dd)]) v5 v6 V2) := hide ⟨(K.bel), (K.sz), (K.ka), (K.kb), (K.kc), (K.e0), (K.e1), (K.e2), (K.e3), (fun _ => rfl), (K.e5), (K.e6), (K.n7), (K.n8), (K.x5_6)⟩; clear K b2)
      exact ⟨rfl, DuRJ.mk (unhide HK) (by kernel_rfl)⟩
    · simp at ho
      subst ho
      have nz : l 7 = false := by cases c : l 7; rfl; have := K.n7 c; rw [hl] at this; cases this
      have K2 := K.below (bel1 (Obj.cells #[.int .i64 0, .int .i64 0, .int .i64 0] 142))
      have HK : Hid (DuR w V0 nm h c d dh dc dd nh nc nd (l 0) (l 1) (l 2) (l 3) (l 4) true (l 6) (l 7) (l 8) v0 v1 v2 v3 v4 (.pointer (some ⟨V.heap.size, 0, none⟩)) v6 (V.alloc (Obj.cells #[.int .i64 0, .int .i64 0, .int .i64 0] 142))) := hide ⟨(K2.bel), (K2.sz), (K2.ka), (K2.kb), (K2.kc), (K2.e0), (K2.e1), (K2.e2), (K2.e3), (K2.e4), (fun _ => ⟨_, rfl, K.sz, by rw [nz]; exact Blk.new _ _⟩), (K2.e6), (fun h => by cases nz.symm.trans h), (K2.n8), (fun _ h e => by obtain ⟨P, x1, x2, x3⟩ := K.e6 h; rw [x1] at e; have := x3.lt; simp at e <;> omega)⟩
      clear K K2 hd hl nz
      go_wp2_with fail
      exact ⟨rfl, DuRJ.mk (unhide HK) (by kernel_rfl)⟩
    · simp at ho
      subst ho
      have nz : l 8 = false := by cases c : l 8; rfl; have := K.n8 c; rw [hl] at this; cases this
      have K2 := K.below (bel1 (Obj.cells #[.int .i64 0, .int .i64 0, .int .i64 0] 142))
      have HK : Hid (DuR w V0 nm h c d dh dc dd nh nc nd (l 0) (l 1) (l 2) (l 3) (l 4) (l 5) true (l 7) (l 8) v0 v1 v2 v3 v4 v5 (.pointer (some ⟨V.heap.size, 0, none⟩)) (V.alloc (Obj.cells #[.int .i64 0, .int .i64 0, .int .i64 0] 142))) := hide ⟨(K2.bel), (K2.sz), (K2.ka), (K2.kb), (K2.kc), (K2.e0), (K2.e1), (K2.e2), (K2.e3), (K2.e4), (K2.e5), (fun _ => ⟨_, rfl, K.sz, by rw [nz]; exact Blk.new _ _⟩), (K2.n7), (fun h => by cases nz.symm.trans h), (fun h _ e => by obtain ⟨P, x1, x2, x3⟩ := K.e5 h; rw [x1] at e; have := x3.lt; simp at e <;> omega)⟩
      clear K K2 hd hl nz
      go_wp2_with fail
      exact ⟨rfl, DuRJ.mk (unhide HK) (by kernel_rfl)⟩
    · simp at ho
      subst ho
      have d1 : l 1 = true := hd ⟨1, .data⟩ (by simp) rfl
      have x1 := K.e1 d1
      subst x1
      have da : l 5 = true := hd ⟨5, .data⟩ (by simp) rfl
      obtain ⟨P, x1, x2, x3⟩ := K.e5 da
      rw [hl] at x3
      have yy0 : V.cell? ⟨P, 0, none⟩ = some (.int .i64 0) := x3.c 0 (by simp)
      have ff0 : V.frozen? ⟨P, 0, none⟩ = false := x3.f 0 (by simp)
      have yy1 : V.cell? ⟨P, 1, none⟩ = some (.int .i64 0) := x3.c 1 (by simp)
      have ff1 : V.frozen? ⟨P, 1, none⟩ = false := x3.f 1 (by simp)
      have yy2 : V.cell? ⟨P, 2, none⟩ = some (.int .i64 0) := x3.c 2 (by simp)
      have ff2 : V.frozen? ⟨P, 2, none⟩ = false := x3.f 2 (by simp)
      have HK : Hid (DuR w V0 nm h c d dh dc dd nh nc nd (l 0) (l 1) (l 2) (l 3) (l 4) (l 5) (l 6) true (l 8) v0 (.agg #[.int .i64 h, .int .i64 c, .int .i64 d]) v2 v3 v4 v5 v6 (((V.setCell ⟨P, 0, none⟩ (.int .i64 h)).setCell ⟨P, 1, none⟩ (.int .i64 c)).setCell ⟨P, 2, none⟩ (.int .i64 d))) := hide ⟨((((K.bel.setCell (p := ⟨P, 0, none⟩) (Nat.le_trans (by have := unhide LZ; omega) x2) _).setCell (p := ⟨P, 1, none⟩) (Nat.le_trans (by have := unhide LZ; omega) x2) _).setCell (p := ⟨P, 2, none⟩) (Nat.le_trans (by have := unhide LZ; omega) x2) _)), (by simpa [World.setCell] using K.sz), ((((K.ka.other (p := ⟨P, 0, none⟩) (by have := unhide LZ; show P ≠ w.heap.size; omega) _).other (p := ⟨P, 1, none⟩) (by have := unhide LZ; show P ≠ w.heap.size; omega) _).other (p := ⟨P, 2, none⟩) (by have := unhide LZ; show P ≠ w.heap.size; omega) _)), ((((K.kb.other (p := ⟨P, 0, none⟩) (by have := unhide LZ; show P ≠ w.heap.size + 1; omega) _).other (p := ⟨P, 1, none⟩) (by have := unhide LZ; show P ≠ w.heap.size + 1; omega) _).other (p := ⟨P, 2, none⟩) (by have := unhide LZ; show P ≠ w.heap.size + 1; omega) _)), ((((K.kc.other (p := ⟨P, 0, none⟩) (by have := unhide LZ; show P ≠ w.heap.size + 2; omega) _).other (p := ⟨P, 1, none⟩) (by have := unhide LZ; show P ≠ w.heap.size + 2; omega) _).other (p := ⟨P, 2, none⟩) (by have := unhide LZ; show P ≠ w.heap.size + 2; omega) _)), (K.e0), (K.e1), (K.e2), (K.e3), (K.e4), (fun _ => ⟨P, x1, x2, (((x3.set 0 (by simp) _).set 1 (by simp) _).set 2 (by simp) _)⟩), (fun h => by obtain ⟨Q, z1, z2, z3⟩ := K.e6 h; have hne : P ≠ Q := (fun e => (K.x5_6 da h) (by rw [x1, z1, e])); exact ⟨Q, z1, z2, (((z3.other (p := ⟨P, 0, none⟩) hne _).other (p := ⟨P, 1, none⟩) hne _).other (p := ⟨P, 2, none⟩) hne _)⟩), (fun _ => da), (K.n8), (K.x5_6)⟩
      clear K hd hl x3
      subst x1
      go_wp2_with fail
      exact ⟨rfl, DuRJ.mk (unhide HK) (by kernel_rfl)⟩
    · simp at ho
      subst ho
      have d4 : l 4 = true := hd ⟨4, .data⟩ (by simp) rfl
      have x4 := K.e4 d4
      subst x4
      have da : l 6 = true := hd ⟨6, .data⟩ (by simp) rfl
      obtain ⟨P, x1, x2, x3⟩ := K.e6 da
      rw [hl] at x3
      have yy0 : V.cell? ⟨P, 0, none⟩ = some (.int .i64 0) := x3.c 0 (by simp)
      have ff0 : V.frozen? ⟨P, 0, none⟩ = false := x3.f 0 (by simp)
      have yy1 : V.cell? ⟨P, 1, none⟩ = some (.int .i64 0) := x3.c 1 (by simp)
      have ff1 : V.frozen? ⟨P, 1, none⟩ = false := x3.f 1 (by simp)
      have yy2 : V.cell? ⟨P, 2, none⟩ = some (.int .i64 0) := x3.c 2 (by simp)
      have ff2 : V.frozen? ⟨P, 2, none⟩ = false := x3.f 2 (by simp)
      have HK : Hid (DuR w V0 nm h c d dh dc dd nh nc nd (l 0) (l 1) (l 2) (l 3) (l 4) (l 5) (l 6) (l 7) true v0 v1 v2 v3 (.agg #[.int .i64 (nh - dh), .int .i64 (nc - dc), .int .i64 (nd - dd)]) v5 v6 (((V.setCell ⟨P, 0, none⟩ (.int .i64 (nh - dh))).setCell ⟨P, 1, none⟩ (.int .i64 (nc - dc))).setCell ⟨P, 2, none⟩ (.int .i64 (nd - dd)))) := hide ⟨((((K.bel.setCell (p := ⟨P, 0, none⟩) (Nat.le_trans (by have := unhide LZ; omega) x2) _).setCell (p := ⟨P, 1, none⟩) (Nat.le_trans (by have := unhide LZ; omega) x2) _).setCell (p := ⟨P, 2, none⟩) (Nat.le_trans (by have := unhide LZ; omega) x2) _)), (by simpa [World.setCell] using K.sz), ((((K.ka.other (p := ⟨P, 0, none⟩) (by have := unhide LZ; show P ≠ w.heap.size; omega) _).other (p := ⟨P, 1, none⟩) (by have := unhide LZ; show P ≠ w.heap.size; omega) _).other (p := ⟨P, 2, none⟩) (by have := unhide LZ; show P ≠ w.heap.size; omega) _)), ((((K.kb.other (p := ⟨P, 0, none⟩) (by have := unhide LZ; show P ≠ w.heap.size + 1; omega) _).other (p := ⟨P, 1, none⟩) (by have := unhide LZ; show P ≠ w.heap.size + 1; omega) _).other (p := ⟨P, 2, none⟩) (by have := unhide LZ; show P ≠ w.heap.size + 1; omega) _)), ((((K.kc.other (p := ⟨P, 0, none⟩) (by have := unhide LZ; show P ≠ w.heap.size + 2; omega) _).other (p := ⟨P, 1, none⟩) (by have := unhide LZ; show P ≠ w.heap.size + 2; omega) _).other (p := ⟨P, 2, none⟩) (by have := unhide LZ; show P ≠ w.heap.size + 2; omega) _)), (K.e0), (K.e1), (K.e2), (K.e3), (K.e4), (fun h => by obtain ⟨Q, z1, z2, z3⟩ := K.e5 h; have hne : P ≠ Q := (fun e => (K.x5_6 h da) (by rw [z1, x1, e])); exact ⟨Q, z1, z2, (((z3.other (p := ⟨P, 0, none⟩) hne _).other (p := ⟨P, 1, none⟩) hne _).other (p := ⟨P, 2, none⟩) hne _)⟩), (fun _ => ⟨P, x1, x2, (((x3.set 0 (by simp) _).set 1 (by simp) _).set 2 (by simp) _)⟩), (K.n7), (fun _ => da), (K.x5_6)⟩
      clear K hd hl x3
      subst x1
      go_wp2_with fail
      exact ⟨rfl, DuRJ.mk (unhide HK) (by kernel_rfl)⟩
  rintro l a V1 hall ⟨v0, v1, v2, v3, v4, v5, v6, rfl, K⟩
  have g0 := hall 0 (by decide)
  have g1 := hall 1 (by decide)
  have g2 := hall 2 (by decide)
  have g3 := hall 3 (by decide)
  have g4 := hall 4 (by decide)
  have g5 := hall 5 (by decide)
  have g6 := hall 6 (by decide)
  have g7 := hall 7 (by decide)
  have g8 := hall 8 (by decide)
  clear hall
  have px0 := K.e0 g0
  have px1 := K.e1 g1
  have px2 := K.e2 g2
  have px3 := K.e3 g3
  have px4 := K.e4 g4
  obtain ⟨P5, px5, pl5, pb5⟩ := K.e5 g5
  rw [g7] at pb5
  have PB5 : Hid (Blk V1 P5 [.int .i64 h, .int .i64 c, .int .i64 d]) := hide pb5
  obtain ⟨P6, px6, pl6, pb6⟩ := K.e6 g6
  rw [g8] at pb6
  have PB6 : Hid (Blk V1 P6 [.int .i64 (nh - dh), .int .i64 (nc - dc), .int .i64 (nd - dd)]) := hide pb6
  have KBa : Hid (Blk V1 (w.heap.size) [.string nm, .int .i64 h, .int .i64 c, .int .i64 d, .int .i64 dh, .int .i64 dc, .int .i64 dd]) := hide K.ka
  have KBb : Hid (Blk V1 (w.heap.size + 1) [.int .i64 nh, .int .i64 nc, .int .i64 nd]) := hide K.kb
  have KBc : Hid (Blk V1 (w.heap.size + 2) [.int .i64 0, .int .i64 0, .int .i64 0]) := hide K.kc
  have KBEL : Hid (Below w.heap.size w V1) := hide K.bel
  have KSZ : Hid (V0.heap.size ≤ V1.heap.size) := hide K.sz
  clear K g0 g1 g2 g3 g4 g5 g6 g7 g8 pb5 pb6
  subst px0
  subst px1
  subst px2
  subst px3
  subst px4
  subst px5
  subst px6
  clear KBa KBb KSZ
  go_wp2_with fail
  refine wp_region_flagsA (by kernel_rfl) (by kernel_rfl) (DvRJ w V1 nm h c d dh dc dd nh nc nd M P5 P6) ?_ ?_ ?_
  · exact DvRJ.mk (v0 := undef) (v1 := undef) (v2 := undef) (v3 := undef) (v4 := undef) (v5 := undef) (v6 := undef) (v7 := .bool false) (v9 := .bool false) ⟨(unhide KBEL).trans (bel0d' 1), Nat.le_refl _, ((unhide PB5).below (bel0d 1) : _), ((unhide PB6).below (bel0d 1) : _), ((unhide KBc).below (bel0d 1) : _), (fun h => by cases h), (fun h => by cases h), (fun h => by cases h), (fun h => by cases h), (fun h => by cases h), (fun h => by cases h), (fun h => by cases h), (fun h => by cases h), (fun h => by cases h)⟩ (by kernel_rfl)
  rotate_left 1
  · rintro l a V i o ho hl hd ⟨v0, v1, v2, v3, v4, v5, v6, v7, v9, rfl, K⟩
    have hi : i < 10 := (Array.getElem?_eq_some_iff.1 ho).1
    rcases (show i = 0 ∨ i = 1 ∨ i = 2 ∨ i = 3 ∨ i = 4 ∨ i = 5 ∨ i = 6 ∨ i = 7 ∨ i = 8 ∨ i = 9 from by omega) with rfl | rfl | rfl | rfl | rfl | rfl | rfl | rfl | rfl | rfl
    · simp at ho
      subst ho
      have yy0 : V.cell? ⟨P5, 0, none⟩ = some (.int .i64 h) := K.kd.c 0 (by simp)
      have yy1 : V.cell? ⟨P5, 1, none⟩ = some (.int .i64 c) := K.kd.c 1 (by simp)
      have yy2 : V.cell? ⟨P5, 2, none⟩ = some (.int .i64 d) := K.kd.c 2 (by simp)
      have HK : Hid (DvR w V1 nm h c d dh dc dd nh nc nd M P5 P6 true (l 1) (l 2) (l 3) (l 4) (l 5) (l 6) (l 7) (l 8) (l 9) (.agg #[.int .i64 h, .int .i64 c, .int .i64 d]) v1 v2 v3 v4 v5 v6 v7 v9 V) := hide ⟨(K.bel), (K.sz), (K.kd), (K.ke), (K.rc), (fun _ => rfl), (K.e1), (K.e2), (K.e3), (K.e4), (K.e5), (K.e6), (K.e7), (K.e9)⟩
      clear K hd hl
      go_wp2_with fail
      exact ⟨rfl, DvRJ.mk (unhide HK) (by kernel_rfl)⟩
    · simp at ho
      subst ho
      have yy0 : V.cell? ⟨P6, 0, none⟩ = some (.int .i64 (nh - dh)) := K.ke.c 0 (by simp)
      have yy1 : V.cell? ⟨P6, 1, none⟩ = some (.int .i64 (nc - dc)) := K.ke.c 1 (by simp)
      have yy2 : V.cell? ⟨P6, 2, none⟩ = some (.int .i64 (nd - dd)) := K.ke.c 2 (by simp)
      have HK : Hid (DvR w V1 nm h c d dh dc dd nh nc nd M P5 P6 (l 0) true (l 2) (l 3) (l 4) (l 5) (l 6) (l 7) (l 8) (l 9) v0 (.agg #[.int .i64 (nh - dh), .int .i64 (nc - dc), .int .i64 (nd - dd)]) v2 v3 v4 v5 v6 v7 v9 V) := hide ⟨(K.bel), (K.sz), (K.kd), (K.ke), (K.rc), (K.e0), (fun _ => rfl), (K.e2), (K.e3), (K.e4), (K.e5), (K.e6), (K.e7), (K.e9)⟩
      clear K hd hl
      go_wp2_with fail
      exact ⟨rfl, DvRJ.mk (unhide HK) (by kernel_rfl)⟩
    · simp at ho
      subst ho
      have d0 : l 0 = true := hd ⟨0, .data⟩ (by simp) rfl
      have x0 := K.e0 d0
      subst x0
      have d1 : l 1 = true := hd ⟨1, .data⟩ (by simp) rfl
      have x1 := K.e1 d1
      subst x1
      have HK0 := hide K
      clear K hd hl
      go_wp2_with (go_at_call 133; refine (unhide CM _).mono ?_; rintro e V2 ⟨rfl, b2⟩; have K := (unhide HK0).below b2; have HK : Hid (DvR w V1 nm h c d dh dc dd nh nc nd M P5 P6 (l 0) (l 1) true (l 3) (l 4) (l 5) (l 6) (l 7) (l 8) (l 9) (.agg #[.int .i64 h, .int .i64 c, .int .i64 d]) (.agg #[.int .i64 (nh - dh), .int .i64 (nc - dc), .int .i64 (nd - dd)]) (.bool M) v3 v4 v5 v6 v7 v9 V2) := hide ⟨(K.bel), (K.sz), (K.kd), (K.ke), (K.rc), (K.e0), (K.e1), (fun _ => rfl), (K.e3), (K.e4), (K.e5), (K.e6), (K.e7), (K.e9)⟩; clear K b2)
      exact ⟨rfl, DvRJ.mk (unhide HK) (by kernel_rfl)⟩
    · simp at ho
      subst ho
      have yy0 : V.cell? ⟨P5, 0, none⟩ = some (.int .i64 h) := K.kd.c 0 (by simp)
      have yy1 : V.cell? ⟨P5, 1, none⟩ = some (.int .i64 c) := K.kd.c 1 (by simp)
      have yy2 : V.cell? ⟨P5, 2, none⟩ = some (.int .i64 d) := K.kd.c 2 (by simp)
      have HK : Hid (DvR w V1 nm h c d dh dc dd nh nc nd M P5 P6 (l 0) (l 1) (l 2) true (l 4) (l 5) (l 6) (l 7) (l 8) (l 9) v0 v1 v2 (.agg #[.int .i64 h, .int .i64 c, .int .i64 d]) v4 v5 v6 v7 v9 V) := hide ⟨(K.bel), (K.sz), (K.kd), (K.ke), (K.rc), (K.e0), (K.e1), (K.e2), (fun _ => rfl), (K.e4), (K.e5), (K.e6), (K.e7), (K.e9)⟩
      clear K hd hl
      go_wp2_with fail
      exact ⟨rfl, DvRJ.mk (unhide HK) (by kernel_rfl)⟩
    · simp at ho
      subst ho
      have yy0 : V.cell? ⟨P6, 0, none⟩ = some (.int .i64 (nh - dh)) := K.ke.c 0 (by simp)
      have yy1 : V.cell? ⟨P6, 1, none⟩ = some (.int .i64 (nc - dc)) := K.ke.c 1 (by simp)
      have yy2 : V.cell? ⟨P6, 2, none⟩ = some (.int .i64 (nd - dd)) := K.ke.c 2 (by simp)
      have HK : Hid (DvR w V1 nm h c d dh dc dd nh nc nd M P5 P6 (l 0) (l 1) (l 2) (l 3) true (l 5) (l 6) (l 7) (l 8) (l 9) v0 v1 v2 v3 (.agg #[.int .i64 (nh - dh), .int .i64 (nc - dc), .int .i64 (nd - dd)]) v5 v6 v7 v9 V) := hide ⟨(K.bel), (K.sz), (K.kd), (K.ke), (K.rc), (K.e0), (K.e1), (K.e2), (K.e3), (fun _ => rfl), (K.e5), (K.e6), (K.e7), (K.e9)⟩
      clear K hd hl
      go_wp2_with fail
      exact ⟨rfl, DvRJ.mk (unhide HK) (by kernel_rfl)⟩
    · simp at ho
      subst ho
      have d3 : l 3 = true := hd ⟨3, .data⟩ (by simp) rfl
      have x3 := K.e3 d3
      subst x3
      have d4 : l 4 = true := hd ⟨4, .data⟩ (by simp) rfl
      have x4 := K.e4 d4
      subst x4
      have HK0 := hide K
      clear K hd hl
      go_wp2_with (go_at_call 135; refine (leftOf_any _ _ _ _ _ _ _ (by omega) (by omega) (by omega) (by omega) (by omega) (by omega)).mono ?_; rintro e V2 ⟨rfl, b2⟩; have K := (unhide HK0).below b2; have HK : Hid (DvR w V1 nm h c d dh dc dd nh nc nd M P5 P6 (l 0) (l 1) (l 2) (l 3) (l 4) true (l 6) (l 7) (l 8) (l 9) v0 v1 v2 (.agg #[.int .i64 h, .int .i64 c, .int .i64 d]) (.agg #[.int .i64 (nh - dh), .int .i64 (nc - dc), .int .i64 (nd - dd)]) (.agg #[.int .i64 (lfI h (nh - dh)), .int .i64 (lfI c (nc - dc)), .int .i64 (lfI d (nd - dd))]) v6 v7 v9 V2) := hide ⟨(K.bel), (K.sz), (K.kd), (K.ke), (K.rc), (K.e0), (K.e1), (K.e2), (K.e3), (K.e4), (fun _ => rfl), (K.e6), (K.e7), (K.e9)⟩; clear K b2)
      exact ⟨rfl, DvRJ.mk (unhide HK) (by kernel_rfl)⟩
    · simp at ho
      subst ho
      have d5 : l 5 = true := hd ⟨5, .data⟩ (by simp) rfl
      have x5 := K.e5 d5
      subst x5
      have HK0 := hide K
      clear K hd hl
      go_wp2_with (go_at_call 134; refine (clockOf_any _ _ _ _).mono ?_; rintro e V2 ⟨rfl, b2⟩; have K := (unhide HK0).below b2; have HK : Hid (DvR w V1 nm h c d dh dc dd nh nc nd M P5 P6 (l 0) (l 1) (l 2) (l 3) (l 4) (l 5) true (l 7) (l 8) (l 9) v0 v1 v2 v3 v4 (.agg #[.int .i64 (lfI h (nh - dh)), .int .i64 (lfI c (nc - dc)), .int .i64 (lfI d (nd - dd))]) (.agg #[.int .i64 (lfI h (nh - dh)), .int .i64 (lfI c (nc - dc)), .int .i64 (lfI d (nd - dd))]) v7 v9 V2) := hide ⟨(K.bel), (K.sz), (K.kd), (K.ke), (K.rc), (K.e0), (K.e1), (K.e2), (K.e3), (K.e4), (K.e5), (fun _ => rfl), (K.e7), (K.e9)⟩; clear K b2)
      exact ⟨rfl, DvRJ.mk (unhide HK) (by kernel_rfl)⟩
    · simp at ho
      subst ho
      have d2 : l 2 = true := hd ⟨2, .data⟩ (by simp) rfl
      have x2 := K.e2 d2
      subst x2
      have HK : Hid (DvR w V1 nm h c d dh dc dd nh nc nd M P5 P6 (l 0) (l 1) (l 2) (l 3) (l 4) (l 5) (l 6) true (l 8) (l 9) v0 v1 (.bool M) v3 v4 v5 v6 (.bool M) v9 V) := hide ⟨(K.bel), (K.sz), (K.kd), (K.ke), (K.rc), (K.e0), (K.e1), (K.e2), (K.e3), (K.e4), (K.e5), (K.e6), (fun _ => rfl), (K.e9)⟩
      clear K hd hl
      go_wp2_with fail
      exact ⟨rfl, DvRJ.mk (unhide HK) (by kernel_rfl)⟩
    · simp at ho
      subst ho
      have d6 : l 6 = true := hd ⟨6, .data⟩ (by simp) rfl
      have x6 := K.e6 d6
      subst x6
      have x3 := K.rc
      rw [hl] at x3
      have yy0 : V.cell? ⟨w.heap.size + 2, 0, none⟩ = some (.int .i64 0) := x3.c 0 (by simp)
      have ff0 : V.frozen? ⟨w.heap.size + 2, 0, none⟩ = false := x3.f 0 (by simp)
      have yy1 : V.cell? ⟨w.heap.size + 2, 1, none⟩ = some (.int .i64 0) := x3.c 1 (by simp)
      have ff1 : V.frozen? ⟨w.heap.size + 2, 1, none⟩ = false := x3.f 1 (by simp)
      have yy2 : V.cell? ⟨w.heap.size + 2, 2, none⟩ = some (.int .i64 0) := x3.c 2 (by simp)
      have ff2 : V.frozen? ⟨w.heap.size + 2, 2, none⟩ = false := x3.f 2 (by simp)
      have HK : Hid (DvR w V1 nm h c d dh dc dd nh nc nd M P5 P6 (l 0) (l 1) (l 2) (l 3) (l 4) (l 5) (l 6) (l 7) true (l 9) v0 v1 v2 v3 v4 v5 (.agg #[.int .i64 (lfI h (nh - dh)), .int .i64 (lfI c (nc - dc)), .int .i64 (lfI d (nd - dd))]) v7 v9 (((V.setCell ⟨w.heap.size + 2, 0, none⟩ (.int .i64 (lfI h (nh - dh)))).setCell ⟨w.heap.size + 2, 1, none⟩ (.int .i64 (lfI c (nc - dc)))).setCell ⟨w.heap.size + 2, 2, none⟩ (.int .i64 (lfI d (nd - dd))))) := hide ⟨((((K.bel.setCell (p := ⟨w.heap.size + 2, 0, none⟩) (by show w.heap.size ≤ w.heap.size + 2; omega) _).setCell (p := ⟨w.heap.size + 2, 1, none⟩) (by show w.heap.size ≤ w.heap.size + 2; omega) _).setCell (p := ⟨w.heap.size + 2, 2, none⟩) (by show w.heap.size ≤ w.heap.size + 2; omega) _)), (by simpa [World.setCell] using K.sz), ((((K.kd.other (p := ⟨w.heap.size + 2, 0, none⟩) (by have := pl5; have := pl6; have := unhide LZ; show w.heap.size + 2 ≠ P5; omega) _).other (p := ⟨w.heap.size + 2, 1, none⟩) (by have := pl5; have := pl6; have := unhide LZ; show w.heap.size + 2 ≠ P5; omega) _).other (p := ⟨w.heap.size + 2, 2, none⟩) (by have := pl5; have := pl6; have := unhide LZ; show w.heap.size + 2 ≠ P5; omega) _)), ((((K.ke.other (p := ⟨w.heap.size + 2, 0, none⟩) (by have := pl5; have := pl6; have := unhide LZ; show w.heap.size + 2 ≠ P6; omega) _).other (p := ⟨w.heap.size + 2, 1, none⟩) (by have := pl5; have := pl6; have := unhide LZ; show w.heap.size + 2 ≠ P6; omega) _).other (p := ⟨w.heap.size + 2, 2, none⟩) (by have := pl5; have := pl6; have := unhide LZ; show w.heap.size + 2 ≠ P6; omega) _)), ((((x3.set 0 (by simp) _).set 1 (by simp) _).set 2 (by simp) _)), (K.e0), (K.e1), (K.e2), (K.e3), (K.e4), (K.e5), (K.e6), (K.e7), (K.e9)⟩
      clear K hd hl x3
      go_wp2_with fail
      exact ⟨rfl, DvRJ.mk (unhide HK) (by kernel_rfl)⟩
    · simp at ho
      subst ho
      have HK : Hid (DvR w V1 nm h c d dh dc dd nh nc nd M P5 P6 (l 0) (l 1) (l 2) (l 3) (l 4) (l 5) (l 6) (l 7) (l 8) true v0 v1 v2 v3 v4 v5 v6 v7 (.bool true) V) := hide ⟨(K.bel), (K.sz), (K.kd), (K.ke), (K.rc), (K.e0), (K.e1), (K.e2), (K.e3), (K.e4), (K.e5), (K.e6), (K.e7), (fun _ => rfl)⟩
      clear K hd hl
      go_wp2_with fail
      exact ⟨rfl, DvRJ.mk (unhide HK) (by kernel_rfl)⟩
  rintro l a V2 hall ⟨v0, v1, v2, v3, v4, v5, v6, v7, v9, rfl, K⟩
  have g0 := hall 0 (by decide)
  have g1 := hall 1 (by decide)
  have g2 := hall 2 (by decide)
  have g3 := hall 3 (by decide)
  have g4 := hall 4 (by decide)
  have g5 := hall 5 (by decide)
  have g6 := hall 6 (by decide)
  have g7 := hall 7 (by decide)
  have g8 := hall 8 (by decide)
  have g9 := hall 9 (by decide)
  clear hall
  have px0 := K.e0 g0
  have px1 := K.e1 g1
  have px2 := K.e2 g2
  have px3 := K.e3 g3
  have px4 := K.e4 g4
  have px5 := K.e5 g5
  have px6 := K.e6 g6
  have px7 := K.e7 g7
  have px9 := K.e9 g9
  have KBd : Hid (Blk V2 (P5) [.int .i64 h, .int .i64 c, .int .i64 d]) := hide K.kd
  have KBe : Hid (Blk V2 (P6) [.int .i64 (nh - dh), .int .i64 (nc - dc), .int .i64 (nd - dd)]) := hide K.ke
  have KRc : Hid (Blk V2 (w.heap.size + 2) [.int .i64 (lfI h (nh - dh)), .int .i64 (lfI c (nc - dc)), .int .i64 (lfI d (nd - dd))]) := hide (by have := K.rc; rw [g8] at this; exact this)
  have KBEL : Hid (Below w.heap.size w V2) := hide K.bel
  have KSZ : Hid (V1.heap.size ≤ V2.heap.size) := hide K.sz
  clear K g0 g1 g2 g3 g4 g5 g6 g7 g8 g9
  subst px0
  subst px1
  subst px2
  subst px3
  subst px4
  subst px5
  subst px6
  subst px7
  subst px9
  go_wp2_with fail
  exact bodyPost_ret (results_BcellB (vs := [.int .i64 (lfI h (nh - dh)), .int .i64 (lfI c (nc - dc)), .int .i64 (lfI d (nd - dd))]) rfl Tryz.isAgg35 Tryz.sizeOf35 (by kernel_rfl) (unhide KRc) (by kernel_rfl) (by kernel_rfl)) (by kernel_rfl) ⟨rfl, unhide KBEL⟩

end Go.Proofs.YticdccdkjepifaaGreat
