/-
  The law FnExactDoWork returns true at every argument and writes nothing that was there: the walk. No condition.
-/
import Derived.Test.YtglefolkecimabcGreatDv1
import Derived.Test.YtglefolkecimabcGreatMd1
import Derived.Test.YtglefolkecimabcGreatHgRun
import Derived.Deep.Cut
namespace Go.Proofs.YtglefolkecimabcGreat
open Go Go.RowKit

structure DvA (V0 : World) (f' : Fl) (B : Bool) (A D : Value) (nh nc nd : Int) (l1 l2 l3 : Nat) (ts : List Ts) (cs : List Cr) (ds : List Df) (t0 t1 t2 t3 t4 t5 t6 t7 t8 t9 t10 : Bool) (v0 v1 v2 v3 v4 v5 v6 v7 v8 v10 : Value) (W : World) : Prop where
  bel : Below V0.heap.size V0 W
  ela : t0 = true → v0 = A
  eto : t1 = true → t4 = false → ∃ e1 e2 e3, v1 = .agg #[.slice (some ⟨e1, 0, none⟩) l1 l1, .slice (some ⟨e2, 0, none⟩) l2 l2, .slice (some ⟨e3, 0, none⟩) l3 l3, .int .i64 nh, .int .i64 nc, .int .i64 nd] ∧ FlIn W (some ⟨e1, 0, none⟩) (some ⟨e2, 0, none⟩) (some ⟨e3, 0, none⟩) l1 l2 l3 ts cs ds
  eld : t2 = true → v2 = D
  etd : t3 = true → v3 = D
  edw : t4 = true → ∃ F, v4 = .tuple #[F, .bool B] ∧ DvF V0.heap.size f' F W
  emv : t5 = true → v5 = v4
  ex0 : t6 = true → v4 = .tuple #[v6, .bool B]
  ex1 : t7 = true → v7 = .bool B
  eal : t8 = true → ∃ S, v8 = .pointer (some ⟨S, 0, none⟩) ∧ V0.heap.size ≤ S ∧ (t9 = false → TyB W S 38) ∧ Blk W S (bif t9 then cells6 v6 else [.slice none 0 0, .slice none 0 0, .slice none 0 0, .int .i64 0, .int .i64 0, .int .i64 0])
  eap : t9 = true → ∀ S, v8 = .pointer (some ⟨S, 0, none⟩) → apF v6 S
  eas : t10 = true → v10 = .bool B
  cdw : t4 = true → t1 = true ∧ t3 = true
  cmv : t5 = true → t4 = true
  cx0 : t6 = true → t5 = true
  cst : t9 = true → t8 = true ∧ t6 = true
theorem DvA.below {V0 : World} {f' : Fl} {B : Bool} {A D : Value} {nh nc nd : Int} {l1 l2 l3 : Nat} {ts : List Ts} {cs : List Cr} {ds : List Df} {t0 t1 t2 t3 t4 t5 t6 t7 t8 t9 t10 : Bool} {v0 v1 v2 v3 v4 v5 v6 v7 v8 v10 : Value} {W W' : World} (K : DvA V0 f' B A D nh nc nd l1 l2 l3 ts cs ds t0 t1 t2 t3 t4 t5 t6 t7 t8 t9 t10 v0 v1 v2 v3 v4 v5 v6 v7 v8 v10 W) (hb : Below W.heap.size W W') : DvA V0 f' B A D nh nc nd l1 l2 l3 ts cs ds t0 t1 t2 t3 t4 t5 t6 t7 t8 t9 t10 v0 v1 v2 v3 v4 v5 v6 v7 v8 v10 W' :=
  ⟨K.bel.trans (hb.mono K.bel.size), K.ela, fun h h2 => by obtain ⟨e1, e2, e3, x1, x2⟩ := K.eto h h2; exact ⟨e1, e2, e3, x1, x2.below hb⟩, K.eld, K.etd, fun h => by obtain ⟨F, x1, x2⟩ := K.edw h; exact ⟨F, x1, x2.below hb⟩, K.emv, K.ex0, K.ex1, fun h => by obtain ⟨S, x1, x2, x3, x4⟩ := K.eal h; exact ⟨S, x1, x2, fun h => tyB_below (x3 h) x4.lt hb, x4.below hb⟩, K.eap, K.eas, K.cdw, K.cmv, K.cx0, K.cst⟩
def DvAJ (V0 : World) (f' : Fl) (B : Bool) (A D : Value) (nh nc nd : Int) (l1 l2 l3 : Nat) (ts : List Ts) (cs : List Cr) (ds : List Df) (G : Value → Value → Value → Value → Value → Value → Value → Value → Value → Value → Act) (_A0 : Act) (l : Nat → Bool) (a : Act) (V : World) : Prop := ∃ (v0 v1 v2 v3 v4 v5 v6 v7 v8 v10 : Value), a = (G v0 v1 v2 v3 v4 v5 v6 v7 v8 v10) ∧ DvA V0 f' B A D nh nc nd l1 l2 l3 ts cs ds (l 0) (l 1) (l 2) (l 3) (l 4) (l 5) (l 6) (l 7) (l 8) (l 9) (l 10) v0 v1 v2 v3 v4 v5 v6 v7 v8 v10 V
theorem DvAJ.mk {V0 : World} {f' : Fl} {B : Bool} {A D : Value} {nh nc nd : Int} {l1 l2 l3 : Nat} {ts : List Ts} {cs : List Cr} {ds : List Df} {G : Value → Value → Value → Value → Value → Value → Value → Value → Value → Value → Act} {A0 : Act} {l : Nat → Bool} {a : Act} {V : World} {v0 v1 v2 v3 v4 v5 v6 v7 v8 v10 : Value} (K : DvA V0 f' B A D nh nc nd l1 l2 l3 ts cs ds (l 0) (l 1) (l 2) (l 3) (l 4) (l 5) (l 6) (l 7) (l 8) (l 9) (l 10) v0 v1 v2 v3 v4 v5 v6 v7 v8 v10 V) (hq : a = (G v0 v1 v2 v3 v4 v5 v6 v7 v8 v10)) : DvAJ V0 f' B A D nh nc nd l1 l2 l3 ts cs ds G A0 l a V := ⟨v0, v1, v2, v3, v4, v5, v6, v7, v8, v10, hq, K⟩
structure DvB (V0 : World) (f' : Fl) (B : Bool) (A D : Value) (nh nc nd : Int) (l1 l2 l3 : Nat) (ts : List Ts) (cs : List Cr) (ds : List Df) (t0 t1 t2 t3 t4 t5 t6 t7 t8 t9 : Bool) (v0 v1 v2 v3 v4 v5 v6 v7 v9 : Value) (W : World) : Prop where
  bel : Below V0.heap.size V0 W
  ela : t0 = true → v0 = A
  eld : t1 = true → v1 = D
  etd : t2 = true → v2 = D
  edw : t3 = true → ∃ F, v3 = .tuple #[F, .bool B] ∧ DvF V0.heap.size f' F W
  emv : t4 = true → v4 = v3
  ex0 : t5 = true → v3 = .tuple #[v5, .bool B]
  ex1 : t6 = true → v6 = .bool B
  eal : t7 = true → ∃ S, v7 = .pointer (some ⟨S, 0, none⟩) ∧ V0.heap.size ≤ S ∧ (t8 = false → TyB W S 38) ∧ Blk W S (bif t8 then cells6 v5 else [.slice none 0 0, .slice none 0 0, .slice none 0 0, .int .i64 0, .int .i64 0, .int .i64 0])
  eap : t8 = true → ∀ S, v7 = .pointer (some ⟨S, 0, none⟩) → apF v5 S
  eas : t9 = true → v9 = .bool B
  cdw : t3 = true → t2 = true
  cmv : t4 = true → t3 = true
  cx0 : t5 = true → t4 = true
  cst : t8 = true → t7 = true ∧ t5 = true
theorem DvB.below {V0 : World} {f' : Fl} {B : Bool} {A D : Value} {nh nc nd : Int} {l1 l2 l3 : Nat} {ts : List Ts} {cs : List Cr} {ds : List Df} {t0 t1 t2 t3 t4 t5 t6 t7 t8 t9 : Bool} {v0 v1 v2 v3 v4 v5 v6 v7 v9 : Value} {W W' : World} (K : DvB V0 f' B A D nh nc nd l1 l2 l3 ts cs ds t0 t1 t2 t3 t4 t5 t6 t7 t8 t9 v0 v1 v2 v3 v4 v5 v6 v7 v9 W) (hb : Below W.heap.size W W') : DvB V0 f' B A D nh nc nd l1 l2 l3 ts cs ds t0 t1 t2 t3 t4 t5 t6 t7 t8 t9 v0 v1 v2 v3 v4 v5 v6 v7 v9 W' :=
  ⟨K.bel.trans (hb.mono K.bel.size), K.ela, K.eld, K.etd, fun h => by obtain ⟨F, x1, x2⟩ := K.edw h; exact ⟨F, x1, x2.below hb⟩, K.emv, K.ex0, K.ex1, fun h => by obtain ⟨S, x1, x2, x3, x4⟩ := K.eal h; exact ⟨S, x1, x2, fun h => tyB_below (x3 h) x4.lt hb, x4.below hb⟩, K.eap, K.eas, K.cdw, K.cmv, K.cx0, K.cst⟩
def DvBJ (V0 : World) (f' : Fl) (B : Bool) (A D : Value) (nh nc nd : Int) (l1 l2 l3 : Nat) (ts : List Ts) (cs : List Cr) (ds : List Df) (G : Value → Value → Value → Value → Value → Value → Value → Value → Value → Act) (_A0 : Act) (l : Nat → Bool) (a : Act) (V : World) : Prop := ∃ (v0 v1 v2 v3 v4 v5 v6 v7 v9 : Value), a = (G v0 v1 v2 v3 v4 v5 v6 v7 v9) ∧ DvB V0 f' B A D nh nc nd l1 l2 l3 ts cs ds (l 0) (l 1) (l 2) (l 3) (l 4) (l 5) (l 6) (l 7) (l 8) (l 9) v0 v1 v2 v3 v4 v5 v6 v7 v9 V
theorem DvBJ.mk {V0 : World} {f' : Fl} {B : Bool} {A D : Value} {nh nc nd : Int} {l1 l2 l3 : Nat} {ts : List Ts} {cs : List Cr} {ds : List Df} {G : Value → Value → Value → Value → Value → Value → Value → Value → Value → Act} {A0 : Act} {l : Nat → Bool} {a : Act} {V : World} {v0 v1 v2 v3 v4 v5 v6 v7 v9 : Value} (K : DvB V0 f' B A D nh nc nd l1 l2 l3 ts cs ds (l 0) (l 1) (l 2) (l 3) (l 4) (l 5) (l 6) (l 7) (l 8) (l 9) v0 v1 v2 v3 v4 v5 v6 v7 v9 V) (hq : a = (G v0 v1 v2 v3 v4 v5 v6 v7 v9)) : DvBJ V0 f' B A D nh nc nd l1 l2 l3 ts cs ds G A0 l a V := ⟨v0, v1, v2, v3, v4, v5, v6, v7, v9, hq, K⟩
structure DvC (V0 : World) (f' : Fl) (B : Bool) (A D : Value) (nh nc nd : Int) (l1 l2 l3 : Nat) (ts : List Ts) (cs : List Cr) (ds : List Df) (t0 t1 t2 t3 t4 t5 t6 t7 t8 t9 t10 : Bool) (v0 v1 v2 v3 v4 v5 v6 v7 v8 v10 : Value) (W : World) : Prop where
  bel : Below V0.heap.size V0 W
  ela : t0 = true → v0 = A
  eto : t1 = true → t4 = false → ∃ e1 e2 e3, v1 = .agg #[.slice (some ⟨e1, 0, none⟩) l1 l1, .slice (some ⟨e2, 0, none⟩) l2 l2, .slice (some ⟨e3, 0, none⟩) l3 l3, .int .i64 nh, .int .i64 nc, .int .i64 nd] ∧ FlIn W (some ⟨e1, 0, none⟩) (some ⟨e2, 0, none⟩) (some ⟨e3, 0, none⟩) l1 l2 l3 ts cs ds
  eld : t2 = true → v2 = D
  etd : t3 = true → v3 = D
  edw : t4 = true → ∃ F, v4 = .tuple #[F, .bool B] ∧ DvF V0.heap.size f' F W
  emv : t5 = true → v5 = v4
  ex0 : t6 = true → v4 = .tuple #[v6, .bool B]
  ex1 : t7 = true → v7 = .bool B
  eal : t8 = true → ∃ S, v8 = .pointer (some ⟨S, 0, none⟩) ∧ V0.heap.size ≤ S ∧ (t9 = false → TyB W S 38) ∧ Blk W S (bif t9 then cells6 v6 else [.slice none 0 0, .slice none 0 0, .slice none 0 0, .int .i64 0, .int .i64 0, .int .i64 0])
  eap : t9 = true → ∀ S, v8 = .pointer (some ⟨S, 0, none⟩) → apF v6 S
  eas : t10 = true → v10 = .bool B
  cdw : t4 = true → t1 = true ∧ t3 = true
  cmv : t5 = true → t4 = true
  cx0 : t6 = true → t5 = true
  cst : t9 = true → t8 = true ∧ t6 = true
theorem DvC.below {V0 : World} {f' : Fl} {B : Bool} {A D : Value} {nh nc nd : Int} {l1 l2 l3 : Nat} {ts : List Ts} {cs : List Cr} {ds : List Df} {t0 t1 t2 t3 t4 t5 t6 t7 t8 t9 t10 : Bool} {v0 v1 v2 v3 v4 v5 v6 v7 v8 v10 : Value} {W W' : World} (K : DvC V0 f' B A D nh nc nd l1 l2 l3 ts cs ds t0 t1 t2 t3 t4 t5 t6 t7 t8 t9 t10 v0 v1 v2 v3 v4 v5 v6 v7 v8 v10 W) (hb : Below W.heap.size W W') : DvC V0 f' B A D nh nc nd l1 l2 l3 ts cs ds t0 t1 t2 t3 t4 t5 t6 t7 t8 t9 t10 v0 v1 v2 v3 v4 v5 v6 v7 v8 v10 W' :=
  ⟨K.bel.trans (hb.mono K.bel.size), K.ela, fun h h2 => by obtain ⟨e1, e2, e3, x1, x2⟩ := K.eto h h2; exact ⟨e1, e2, e3, x1, x2.below hb⟩, K.eld, K.etd, fun h => by obtain ⟨F, x1, x2⟩ := K.edw h; exact ⟨F, x1, x2.below hb⟩, K.emv, K.ex0, K.ex1, fun h => by obtain ⟨S, x1, x2, x3, x4⟩ := K.eal h; exact ⟨S, x1, x2, fun h => tyB_below (x3 h) x4.lt hb, x4.below hb⟩, K.eap, K.eas, K.cdw, K.cmv, K.cx0, K.cst⟩
def DvCJ (V0 : World) (f' : Fl) (B : Bool) (A D : Value) (nh nc nd : Int) (l1 l2 l3 : Nat) (ts : List Ts) (cs : List Cr) (ds : List Df) (G : Value → Value → Value → Value → Value → Value → Value → Value → Value → Value → Act) (_A0 : Act) (l : Nat → Bool) (a : Act) (V : World) : Prop := ∃ (v0 v1 v2 v3 v4 v5 v6 v7 v8 v10 : Value), a = (G v0 v1 v2 v3 v4 v5 v6 v7 v8 v10) ∧ DvC V0 f' B A D nh nc nd l1 l2 l3 ts cs ds (l 0) (l 1) (l 2) (l 3) (l 4) (l 5) (l 6) (l 7) (l 8) (l 9) (l 10) v0 v1 v2 v3 v4 v5 v6 v7 v8 v10 V
theorem DvCJ.mk {V0 : World} {f' : Fl} {B : Bool} {A D : Value} {nh nc nd : Int} {l1 l2 l3 : Nat} {ts : List Ts} {cs : List Cr} {ds : List Df} {G : Value → Value → Value → Value → Value → Value → Value → Value → Value → Value → Act} {A0 : Act} {l : Nat → Bool} {a : Act} {V : World} {v0 v1 v2 v3 v4 v5 v6 v7 v8 v10 : Value} (K : DvC V0 f' B A D nh nc nd l1 l2 l3 ts cs ds (l 0) (l 1) (l 2) (l 3) (l 4) (l 5) (l 6) (l 7) (l 8) (l 9) (l 10) v0 v1 v2 v3 v4 v5 v6 v7 v8 v10 V) (hq : a = (G v0 v1 v2 v3 v4 v5 v6 v7 v8 v10)) : DvCJ V0 f' B A D nh nc nd l1 l2 l3 ts cs ds G A0 l a V := ⟨v0, v1, v2, v3, v4, v5, v6, v7, v8, v10, hq, K⟩
structure DvE (w : World) (V0 : World) (nh nc nd : Int) (a1 a2 a3 : Option Addr) (l1 c1 l2 c2 l3 c3 : Nat) (ts : List Ts) (cs : List Cr) (ds : List Df) (X x1 x2 x3 : Nat) (A A1 : Value) (t0 t1 t2 t3 t4 : Bool) (v0 v1 v2 v3 v4 : Value) (W : World) : Prop where
  bel : Below V0.heap.size V0 W
  sz : V0.heap.size ≤ W.heap.size
  kx : Blk W (X) [.slice (some ⟨x1, 0, none⟩) l1 l1, .slice (some ⟨x2, 0, none⟩) l2 l2, .slice (some ⟨x3, 0, none⟩) l3 l3, .int .i64 nh, .int .i64 nc, .int .i64 nd]
  kp : Blk W (w.heap.size) [.slice a1 l1 c1, .slice a2 l2 c2, .slice a3 l3 c3, .int .i64 nh, .int .i64 nc, .int .i64 nd]
  pown : FlIn W (some ⟨x1, 0, none⟩) (some ⟨x2, 0, none⟩) (some ⟨x3, 0, none⟩) l1 l2 l3 ts cs ds
  parg : FlIn W a1 a2 a3 l1 l2 l3 ts cs ds
  e0 : t0 = true → v0 = A1
  e1 : t1 = true → v1 = A
  e2 : t2 = true → ∃ e1 e2 e3, v2 = .agg #[.slice (some ⟨e1, 0, none⟩) l1 l1, .slice (some ⟨e2, 0, none⟩) l2 l2, .slice (some ⟨e3, 0, none⟩) l3 l3, .int .i64 nh, .int .i64 nc, .int .i64 nd] ∧ FlIn W (some ⟨e1, 0, none⟩) (some ⟨e2, 0, none⟩) (some ⟨e3, 0, none⟩) l1 l2 l3 ts cs ds
  e3 : t3 = true → v3 = .bool true
  e4 : t4 = true → v4 = .bool false
theorem DvE.below {w : World} {V0 : World} {nh nc nd : Int} {a1 a2 a3 : Option Addr} {l1 c1 l2 c2 l3 c3 : Nat} {ts : List Ts} {cs : List Cr} {ds : List Df} {X x1 x2 x3 : Nat} {A A1 : Value} {t0 t1 t2 t3 t4 : Bool} {v0 v1 v2 v3 v4 : Value} {W W' : World} (K : DvE w V0 nh nc nd a1 a2 a3 l1 c1 l2 c2 l3 c3 ts cs ds X x1 x2 x3 A A1 t0 t1 t2 t3 t4 v0 v1 v2 v3 v4 W) (hbw : Below W.heap.size W W') : DvE w V0 nh nc nd a1 a2 a3 l1 c1 l2 c2 l3 c3 ts cs ds X x1 x2 x3 A A1 t0 t1 t2 t3 t4 v0 v1 v2 v3 v4 W' :=
  ⟨K.bel.trans (hbw.mono K.bel.size), Nat.le_trans K.sz hbw.size, K.kx.below hbw, K.kp.below hbw, K.pown.below hbw, K.parg.below hbw, K.e0, K.e1, fun h => by obtain ⟨e1, e2, e3, x1, x2⟩ := K.e2 h; exact ⟨e1, e2, e3, x1, x2.below hbw⟩, K.e3, K.e4⟩
def DvEJ (w : World) (V0 : World) (nh nc nd : Int) (a1 a2 a3 : Option Addr) (l1 c1 l2 c2 l3 c3 : Nat) (ts : List Ts) (cs : List Cr) (ds : List Df) (X x1 x2 x3 : Nat) (A A1 : Value) (A0 : Act) (l : Nat → Bool) (a : Act) (V : World) : Prop := ∃ (v0 v1 v2 v3 v4 : Value), a = (((((A0.put (some 52) v0).put (some 53) v1).put (some 54) v2).put (some 55) v3).put (some 56) v4) ∧ DvE w V0 nh nc nd a1 a2 a3 l1 c1 l2 c2 l3 c3 ts cs ds X x1 x2 x3 A A1 (l 0) (l 1) (l 2) (l 3) (l 4) v0 v1 v2 v3 v4 V
theorem DvEJ.mk {w : World} {V0 : World} {nh nc nd : Int} {a1 a2 a3 : Option Addr} {l1 c1 l2 c2 l3 c3 : Nat} {ts : List Ts} {cs : List Cr} {ds : List Df} {X x1 x2 x3 : Nat} {A A1 : Value} {A0 : Act} {l : Nat → Bool} {a : Act} {V : World} {v0 v1 v2 v3 v4 : Value} (K : DvE w V0 nh nc nd a1 a2 a3 l1 c1 l2 c2 l3 c3 ts cs ds X x1 x2 x3 A A1 (l 0) (l 1) (l 2) (l 3) (l 4) v0 v1 v2 v3 v4 V) (hq : a = (((((A0.put (some 52) v0).put (some 53) v1).put (some 54) v2).put (some 55) v3).put (some 56) v4)) : DvEJ w V0 nh nc nd a1 a2 a3 l1 c1 l2 c2 l3 c3 ts cs ds X x1 x2 x3 A A1 A0 l a V := ⟨v0, v1, v2, v3, v4, hq, K⟩
set_option maxRecDepth 20000 in
set_option maxHeartbeats 8000000 in
theorem lawDoWork (nh nc nd : Int) (a1 a2 a3 : Option Addr) (l1 c1 l2 c2 l3 c3 : Nat) (ts : List Ts) (cs : List Cr) (ds : List Df) (kd : Int) (n : ByteArray) (i m : Int) (w : World) (hr : FlIn w a1 a2 a3 l1 l2 l3 ts cs ds) (f1 : ∀ i, fitT (elAt ts i).nm) (f2 : ∀ i, fitT (elAt cs i).n) (f3 : ∀ i, fitT (elAt ds i).n) (hn : fitT n) :
    Calls Tryz.prog 3 #[.agg #[.slice a1 l1 c1, .slice a2 l2 c2, .slice a3 l3 c3, .int .i64 nh, .int .i64 nc, .int .i64 nd], .agg #[.int .i64 kd, .string n, .int .i64 i, .int .i64 m]] w fun x w' => x = .returned (.bool true) ∧ Below w.heap.size w w' := by
  obtain ⟨W, hW⟩ : ∃ W, W = (w.alloc (Obj.cells #[.slice a1 l1 c1, .slice a2 l2 c2, .slice a3 l3 c3, .int .i64 nh, .int .i64 nc, .int .i64 nd] 28)).alloc (Obj.cells #[.int .i64 kd, .string n, .int .i64 i, .int .i64 m] 30) := ⟨_, rfl⟩
  have KF : Hid (Blk W w.heap.size [.slice a1 l1 c1, .slice a2 l2 c2, .slice a3 l3 c3, .int .i64 nh, .int .i64 nc, .int .i64 nd]) := hide (by rw [hW]; exact (Blk.new (w := w) [.slice a1 l1 c1, .slice a2 l2 c2, .slice a3 l3 c3, .int .i64 nh, .int .i64 nc, .int .i64 nd] 28).alloc _)
  have KD : Hid (Blk W (w.heap.size + 1) [.int .i64 kd, .string n, .int .i64 i, .int .i64 m]) := hide (by
    rw [hW]
    have := Blk.new (w := w.alloc (Obj.cells #[.slice a1 l1 c1, .slice a2 l2 c2, .slice a3 l3 c3, .int .i64 nh, .int .i64 nc, .int .i64 nd] 28)) [.int .i64 kd, .string n, .int .i64 i, .int .i64 m] 30
    simpa using this)
  have HB : Hid (Below w.heap.size w W) := hide (by rw [hW]; exact bel2 _ _)
  obtain ⟨A, hA⟩ : ∃ A : Value, A = .agg #[.slice a1 l1 c1, .slice a2 l2 c2, .slice a3 l3 c3, .int .i64 nh, .int .i64 nc, .int .i64 nd] := ⟨_, rfl⟩
  obtain ⟨D, hD⟩ : ∃ A : Value, A = .agg #[.int .i64 kd, .string n, .int .i64 i, .int .i64 m] := ⟨_, rfl⟩
  have HA := hide hA
  have HD := hide hD
  have HW := hide hW
  have HR := hide hr
  have FT : Hid (FitF ⟨ts, cs, ds, nh, nc, nd⟩) := hide ⟨f1, f2, f3⟩
  have HN := hide hn
  obtain ⟨f', hf'⟩ : ∃ x, dwF ⟨ts, cs, ds, nh, nc, nd⟩ ⟨kd, n, i, m⟩ = x := ⟨_, rfl⟩
  obtain ⟨B, hB⟩ : ∃ x, dwB ⟨ts, cs, ds, nh, nc, nd⟩ ⟨kd, n, i, m⟩ = x := ⟨_, rfl⟩
  have HF := hide hf'
  have HBB := hide hB
  have hq : (B != B) = false := by simp
  have CDD : Hid (∀ V, Calls Tryz.prog 9 #[D] V fun e w' => e = .returned D ∧ Below V.heap.size V w') := hide (fun V => by rw [hD]; exact toDeed19_any kd n i m V)
  have el1 := hr.r1.len_eq
  have el2 := hr.r2.len_eq
  have el3 := hr.r3.len_eq
  have EL := hide (And.intro el1 (And.intro el2 el3))
  clear hW hr f1 f2 f3 hA hD hn hf' hB el1 el2 el3
  go_enter Tryz.func3, Tryz.ntmps3
  go_upto_region 2 with fail
  rw [← unhide HW, ← unhide HA, ← unhide HD]
  clear HW
  go_wp2_with ((with_reducible show wpList _ _ _ (⟨_, .load 28 _, _, _, _, none⟩ :: _) _ _); refine at_loadV (vs := [.slice a1 l1 c1, .slice a2 l2 c2, .slice a3 l3 c3, .int .i64 nh, .int .i64 nc, .int .i64 nd]) (V := A) (unhide HA) Tryz.isAgg28 Tryz.sizeOf28 rfl (unhide KF) ?_)
  rw [unhide HA]
  refine (szFleet_any nh nc nd a1 a2 a3 l1 c1 l2 c2 l3 c3 ts cs ds 1048576 _ ((unhide HR).below (unhide HB)) (unhide FT).t (unhide FT).c (unhide FT).d (by omega) (by omega)).mono ?_
  rw [← unhide HA]
  rintro x w2 ⟨⟨r1, rfl, hl⟩, bw⟩
  have HB := hide ((unhide HB).trans (bw.mono (unhide HB).size))
  have KF := hide ((unhide KF).below bw)
  have KD := hide ((unhide KD).below bw)
  clear bw
  rcases hl with hl | ⟨hl, hle, i1, i2, i3⟩
  · go_wp2_with fail
    go_ret
    exact ⟨rfl, unhide HB⟩
  have nr1 : ¬ r1 < 0 := by omega
  go_wp2_with ((with_reducible show wpList _ _ _ (⟨_, .load 30 _, _, _, _, none⟩ :: _) _ _); refine at_loadV (vs := [.int .i64 kd, .string n, .int .i64 i, .int .i64 m]) (V := D) (unhide HD) Tryz.isAgg30 Tryz.sizeOf30 rfl (unhide KD) ?_)
  rw [unhide HD]
  refine (szDeed19_any kd n i m r1 _ (unhide HN) (by omega) (by omega)).mono ?_
  rw [← unhide HD]
  rintro x w3 ⟨⟨r2, rfl, hl⟩, bw⟩
  have HB := hide ((unhide HB).trans (bw.mono (unhide HB).size))
  have KF := hide ((unhide KF).below bw)
  have KD := hide ((unhide KD).below bw)
  clear bw
  rcases hl with hl | ⟨hl2, hle2, _⟩
  · go_wp2_with fail
    go_ret
    exact ⟨rfl, unhide HB⟩
  have nr2 : ¬ r2 < 0 := by omega
  have LEN : Hid (f'.ts.length ≤ 1048576 ∧ f'.cs.length ≤ 1048576 ∧ f'.ds.length ≤ 1048576) := hide (by
    have q := unhide EL
    have := dv_len (f := ⟨ts, cs, ds, nh, nc, nd⟩) (d := ⟨kd, n, i, m⟩) (by show ts.length ≤ 1048576; omega) (by show cs.length ≤ 1048576; omega) (by show ds.length ≤ 1048576; omega)
    rw [unhide HF] at this
    exact this)
  have CWS : Hid (∀ V e1 e2 e3, Below w.heap.size w V → FlIn V (some ⟨e1, 0, none⟩) (some ⟨e2, 0, none⟩) (some ⟨e3, 0, none⟩) l1 l2 l3 ts cs ds → Calls Tryz.prog 7 #[.agg #[.slice (some ⟨e1, 0, none⟩) l1 l1, .slice (some ⟨e2, 0, none⟩) l2 l2, .slice (some ⟨e3, 0, none⟩) l3 l3, .int .i64 nh, .int .i64 nc, .int .i64 nd], D] V fun e w' => ∃ F, e = .returned (.tuple #[F, .bool B]) ∧ DvF V.heap.size f' F w' ∧ Below V.heap.size V w') := hide (fun V e1 e2 e3 _ hfl => by
    rw [unhide HD]
    have k := specDoWork_e nh nc nd _ _ _ l1 l1 l2 l2 l3 l3 ts cs ds kd i m n V hfl (by omega) (by omega) (by omega) (unhide FT) (unhide HN)
    rw [unhide HF, unhide HBB] at k
    exact k.mono fun e w' ⟨g1, p1, g2, p2, g3, p3, he, ow, b⟩ => ⟨_, he, ⟨g1, p1, g2, p2, g3, p3, rfl, ow⟩, b⟩)
  have CWI : Hid (∀ V e1 e2 e3, Below w.heap.size w V → FlIn V (some ⟨e1, 0, none⟩) (some ⟨e2, 0, none⟩) (some ⟨e3, 0, none⟩) l1 l2 l3 ts cs ds → Calls Tryz.prog 10 #[.agg #[.slice (some ⟨e1, 0, none⟩) l1 l1, .slice (some ⟨e2, 0, none⟩) l2 l2, .slice (some ⟨e3, 0, none⟩) l3 l3, .int .i64 nh, .int .i64 nc, .int .i64 nd], D] V fun e w' => ∃ F, e = .returned (.tuple #[F, .bool B]) ∧ DvF V.heap.size f' F w' ∧ Below V.heap.size V w') := hide (fun V e1 e2 e3 _ hfl => by
    rw [unhide HD]
    have k := implDoWork_any nh nc nd _ _ _ l1 l1 l2 l2 l3 l3 ts cs ds kd i m n V hfl (by omega) (by omega) (by omega) (unhide FT) (unhide HN)
    rw [unhide HF, unhide HBB] at k
    exact k.mono fun e w' ⟨g1, p1, g2, p2, g3, p3, he, ow, b⟩ => ⟨_, he, ⟨g1, p1, g2, p2, g3, p3, rfl, ow⟩, b⟩)
  have CTA : Hid (∀ V, Below w.heap.size w V → Calls Tryz.prog 8 #[A] V fun e w' => (∃ e1 e2 e3, e = .returned (.agg #[.slice (some ⟨e1, 0, none⟩) l1 l1, .slice (some ⟨e2, 0, none⟩) l2 l2, .slice (some ⟨e3, 0, none⟩) l3 l3, .int .i64 nh, .int .i64 nc, .int .i64 nd]) ∧ FlIn w' (some ⟨e1, 0, none⟩) (some ⟨e2, 0, none⟩) (some ⟨e3, 0, none⟩) l1 l2 l3 ts cs ds) ∧ Below V.heap.size V w') := hide (fun V b => by
    rw [unhide HA]
    exact (toFleet_own nh nc nd a1 a2 a3 l1 c1 l2 c2 l3 c3 ts cs ds V ((unhide HR).below b) i1 i2 i3).mono fun e w' ⟨⟨g1, g2, g3, he, ow⟩, b⟩ => ⟨⟨g1, g2, g3, he, ow.read⟩, b⟩)
  clear HN hl hle hl2 hle2
  go_upto_region 8 with fail
  have CT : Hid (∀ V, Below w3.heap.size w3 V → Calls Tryz.prog 8 #[A] V fun e w' => (∃ e1 e2 e3, e = .returned (.agg #[.slice (some ⟨e1, 0, none⟩) l1 l1, .slice (some ⟨e2, 0, none⟩) l2 l2, .slice (some ⟨e3, 0, none⟩) l3 l3, .int .i64 nh, .int .i64 nc, .int .i64 nd]) ∧ FlIn w' (some ⟨e1, 0, none⟩) (some ⟨e2, 0, none⟩) (some ⟨e3, 0, none⟩) l1 l2 l3 ts cs ds) ∧ Below V.heap.size V w') := hide (fun V b => (unhide CTA) V ((unhide HB).trans (b.mono (unhide HB).size)))
  have CW := hide (fun V e1 e2 e3 (b : Below w3.heap.size w3 V) => (unhide CWS) V e1 e2 e3 ((unhide HB).trans (b.mono (unhide HB).size)))
  refine wp_region_flagsA (by kernel_rfl) (by kernel_rfl) (DvAJ w3 f' B A D nh nc nd l1 l2 l3 ts cs ds (fun v0 v1 v2 v3 v4 v5 v6 v7 v8 v10 => ({ tmps := #[A, D, .pointer (some ⟨w.heap.size, 0, none⟩), .pointer (some ⟨w.heap.size + 1, 0, none⟩), .bool false, .int .i64 r2, v8, v10, undef, undef, undef, undef, undef, undef, undef, undef, A, .int .i64 1048576, .int .i64 r1, .int .i64 r1, .bool (decide (r1 < 0)), D, .int .i64 r1, .int .i64 r2, .int .i64 r2, .bool (decide (r2 < 0)), v5, v0, v1, v2, v3, v4, v6, v7, undef, undef, undef, undef, undef, undef, undef, undef, undef, undef, undef, undef, undef, undef, undef, undef, undef, undef, undef, undef, undef, undef, undef, undef, undef, undef, undef, undef, undef, undef, undef, undef, undef, undef, undef, undef, undef, undef, undef, undef, undef, undef, undef, undef, undef, undef, undef, undef, undef, undef, undef, undef, undef, undef, undef, undef, undef, undef, undef, undef, undef, undef, undef, undef, undef, undef, undef, undef, undef, undef, undef, undef, undef, undef, undef], defers := [] } : Act))) ?_ ?_ ?_
  · exact DvAJ.mk (v0 := undef) (v1 := undef) (v2 := undef) (v3 := undef) (v4 := undef) (v5 := undef) (v6 := undef) (v7 := undef) (v8 := undef) (v10 := undef) ⟨bel0d 1, (fun h => by cases h), (fun h => by cases h), (fun h => by cases h), (fun h => by cases h), (fun h => by cases h), (fun h => by cases h), (fun h => by cases h), (fun h => by cases h), (fun h => by cases h), (fun h => by cases h), (fun h => by cases h), (fun h => by cases h), (fun h => by cases h), (fun h => by cases h), (fun h => by cases h)⟩ (by kernel_rfl)
  rotate_left 1
  · rintro l a V x o ho hl hd ⟨v0, v1, v2, v3, v4, v5, v6, v7, v8, v10, rfl, K⟩
    have hi : x < 11 := (Array.getElem?_eq_some_iff.1 ho).1
    rcases (show x = 0 ∨ x = 1 ∨ x = 2 ∨ x = 3 ∨ x = 4 ∨ x = 5 ∨ x = 6 ∨ x = 7 ∨ x = 8 ∨ x = 9 ∨ x = 10 from by omega) with rfl | rfl | rfl | rfl | rfl | rfl | rfl | rfl | rfl | rfl | rfl
    · as_aux_lemma =>
      simp at ho
      subst ho
      have HKB := hide ((unhide KF).below K.bel)
      have HK : Hid (DvA w3 f' B A D nh nc nd l1 l2 l3 ts cs ds true (l 1) (l 2) (l 3) (l 4) (l 5) (l 6) (l 7) (l 8) (l 9) (l 10) A v1 v2 v3 v4 v5 v6 v7 v8 v10 V) := hide ⟨(K.bel), (fun _ => rfl), (K.eto), (K.eld), (K.etd), (K.edw), (K.emv), (K.ex0), (K.ex1), (K.eal), (K.eap), (K.eas), (K.cdw), (K.cmv), (K.cx0), (K.cst)⟩
      clear K hd hl
      refine at_loadV (vs := [.slice a1 l1 c1, .slice a2 l2 c2, .slice a3 l3 c3, .int .i64 nh, .int .i64 nc, .int .i64 nd]) (V := A) (unhide HA) Tryz.isAgg28 Tryz.sizeOf28 (by kernel_rfl) (unhide HKB) ?_
      refine wpList_nil ⟨rfl, DvAJ.mk (unhide HK) (by kernel_rfl)⟩
    · as_aux_lemma =>
      simp at ho
      subst ho
      have d_la : l 0 = true := hd ⟨0, .data⟩ (by simp) rfl
      have x0 := (K.ela d_la).symm
      subst x0
      have n_dw : l 4 = false := by cases c : l 4; rfl; have z := (K.cdw c).1; rw [hl] at z; cases z
      have HK0 := hide K
      clear K hd
      refine at_callO rfl (some 28) rfl 8 #[A] (by kernel_rfl) ?_
      refine ((unhide CT) V (unhide HK0).bel).mono ?_
      rintro e V2 ⟨⟨e1, e2, e3, rfl, hp⟩, b2⟩
      refine ⟨_, rfl, ?_⟩
      have K := (unhide HK0).below b2
      have HK : Hid (DvA w3 f' B A D nh nc nd l1 l2 l3 ts cs ds (l 0) true (l 2) (l 3) (l 4) (l 5) (l 6) (l 7) (l 8) (l 9) (l 10) A (.agg #[.slice (some ⟨e1, 0, none⟩) l1 l1, .slice (some ⟨e2, 0, none⟩) l2 l2, .slice (some ⟨e3, 0, none⟩) l3 l3, .int .i64 nh, .int .i64 nc, .int .i64 nd]) v2 v3 v4 v5 v6 v7 v8 v10 V2) := hide ⟨(K.bel), (K.ela), (fun _ _ => ⟨e1, e2, e3, rfl, hp⟩), (K.eld), (K.etd), (K.edw), (K.emv), (K.ex0), (K.ex1), (K.eal), (K.eap), (K.eas), (fun h => by rw [n_dw] at h; cases h), (K.cmv), (K.cx0), (K.cst)⟩
      clear K b2 hp
      refine wpList_nil ⟨rfl, DvAJ.mk (unhide HK) (by kernel_rfl)⟩
    · as_aux_lemma =>
      simp at ho
      subst ho
      have HKB := hide ((unhide KD).below K.bel)
      have HK : Hid (DvA w3 f' B A D nh nc nd l1 l2 l3 ts cs ds (l 0) (l 1) true (l 3) (l 4) (l 5) (l 6) (l 7) (l 8) (l 9) (l 10) v0 v1 D v3 v4 v5 v6 v7 v8 v10 V) := hide ⟨(K.bel), (K.ela), (K.eto), (fun _ => rfl), (K.etd), (K.edw), (K.emv), (K.ex0), (K.ex1), (K.eal), (K.eap), (K.eas), (K.cdw), (K.cmv), (K.cx0), (K.cst)⟩
      clear K hd hl
      refine at_loadV (vs := [.int .i64 kd, .string n, .int .i64 i, .int .i64 m]) (V := D) (unhide HD) Tryz.isAgg30 Tryz.sizeOf30 (by kernel_rfl) (unhide HKB) ?_
      refine wpList_nil ⟨rfl, DvAJ.mk (unhide HK) (by kernel_rfl)⟩
    · as_aux_lemma =>
      simp at ho
      subst ho
      have d_ld : l 2 = true := hd ⟨2, .data⟩ (by simp) rfl
      have x0 := (K.eld d_ld).symm
      subst x0
      have n_dw : l 4 = false := by cases c : l 4; rfl; have z := (K.cdw c).2; rw [hl] at z; cases z
      have HK0 := hide K
      clear K hd
      refine at_callO rfl (some 30) rfl 9 #[D] (by kernel_rfl) ?_
      refine ((unhide CDD) V).mono ?_
      rintro e V2 ⟨rfl, b2⟩
      refine ⟨_, rfl, ?_⟩
      have K := (unhide HK0).below b2
      have HK : Hid (DvA w3 f' B A D nh nc nd l1 l2 l3 ts cs ds (l 0) (l 1) (l 2) true (l 4) (l 5) (l 6) (l 7) (l 8) (l 9) (l 10) v0 v1 D D v4 v5 v6 v7 v8 v10 V2) := hide ⟨(K.bel), (K.ela), (K.eto), (K.eld), (fun _ => rfl), (K.edw), (K.emv), (K.ex0), (K.ex1), (K.eal), (K.eap), (K.eas), (fun h => by rw [n_dw] at h; cases h), (K.cmv), (K.cx0), (K.cst)⟩
      clear K b2
      refine wpList_nil ⟨rfl, DvAJ.mk (unhide HK) (by kernel_rfl)⟩
    · as_aux_lemma =>
      simp at ho
      subst ho
      have d_td : l 3 = true := hd ⟨3, .data⟩ (by simp) rfl
      have d_to : l 1 = true := hd ⟨1, .data⟩ (by simp) rfl
      obtain ⟨e1, e2, e3, x1, y1⟩ := K.eto d_to hl
      subst x1
      have x3 := (K.etd d_td).symm
      subst x3
      have n_mv : l 5 = false := by cases c : l 5; rfl; have z := K.cmv c; rw [hl] at z; cases z
      have n_x0 : l 6 = false := by cases c : l 6; rfl; have z := K.cx0 c; rw [n_mv] at z; cases z
      have HK0 := hide K
      clear K hd
      refine at_callO rfl (some 31) rfl 7 #[.agg #[.slice (some ⟨e1, 0, none⟩) l1 l1, .slice (some ⟨e2, 0, none⟩) l2 l2, .slice (some ⟨e3, 0, none⟩) l3 l3, .int .i64 nh, .int .i64 nc, .int .i64 nd], D] (by kernel_rfl) ?_
      refine ((unhide CW) V e1 e2 e3 (unhide HK0).bel y1).mono ?_
      rintro e V2 ⟨F, rfl, hF, b2⟩
      refine ⟨_, rfl, ?_⟩
      have K := (unhide HK0).below b2
      have HK : Hid (DvA w3 f' B A D nh nc nd l1 l2 l3 ts cs ds (l 0) (l 1) (l 2) (l 3) true (l 5) (l 6) (l 7) (l 8) (l 9) (l 10) v0 (.agg #[.slice (some ⟨e1, 0, none⟩) l1 l1, .slice (some ⟨e2, 0, none⟩) l2 l2, .slice (some ⟨e3, 0, none⟩) l3 l3, .int .i64 nh, .int .i64 nc, .int .i64 nd]) v2 D (.tuple #[F, .bool B]) v5 v6 v7 v8 v10 V2) := hide ⟨(K.bel), (K.ela), (fun _ h => by cases h), (K.eld), (K.etd), (fun _ => ⟨F, rfl, hF.mono (unhide HK0).bel.size⟩), (fun h => by rw [n_mv] at h; cases h), (fun h => by rw [n_x0] at h; cases h), (K.ex1), (K.eal), (K.eap), (K.eas), (fun _ => ⟨d_to, d_td⟩), (fun _ => rfl), (K.cx0), (K.cst)⟩
      clear K b2 hF
      refine wpList_nil ⟨rfl, DvAJ.mk (unhide HK) (by kernel_rfl)⟩
    · as_aux_lemma =>
      simp at ho
      subst ho
      have d_dw : l 4 = true := hd ⟨4, .data⟩ (by simp) rfl
      have n_x0 : l 6 = false := by cases c : l 6; rfl; have z := K.cx0 c; rw [hl] at z; cases z
      have HK : Hid (DvA w3 f' B A D nh nc nd l1 l2 l3 ts cs ds (l 0) (l 1) (l 2) (l 3) (l 4) true (l 6) (l 7) (l 8) (l 9) (l 10) v0 v1 v2 v3 v4 v4 v6 v7 v8 v10 V) := hide ⟨(K.bel), (K.ela), (K.eto), (K.eld), (K.etd), (K.edw), (fun _ => rfl), (K.ex0), (K.ex1), (K.eal), (K.eap), (K.eas), (K.cdw), (fun _ => d_dw), (fun _ => rfl), (K.cst)⟩
      clear K hd hl
      refine at_moveO v4 (by kernel_rfl) ?_
      refine wpList_nil ⟨rfl, DvAJ.mk (unhide HK) (by kernel_rfl)⟩
    · as_aux_lemma =>
      simp at ho
      subst ho
      have d_mv : l 5 = true := hd ⟨5, .data⟩ (by simp) rfl
      have d_dw := K.cmv d_mv
      obtain ⟨F, xF, hF⟩ := K.edw d_dw
      have xm := (K.emv d_mv).trans xF
      subst xF
      subst xm
      have n_st : l 9 = false := by cases c : l 9; rfl; have z := (K.cst c).2; rw [hl] at z; cases z
      have HK : Hid (DvA w3 f' B A D nh nc nd l1 l2 l3 ts cs ds (l 0) (l 1) (l 2) (l 3) (l 4) (l 5) true (l 7) (l 8) (l 9) (l 10) v0 v1 v2 v3 (.tuple #[F, .bool B]) (.tuple #[F, .bool B]) F v7 v8 v10 V) := hide ⟨(K.bel), (K.ela), (K.eto), (K.eld), (K.etd), (fun _ => ⟨F, rfl, hF⟩), (fun _ => rfl), (fun _ => rfl), (K.ex1), (fun h => by have z := K.eal h; rw [n_st] at z ⊢; exact z), (fun h => by rw [n_st] at h; cases h), (K.eas), (K.cdw), (K.cmv), (fun _ => d_mv), (fun h => by rw [n_st] at h; cases h)⟩
      clear K hd hl
      refine at_extractO #[F, .bool B] F (by kernel_rfl) rfl ?_
      refine wpList_nil ⟨rfl, DvAJ.mk (unhide HK) (by kernel_rfl)⟩
    · as_aux_lemma =>
      simp at ho
      subst ho
      have d_mv : l 5 = true := hd ⟨5, .data⟩ (by simp) rfl
      have d_dw := K.cmv d_mv
      obtain ⟨F, xF, hF⟩ := K.edw d_dw
      have xm := (K.emv d_mv).trans xF
      subst xF
      subst xm
      have HK : Hid (DvA w3 f' B A D nh nc nd l1 l2 l3 ts cs ds (l 0) (l 1) (l 2) (l 3) (l 4) (l 5) (l 6) true (l 8) (l 9) (l 10) v0 v1 v2 v3 (.tuple #[F, .bool B]) (.tuple #[F, .bool B]) v6 (.bool B) v8 v10 V) := hide ⟨(K.bel), (K.ela), (K.eto), (K.eld), (K.etd), (fun _ => ⟨F, rfl, hF⟩), (fun _ => rfl), (K.ex0), (fun _ => rfl), (K.eal), (K.eap), (K.eas), (K.cdw), (K.cmv), (K.cx0), (K.cst)⟩
      clear K hd hl
      refine at_extractO #[F, .bool B] (.bool B) (by kernel_rfl) rfl ?_
      refine wpList_nil ⟨rfl, DvAJ.mk (unhide HK) (by kernel_rfl)⟩
    · as_aux_lemma =>
      simp at ho
      subst ho
      have n_st : l 9 = false := by cases c : l 9; rfl; have z := (K.cst c).1; rw [hl] at z; cases z
      have K2 := K.below (bel1 (Obj.cells #[.slice none 0 0, .slice none 0 0, .slice none 0 0, .int .i64 0, .int .i64 0, .int .i64 0] 38))
      have HK : Hid (DvA w3 f' B A D nh nc nd l1 l2 l3 ts cs ds (l 0) (l 1) (l 2) (l 3) (l 4) (l 5) (l 6) (l 7) true (l 9) (l 10) v0 v1 v2 v3 v4 v5 v6 v7 (.pointer (some ⟨V.heap.size, 0, none⟩)) v10 (V.alloc (Obj.cells #[.slice none 0 0, .slice none 0 0, .slice none 0 0, .int .i64 0, .int .i64 0, .int .i64 0] 38))) := hide ⟨(K2.bel), (K2.ela), (K2.eto), (K2.eld), (K2.etd), (K2.edw), (K2.emv), (K2.ex0), (K2.ex1), (fun _ => ⟨_, rfl, K.bel.size, fun _ => ⟨_, _, heap_alloc_new V _⟩, by rw [n_st]; exact Blk.new _ _⟩), (fun h => by rw [n_st] at h; cases h), (K2.eas), (K2.cdw), (K2.cmv), (K2.cx0), (fun h => by rw [n_st] at h; cases h)⟩
      clear K K2 hd hl
      refine at_allocFO ?_
      refine wpList_nil ⟨rfl, DvAJ.mk (unhide HK) (by kernel_rfl)⟩
    · as_aux_lemma =>
      simp at ho
      subst ho
      have d_al : l 8 = true := hd ⟨8, .data⟩ (by simp) rfl
      have d_x0 : l 6 = true := hd ⟨6, .data⟩ (by simp) rfl
      obtain ⟨S, xs, hS, ty, bs⟩ := K.eal d_al
      rw [hl] at bs
      have ty := ty hl
      have bs : Blk V S [.slice none 0 0, .slice none 0 0, .slice none 0 0, .int .i64 0, .int .i64 0, .int .i64 0] := bs
      have d_mv := K.cx0 d_x0
      have d_dw := K.cmv d_mv
      have xx := K.ex0 d_x0
      obtain ⟨F, xF, hF⟩ := K.edw d_dw
      have eF : F = v6 := by have e := xF.symm.trans xx; simp only [Value.tuple.injEq, Array.mk.injEq, List.cons.injEq, and_true] at e; exact e
      subst eF
      obtain ⟨g1, p1, g2, p2, g3, p3, eF, ow⟩ := hF
      have t1 := own_neT ow.o1 ty (by decide)
      have t2 := own_neT ow.o2 ty (by decide)
      have t3 := own_neT ow.o3 ty (by decide)
      subst xs
      subst eF
      have HK0 := hide K
      have OW := hide ow
      have BS := hide bs
      clear K bs ow ty
      refine at_storeAgg (us := [.slice none 0 0, .slice none 0 0, .slice none 0 0, .int .i64 0, .int .i64 0, .int .i64 0]) (vs := [.slice (some ⟨g1, 0, none⟩) f'.ts.length p1, .slice (some ⟨g2, 0, none⟩) f'.cs.length p2, .slice (some ⟨g3, 0, none⟩) f'.ds.length p3, .int .i64 f'.nh, .int .i64 f'.nc, .int .i64 f'.nd]) Tryz.sizeOf38 (by kernel_rfl) (by kernel_rfl) (unhide BS) rfl (by intro v hv; simp only [List.mem_cons, List.not_mem_nil, or_false] at hv; rcases hv with rfl | rfl | rfl | rfl | rfl | rfl <;> rfl) ?_
      intro V2 kb gr
      have HK : Hid (DvA w3 f' B A D nh nc nd l1 l2 l3 ts cs ds (l 0) (l 1) (l 2) (l 3) (l 4) (l 5) (l 6) (l 7) (l 8) true (l 10) v0 v1 v2 v3 v4 v5 (.agg #[.slice (some ⟨g1, 0, none⟩) f'.ts.length p1, .slice (some ⟨g2, 0, none⟩) f'.cs.length p2, .slice (some ⟨g3, 0, none⟩) f'.ds.length p3, .int .i64 f'.nh, .int .i64 f'.nc, .int .i64 f'.nd]) v7 (.pointer (some ⟨S, 0, none⟩)) v10 V2) := hide ⟨((unhide HK0).bel.grown gr (unhide HK0).bel.size (fun k hk => by cases hk; exact hS)), ((unhide HK0).ela), (fun _ h => by rw [d_dw] at h; cases h), ((unhide HK0).eld), ((unhide HK0).etd), (fun _ => ⟨_, xF, ⟨g1, p1, g2, p2, g3, p3, rfl, ⟨(unhide OW).o1.far gr (fun g hg e => t1 (hg.trans e)), (unhide OW).o2.far gr (fun g hg e => t2 (hg.trans e)), (unhide OW).o3.far gr (fun g hg e => t3 (hg.trans e)), (unhide OW).p12, (unhide OW).p13, (unhide OW).p23⟩⟩⟩), ((unhide HK0).emv), ((unhide HK0).ex0), ((unhide HK0).ex1), (fun _ => ⟨S, rfl, hS, (fun h => by cases h), kb⟩), (fun _ S' e => by cases e; intro v hv; have hv : v ∈ [.slice (some ⟨g1, 0, none⟩) f'.ts.length p1, .slice (some ⟨g2, 0, none⟩) f'.cs.length p2, .slice (some ⟨g3, 0, none⟩) f'.ds.length p3, .int .i64 f'.nh, .int .i64 f'.nc, .int .i64 f'.nd] := hv; simp only [List.mem_cons, List.not_mem_nil, or_false] at hv; rcases hv with rfl | rfl | rfl | rfl | rfl | rfl; exact t1; exact t2; exact t3; all_goals exact fun h => by cases h), ((unhide HK0).eas), ((unhide HK0).cdw), ((unhide HK0).cmv), ((unhide HK0).cx0), (fun _ => ⟨d_al, d_x0⟩)⟩
      clear kb gr hd hl xF xx
      refine wpList_nil ⟨rfl, DvAJ.mk (unhide HK) (by kernel_rfl)⟩
    · as_aux_lemma =>
      simp at ho
      subst ho
      have d_x1 : l 7 = true := hd ⟨7, .data⟩ (by simp) rfl
      have x7 := K.ex1 d_x1
      subst x7
      have HK : Hid (DvA w3 f' B A D nh nc nd l1 l2 l3 ts cs ds (l 0) (l 1) (l 2) (l 3) (l 4) (l 5) (l 6) (l 7) (l 8) (l 9) true v0 v1 v2 v3 v4 v5 v6 (.bool B) v8 (.bool B) V) := hide ⟨(K.bel), (K.ela), (K.eto), (K.eld), (K.etd), (K.edw), (K.emv), (K.ex0), (K.ex1), (K.eal), (K.eap), (fun _ => rfl), (K.cdw), (K.cmv), (K.cx0), (K.cst)⟩
      clear K hd hl
      refine at_assignO (.bool B) (by kernel_rfl) ?_
      refine wpList_nil ⟨rfl, DvAJ.mk (unhide HK) (by kernel_rfl)⟩
  rintro l a V8 hall ⟨r0v0, r0v1, r0v2, r0v3, r0v4, r0v5, F0, r0v7, r0v8, r0v10, rfl, K⟩
  obtain ⟨S0, xs, hS0, _, bs⟩ := K.eal (hall 8 (by decide))
  rw [hall 9 (by decide)] at bs
  have xx := K.ex0 (hall 6 (by decide))
  obtain ⟨F, xF, hF⟩ := K.edw (hall 4 (by decide))
  have eF : F0 = F := by have e := xF.symm.trans xx; simp only [Value.tuple.injEq, Array.mk.injEq, List.cons.injEq, and_true] at e; exact e.symm
  subst eF
  obtain ⟨g01, p01, g02, p02, g03, p03, eF, ow⟩ := hF
  have ap := K.eap (hall 9 (by decide)) S0 xs
  have xa := K.eas (hall 10 (by decide))
  have bw := K.bel
  subst xs
  subst xa
  skip
  have kb : Blk V8 S0 [.slice (some ⟨g01, 0, none⟩) f'.ts.length p01, .slice (some ⟨g02, 0, none⟩) f'.cs.length p02, .slice (some ⟨g03, 0, none⟩) f'.ds.length p03, .int .i64 f'.nh, .int .i64 f'.nc, .int .i64 f'.nd] := by rw [eF] at bs; exact bs
  have AP0 : Hid (apF F0 S0) := hide ap
  clear ap
  have HF0 := hide eF
  have O0 := hide ow
  have KS0 := hide kb
  clear K hall bs xx xF eF ow kb
  clear CT CW
  have lt0 := (unhide KS0).lt
  have L0 : Hid (∀ k, flS (some ⟨g01, 0, none⟩) (some ⟨g02, 0, none⟩) (some ⟨g03, 0, none⟩) f'.ts.length p01 f'.cs.length p02 f'.ds.length p03 k → w3.heap.size ≤ k ∧ k < V8.heap.size) := hide (fun k hk => (unhide O0).in_ hk)
  have HB := hide ((unhide HB).trans (bw.mono (unhide HB).size))
  have KF := hide ((unhide KF).below bw)
  have KD := hide ((unhide KD).below bw)
  clear bw
  have hwV : w.heap.size + 1 < V8.heap.size := (unhide KD).lt
  go_wp2_with ((with_reducible show wpList _ _ _ (⟨_, .load 28 _, _, _, _, none⟩ :: _) _ _); refine at_loadV (vs := [.slice a1 l1 c1, .slice a2 l2 c2, .slice a3 l3 c3, .int .i64 nh, .int .i64 nc, .int .i64 nd]) (V := A) (unhide HA) Tryz.isAgg28 Tryz.sizeOf28 rfl (unhide KF) ?_)
  rw [unhide HA]
  refine (toFleet_own nh nc nd a1 a2 a3 l1 c1 l2 c2 l3 c3 ts cs ds _ ((unhide HR).below (unhide HB)) i1 i2 i3).mono ?_
  rw [← unhide HA]
  rintro x w4 ⟨⟨x1, x2, x3, rfl, ow⟩, bw⟩
  obtain ⟨A1, hA1⟩ : ∃ A : Value, A = .agg #[.slice (some ⟨x1, 0, none⟩) l1 l1, .slice (some ⟨x2, 0, none⟩) l2 l2, .slice (some ⟨x3, 0, none⟩) l3 l3, .int .i64 nh, .int .i64 nc, .int .i64 nd] := ⟨_, rfl⟩
  rw [← hA1]
  have HA1 := hide hA1
  clear hA1
  obtain ⟨X, hX⟩ : ∃ X, w4.heap.size = X := ⟨_, rfl⟩
  have leX : V8.heap.size ≤ X := by rw [← hX]; exact bw.size
  have LX : Hid (∀ k, flS (some ⟨x1, 0, none⟩) (some ⟨x2, 0, none⟩) (some ⟨x3, 0, none⟩) l1 l1 l2 l2 l3 l3 k → V8.heap.size ≤ k ∧ k < X) := hide (fun k hk => by rw [← hX]; exact ow.in_ hk)
  have OX := hide ow
  clear ow
  have HB := hide ((unhide HB).trans (bw.mono (unhide HB).size))
  have KF := hide ((unhide KF).below bw)
  have KD := hide ((unhide KD).below bw)
  have KS0 := hide ((unhide KS0).below bw)
  have O0 := hide ((unhide O0).below bw)
  clear bw
  obtain ⟨z, hz⟩ : ∃ V, V = w4.alloc (Obj.cells #[.slice none 0 0, .slice none 0 0, .slice none 0 0, .int .i64 0, .int .i64 0, .int .i64 0] 38) := ⟨_, rfl⟩
  have bw : Below w4.heap.size w4 z := by rw [hz]; exact bel1 _
  have KX : Hid (Blk z X [.slice none 0 0, .slice none 0 0, .slice none 0 0, .int .i64 0, .int .i64 0, .int .i64 0]) := hide (by rw [hz, ← hX]; exact Blk.new _ _)
  have HB := hide ((unhide HB).trans (bw.mono (unhide HB).size))
  have KF := hide ((unhide KF).below bw)
  have KD := hide ((unhide KD).below bw)
  have KS0 := hide ((unhide KS0).below bw)
  have O0 := hide ((unhide O0).below bw)
  have OX := hide ((unhide OX).below bw)
  clear bw
  have HZ := hide hz
  have HX := hide hX
  clear hz hX
  go_upto_region 10 with ((with_reducible show wpList _ _ _ (⟨none, .store 38 (.tmp 8) _, _, _, _, none⟩ :: _) _ _); rw [← unhide HZ, unhide HX]; refine at_storeAgg (us := [.slice none 0 0, .slice none 0 0, .slice none 0 0, .int .i64 0, .int .i64 0, .int .i64 0]) (vs := [.slice (some ⟨x1, 0, none⟩) l1 l1, .slice (some ⟨x2, 0, none⟩) l2 l2, .slice (some ⟨x3, 0, none⟩) l3 l3, .int .i64 nh, .int .i64 nc, .int .i64 nd]) Tryz.sizeOf38 rfl (unhide HA1) (unhide KX) rfl (by intro v hv; simp only [List.mem_cons, List.not_mem_nil, or_false] at hv; rcases hv with rfl | rfl | rfl | rfl | rfl | rfl <;> rfl) ?_; intro w5 kb gr)
  have on := Aps.of_row (S := fun k => k = X) gr (fun k hk => (Option.some.inj hk).symm)
  have ltX : X < w5.heap.size := kb.lt
  have hwX : w.heap.size + 1 < X := by omega
  have HB := hide (below_aps (unhide HB) on (fun k hk => by omega) (Nat.le_refl _))
  have KF := hide ((unhide KF).aps on (by omega))
  have KD := hide ((unhide KD).aps on (by omega))
  have KS0 := hide ((unhide KS0).aps on (by omega))
  have O0 := hide ((unhide O0).aps on (fun i hi e => by have := (unhide L0) i hi; omega))
  have OX := hide ((unhide OX).aps on (fun i hi e => by have := (unhide LX) i hi; omega))
  have KX := hide kb
  clear kb gr on HZ HX
  have CW : Hid (∀ V, Below w5.heap.size w5 V → Calls Tryz.prog 10 #[A1, D] V fun e w' => ∃ F, e = .returned (.tuple #[F, .bool B]) ∧ DvF V.heap.size f' F w' ∧ Below V.heap.size V w') := hide (fun V b => by rw [unhide HA1]; exact (unhide CWI) V x1 x2 x3 ((unhide HB).trans (b.mono (unhide HB).size)) ((unhide OX).read.below b))
  refine wp_region_flagsA (by kernel_rfl) (by kernel_rfl) (DvBJ w5 f' B A1 D nh nc nd l1 l2 l3 ts cs ds (fun v0 v1 v2 v3 v4 v5 v6 v7 v9 => ({ tmps := #[A, D, .pointer (some ⟨w.heap.size, 0, none⟩), .pointer (some ⟨w.heap.size + 1, 0, none⟩), .bool false, .int .i64 r2, .pointer (some ⟨S0, 0, none⟩), .bool B, .pointer (some ⟨X, 0, none⟩), v7, v9, undef, undef, undef, undef, undef, A, .int .i64 1048576, .int .i64 r1, .int .i64 r1, .bool (decide (r1 < 0)), D, .int .i64 r1, .int .i64 r2, .int .i64 r2, .bool (decide (r2 < 0)), r0v5, r0v0, r0v1, r0v2, r0v3, r0v4, F0, r0v7, A, A1, v4, v0, v1, v2, v3, v5, v6, undef, undef, undef, undef, undef, undef, undef, undef, undef, undef, undef, undef, undef, undef, undef, undef, undef, undef, undef, undef, undef, undef, undef, undef, undef, undef, undef, undef, undef, undef, undef, undef, undef, undef, undef, undef, undef, undef, undef, undef, undef, undef, undef, undef, undef, undef, undef, undef, undef, undef, undef, undef, undef, undef, undef, undef, undef, undef, undef, undef, undef, undef, undef, undef, undef, undef], defers := [] } : Act))) ?_ ?_ ?_
  · exact DvBJ.mk (v0 := undef) (v1 := undef) (v2 := undef) (v3 := undef) (v4 := undef) (v5 := undef) (v6 := undef) (v7 := undef) (v9 := undef) ⟨bel0d 1, (fun h => by cases h), (fun h => by cases h), (fun h => by cases h), (fun h => by cases h), (fun h => by cases h), (fun h => by cases h), (fun h => by cases h), (fun h => by cases h), (fun h => by cases h), (fun h => by cases h), (fun h => by cases h), (fun h => by cases h), (fun h => by cases h), (fun h => by cases h)⟩ (by kernel_rfl)
  rotate_left 1
  · rintro l a V x o ho hl hd ⟨v0, v1, v2, v3, v4, v5, v6, v7, v9, rfl, K⟩
    have hi : x < 10 := (Array.getElem?_eq_some_iff.1 ho).1
    rcases (show x = 0 ∨ x = 1 ∨ x = 2 ∨ x = 3 ∨ x = 4 ∨ x = 5 ∨ x = 6 ∨ x = 7 ∨ x = 8 ∨ x = 9 from by omega) with rfl | rfl | rfl | rfl | rfl | rfl | rfl | rfl | rfl | rfl
    · as_aux_lemma =>
      simp at ho
      subst ho
      have HKB := hide ((unhide KX).below K.bel)
      have HK : Hid (DvB w5 f' B A1 D nh nc nd l1 l2 l3 ts cs ds true (l 1) (l 2) (l 3) (l 4) (l 5) (l 6) (l 7) (l 8) (l 9) A1 v1 v2 v3 v4 v5 v6 v7 v9 V) := hide ⟨(K.bel), (fun _ => rfl), (K.eld), (K.etd), (K.edw), (K.emv), (K.ex0), (K.ex1), (K.eal), (K.eap), (K.eas), (K.cdw), (K.cmv), (K.cx0), (K.cst)⟩
      clear K hd hl
      refine at_loadV (vs := [.slice (some ⟨x1, 0, none⟩) l1 l1, .slice (some ⟨x2, 0, none⟩) l2 l2, .slice (some ⟨x3, 0, none⟩) l3 l3, .int .i64 nh, .int .i64 nc, .int .i64 nd]) (V := A1) (unhide HA1) Tryz.isAgg38 Tryz.sizeOf38 (by kernel_rfl) (unhide HKB) ?_
      refine wpList_nil ⟨rfl, DvBJ.mk (unhide HK) (by kernel_rfl)⟩
    · as_aux_lemma =>
      simp at ho
      subst ho
      have HKB := hide ((unhide KD).below K.bel)
      have HK : Hid (DvB w5 f' B A1 D nh nc nd l1 l2 l3 ts cs ds (l 0) true (l 2) (l 3) (l 4) (l 5) (l 6) (l 7) (l 8) (l 9) v0 D v2 v3 v4 v5 v6 v7 v9 V) := hide ⟨(K.bel), (K.ela), (fun _ => rfl), (K.etd), (K.edw), (K.emv), (K.ex0), (K.ex1), (K.eal), (K.eap), (K.eas), (K.cdw), (K.cmv), (K.cx0), (K.cst)⟩
      clear K hd hl
      refine at_loadV (vs := [.int .i64 kd, .string n, .int .i64 i, .int .i64 m]) (V := D) (unhide HD) Tryz.isAgg30 Tryz.sizeOf30 (by kernel_rfl) (unhide HKB) ?_
      refine wpList_nil ⟨rfl, DvBJ.mk (unhide HK) (by kernel_rfl)⟩
    · as_aux_lemma =>
      simp at ho
      subst ho
      have d_ld : l 1 = true := hd ⟨1, .data⟩ (by simp) rfl
      have x0 := (K.eld d_ld).symm
      subst x0
      have n_dw : l 3 = false := by cases c : l 3; rfl; have z := (K.cdw c); rw [hl] at z; cases z
      have HK0 := hide K
      clear K hd
      refine at_callO rfl (some 39) rfl 9 #[D] (by kernel_rfl) ?_
      refine ((unhide CDD) V).mono ?_
      rintro e V2 ⟨rfl, b2⟩
      refine ⟨_, rfl, ?_⟩
      have K := (unhide HK0).below b2
      have HK : Hid (DvB w5 f' B A1 D nh nc nd l1 l2 l3 ts cs ds (l 0) (l 1) true (l 3) (l 4) (l 5) (l 6) (l 7) (l 8) (l 9) v0 D D v3 v4 v5 v6 v7 v9 V2) := hide ⟨(K.bel), (K.ela), (K.eld), (fun _ => rfl), (K.edw), (K.emv), (K.ex0), (K.ex1), (K.eal), (K.eap), (K.eas), (fun _ => rfl), (K.cmv), (K.cx0), (K.cst)⟩
      clear K b2
      refine wpList_nil ⟨rfl, DvBJ.mk (unhide HK) (by kernel_rfl)⟩
    · as_aux_lemma =>
      simp at ho
      subst ho
      have d_td : l 2 = true := hd ⟨2, .data⟩ (by simp) rfl
      have d_la : l 0 = true := hd ⟨0, .data⟩ (by simp) rfl
      have x1 := (K.ela d_la).symm
      subst x1
      have x3 := (K.etd d_td).symm
      subst x3
      have n_mv : l 4 = false := by cases c : l 4; rfl; have z := K.cmv c; rw [hl] at z; cases z
      have n_x0 : l 5 = false := by cases c : l 5; rfl; have z := K.cx0 c; rw [n_mv] at z; cases z
      have HK0 := hide K
      clear K hd
      refine at_callO rfl (some 40) rfl 10 #[A1, D] (by kernel_rfl) ?_
      refine ((unhide CW) V (unhide HK0).bel).mono ?_
      rintro e V2 ⟨F, rfl, hF, b2⟩
      refine ⟨_, rfl, ?_⟩
      have K := (unhide HK0).below b2
      have HK : Hid (DvB w5 f' B A1 D nh nc nd l1 l2 l3 ts cs ds (l 0) (l 1) (l 2) true (l 4) (l 5) (l 6) (l 7) (l 8) (l 9) A1 v1 D (.tuple #[F, .bool B]) v4 v5 v6 v7 v9 V2) := hide ⟨(K.bel), (K.ela), (K.eld), (K.etd), (fun _ => ⟨F, rfl, hF.mono (unhide HK0).bel.size⟩), (fun h => by rw [n_mv] at h; cases h), (fun h => by rw [n_x0] at h; cases h), (K.ex1), (K.eal), (K.eap), (K.eas), (fun _ => d_td), (fun _ => rfl), (K.cx0), (K.cst)⟩
      clear K b2 hF
      refine wpList_nil ⟨rfl, DvBJ.mk (unhide HK) (by kernel_rfl)⟩
    · as_aux_lemma =>
      simp at ho
      subst ho
      have d_dw : l 3 = true := hd ⟨3, .data⟩ (by simp) rfl
      have n_x0 : l 5 = false := by cases c : l 5; rfl; have z := K.cx0 c; rw [hl] at z; cases z
      have HK : Hid (DvB w5 f' B A1 D nh nc nd l1 l2 l3 ts cs ds (l 0) (l 1) (l 2) (l 3) true (l 5) (l 6) (l 7) (l 8) (l 9) v0 v1 v2 v3 v3 v5 v6 v7 v9 V) := hide ⟨(K.bel), (K.ela), (K.eld), (K.etd), (K.edw), (fun _ => rfl), (K.ex0), (K.ex1), (K.eal), (K.eap), (K.eas), (K.cdw), (fun _ => d_dw), (fun _ => rfl), (K.cst)⟩
      clear K hd hl
      refine at_moveO v3 (by kernel_rfl) ?_
      refine wpList_nil ⟨rfl, DvBJ.mk (unhide HK) (by kernel_rfl)⟩
    · as_aux_lemma =>
      simp at ho
      subst ho
      have d_mv : l 4 = true := hd ⟨4, .data⟩ (by simp) rfl
      have d_dw := K.cmv d_mv
      obtain ⟨F, xF, hF⟩ := K.edw d_dw
      have xm := (K.emv d_mv).trans xF
      subst xF
      subst xm
      have n_st : l 8 = false := by cases c : l 8; rfl; have z := (K.cst c).2; rw [hl] at z; cases z
      have HK : Hid (DvB w5 f' B A1 D nh nc nd l1 l2 l3 ts cs ds (l 0) (l 1) (l 2) (l 3) (l 4) true (l 6) (l 7) (l 8) (l 9) v0 v1 v2 (.tuple #[F, .bool B]) (.tuple #[F, .bool B]) F v6 v7 v9 V) := hide ⟨(K.bel), (K.ela), (K.eld), (K.etd), (fun _ => ⟨F, rfl, hF⟩), (fun _ => rfl), (fun _ => rfl), (K.ex1), (fun h => by have z := K.eal h; rw [n_st] at z ⊢; exact z), (fun h => by rw [n_st] at h; cases h), (K.eas), (K.cdw), (K.cmv), (fun _ => d_mv), (fun h => by rw [n_st] at h; cases h)⟩
      clear K hd hl
      refine at_extractO #[F, .bool B] F (by kernel_rfl) rfl ?_
      refine wpList_nil ⟨rfl, DvBJ.mk (unhide HK) (by kernel_rfl)⟩
    · as_aux_lemma =>
      simp at ho
      subst ho
      have d_mv : l 4 = true := hd ⟨4, .data⟩ (by simp) rfl
      have d_dw := K.cmv d_mv
      obtain ⟨F, xF, hF⟩ := K.edw d_dw
      have xm := (K.emv d_mv).trans xF
      subst xF
      subst xm
      have HK : Hid (DvB w5 f' B A1 D nh nc nd l1 l2 l3 ts cs ds (l 0) (l 1) (l 2) (l 3) (l 4) (l 5) true (l 7) (l 8) (l 9) v0 v1 v2 (.tuple #[F, .bool B]) (.tuple #[F, .bool B]) v5 (.bool B) v7 v9 V) := hide ⟨(K.bel), (K.ela), (K.eld), (K.etd), (fun _ => ⟨F, rfl, hF⟩), (fun _ => rfl), (K.ex0), (fun _ => rfl), (K.eal), (K.eap), (K.eas), (K.cdw), (K.cmv), (K.cx0), (K.cst)⟩
      clear K hd hl
      refine at_extractO #[F, .bool B] (.bool B) (by kernel_rfl) rfl ?_
      refine wpList_nil ⟨rfl, DvBJ.mk (unhide HK) (by kernel_rfl)⟩
    · as_aux_lemma =>
      simp at ho
      subst ho
      have n_st : l 8 = false := by cases c : l 8; rfl; have z := (K.cst c).1; rw [hl] at z; cases z
      have K2 := K.below (bel1 (Obj.cells #[.slice none 0 0, .slice none 0 0, .slice none 0 0, .int .i64 0, .int .i64 0, .int .i64 0] 38))
      have HK : Hid (DvB w5 f' B A1 D nh nc nd l1 l2 l3 ts cs ds (l 0) (l 1) (l 2) (l 3) (l 4) (l 5) (l 6) true (l 8) (l 9) v0 v1 v2 v3 v4 v5 v6 (.pointer (some ⟨V.heap.size, 0, none⟩)) v9 (V.alloc (Obj.cells #[.slice none 0 0, .slice none 0 0, .slice none 0 0, .int .i64 0, .int .i64 0, .int .i64 0] 38))) := hide ⟨(K2.bel), (K2.ela), (K2.eld), (K2.etd), (K2.edw), (K2.emv), (K2.ex0), (K2.ex1), (fun _ => ⟨_, rfl, K.bel.size, fun _ => ⟨_, _, heap_alloc_new V _⟩, by rw [n_st]; exact Blk.new _ _⟩), (fun h => by rw [n_st] at h; cases h), (K2.eas), (K2.cdw), (K2.cmv), (K2.cx0), (fun h => by rw [n_st] at h; cases h)⟩
      clear K K2 hd hl
      refine at_allocFO ?_
      refine wpList_nil ⟨rfl, DvBJ.mk (unhide HK) (by kernel_rfl)⟩
    · as_aux_lemma =>
      simp at ho
      subst ho
      have d_al : l 7 = true := hd ⟨7, .data⟩ (by simp) rfl
      have d_x0 : l 5 = true := hd ⟨5, .data⟩ (by simp) rfl
      obtain ⟨S, xs, hS, ty, bs⟩ := K.eal d_al
      rw [hl] at bs
      have ty := ty hl
      have bs : Blk V S [.slice none 0 0, .slice none 0 0, .slice none 0 0, .int .i64 0, .int .i64 0, .int .i64 0] := bs
      have d_mv := K.cx0 d_x0
      have d_dw := K.cmv d_mv
      have xx := K.ex0 d_x0
      obtain ⟨F, xF, hF⟩ := K.edw d_dw
      have eF : F = v5 := by have e := xF.symm.trans xx; simp only [Value.tuple.injEq, Array.mk.injEq, List.cons.injEq, and_true] at e; exact e
      subst eF
      obtain ⟨g1, p1, g2, p2, g3, p3, eF, ow⟩ := hF
      have t1 := own_neT ow.o1 ty (by decide)
      have t2 := own_neT ow.o2 ty (by decide)
      have t3 := own_neT ow.o3 ty (by decide)
      subst xs
      subst eF
      have HK0 := hide K
      have OW := hide ow
      have BS := hide bs
      clear K bs ow ty
      refine at_storeAgg (us := [.slice none 0 0, .slice none 0 0, .slice none 0 0, .int .i64 0, .int .i64 0, .int .i64 0]) (vs := [.slice (some ⟨g1, 0, none⟩) f'.ts.length p1, .slice (some ⟨g2, 0, none⟩) f'.cs.length p2, .slice (some ⟨g3, 0, none⟩) f'.ds.length p3, .int .i64 f'.nh, .int .i64 f'.nc, .int .i64 f'.nd]) Tryz.sizeOf38 (by kernel_rfl) (by kernel_rfl) (unhide BS) rfl (by intro v hv; simp only [List.mem_cons, List.not_mem_nil, or_false] at hv; rcases hv with rfl | rfl | rfl | rfl | rfl | rfl <;> rfl) ?_
      intro V2 kb gr
      have HK : Hid (DvB w5 f' B A1 D nh nc nd l1 l2 l3 ts cs ds (l 0) (l 1) (l 2) (l 3) (l 4) (l 5) (l 6) (l 7) true (l 9) v0 v1 v2 v3 v4 (.agg #[.slice (some ⟨g1, 0, none⟩) f'.ts.length p1, .slice (some ⟨g2, 0, none⟩) f'.cs.length p2, .slice (some ⟨g3, 0, none⟩) f'.ds.length p3, .int .i64 f'.nh, .int .i64 f'.nc, .int .i64 f'.nd]) v6 (.pointer (some ⟨S, 0, none⟩)) v9 V2) := hide ⟨((unhide HK0).bel.grown gr (unhide HK0).bel.size (fun k hk => by cases hk; exact hS)), ((unhide HK0).ela), ((unhide HK0).eld), ((unhide HK0).etd), (fun _ => ⟨_, xF, ⟨g1, p1, g2, p2, g3, p3, rfl, ⟨(unhide OW).o1.far gr (fun g hg e => t1 (hg.trans e)), (unhide OW).o2.far gr (fun g hg e => t2 (hg.trans e)), (unhide OW).o3.far gr (fun g hg e => t3 (hg.trans e)), (unhide OW).p12, (unhide OW).p13, (unhide OW).p23⟩⟩⟩), ((unhide HK0).emv), ((unhide HK0).ex0), ((unhide HK0).ex1), (fun _ => ⟨S, rfl, hS, (fun h => by cases h), kb⟩), (fun _ S' e => by cases e; intro v hv; have hv : v ∈ [.slice (some ⟨g1, 0, none⟩) f'.ts.length p1, .slice (some ⟨g2, 0, none⟩) f'.cs.length p2, .slice (some ⟨g3, 0, none⟩) f'.ds.length p3, .int .i64 f'.nh, .int .i64 f'.nc, .int .i64 f'.nd] := hv; simp only [List.mem_cons, List.not_mem_nil, or_false] at hv; rcases hv with rfl | rfl | rfl | rfl | rfl | rfl; exact t1; exact t2; exact t3; all_goals exact fun h => by cases h), ((unhide HK0).eas), ((unhide HK0).cdw), ((unhide HK0).cmv), ((unhide HK0).cx0), (fun _ => ⟨d_al, d_x0⟩)⟩
      clear kb gr hd hl xF xx
      refine wpList_nil ⟨rfl, DvBJ.mk (unhide HK) (by kernel_rfl)⟩
    · as_aux_lemma =>
      simp at ho
      subst ho
      have d_x1 : l 6 = true := hd ⟨6, .data⟩ (by simp) rfl
      have x7 := K.ex1 d_x1
      subst x7
      have HK : Hid (DvB w5 f' B A1 D nh nc nd l1 l2 l3 ts cs ds (l 0) (l 1) (l 2) (l 3) (l 4) (l 5) (l 6) (l 7) (l 8) true v0 v1 v2 v3 v4 v5 (.bool B) v7 (.bool B) V) := hide ⟨(K.bel), (K.ela), (K.eld), (K.etd), (K.edw), (K.emv), (K.ex0), (K.ex1), (K.eal), (K.eap), (fun _ => rfl), (K.cdw), (K.cmv), (K.cx0), (K.cst)⟩
      clear K hd hl
      refine at_assignO (.bool B) (by kernel_rfl) ?_
      refine wpList_nil ⟨rfl, DvBJ.mk (unhide HK) (by kernel_rfl)⟩
  rintro l a V10 hall ⟨r1v0, r1v1, r1v2, r1v3, r1v4, F1, r1v6, r1v7, r1v9, rfl, K⟩
  obtain ⟨S1, xs, hS1, _, bs⟩ := K.eal (hall 7 (by decide))
  rw [hall 8 (by decide)] at bs
  have xx := K.ex0 (hall 5 (by decide))
  obtain ⟨F, xF, hF⟩ := K.edw (hall 3 (by decide))
  have eF : F1 = F := by have e := xF.symm.trans xx; simp only [Value.tuple.injEq, Array.mk.injEq, List.cons.injEq, and_true] at e; exact e.symm
  subst eF
  obtain ⟨g11, p11, g12, p12, g13, p13, eF, ow⟩ := hF
  have ap := K.eap (hall 8 (by decide)) S1 xs
  have xa := K.eas (hall 9 (by decide))
  have bw := K.bel
  subst xs
  subst xa
  skip
  have kb : Blk V10 S1 [.slice (some ⟨g11, 0, none⟩) f'.ts.length p11, .slice (some ⟨g12, 0, none⟩) f'.cs.length p12, .slice (some ⟨g13, 0, none⟩) f'.ds.length p13, .int .i64 f'.nh, .int .i64 f'.nc, .int .i64 f'.nd] := by rw [eF] at bs; exact bs
  have AP1 : Hid (apF F1 S1) := hide ap
  clear ap
  have HF1 := hide eF
  have O1 := hide ow
  have KS1 := hide kb
  clear K hall bs xx xF eF ow kb
  clear CW
  have lt1 := (unhide KS1).lt
  have L1 : Hid (∀ k, flS (some ⟨g11, 0, none⟩) (some ⟨g12, 0, none⟩) (some ⟨g13, 0, none⟩) f'.ts.length p11 f'.cs.length p12 f'.ds.length p13 k → w5.heap.size ≤ k ∧ k < V10.heap.size) := hide (fun k hk => (unhide O1).in_ hk)
  have T1 : Hid (¬ flS (some ⟨g11, 0, none⟩) (some ⟨g12, 0, none⟩) (some ⟨g13, 0, none⟩) f'.ts.length p11 f'.cs.length p12 f'.ds.length p13 S1) := hide (fun e => by
    have ap := unhide AP1
    rw [unhide HF1] at ap
    have ap : ∀ v ∈ ([.slice (some ⟨g11, 0, none⟩) f'.ts.length p11, .slice (some ⟨g12, 0, none⟩) f'.cs.length p12, .slice (some ⟨g13, 0, none⟩) f'.ds.length p13, .int .i64 f'.nh, .int .i64 f'.nc, .int .i64 f'.nd] : List Value), v.ownBlock ≠ some S1 := ap
    rcases e with e | e | e
    · exact ap _ (by simp) e
    · exact ap _ (by simp) e
    · exact ap _ (by simp) e)
  have HB := hide ((unhide HB).trans (bw.mono (unhide HB).size))
  have KF := hide ((unhide KF).below bw)
  have KD := hide ((unhide KD).below bw)
  have KS0 := hide ((unhide KS0).below bw)
  have O0 := hide ((unhide O0).below bw)
  have OX := hide ((unhide OX).below bw)
  have KX := hide ((unhide KX).below bw)
  clear bw
  go_wp2_with (first
    | ((with_reducible show wpList _ _ _ (⟨_, .load 38 (.tmp 9), _, _, _, none⟩ :: _) _ _); refine at_loadV (vs := [.slice (some ⟨g11, 0, none⟩) f'.ts.length p11, .slice (some ⟨g12, 0, none⟩) f'.cs.length p12, .slice (some ⟨g13, 0, none⟩) f'.ds.length p13, .int .i64 f'.nh, .int .i64 f'.nc, .int .i64 f'.nd]) (V := F1) (unhide HF1) Tryz.isAgg38 Tryz.sizeOf38 rfl (unhide KS1) ?_)
    | ((with_reducible show wpList _ _ _ (⟨_, .load 38 (.tmp 6), _, _, _, none⟩ :: _) _ _); refine at_loadV (vs := [.slice (some ⟨g01, 0, none⟩) f'.ts.length p01, .slice (some ⟨g02, 0, none⟩) f'.cs.length p02, .slice (some ⟨g03, 0, none⟩) f'.ds.length p03, .int .i64 f'.nh, .int .i64 f'.nc, .int .i64 f'.nd]) (V := F0) (unhide HF0) Tryz.isAgg38 Tryz.sizeOf38 rfl (unhide KS0) ?_))
  rw [unhide HF1, unhide HF0]
  refine (eqFleet_same f'.nh f'.nc f'.nd _ _ _ _ _ _ _ _ _ _ _ _ _ _ _ f'.ts f'.cs f'.ds _ (unhide O1).read (unhide O0).read).mono ?_
  rw [← unhide HF1, ← unhide HF0]
  rintro x w6 ⟨rfl, bw⟩
  have sw6 := bw.size
  have HB := hide ((unhide HB).trans (bw.mono (unhide HB).size))
  have KF := hide ((unhide KF).below bw)
  have KD := hide ((unhide KD).below bw)
  have KS0 := hide ((unhide KS0).below bw)
  have O0 := hide ((unhide O0).below bw)
  have OX := hide ((unhide OX).below bw)
  have KX := hide ((unhide KX).below bw)
  have KS1 := hide ((unhide KS1).below bw)
  have O1 := hide ((unhide O1).below bw)
  clear bw
  have OXR := hide (unhide OX).read
  have HI := hide ((unhide HR).below (unhide HB))
  have HREF : Hid (Below w6.heap.size w6 w6) := hide (Below.refl _ _)
  go_upto_region 13 with fail
  refine wp_region_flagsA (by kernel_rfl) (by kernel_rfl) (DvEJ w w6 nh nc nd a1 a2 a3 l1 c1 l2 c2 l3 c3 ts cs ds X x1 x2 x3 A A1) ?_ ?_ ?_
  · exact DvEJ.mk (v0 := undef) (v1 := undef) (v2 := undef) (v3 := undef) (v4 := undef) ⟨(unhide HREF).trans (bel0d' 1), Nat.le_refl _, ((unhide KX).below (bel0d 1) : _), ((unhide KF).below (bel0d 1) : _), ((unhide OXR)).below (bel0d 1), ((unhide HI)).below (bel0d 1), (fun h => by cases h), (fun h => by cases h), (fun h => by cases h), (fun h => by cases h), (fun h => by cases h)⟩ (by kernel_rfl)
  rotate_left 1
  · rintro l a V i o ho hl hd ⟨v0, v1, v2, v3, v4, rfl, K⟩
    have hi : i < 5 := (Array.getElem?_eq_some_iff.1 ho).1
    rcases (show i = 0 ∨ i = 1 ∨ i = 2 ∨ i = 3 ∨ i = 4 from by omega) with rfl | rfl | rfl | rfl | rfl
    · as_aux_lemma =>
      simp at ho
      subst ho
      have HKB := hide K.kx
      have HK : Hid (DvE w w6 nh nc nd a1 a2 a3 l1 c1 l2 c2 l3 c3 ts cs ds X x1 x2 x3 A A1 true (l 1) (l 2) (l 3) (l 4) A1 v1 v2 v3 v4 V) := hide ⟨(K.bel), (K.sz), (K.kx), (K.kp), (K.pown), (K.parg), (fun _ => rfl), (K.e1), (K.e2), (K.e3), (K.e4)⟩
      clear K hd hl
      refine at_loadV (vs := [.slice (some ⟨x1, 0, none⟩) l1 l1, .slice (some ⟨x2, 0, none⟩) l2 l2, .slice (some ⟨x3, 0, none⟩) l3 l3, .int .i64 nh, .int .i64 nc, .int .i64 nd]) (V := A1) (unhide HA1) Tryz.isAgg38 Tryz.sizeOf38 rfl (unhide HKB) ?_
      go_wp2_with fail
      exact ⟨rfl, DvEJ.mk (unhide HK) (by kernel_rfl)⟩
    · as_aux_lemma =>
      simp at ho
      subst ho
      have HKB := hide K.kp
      have HK : Hid (DvE w w6 nh nc nd a1 a2 a3 l1 c1 l2 c2 l3 c3 ts cs ds X x1 x2 x3 A A1 (l 0) true (l 2) (l 3) (l 4) v0 A v2 v3 v4 V) := hide ⟨(K.bel), (K.sz), (K.kx), (K.kp), (K.pown), (K.parg), (K.e0), (fun _ => rfl), (K.e2), (K.e3), (K.e4)⟩
      clear K hd hl
      refine at_loadV (vs := [.slice a1 l1 c1, .slice a2 l2 c2, .slice a3 l3 c3, .int .i64 nh, .int .i64 nc, .int .i64 nd]) (V := A) (unhide HA) Tryz.isAgg28 Tryz.sizeOf28 rfl (unhide HKB) ?_
      go_wp2_with fail
      exact ⟨rfl, DvEJ.mk (unhide HK) (by kernel_rfl)⟩
    · as_aux_lemma =>
      simp at ho
      subst ho
      have d1 : l 1 = true := hd ⟨1, .data⟩ (by simp) rfl
      have x1 := (K.e1 d1).symm
      subst x1
      have HK0 := hide K
      clear K hd hl
      go_wp2_with (go_at_call 8; rw [unhide HA]; refine (toFleet_own nh nc nd a1 a2 a3 l1 c1 l2 c2 l3 c3 ts cs ds _ (unhide HK0).parg i1 i2 i3).mono ?_; rw [← unhide HA]; rintro e V2 ⟨⟨e1, e2, e3, rfl, hp0⟩, b2⟩; have hp := hp0.read; clear hp0; have K := (unhide HK0).below b2; have HK : Hid (DvE w w6 nh nc nd a1 a2 a3 l1 c1 l2 c2 l3 c3 ts cs ds X x1 x2 x3 A A1 (l 0) (l 1) true (l 3) (l 4) v0 A (.agg #[.slice (some ⟨e1, 0, none⟩) l1 l1, .slice (some ⟨e2, 0, none⟩) l2 l2, .slice (some ⟨e3, 0, none⟩) l3 l3, .int .i64 nh, .int .i64 nc, .int .i64 nd]) v3 v4 V2) := hide ⟨(K.bel), (K.sz), (K.kx), (K.kp), (K.pown), (K.parg), (K.e0), (K.e1), (fun _ => ⟨e1, e2, e3, rfl, hp⟩), (K.e3), (K.e4)⟩; clear K b2 hp)
      exact ⟨rfl, DvEJ.mk (unhide HK) (by kernel_rfl)⟩
    · as_aux_lemma =>
      simp at ho
      subst ho
      have d0 : l 0 = true := hd ⟨0, .data⟩ (by simp) rfl
      have x0 := (K.e0 d0).symm
      subst x0
      have d2 : l 2 = true := hd ⟨2, .data⟩ (by simp) rfl
      obtain ⟨e1, e2, e3, x2, y2⟩ := K.e2 d2
      subst x2
      have HK0 := hide K
      clear K hd hl
      go_wp2_with (go_at_call 11; rw [unhide HA1]; refine (eqFleet_same nh nc nd _ _ _ _ _ _ _ _ _ _ _ _ _ _ _ ts cs ds _ (unhide HK0).pown y2).mono ?_; rw [← unhide HA1]; rintro e V2 ⟨rfl, b2⟩; have K := (unhide HK0).below b2; have HK : Hid (DvE w w6 nh nc nd a1 a2 a3 l1 c1 l2 c2 l3 c3 ts cs ds X x1 x2 x3 A A1 (l 0) (l 1) (l 2) true (l 4) A1 v1 (.agg #[.slice (some ⟨e1, 0, none⟩) l1 l1, .slice (some ⟨e2, 0, none⟩) l2 l2, .slice (some ⟨e3, 0, none⟩) l3 l3, .int .i64 nh, .int .i64 nc, .int .i64 nd]) (.bool true) v4 V2) := hide ⟨(K.bel), (K.sz), (K.kx), (K.kp), (K.pown), (K.parg), (K.e0), (K.e1), (K.e2), (fun _ => rfl), (K.e4)⟩; clear K b2)
      exact ⟨rfl, DvEJ.mk (unhide HK) (by kernel_rfl)⟩
    · as_aux_lemma =>
      simp at ho
      subst ho
      have d3 : l 3 = true := hd ⟨3, .data⟩ (by simp) rfl
      have x3 := K.e3 d3
      subst x3
      have HK : Hid (DvE w w6 nh nc nd a1 a2 a3 l1 c1 l2 c2 l3 c3 ts cs ds X x1 x2 x3 A A1 (l 0) (l 1) (l 2) (l 3) true v0 v1 v2 (.bool true) (.bool false) V) := hide ⟨(K.bel), (K.sz), (K.kx), (K.kp), (K.pown), (K.parg), (K.e0), (K.e1), (K.e2), (K.e3), (fun _ => rfl)⟩
      clear K hd hl
      go_wp2_with fail
      exact ⟨rfl, DvEJ.mk (unhide HK) (by kernel_rfl)⟩
  rintro l a V13 hall ⟨v0, v1, v2, v3, v4, rfl, K⟩
  have g0 := hall 0 (by decide)
  have g1 := hall 1 (by decide)
  have g2 := hall 2 (by decide)
  have g3 := hall 3 (by decide)
  have g4 := hall 4 (by decide)
  clear hall
  have px0 := (K.e0 g0).symm
  have px1 := (K.e1 g1).symm
  obtain ⟨e1, e2, e3, px2, pp2⟩ := K.e2 g2
  have KX2 := hide pp2
  clear pp2
  have px3 := K.e3 g3
  have px4 := K.e4 g4
  have KBx : Hid (Blk V13 (X) [.slice (some ⟨x1, 0, none⟩) l1 l1, .slice (some ⟨x2, 0, none⟩) l2 l2, .slice (some ⟨x3, 0, none⟩) l3 l3, .int .i64 nh, .int .i64 nc, .int .i64 nd]) := hide K.kx
  have KBp : Hid (Blk V13 (w.heap.size) [.slice a1 l1 c1, .slice a2 l2 c2, .slice a3 l3 c3, .int .i64 nh, .int .i64 nc, .int .i64 nd]) := hide K.kp
  have KPown : Hid (FlIn V13 (some ⟨x1, 0, none⟩) (some ⟨x2, 0, none⟩) (some ⟨x3, 0, none⟩) l1 l2 l3 ts cs ds) := hide K.pown
  have KParg : Hid (FlIn V13 a1 a2 a3 l1 l2 l3 ts cs ds) := hide K.parg
  have KBEL : Hid (Below w6.heap.size w6 V13) := hide K.bel
  have KSZ : Hid (w6.heap.size ≤ V13.heap.size) := hide K.sz
  clear K g0 g1 g2 g3 g4
  subst px0
  subst px1
  subst px2
  subst px3
  subst px4
  have bw := unhide KBEL
  have s13 := bw.size
  clear OXR HI HREF KBx KBp KPown KParg KX2 KSZ
  have HB := hide ((unhide HB).trans (bw.mono (unhide HB).size))
  have KF := hide ((unhide KF).below bw)
  have KD := hide ((unhide KD).below bw)
  have KS0 := hide ((unhide KS0).below bw)
  have O0 := hide ((unhide O0).below bw)
  have OX := hide ((unhide OX).below bw)
  have KX := hide ((unhide KX).below bw)
  have KS1 := hide ((unhide KS1).below bw)
  have O1 := hide ((unhide O1).below bw)
  clear bw
  clear KBEL
  go_wp2_with ((with_reducible show wpList _ _ _ (⟨_, .load 38 _, _, _, _, none⟩ :: _) _ _); refine at_loadV (vs := [.slice (some ⟨x1, 0, none⟩) l1 l1, .slice (some ⟨x2, 0, none⟩) l2 l2, .slice (some ⟨x3, 0, none⟩) l3 l3, .int .i64 nh, .int .i64 nc, .int .i64 nd]) (V := A1) (unhide HA1) Tryz.isAgg38 Tryz.sizeOf38 rfl (unhide KX) ?_)
  rw [unhide HA1]
  refine (markFleet_aps nh nc nd _ _ _ _ _ _ _ _ _ _ ts cs ds 1 _ (unhide OX) (unhide EL).1 i1 (unhide EL).2.1 i2 (unhide EL).2.2 i3 (by omega) (by omega)).mono ?_
  rw [← unhide HA1]
  rintro x w7 ⟨rfl, om, on⟩
  obtain ⟨M, hM⟩ : ∃ M, (1 + 7 * (l1 : Int) + 3 * (l2 : Int) + 3 * (l3 : Int)) = M := ⟨_, rfl⟩
  have nM : ¬ M < 0 := by omega
  rw [hM]
  clear hM
  have sw7 := on.size
  have HB := hide (below_aps (unhide HB) on (fun k hk => by have := (unhide LX) k hk; omega) (Nat.le_refl _))
  have KF := hide ((unhide KF).aps on (fun e => by have := (unhide LX) _ e; omega))
  have KD := hide ((unhide KD).aps on (fun e => by have := (unhide LX) _ e; omega))
  have KS0 := hide ((unhide KS0).aps on (fun e => by have := (unhide LX) _ e; omega))
  have KS1 := hide ((unhide KS1).aps on (fun e => by have := (unhide LX) _ e; omega))
  have O0 := hide ((unhide O0).aps on (fun i hi e => by have := (unhide LX) i e; have := (unhide L0) i hi; omega))
  have O1 := hide ((unhide O1).aps on (fun i hi e => by have := (unhide LX) i e; have := (unhide L1) i hi; omega))
  clear om on OX KX
  have m00 : w7.cell? ⟨S0, 0, none⟩ = some (.slice (some ⟨g01, 0, none⟩) f'.ts.length p01) := (unhide KS0).c 0 (by simp)
  have m01 : w7.cell? ⟨S0, 1, none⟩ = some (.slice (some ⟨g02, 0, none⟩) f'.cs.length p02) := (unhide KS0).c 1 (by simp)
  have m02 : w7.cell? ⟨S0, 2, none⟩ = some (.slice (some ⟨g03, 0, none⟩) f'.ds.length p03) := (unhide KS0).c 2 (by simp)
  have m03 : w7.cell? ⟨S0, 3, none⟩ = some (.int .i64 f'.nh) := (unhide KS0).c 3 (by simp)
  have m04 : w7.cell? ⟨S0, 4, none⟩ = some (.int .i64 f'.nc) := (unhide KS0).c 4 (by simp)
  have m05 : w7.cell? ⟨S0, 5, none⟩ = some (.int .i64 f'.nd) := (unhide KS0).c 5 (by simp)
  have m10 : w7.cell? ⟨S1, 0, none⟩ = some (.slice (some ⟨g11, 0, none⟩) f'.ts.length p11) := (unhide KS1).c 0 (by simp)
  have m11 : w7.cell? ⟨S1, 1, none⟩ = some (.slice (some ⟨g12, 0, none⟩) f'.cs.length p12) := (unhide KS1).c 1 (by simp)
  have m12 : w7.cell? ⟨S1, 2, none⟩ = some (.slice (some ⟨g13, 0, none⟩) f'.ds.length p13) := (unhide KS1).c 2 (by simp)
  have m13 : w7.cell? ⟨S1, 3, none⟩ = some (.int .i64 f'.nh) := (unhide KS1).c 3 (by simp)
  have m14 : w7.cell? ⟨S1, 4, none⟩ = some (.int .i64 f'.nc) := (unhide KS1).c 4 (by simp)
  have m15 : w7.cell? ⟨S1, 5, none⟩ = some (.int .i64 f'.nd) := (unhide KS1).c 5 (by simp)
  go_wp2_with fail
  clear m00 m01 m02 m03 m04 m05 m10 m11 m12 m13 m14 m15
  refine (eqFleet_same f'.nh f'.nc f'.nd _ _ _ _ _ _ _ _ _ _ _ _ _ _ _ f'.ts f'.cs f'.ds _ (unhide O1).read (unhide O0).read).mono ?_
  rintro x w8 ⟨rfl, bw⟩
  have sw8 := bw.size
  have HB := hide ((unhide HB).trans (bw.mono (unhide HB).size))
  have KF := hide ((unhide KF).below bw)
  have KD := hide ((unhide KD).below bw)
  have KS0 := hide ((unhide KS0).below bw)
  have O0 := hide ((unhide O0).below bw)
  have KS1 := hide ((unhide KS1).below bw)
  have O1 := hide ((unhide O1).below bw)
  clear bw
  go_wp2_with ((with_reducible show wpList _ _ _ (⟨_, .load 38 (.tmp 9), _, _, _, none⟩ :: _) _ _); refine at_loadV (vs := [.slice (some ⟨g11, 0, none⟩) f'.ts.length p11, .slice (some ⟨g12, 0, none⟩) f'.cs.length p12, .slice (some ⟨g13, 0, none⟩) f'.ds.length p13, .int .i64 f'.nh, .int .i64 f'.nc, .int .i64 f'.nd]) (V := F1) (unhide HF1) Tryz.isAgg38 Tryz.sizeOf38 rfl (unhide KS1) ?_)
  rw [unhide HF1]
  refine (markFleet_aps f'.nh f'.nc f'.nd _ _ _ _ _ _ _ _ _ _ f'.ts f'.cs f'.ds 1 _ (unhide O1) rfl (unhide LEN).1 rfl (unhide LEN).2.1 rfl (unhide LEN).2.2 (by omega) (by omega)).mono ?_
  rw [← unhide HF1]
  rintro x w9 ⟨rfl, om, on⟩
  have sw9 := on.size
  have HB := hide (below_aps (unhide HB) on (fun k hk => by have := (unhide L1) k hk; omega) (Nat.le_refl _))
  have KF := hide ((unhide KF).aps on (fun e => by have := (unhide L1) _ e; omega))
  have KD := hide ((unhide KD).aps on (fun e => by have := (unhide L1) _ e; omega))
  have KS0 := hide ((unhide KS0).aps on (fun e => by have := (unhide L1) _ e; omega))
  have KS1 := hide ((unhide KS1).aps on (unhide T1))
  have O0 := hide ((unhide O0).aps on (fun i hi e => by have := (unhide L1) i e; have := (unhide L0) i hi; omega))
  have O1 := hide om
  clear om on
  obtain ⟨M1, hM1⟩ : ∃ M, (1 + 7 * (f'.ts.length : Int) + 3 * (f'.cs.length : Int) + 3 * (f'.ds.length : Int)) = M := ⟨_, rfl⟩
  have nM1 : ¬ M1 < 0 := by omega
  have hq2 : (M1 != M1) = false := by simp
  rw [hM1]
  have HM1 := hide hM1
  clear hM1
  go_wp2_with ((with_reducible show wpList _ _ _ (⟨_, .load 38 (.tmp 9), _, _, _, none⟩ :: _) _ _); refine at_loadV (vs := [.slice (some ⟨g11, 0, none⟩) f'.ts.length p11, .slice (some ⟨g12, 0, none⟩) f'.cs.length p12, .slice (some ⟨g13, 0, none⟩) f'.ds.length p13, .int .i64 f'.nh, .int .i64 f'.nc, .int .i64 f'.nd]) (V := F1) (unhide HF1) Tryz.isAgg38 Tryz.sizeOf38 rfl (unhide KS1) ?_)
  rw [unhide HF1]
  refine (heldFleet_any f'.nh f'.nc f'.nd _ _ _ _ _ _ _ _ _ _ f'.ts f'.cs f'.ds 1 _ (unhide O1) rfl (unhide LEN).1 rfl (unhide LEN).2.1 rfl (unhide LEN).2.2 (by omega) (by omega)).mono ?_
  rw [← unhide HF1]
  rintro x wk ⟨rfl, bw⟩
  rw [unhide HM1]
  have swk := bw.size
  have HB := hide ((unhide HB).trans (bw.mono (unhide HB).size))
  have KF := hide ((unhide KF).below bw)
  have KD := hide ((unhide KD).below bw)
  have KS0 := hide ((unhide KS0).below bw)
  have O0 := hide ((unhide O0).below bw)
  have KS1 := hide ((unhide KS1).below bw)
  have O1 := hide ((unhide O1).below bw)
  clear bw
  go_upto_region 27 with fail
  have CT : Hid (∀ V, Below wk.heap.size wk V → Calls Tryz.prog 8 #[A] V fun e w' => (∃ e1 e2 e3, e = .returned (.agg #[.slice (some ⟨e1, 0, none⟩) l1 l1, .slice (some ⟨e2, 0, none⟩) l2 l2, .slice (some ⟨e3, 0, none⟩) l3 l3, .int .i64 nh, .int .i64 nc, .int .i64 nd]) ∧ FlIn w' (some ⟨e1, 0, none⟩) (some ⟨e2, 0, none⟩) (some ⟨e3, 0, none⟩) l1 l2 l3 ts cs ds) ∧ Below V.heap.size V w') := hide (fun V b => (unhide CTA) V ((unhide HB).trans (b.mono (unhide HB).size)))
  have CW := hide (fun V e1 e2 e3 (b : Below wk.heap.size wk V) => (unhide CWI) V e1 e2 e3 ((unhide HB).trans (b.mono (unhide HB).size)))
  refine wp_region_flagsA (by kernel_rfl) (by kernel_rfl) (DvCJ wk f' B A D nh nc nd l1 l2 l3 ts cs ds (fun v0 v1 v2 v3 v4 v5 v6 v7 v8 v10 => ({ tmps := #[A, D, .pointer (some ⟨w.heap.size, 0, none⟩), .pointer (some ⟨w.heap.size + 1, 0, none⟩), .bool false, .int .i64 r2, .pointer (some ⟨S0, 0, none⟩), .bool B, .pointer (some ⟨X, 0, none⟩), .pointer (some ⟨S1, 0, none⟩), .bool B, .int .i64 M, .int .i64 M1, .int .i64 M1, v8, v10, A, .int .i64 1048576, .int .i64 r1, .int .i64 r1, .bool (decide (r1 < 0)), D, .int .i64 r1, .int .i64 r2, .int .i64 r2, .bool (decide (r2 < 0)), r0v5, r0v0, r0v1, r0v2, r0v3, r0v4, F0, r0v7, A, A1, r1v4, r1v0, r1v1, r1v2, r1v3, F1, r1v6, F1, F0, .bool true, .bool false, .bool false, .bool B, .bool B, .bool false, .bool false, A1, A, .agg #[.slice (some ⟨e1, 0, none⟩) l1 l1, .slice (some ⟨e2, 0, none⟩) l2 l2, .slice (some ⟨e3, 0, none⟩) l3 l3, .int .i64 nh, .int .i64 nc, .int .i64 nd], .bool true, .bool false, A1, .int .i64 1, .int .i64 M, .int .i64 M, .bool (decide (M < 0)), .bool (decide (M < 0)), F1, .agg #[.slice (some ⟨g01, 0, none⟩) f'.ts.length p01, .slice (some ⟨g02, 0, none⟩) f'.cs.length p02, .slice (some ⟨g03, 0, none⟩) f'.ds.length p03, .int .i64 f'.nh, .int .i64 f'.nc, .int .i64 f'.nd], .bool true, .bool false, .bool (decide (M < 0)), .bool (decide (M < 0)), .bool B, .bool B, .bool false, .bool (decide (M < 0)), F1, .int .i64 1, .int .i64 M1, F1, .int .i64 1, .int .i64 M1, .int .i64 M1, .bool (decide (M1 < 0)), .int .i64 M1, .int .i64 M1, .bool false, v5, v0, v1, v2, v3, v4, v6, v7, undef, undef, undef, undef, undef, undef, undef, undef, undef, undef, undef, undef, undef, undef, undef, undef, undef], defers := [] } : Act))) ?_ ?_ ?_
  · exact DvCJ.mk (v0 := undef) (v1 := undef) (v2 := undef) (v3 := undef) (v4 := undef) (v5 := undef) (v6 := undef) (v7 := undef) (v8 := undef) (v10 := undef) ⟨bel0d 1, (fun h => by cases h), (fun h => by cases h), (fun h => by cases h), (fun h => by cases h), (fun h => by cases h), (fun h => by cases h), (fun h => by cases h), (fun h => by cases h), (fun h => by cases h), (fun h => by cases h), (fun h => by cases h), (fun h => by cases h), (fun h => by cases h), (fun h => by cases h), (fun h => by cases h)⟩ (by kernel_rfl)
  rotate_left 1
  · rintro l a V x o ho hl hd ⟨v0, v1, v2, v3, v4, v5, v6, v7, v8, v10, rfl, K⟩
    have hi : x < 11 := (Array.getElem?_eq_some_iff.1 ho).1
    rcases (show x = 0 ∨ x = 1 ∨ x = 2 ∨ x = 3 ∨ x = 4 ∨ x = 5 ∨ x = 6 ∨ x = 7 ∨ x = 8 ∨ x = 9 ∨ x = 10 from by omega) with rfl | rfl | rfl | rfl | rfl | rfl | rfl | rfl | rfl | rfl | rfl
    · as_aux_lemma =>
      simp at ho
      subst ho
      have HKB := hide ((unhide KF).below K.bel)
      have HK : Hid (DvC wk f' B A D nh nc nd l1 l2 l3 ts cs ds true (l 1) (l 2) (l 3) (l 4) (l 5) (l 6) (l 7) (l 8) (l 9) (l 10) A v1 v2 v3 v4 v5 v6 v7 v8 v10 V) := hide ⟨(K.bel), (fun _ => rfl), (K.eto), (K.eld), (K.etd), (K.edw), (K.emv), (K.ex0), (K.ex1), (K.eal), (K.eap), (K.eas), (K.cdw), (K.cmv), (K.cx0), (K.cst)⟩
      clear K hd hl
      refine at_loadV (vs := [.slice a1 l1 c1, .slice a2 l2 c2, .slice a3 l3 c3, .int .i64 nh, .int .i64 nc, .int .i64 nd]) (V := A) (unhide HA) Tryz.isAgg28 Tryz.sizeOf28 (by kernel_rfl) (unhide HKB) ?_
      refine wpList_nil ⟨rfl, DvCJ.mk (unhide HK) (by kernel_rfl)⟩
    · as_aux_lemma =>
      simp at ho
      subst ho
      have d_la : l 0 = true := hd ⟨0, .data⟩ (by simp) rfl
      have x0 := (K.ela d_la).symm
      subst x0
      have n_dw : l 4 = false := by cases c : l 4; rfl; have z := (K.cdw c).1; rw [hl] at z; cases z
      have HK0 := hide K
      clear K hd
      refine at_callO rfl (some 86) rfl 8 #[A] (by kernel_rfl) ?_
      refine ((unhide CT) V (unhide HK0).bel).mono ?_
      rintro e V2 ⟨⟨e1, e2, e3, rfl, hp⟩, b2⟩
      refine ⟨_, rfl, ?_⟩
      have K := (unhide HK0).below b2
      have HK : Hid (DvC wk f' B A D nh nc nd l1 l2 l3 ts cs ds (l 0) true (l 2) (l 3) (l 4) (l 5) (l 6) (l 7) (l 8) (l 9) (l 10) A (.agg #[.slice (some ⟨e1, 0, none⟩) l1 l1, .slice (some ⟨e2, 0, none⟩) l2 l2, .slice (some ⟨e3, 0, none⟩) l3 l3, .int .i64 nh, .int .i64 nc, .int .i64 nd]) v2 v3 v4 v5 v6 v7 v8 v10 V2) := hide ⟨(K.bel), (K.ela), (fun _ _ => ⟨e1, e2, e3, rfl, hp⟩), (K.eld), (K.etd), (K.edw), (K.emv), (K.ex0), (K.ex1), (K.eal), (K.eap), (K.eas), (fun h => by rw [n_dw] at h; cases h), (K.cmv), (K.cx0), (K.cst)⟩
      clear K b2 hp
      refine wpList_nil ⟨rfl, DvCJ.mk (unhide HK) (by kernel_rfl)⟩
    · as_aux_lemma =>
      simp at ho
      subst ho
      have HKB := hide ((unhide KD).below K.bel)
      have HK : Hid (DvC wk f' B A D nh nc nd l1 l2 l3 ts cs ds (l 0) (l 1) true (l 3) (l 4) (l 5) (l 6) (l 7) (l 8) (l 9) (l 10) v0 v1 D v3 v4 v5 v6 v7 v8 v10 V) := hide ⟨(K.bel), (K.ela), (K.eto), (fun _ => rfl), (K.etd), (K.edw), (K.emv), (K.ex0), (K.ex1), (K.eal), (K.eap), (K.eas), (K.cdw), (K.cmv), (K.cx0), (K.cst)⟩
      clear K hd hl
      refine at_loadV (vs := [.int .i64 kd, .string n, .int .i64 i, .int .i64 m]) (V := D) (unhide HD) Tryz.isAgg30 Tryz.sizeOf30 (by kernel_rfl) (unhide HKB) ?_
      refine wpList_nil ⟨rfl, DvCJ.mk (unhide HK) (by kernel_rfl)⟩
    · as_aux_lemma =>
      simp at ho
      subst ho
      have d_ld : l 2 = true := hd ⟨2, .data⟩ (by simp) rfl
      have x0 := (K.eld d_ld).symm
      subst x0
      have n_dw : l 4 = false := by cases c : l 4; rfl; have z := (K.cdw c).2; rw [hl] at z; cases z
      have HK0 := hide K
      clear K hd
      refine at_callO rfl (some 88) rfl 9 #[D] (by kernel_rfl) ?_
      refine ((unhide CDD) V).mono ?_
      rintro e V2 ⟨rfl, b2⟩
      refine ⟨_, rfl, ?_⟩
      have K := (unhide HK0).below b2
      have HK : Hid (DvC wk f' B A D nh nc nd l1 l2 l3 ts cs ds (l 0) (l 1) (l 2) true (l 4) (l 5) (l 6) (l 7) (l 8) (l 9) (l 10) v0 v1 D D v4 v5 v6 v7 v8 v10 V2) := hide ⟨(K.bel), (K.ela), (K.eto), (K.eld), (fun _ => rfl), (K.edw), (K.emv), (K.ex0), (K.ex1), (K.eal), (K.eap), (K.eas), (fun h => by rw [n_dw] at h; cases h), (K.cmv), (K.cx0), (K.cst)⟩
      clear K b2
      refine wpList_nil ⟨rfl, DvCJ.mk (unhide HK) (by kernel_rfl)⟩
    · as_aux_lemma =>
      simp at ho
      subst ho
      have d_td : l 3 = true := hd ⟨3, .data⟩ (by simp) rfl
      have d_to : l 1 = true := hd ⟨1, .data⟩ (by simp) rfl
      obtain ⟨e1, e2, e3, x1, y1⟩ := K.eto d_to hl
      subst x1
      have x3 := (K.etd d_td).symm
      subst x3
      have n_mv : l 5 = false := by cases c : l 5; rfl; have z := K.cmv c; rw [hl] at z; cases z
      have n_x0 : l 6 = false := by cases c : l 6; rfl; have z := K.cx0 c; rw [n_mv] at z; cases z
      have HK0 := hide K
      clear K hd
      refine at_callO rfl (some 89) rfl 10 #[.agg #[.slice (some ⟨e1, 0, none⟩) l1 l1, .slice (some ⟨e2, 0, none⟩) l2 l2, .slice (some ⟨e3, 0, none⟩) l3 l3, .int .i64 nh, .int .i64 nc, .int .i64 nd], D] (by kernel_rfl) ?_
      refine ((unhide CW) V e1 e2 e3 (unhide HK0).bel y1).mono ?_
      rintro e V2 ⟨F, rfl, hF, b2⟩
      refine ⟨_, rfl, ?_⟩
      have K := (unhide HK0).below b2
      have HK : Hid (DvC wk f' B A D nh nc nd l1 l2 l3 ts cs ds (l 0) (l 1) (l 2) (l 3) true (l 5) (l 6) (l 7) (l 8) (l 9) (l 10) v0 (.agg #[.slice (some ⟨e1, 0, none⟩) l1 l1, .slice (some ⟨e2, 0, none⟩) l2 l2, .slice (some ⟨e3, 0, none⟩) l3 l3, .int .i64 nh, .int .i64 nc, .int .i64 nd]) v2 D (.tuple #[F, .bool B]) v5 v6 v7 v8 v10 V2) := hide ⟨(K.bel), (K.ela), (fun _ h => by cases h), (K.eld), (K.etd), (fun _ => ⟨F, rfl, hF.mono (unhide HK0).bel.size⟩), (fun h => by rw [n_mv] at h; cases h), (fun h => by rw [n_x0] at h; cases h), (K.ex1), (K.eal), (K.eap), (K.eas), (fun _ => ⟨d_to, d_td⟩), (fun _ => rfl), (K.cx0), (K.cst)⟩
      clear K b2 hF
      refine wpList_nil ⟨rfl, DvCJ.mk (unhide HK) (by kernel_rfl)⟩
    · as_aux_lemma =>
      simp at ho
      subst ho
      have d_dw : l 4 = true := hd ⟨4, .data⟩ (by simp) rfl
      have n_x0 : l 6 = false := by cases c : l 6; rfl; have z := K.cx0 c; rw [hl] at z; cases z
      have HK : Hid (DvC wk f' B A D nh nc nd l1 l2 l3 ts cs ds (l 0) (l 1) (l 2) (l 3) (l 4) true (l 6) (l 7) (l 8) (l 9) (l 10) v0 v1 v2 v3 v4 v4 v6 v7 v8 v10 V) := hide ⟨(K.bel), (K.ela), (K.eto), (K.eld), (K.etd), (K.edw), (fun _ => rfl), (K.ex0), (K.ex1), (K.eal), (K.eap), (K.eas), (K.cdw), (fun _ => d_dw), (fun _ => rfl), (K.cst)⟩
      clear K hd hl
      refine at_moveO v4 (by kernel_rfl) ?_
      refine wpList_nil ⟨rfl, DvCJ.mk (unhide HK) (by kernel_rfl)⟩
    · as_aux_lemma =>
      simp at ho
      subst ho
      have d_mv : l 5 = true := hd ⟨5, .data⟩ (by simp) rfl
      have d_dw := K.cmv d_mv
      obtain ⟨F, xF, hF⟩ := K.edw d_dw
      have xm := (K.emv d_mv).trans xF
      subst xF
      subst xm
      have n_st : l 9 = false := by cases c : l 9; rfl; have z := (K.cst c).2; rw [hl] at z; cases z
      have HK : Hid (DvC wk f' B A D nh nc nd l1 l2 l3 ts cs ds (l 0) (l 1) (l 2) (l 3) (l 4) (l 5) true (l 7) (l 8) (l 9) (l 10) v0 v1 v2 v3 (.tuple #[F, .bool B]) (.tuple #[F, .bool B]) F v7 v8 v10 V) := hide ⟨(K.bel), (K.ela), (K.eto), (K.eld), (K.etd), (fun _ => ⟨F, rfl, hF⟩), (fun _ => rfl), (fun _ => rfl), (K.ex1), (fun h => by have z := K.eal h; rw [n_st] at z ⊢; exact z), (fun h => by rw [n_st] at h; cases h), (K.eas), (K.cdw), (K.cmv), (fun _ => d_mv), (fun h => by rw [n_st] at h; cases h)⟩
      clear K hd hl
      refine at_extractO #[F, .bool B] F (by kernel_rfl) rfl ?_
      refine wpList_nil ⟨rfl, DvCJ.mk (unhide HK) (by kernel_rfl)⟩
    · as_aux_lemma =>
      simp at ho
      subst ho
      have d_mv : l 5 = true := hd ⟨5, .data⟩ (by simp) rfl
      have d_dw := K.cmv d_mv
      obtain ⟨F, xF, hF⟩ := K.edw d_dw
      have xm := (K.emv d_mv).trans xF
      subst xF
      subst xm
      have HK : Hid (DvC wk f' B A D nh nc nd l1 l2 l3 ts cs ds (l 0) (l 1) (l 2) (l 3) (l 4) (l 5) (l 6) true (l 8) (l 9) (l 10) v0 v1 v2 v3 (.tuple #[F, .bool B]) (.tuple #[F, .bool B]) v6 (.bool B) v8 v10 V) := hide ⟨(K.bel), (K.ela), (K.eto), (K.eld), (K.etd), (fun _ => ⟨F, rfl, hF⟩), (fun _ => rfl), (K.ex0), (fun _ => rfl), (K.eal), (K.eap), (K.eas), (K.cdw), (K.cmv), (K.cx0), (K.cst)⟩
      clear K hd hl
      refine at_extractO #[F, .bool B] (.bool B) (by kernel_rfl) rfl ?_
      refine wpList_nil ⟨rfl, DvCJ.mk (unhide HK) (by kernel_rfl)⟩
    · as_aux_lemma =>
      simp at ho
      subst ho
      have n_st : l 9 = false := by cases c : l 9; rfl; have z := (K.cst c).1; rw [hl] at z; cases z
      have K2 := K.below (bel1 (Obj.cells #[.slice none 0 0, .slice none 0 0, .slice none 0 0, .int .i64 0, .int .i64 0, .int .i64 0] 38))
      have HK : Hid (DvC wk f' B A D nh nc nd l1 l2 l3 ts cs ds (l 0) (l 1) (l 2) (l 3) (l 4) (l 5) (l 6) (l 7) true (l 9) (l 10) v0 v1 v2 v3 v4 v5 v6 v7 (.pointer (some ⟨V.heap.size, 0, none⟩)) v10 (V.alloc (Obj.cells #[.slice none 0 0, .slice none 0 0, .slice none 0 0, .int .i64 0, .int .i64 0, .int .i64 0] 38))) := hide ⟨(K2.bel), (K2.ela), (K2.eto), (K2.eld), (K2.etd), (K2.edw), (K2.emv), (K2.ex0), (K2.ex1), (fun _ => ⟨_, rfl, K.bel.size, fun _ => ⟨_, _, heap_alloc_new V _⟩, by rw [n_st]; exact Blk.new _ _⟩), (fun h => by rw [n_st] at h; cases h), (K2.eas), (K2.cdw), (K2.cmv), (K2.cx0), (fun h => by rw [n_st] at h; cases h)⟩
      clear K K2 hd hl
      refine at_allocFO ?_
      refine wpList_nil ⟨rfl, DvCJ.mk (unhide HK) (by kernel_rfl)⟩
    · as_aux_lemma =>
      simp at ho
      subst ho
      have d_al : l 8 = true := hd ⟨8, .data⟩ (by simp) rfl
      have d_x0 : l 6 = true := hd ⟨6, .data⟩ (by simp) rfl
      obtain ⟨S, xs, hS, ty, bs⟩ := K.eal d_al
      rw [hl] at bs
      have ty := ty hl
      have bs : Blk V S [.slice none 0 0, .slice none 0 0, .slice none 0 0, .int .i64 0, .int .i64 0, .int .i64 0] := bs
      have d_mv := K.cx0 d_x0
      have d_dw := K.cmv d_mv
      have xx := K.ex0 d_x0
      obtain ⟨F, xF, hF⟩ := K.edw d_dw
      have eF : F = v6 := by have e := xF.symm.trans xx; simp only [Value.tuple.injEq, Array.mk.injEq, List.cons.injEq, and_true] at e; exact e
      subst eF
      obtain ⟨g1, p1, g2, p2, g3, p3, eF, ow⟩ := hF
      have t1 := own_neT ow.o1 ty (by decide)
      have t2 := own_neT ow.o2 ty (by decide)
      have t3 := own_neT ow.o3 ty (by decide)
      subst xs
      subst eF
      have HK0 := hide K
      have OW := hide ow
      have BS := hide bs
      clear K bs ow ty
      refine at_storeAgg (us := [.slice none 0 0, .slice none 0 0, .slice none 0 0, .int .i64 0, .int .i64 0, .int .i64 0]) (vs := [.slice (some ⟨g1, 0, none⟩) f'.ts.length p1, .slice (some ⟨g2, 0, none⟩) f'.cs.length p2, .slice (some ⟨g3, 0, none⟩) f'.ds.length p3, .int .i64 f'.nh, .int .i64 f'.nc, .int .i64 f'.nd]) Tryz.sizeOf38 (by kernel_rfl) (by kernel_rfl) (unhide BS) rfl (by intro v hv; simp only [List.mem_cons, List.not_mem_nil, or_false] at hv; rcases hv with rfl | rfl | rfl | rfl | rfl | rfl <;> rfl) ?_
      intro V2 kb gr
      have HK : Hid (DvC wk f' B A D nh nc nd l1 l2 l3 ts cs ds (l 0) (l 1) (l 2) (l 3) (l 4) (l 5) (l 6) (l 7) (l 8) true (l 10) v0 v1 v2 v3 v4 v5 (.agg #[.slice (some ⟨g1, 0, none⟩) f'.ts.length p1, .slice (some ⟨g2, 0, none⟩) f'.cs.length p2, .slice (some ⟨g3, 0, none⟩) f'.ds.length p3, .int .i64 f'.nh, .int .i64 f'.nc, .int .i64 f'.nd]) v7 (.pointer (some ⟨S, 0, none⟩)) v10 V2) := hide ⟨((unhide HK0).bel.grown gr (unhide HK0).bel.size (fun k hk => by cases hk; exact hS)), ((unhide HK0).ela), (fun _ h => by rw [d_dw] at h; cases h), ((unhide HK0).eld), ((unhide HK0).etd), (fun _ => ⟨_, xF, ⟨g1, p1, g2, p2, g3, p3, rfl, ⟨(unhide OW).o1.far gr (fun g hg e => t1 (hg.trans e)), (unhide OW).o2.far gr (fun g hg e => t2 (hg.trans e)), (unhide OW).o3.far gr (fun g hg e => t3 (hg.trans e)), (unhide OW).p12, (unhide OW).p13, (unhide OW).p23⟩⟩⟩), ((unhide HK0).emv), ((unhide HK0).ex0), ((unhide HK0).ex1), (fun _ => ⟨S, rfl, hS, (fun h => by cases h), kb⟩), (fun _ S' e => by cases e; intro v hv; have hv : v ∈ [.slice (some ⟨g1, 0, none⟩) f'.ts.length p1, .slice (some ⟨g2, 0, none⟩) f'.cs.length p2, .slice (some ⟨g3, 0, none⟩) f'.ds.length p3, .int .i64 f'.nh, .int .i64 f'.nc, .int .i64 f'.nd] := hv; simp only [List.mem_cons, List.not_mem_nil, or_false] at hv; rcases hv with rfl | rfl | rfl | rfl | rfl | rfl; exact t1; exact t2; exact t3; all_goals exact fun h => by cases h), ((unhide HK0).eas), ((unhide HK0).cdw), ((unhide HK0).cmv), ((unhide HK0).cx0), (fun _ => ⟨d_al, d_x0⟩)⟩
      clear kb gr hd hl xF xx
      refine wpList_nil ⟨rfl, DvCJ.mk (unhide HK) (by kernel_rfl)⟩
    · as_aux_lemma =>
      simp at ho
      subst ho
      have d_x1 : l 7 = true := hd ⟨7, .data⟩ (by simp) rfl
      have x7 := K.ex1 d_x1
      subst x7
      have HK : Hid (DvC wk f' B A D nh nc nd l1 l2 l3 ts cs ds (l 0) (l 1) (l 2) (l 3) (l 4) (l 5) (l 6) (l 7) (l 8) (l 9) true v0 v1 v2 v3 v4 v5 v6 (.bool B) v8 (.bool B) V) := hide ⟨(K.bel), (K.ela), (K.eto), (K.eld), (K.etd), (K.edw), (K.emv), (K.ex0), (K.ex1), (K.eal), (K.eap), (fun _ => rfl), (K.cdw), (K.cmv), (K.cx0), (K.cst)⟩
      clear K hd hl
      refine at_assignO (.bool B) (by kernel_rfl) ?_
      refine wpList_nil ⟨rfl, DvCJ.mk (unhide HK) (by kernel_rfl)⟩
  rintro l a V27 hall ⟨r2v0, r2v1, r2v2, r2v3, r2v4, r2v5, F2, r2v7, r2v8, r2v10, rfl, K⟩
  obtain ⟨S2, xs, hS2, _, bs⟩ := K.eal (hall 8 (by decide))
  rw [hall 9 (by decide)] at bs
  have xx := K.ex0 (hall 6 (by decide))
  obtain ⟨F, xF, hF⟩ := K.edw (hall 4 (by decide))
  have eF : F2 = F := by have e := xF.symm.trans xx; simp only [Value.tuple.injEq, Array.mk.injEq, List.cons.injEq, and_true] at e; exact e.symm
  subst eF
  obtain ⟨g21, p21, g22, p22, g23, p23, eF, ow⟩ := hF
  have ap := K.eap (hall 9 (by decide)) S2 xs
  have xa := K.eas (hall 10 (by decide))
  have bw := K.bel
  subst xs
  subst xa
  skip
  have kb : Blk V27 S2 [.slice (some ⟨g21, 0, none⟩) f'.ts.length p21, .slice (some ⟨g22, 0, none⟩) f'.cs.length p22, .slice (some ⟨g23, 0, none⟩) f'.ds.length p23, .int .i64 f'.nh, .int .i64 f'.nc, .int .i64 f'.nd] := by rw [eF] at bs; exact bs
  have AP2 : Hid (apF F2 S2) := hide ap
  clear ap
  have HF2 := hide eF
  have O2 := hide ow
  have KS2 := hide kb
  clear K hall bs xx xF eF ow kb
  clear CT CW
  have HB := hide ((unhide HB).trans (bw.mono (unhide HB).size))
  have KF := hide ((unhide KF).below bw)
  have KD := hide ((unhide KD).below bw)
  have KS0 := hide ((unhide KS0).below bw)
  have O0 := hide ((unhide O0).below bw)
  have KS1 := hide ((unhide KS1).below bw)
  have O1 := hide ((unhide O1).below bw)
  clear bw
  go_wp2_with (first
    | ((with_reducible show wpList _ _ _ (⟨_, .load 38 (.tmp 14), _, _, _, none⟩ :: _) _ _); refine at_loadV (vs := [.slice (some ⟨g21, 0, none⟩) f'.ts.length p21, .slice (some ⟨g22, 0, none⟩) f'.cs.length p22, .slice (some ⟨g23, 0, none⟩) f'.ds.length p23, .int .i64 f'.nh, .int .i64 f'.nc, .int .i64 f'.nd]) (V := F2) (unhide HF2) Tryz.isAgg38 Tryz.sizeOf38 rfl (unhide KS2) ?_)
    | ((with_reducible show wpList _ _ _ (⟨_, .load 38 (.tmp 6), _, _, _, none⟩ :: _) _ _); refine at_loadV (vs := [.slice (some ⟨g01, 0, none⟩) f'.ts.length p01, .slice (some ⟨g02, 0, none⟩) f'.cs.length p02, .slice (some ⟨g03, 0, none⟩) f'.ds.length p03, .int .i64 f'.nh, .int .i64 f'.nc, .int .i64 f'.nd]) (V := F0) (unhide HF0) Tryz.isAgg38 Tryz.sizeOf38 rfl (unhide KS0) ?_))
  rw [unhide HF2, unhide HF0]
  refine (eqFleet_same f'.nh f'.nc f'.nd _ _ _ _ _ _ _ _ _ _ _ _ _ _ _ f'.ts f'.cs f'.ds _ (unhide O2).read (unhide O0).read).mono ?_
  rw [← unhide HF2, ← unhide HF0]
  rintro x w28 ⟨rfl, bw⟩
  have sw28 := bw.size
  have HB := hide ((unhide HB).trans (bw.mono (unhide HB).size))
  have KF := hide ((unhide KF).below bw)
  have KD := hide ((unhide KD).below bw)
  have KS0 := hide ((unhide KS0).below bw)
  have O0 := hide ((unhide O0).below bw)
  have KS1 := hide ((unhide KS1).below bw)
  have O1 := hide ((unhide O1).below bw)
  have KS2 := hide ((unhide KS2).below bw)
  have O2 := hide ((unhide O2).below bw)
  clear bw
  go_wp2_with ((with_reducible show wpList _ _ _ (⟨_, .load 38 (.tmp 9), _, _, _, none⟩ :: _) _ _); refine at_loadV (vs := [.slice (some ⟨g11, 0, none⟩) f'.ts.length p11, .slice (some ⟨g12, 0, none⟩) f'.cs.length p12, .slice (some ⟨g13, 0, none⟩) f'.ds.length p13, .int .i64 f'.nh, .int .i64 f'.nc, .int .i64 f'.nd]) (V := F1) (unhide HF1) Tryz.isAgg38 Tryz.sizeOf38 rfl (unhide KS1) ?_)
  rw [unhide HF1]
  refine (heldFleet_any f'.nh f'.nc f'.nd _ _ _ _ _ _ _ _ _ _ f'.ts f'.cs f'.ds 1 _ (unhide O1) rfl (unhide LEN).1 rfl (unhide LEN).2.1 rfl (unhide LEN).2.2 (by omega) (by omega)).mono ?_
  rw [← unhide HF1]
  rintro x w31 ⟨rfl, bw⟩
  rw [unhide HM1]
  have sw31 := bw.size
  have HB := hide ((unhide HB).trans (bw.mono (unhide HB).size))
  have KF := hide ((unhide KF).below bw)
  have KD := hide ((unhide KD).below bw)
  have KS0 := hide ((unhide KS0).below bw)
  have O0 := hide ((unhide O0).below bw)
  have KS1 := hide ((unhide KS1).below bw)
  have O1 := hide ((unhide O1).below bw)
  have KS2 := hide ((unhide KS2).below bw)
  have O2 := hide ((unhide O2).below bw)
  clear bw
  go_wp2_with fail
  go_ret
  exact ⟨rfl, unhide HB⟩

end Go.Proofs.YtglefolkecimabcGreat
